/- The copies that a law makes of its arguments: toFieldS, toType, toTypeS, toTypeSS: each lays in new memory what it was given. -/
import Derived.Test.YtpkfihliconenaaDoorMem
import Derived.Test.YtpkfihliconenaaDoorFieldOk
namespace Go.Proofs.YtpkfihliconenaaDoor
open Go.ChangeShapes Go.WideShapes Go.ChangeAt Go.RowKit
set_option linter.unusedVariables false

theorem Tryd.infoField : (Tryd.prog.info? 40).map (fun i => (i.zero, i.size, i.bytes)) = some (some (.agg #[.int .i64 0, .int .i64 0, .bool false]), 3, 24) := by kernel_rfl
theorem Tryd.infoType : (Tryd.prog.info? 49).map (fun i => (i.zero, i.size, i.bytes)) = some (some (.agg #[.int .i64 0, .int .i64 0, .bool false, .slice none 0 0]), 4, 48) := by kernel_rfl
theorem Tryd.infoTypeS : (Tryd.prog.info? 45).map (fun i => (i.zero, i.size, i.bytes)) = some (some (.slice none 0 0), 1, 24) := by kernel_rfl

/-- So many fields lie at a, in a block of their own. -/
def FSh (w : World) (lo hi : Nat) (a : Option Addr) (n : Nat) : Prop := n = 0 ∨ ∃ b m, a = some ⟨b, 0, none⟩ ∧ lo ≤ b ∧ b < hi ∧ Own w b m 40 ∧ n * 3 ≤ m
/-- Fields that lie in a block of their own. -/
def FieldsNew (w : World) (lo hi : Nat) (a : Option Addr) (fs : List Fd) : Prop := FieldsIn w lo hi a fs ∧ FSh w lo hi a fs.length
def TypeNew (w : World) (lo hi : Nat) (b o : Nat) (t : Ty) : Prop :=
  w.cell? ⟨b, o, none⟩ = some (.int .i64 t.kind) ∧ w.cell? ⟨b, o + 1, none⟩ = some (.int .i64 t.up) ∧ w.cell? ⟨b, o + 2, none⟩ = some (.bool t.last) ∧
  ∃ fa fc, w.cell? ⟨b, o + 3, none⟩ = some (.slice fa t.fields.length fc) ∧ FieldsNew w lo hi fa t.fields
def TypesNew (w : World) (lo hi : Nat) (a : Option Addr) (ts : List Ty) : Prop :=
  ts = [] ∨ ∃ b, a = some ⟨b, 0, none⟩ ∧ lo ≤ b ∧ b < hi ∧ Own w b (ts.length * 4) 49 ∧ ∀ i, i < ts.length → TypeNew w lo hi b (i * 4) (tyAt ts i)
def GroupNew (w : World) (lo hi : Nat) (b o : Nat) (g : List Ty) : Prop := ∃ ta tc, w.cell? ⟨b, o, none⟩ = some (.slice ta g.length tc) ∧ TypesNew w lo hi ta g
def GroupsNew (w : World) (lo hi : Nat) (a : Option Addr) (gs : List (List Ty)) : Prop :=
  gs = [] ∨ ∃ b, a = some ⟨b, 0, none⟩ ∧ lo ≤ b ∧ b < hi ∧ Own w b gs.length 45 ∧ ∀ i, i < gs.length → GroupNew w lo hi b i (grAt gs i)

theorem FSh.same {lo hi lo' hi' n : Nat} {w w' : World} {a : Option Addr} (h : FSh w lo hi a n) (hs : Same lo hi w w') (h1 : lo' ≤ lo) (h2 : hi ≤ hi') : FSh w' lo' hi' a n := by
  rcases h with h | ⟨b, m, rfl, h3, h4, h5, h6⟩
  · exact .inl h
  · exact .inr ⟨b, m, rfl, by omega, by omega, h5.of_block (hs b h3 h4), h6⟩
theorem FieldsNew.same {lo hi lo' hi' : Nat} {w w' : World} {a : Option Addr} {fs : List Fd} (h : FieldsNew w lo hi a fs) (hs : Same lo hi w w') (h1 : lo' ≤ lo) (h2 : hi ≤ hi') : FieldsNew w' lo' hi' a fs :=
  ⟨h.1.same hs h1 h2, h.2.same hs h1 h2⟩
theorem FieldsNew.wide {lo hi lo' hi' : Nat} {w : World} {a : Option Addr} {fs : List Fd} (h : FieldsNew w lo hi a fs) (h1 : lo' ≤ lo) (h2 : hi ≤ hi') : FieldsNew w lo' hi' a fs := h.same (Same.refl _ _ _) h1 h2
theorem TypeNew.same {lo hi lo' hi' : Nat} {w w' : World} {b o : Nat} {t : Ty} (h : TypeNew w lo hi b o t) (hs : Same lo hi w w') (h1 : lo' ≤ lo) (h2 : hi ≤ hi') (h3 : lo ≤ b) (h4 : b < hi) : TypeNew w' lo' hi' b o t := by
  obtain ⟨c0, c1, c2, fa, fc, c3, hf⟩ := h
  refine ⟨?_, ?_, ?_, fa, fc, ?_, hf.same hs h1 h2⟩ <;> rw [hs.cell h3 h4] <;> assumption
theorem TypesNew.same {lo hi lo' hi' : Nat} {w w' : World} {a : Option Addr} {ts : List Ty} (h : TypesNew w lo hi a ts) (hs : Same lo hi w w') (h1 : lo' ≤ lo) (h2 : hi ≤ hi') : TypesNew w' lo' hi' a ts := by
  rcases h with rfl | ⟨b, rfl, h3, h4, h5, h6⟩
  · exact .inl rfl
  · exact .inr ⟨b, rfl, by omega, by omega, h5.of_block (hs b h3 h4), fun i hi => (h6 i hi).same hs h1 h2 h3 h4⟩
theorem TypesNew.wide {lo hi lo' hi' : Nat} {w : World} {a : Option Addr} {ts : List Ty} (h : TypesNew w lo hi a ts) (h1 : lo' ≤ lo) (h2 : hi ≤ hi') : TypesNew w lo' hi' a ts := h.same (Same.refl _ _ _) h1 h2
theorem GroupsNew.same {lo hi lo' hi' : Nat} {w w' : World} {a : Option Addr} {gs : List (List Ty)} (h : GroupsNew w lo hi a gs) (hs : Same lo hi w w') (h1 : lo' ≤ lo) (h2 : hi ≤ hi') : GroupsNew w' lo' hi' a gs := by
  rcases h with rfl | ⟨b, rfl, h3, h4, h5, h6⟩
  · exact .inl rfl
  · refine .inr ⟨b, rfl, by omega, by omega, h5.of_block (hs b h3 h4), fun i hi => ?_⟩
    obtain ⟨ta, tc, hc, ht⟩ := h6 i hi
    exact ⟨ta, tc, by rw [hs.cell h3 h4]; exact hc, ht.same hs h1 h2⟩
theorem GroupsNew.keep {lo hi : Nat} {w w' : World} {a : Option Addr} {gs : List (List Ty)} (h : GroupsNew w lo hi a gs) (hb : Below hi w w') : GroupsNew w' lo hi a gs := h.same (.of_below hb (Nat.le_refl _)) (Nat.le_refl _) (Nat.le_refl _)
theorem TypesNew.plain {lo hi : Nat} {w : World} {a : Option Addr} {ts : List Ty} (h : TypesNew w lo hi a ts) : TypesIn w lo hi a ts := by
  rcases h with rfl | ⟨b, rfl, h3, h4, _, h6⟩
  · exact .inl rfl
  · refine .inr ⟨b, 0, rfl, h3, h4, fun i hi => ?_⟩
    obtain ⟨c0, c1, c2, fa, fc, c3, hf⟩ := h6 i hi
    rw [Nat.zero_add]
    exact ⟨c0, c1, c2, fa, fc, c3, hf.1⟩
theorem GroupsNew.plain {lo hi : Nat} {w : World} {a : Option Addr} {gs : List (List Ty)} (h : GroupsNew w lo hi a gs) : GroupsIn w lo hi a gs := by
  rcases h with rfl | ⟨b, rfl, h3, h4, _, h6⟩
  · exact .inl rfl
  · refine .inr ⟨b, 0, rfl, h3, h4, fun i hi => ?_⟩
    obtain ⟨ta, tc, c3, hf⟩ := h6 i hi
    rw [Nat.zero_add]
    exact ⟨ta, tc, c3, hf.plain⟩

/-- A field laid at its place. -/
theorem field_set {w : World} {b n : Nat} {T' : TypeId} (h : Own w b n T') (F : Nat → Fd) (k : Nat) (hk : k * 3 + 2 < n) (hF : ∀ j, j < k → FieldAt w b (j * 3) (F j)) :
    ∀ j, j < k + 1 → FieldAt (((w.setCell ⟨b, k * 3, none⟩ (.int .i64 (F k).kind)).setCell ⟨b, k * 3 + 1, none⟩ (.int .i64 (F k).of)).setCell ⟨b, k * 3 + 2, none⟩ (.bool (F k).mt)) b (j * 3) (F j) := by
  intro j hj
  have h1 := h.set b (k * 3) (.int .i64 (F k).kind)
  have h2 := h1.set b (k * 3 + 1) (.int .i64 (F k).of)
  unfold FieldAt
  simp only [h2.cell_set (o := k * 3 + 2) hk, h1.cell_set (o := k * 3 + 1) (by omega : k * 3 + 1 < n), h.cell_set (o := k * 3) (by omega : k * 3 < n)]
  by_cases e : j = k
  · subst e
    simp
  · obtain ⟨a1, a2, a3⟩ := hF j (by omega)
    refine ⟨?_, ?_, ?_⟩
    · rw [if_neg (by omega), if_neg (by omega), if_neg (by omega)]; exact a1
    · rw [if_neg (by omega), if_neg (by omega), if_neg (by omega)]; exact a2
    · rw [if_neg (by omega), if_neg (by omega), if_neg (by omega)]; exact a3
/-- A type laid at its place. -/
theorem type_set {w : World} {b n lo hi fc : Nat} {T' : TypeId} {na : Option Addr} (h : Own w b n T') (T : Nat → Ty) (k : Nat) (hk : k * 4 + 3 < n) (hlo : b < lo) (hF : ∀ j, j < k → TypeNew w lo hi b (j * 4) (T j)) (hf : FieldsNew w lo hi na (T k).fields) :
    ∀ j, j < k + 1 → TypeNew ((((w.setCell ⟨b, k * 4, none⟩ (.int .i64 (T k).kind)).setCell ⟨b, k * 4 + 1, none⟩ (.int .i64 (T k).up)).setCell ⟨b, k * 4 + 2, none⟩ (.bool (T k).last)).setCell ⟨b, k * 4 + 3, none⟩ (.slice na (T k).fields.length fc)) lo hi b (j * 4) (T j) := by
  intro j hj
  have h1 := h.set b (k * 4) (.int .i64 (T k).kind)
  have h2 := h1.set b (k * 4 + 1) (.int .i64 (T k).up)
  have h3 := h2.set b (k * 4 + 2) (.bool (T k).last)
  have hs : Same lo hi w ((((w.setCell ⟨b, k * 4, none⟩ (.int .i64 (T k).kind)).setCell ⟨b, k * 4 + 1, none⟩ (.int .i64 (T k).up)).setCell ⟨b, k * 4 + 2, none⟩ (.bool (T k).last)).setCell ⟨b, k * 4 + 3, none⟩ (.slice na (T k).fields.length fc)) :=
    ((((Same.refl _ _ _).set (.inl hlo) _ _).set (.inl hlo) _ _).set (.inl hlo) _ _).set (.inl hlo) _ _
  unfold TypeNew
  simp only [h3.cell_set (o := k * 4 + 3) hk, h2.cell_set (o := k * 4 + 2) (by omega : k * 4 + 2 < n), h1.cell_set (o := k * 4 + 1) (by omega : k * 4 + 1 < n), h.cell_set (o := k * 4) (by omega : k * 4 < n)]
  by_cases e : j = k
  · subst e
    exact ⟨by simp, by simp, by simp, na, fc, by simp, hf.same hs (Nat.le_refl _) (Nat.le_refl _)⟩
  · obtain ⟨a1, a2, a3, fa, fc', a4, a5⟩ := hF j (by omega)
    refine ⟨?_, ?_, ?_, fa, fc', ?_, a5.same hs (Nat.le_refl _) (Nat.le_refl _)⟩
    all_goals rw [if_neg (by omega), if_neg (by omega), if_neg (by omega), if_neg (by omega)]; assumption

set_option maxHeartbeats 400000 in
theorem toFieldS_core (a : Option Addr) (cap n : Nat) (F : Nat → Fd) (w : World) (hn : n ≤ 1048576)
    (hx : n ≤ 0 ∨ ∃ b off, a = some ⟨b, off, none⟩ ∧ b < w.heap.size ∧ ∀ i, i < n → FieldAt w b (off + i * 3) (F i)) :
    Calls Tryd.prog 68 #[.slice a n cap] w fun e w' => e = .returned (.slice (some ⟨w.heap.size, 0, none⟩) n n) ∧ Own w' w.heap.size (n * 3) 40 ∧ (∀ i, i < n → FieldAt w' w.heap.size (i * 3) (F i)) ∧ Below w.heap.size w w' := by
  have hmk := run_make_any (P := Tryd.prog) 47 40 _ 3 24 Tryd.underlying47 Tryd.infoField n (by omega) (by omega)
  rcases hx with h0 | ⟨b, off, rfl, h2, h3⟩
  all_goals
    go_enter Tryd.func68, Tryd.ntmps68
    go_wp2_with fail
    go_loopw [4] (fun i wr => ∃ k : Nat, k ≤ n ∧ i = .int .i64 k ∧ Own wr w.heap.size (n * 3) 40 ∧ (∀ j, j < k → FieldAt wr w.heap.size (j * 3) (F j)) ∧ Below w.heap.size w wr) (fun i wr => n - (intOf i).toNat)
    case atStart => exact ⟨0, Nat.zero_le _, rfl, Own.made _ _ _ _, fun j hj => absurd hj (Nat.not_lt_zero _), (Below.refl _ _).alloc (Nat.le_refl _) _⟩
    case round =>
      obtain ⟨k, hk, rfl, ho, hF, hb⟩ := hrel
      by_cases hlt : k < n
      · first
        | (exfalso; omega)
        | (obtain ⟨c0, c1, c2⟩ := h3 k hlt
           rw [← hb.cell (p := ⟨b, off + k * 3, none⟩) h2] at c0
           rw [← hb.cell (p := ⟨b, off + k * 3 + 1, none⟩) h2] at c1
           rw [← hb.cell (p := ⟨b, off + k * 3 + 2, none⟩) h2] at c2
           have HF := hide hF
           have HO := hide ho
           clear h3 hF ho
           go_wp2_with fail
           refine (toField_any _ _ _ _).mono ?_
           rintro e w1 ⟨rfl, hb1⟩
           have HO1 := hide (HO.out.below hb1 HO.out.lt)
           have f0 := HO1.out.frozen (k * 3)
           have f1 := HO1.out.frozen (k * 3 + 1)
           have f2 := HO1.out.frozen (k * 3 + 2)
           obtain ⟨v0, d0⟩ := HO1.out.cell (o := k * 3) (by omega)
           obtain ⟨v1, d1⟩ := HO1.out.cell (o := k * 3 + 1) (by omega)
           obtain ⟨v2, d2⟩ := HO1.out.cell (o := k * 3 + 2) (by omega)
           go_wp2_with fail
           have hs1 := Own.lt HO.out
           have hF1 : ∀ j, j < k → FieldAt w1 w.heap.size (j * 3) (F j) := fun j hj => (HF.out j hj).same (lo := 0) (hi := wr.heap.size) (.of_below hb1 (Nat.le_refl _)) (Nat.zero_le _) hs1
           exact ⟨⟨k + 1, by omega, by go_num, ((HO1.out.set _ _ _).set _ _ _).set _ _ _, field_set HO1.out F k (by omega) hF1, (((hb.trans (hb1.mono hb.size)).setCell (Nat.le_refl _) _).setCell (Nat.le_refl _) _).setCell (Nat.le_refl _) _⟩, by simp [intOf]; omega⟩)
      · have hkn : Hid (k = n) := Nat.le_antisymm hk (Nat.le_of_not_lt hlt)
        have HF := hide hF
        clear hF
        go_wp2_with fail
        go_ret
        exact ⟨rfl, ho, hkn.out ▸ HF.out, hb⟩

theorem toFieldS_any (a : Option Addr) (cap lo hi : Nat) (fs : List Fd) (w : World) (hn : fs.length ≤ 1048576) (hx : FieldsIn w lo hi a fs) (hh : hi ≤ w.heap.size) :
    Calls Tryd.prog 68 #[.slice a fs.length cap] w fun e w' => ∃ na, e = .returned (.slice na fs.length fs.length) ∧ FieldsNew w' w.heap.size w'.heap.size na fs ∧ Below w.heap.size w w' := by
  refine (toFieldS_core a cap fs.length (fdAt fs) w hn ?_).mono ?_
  · rcases hx with rfl | ⟨b, off, rfl, h1, h2, h3⟩
    · exact .inl (Nat.le_refl _)
    · exact .inr ⟨b, off, rfl, by omega, h3⟩
  · rintro e w' ⟨rfl, ho, hF, hb⟩
    exact ⟨_, rfl, ⟨.inr ⟨_, _, rfl, Nat.le_refl _, ho.lt, fun i hi => by simpa using hF i hi⟩, .inr ⟨_, _, rfl, Nat.le_refl _, ho.lt, ho, Nat.le_refl _⟩⟩, hb⟩

set_option maxHeartbeats 400000 in
theorem toType_any (fa : Option Addr) (fc lo hi : Nat) (t : Ty) (w : World) (hn : t.fields.length ≤ 1048576) (hx : FieldsIn w lo hi fa t.fields) (hh : hi ≤ w.heap.size) :
    Calls Tryd.prog 55 #[.agg #[.int .i64 t.kind, .int .i64 t.up, .bool t.last, .slice fa t.fields.length fc]] w fun e w' => ∃ na, e = .returned (.agg #[.int .i64 t.kind, .int .i64 t.up, .bool t.last,   .slice na t.fields.length t.fields.length]) ∧ FieldsNew w' w.heap.size w'.heap.size na t.fields ∧ Below w.heap.size w w' := by
  go_enter Tryd.func55, Tryd.ntmps55
  go_wp2_with fail
  have b0 : Below w.heap.size w (((w.alloc (.cells #[.int .i64 t.kind, .int .i64 t.up, .bool t.last, .slice fa t.fields.length fc] 70)).alloc (.cells #[.int .i64 0, .int .i64 0, .bool false, .slice none 0 0] 49)).alloc (.cells #[.int .i64 t.kind, .int .i64 t.up, .bool t.last, .slice none 0 0] 49)) :=
    (((Below.refl _ _).alloc (Nat.le_refl _) _).alloc (by simp) _).alloc (by simp; omega) _
  refine (toFieldS_any fa fc lo hi t.fields _ hn (hx.keep (b0.mono hh)) ?_).mono ?_
  · simp; omega
  rintro e w1 ⟨na, rfl, hf, hb1⟩
  obtain ⟨hc, hz⟩ := bcell hb1
  have hs := hb1.size
  simp only [World.size_alloc] at hs hc hz hf
  have HB := hide hb1
  have HF := hide hf
  have B0 := hide b0
  clear hb1 hf b0
  go_wp2_with fail
  refine bodyPost_ret (v := .agg #[.int .i64 t.kind, .int .i64 t.up, .bool t.last, .slice na t.fields.length t.fields.length]) (by simp [results, Tryd.results55, go_sem, hc]) rfl ⟨na, rfl, ?_, ?_⟩
  · refine HF.out.same ((((((Same.refl _ _ _).set ?_ _ _).set ?_ _ _).set ?_ _ _).set ?_ _ _).set ?_ _ _) (by omega) (by simp) <;> omega
  · exact (((((B0.out.trans (HB.out.mono (by simp; omega))).setCell (by simp; omega) _).setCell (by simp) _).setCell (by simp) _).setCell (by simp) _).setCell (by simp) _

set_option maxHeartbeats 400000 in
theorem toTypeS_core (a : Option Addr) (cap n lo hi : Nat) (T : Nat → Ty) (w : World) (hn : n ≤ 1048576) (hm : ∀ i, i < n → (T i).fields.length ≤ 1048576) (hh : hi ≤ w.heap.size)
    (hx : n ≤ 0 ∨ ∃ b off, a = some ⟨b, off, none⟩ ∧ lo ≤ b ∧ b < hi ∧ ∀ i, i < n → TypeAt w lo hi b (off + i * 4) (T i)) :
    Calls Tryd.prog 33 #[.slice a n cap] w fun e w' => e = .returned (.slice (some ⟨w.heap.size, 0, none⟩) n n) ∧ Own w' w.heap.size (n * 4) 49 ∧ (∀ i, i < n → TypeNew w' (w.heap.size + 1) w'.heap.size w.heap.size (i * 4) (T i)) ∧ Below w.heap.size w w' := by
  have hmk := run_make_any (P := Tryd.prog) 45 49 _ 4 48 Tryd.underlying45 Tryd.infoType n (by omega) (by omega)
  have HM := hide hm
  clear hm
  rcases hx with h0 | ⟨b, off, rfl, h1, h2, h3⟩
  all_goals
    go_enter Tryd.func33, Tryd.ntmps33
    go_wp2_with fail
    go_loopw [4] (fun i wr => ∃ k : Nat, k ≤ n ∧ i = .int .i64 k ∧ Own wr w.heap.size (n * 4) 49 ∧ (∀ j, j < k → TypeNew wr (w.heap.size + 1) wr.heap.size w.heap.size (j * 4) (T j)) ∧ Below w.heap.size w wr) (fun i wr => n - (intOf i).toNat)
    case atStart => exact ⟨0, Nat.zero_le _, rfl, Own.made _ _ _ _, fun j hj => absurd hj (Nat.not_lt_zero _), (Below.refl _ _).alloc (Nat.le_refl _) _⟩
    case round =>
      obtain ⟨k, hk, rfl, ho, hF, hb⟩ := hrel
      have HF := hide hF
      have HO := hide ho
      clear hF ho
      by_cases hlt : k < n
      · first
        | (exfalso; omega)
        | (obtain ⟨c0, c1, c2, fa, fc, c3, c4⟩ := (h3 k hlt).keep (hb.mono hh) h1 h2
           have C4 := hide c4
           clear h3 c4
           go_wp2_with fail
           refine (toType_any fa fc lo hi (T k) _ (HM.out k hlt) C4.out ?_).mono ?_
           · have := hb.size; omega
           rintro e w1 ⟨na, rfl, hf1, hb1⟩
           have HO1 := hide (HO.out.below hb1 HO.out.lt)
           have f0 := HO1.out.frozen (k * 4)
           have f1 := HO1.out.frozen (k * 4 + 1)
           have f2 := HO1.out.frozen (k * 4 + 2)
           have f3 := HO1.out.frozen (k * 4 + 3)
           obtain ⟨v0, d0⟩ := HO1.out.cell (o := k * 4) (by omega)
           obtain ⟨v1, d1⟩ := HO1.out.cell (o := k * 4 + 1) (by omega)
           obtain ⟨v2, d2⟩ := HO1.out.cell (o := k * 4 + 2) (by omega)
           obtain ⟨v3, d3⟩ := HO1.out.cell (o := k * 4 + 3) (by omega)
           have hs1 := Own.lt HO.out
           have HF1 := hide hf1
           clear hf1
           go_wp2_with fail
           have hF1 : ∀ j, j < k → TypeNew w1 (w.heap.size + 1) w1.heap.size w.heap.size (j * 4) (T j) := fun j hj => by
             obtain ⟨a1, a2, a3, fa', fc', a4, a5⟩ := HF.out j hj
             refine ⟨?_, ?_, ?_, fa', fc', ?_, a5.same (.of_below hb1 (Nat.le_refl _)) (Nat.le_refl _) hb1.size⟩
             all_goals rw [hb1.cell (by exact hs1)]; assumption
           refine ⟨⟨k + 1, by omega, by go_num, (((HO1.out.set _ _ _).set _ _ _).set _ _ _).set _ _ _, ?_, ((((hb.trans (hb1.mono hb.size)).setCell (Nat.le_refl _) _).setCell (Nat.le_refl _) _).setCell (Nat.le_refl _) _).setCell (Nat.le_refl _) _⟩, by simp [intOf]; omega⟩
           have := type_set (fc := (T k).fields.length) HO1.out T k (by omega) (Nat.lt_succ_self _) hF1 (HF1.out.wide (by omega) (Nat.le_refl _))
           simpa using this)
      · have hkn : Hid (k = n) := Nat.le_antisymm hk (Nat.le_of_not_lt hlt)
        go_wp2_with fail
        go_ret
        exact ⟨rfl, HO.out, hkn.out ▸ HF.out, hb⟩

theorem toTypeS_any (a : Option Addr) (cap lo hi : Nat) (ts : List Ty) (w : World) (hn : ts.length ≤ 1048576) (hm : ∀ i, i < ts.length → (tyAt ts i).fields.length ≤ 1048576) (hx : TypesIn w lo hi a ts) (hh : hi ≤ w.heap.size) :
    Calls Tryd.prog 33 #[.slice a ts.length cap] w fun e w' => ∃ na, e = .returned (.slice na ts.length ts.length) ∧ TypesNew w' w.heap.size w'.heap.size na ts ∧ Below w.heap.size w w' := by
  refine (toTypeS_core a cap ts.length lo hi (tyAt ts) w hn hm hh ?_).mono ?_
  · rcases hx with rfl | ⟨b, off, rfl, h1, h2, h3⟩
    · exact .inl (Nat.le_refl _)
    · exact .inr ⟨b, off, rfl, h1, h2, h3⟩
  · rintro e w' ⟨rfl, ho, hF, hb⟩
    refine ⟨_, rfl, .inr ⟨_, rfl, Nat.le_refl _, ho.lt, ho, fun i hi => ?_⟩, hb⟩
    obtain ⟨a1, a2, a3, fa, fc, a4, a5⟩ := hF i hi
    exact ⟨a1, a2, a3, fa, fc, a4, a5.wide (by omega) (Nat.le_refl _)⟩

/-- A group lies in cell ⟨b, o⟩. -/
def GroupAt (w : World) (lo hi : Nat) (b o : Nat) (g : List Ty) : Prop := ∃ ta tc, w.cell? ⟨b, o, none⟩ = some (.slice ta g.length tc) ∧ TypesIn w lo hi ta g

theorem group_set {w : World} {b n lo hi tc : Nat} {T' : TypeId} {na : Option Addr} (h : Own w b n T') (G : Nat → List Ty) (k : Nat) (hk : k < n) (hlo : b < lo) (hF : ∀ j, j < k → GroupNew w lo hi b j (G j)) (hf : TypesNew w lo hi na (G k)) :
    ∀ j, j < k + 1 → GroupNew (w.setCell ⟨b, k, none⟩ (.slice na (G k).length tc)) lo hi b j (G j) := by
  intro j hj
  have hs : Same lo hi w (w.setCell ⟨b, k, none⟩ (.slice na (G k).length tc)) := (Same.refl _ _ _).set (.inl hlo) _ _
  unfold GroupNew
  simp only [h.cell_set (o := k) hk]
  by_cases e : j = k
  · subst e
    exact ⟨na, tc, by simp, hf.same hs (Nat.le_refl _) (Nat.le_refl _)⟩
  · obtain ⟨ta, tc', a4, a5⟩ := hF j (by omega)
    refine ⟨ta, tc', ?_, a5.same hs (Nat.le_refl _) (Nat.le_refl _)⟩
    rw [if_neg (by omega)]; assumption

set_option maxHeartbeats 400000 in
theorem toTypeSS_core (a : Option Addr) (cap n lo hi : Nat) (G : Nat → List Ty) (w : World) (hn : n ≤ 1048576) (hm : ∀ i, i < n → (G i).length ≤ 1048576 ∧ ∀ j, j < (G i).length → (tyAt (G i) j).fields.length ≤ 1048576) (hh : hi ≤ w.heap.size)
    (hx : n ≤ 0 ∨ ∃ b off, a = some ⟨b, off, none⟩ ∧ lo ≤ b ∧ b < hi ∧ ∀ i, i < n → GroupAt w lo hi b (off + i) (G i)) :
    Calls Tryd.prog 11 #[.slice a n cap] w fun e w' => e = .returned (.slice (some ⟨w.heap.size, 0, none⟩) n n) ∧ Own w' w.heap.size n 45 ∧ (∀ i, i < n → GroupNew w' (w.heap.size + 1) w'.heap.size w.heap.size i (G i)) ∧ Below w.heap.size w w' := by
  have hmk := run_make_row' (P := Tryd.prog) 25 45 _ 24 Tryd.underlying25 Tryd.infoTypeS rfl .i64 .i64 n (by omega) (by omega)
  have HM := hide hm
  clear hm
  rcases hx with h0 | ⟨b, off, rfl, h1, h2, h3⟩
  all_goals
    go_enter Tryd.func11, Tryd.ntmps11
    go_wp2_with fail
    go_loopw [4] (fun i wr => ∃ k : Nat, k ≤ n ∧ i = .int .i64 k ∧ Own wr w.heap.size n 45 ∧ (∀ j, j < k → GroupNew wr (w.heap.size + 1) wr.heap.size w.heap.size j (G j)) ∧ Below w.heap.size w wr) (fun i wr => n - (intOf i).toNat)
    case atStart => exact ⟨0, Nat.zero_le _, rfl, Own.made _ _ _ _, fun j hj => absurd hj (Nat.not_lt_zero _), (Below.refl _ _).alloc (Nat.le_refl _) _⟩
    case round =>
      obtain ⟨k, hk, rfl, ho, hF, hb⟩ := hrel
      have HF := hide hF
      have HO := hide ho
      clear hF ho
      by_cases hlt : k < n
      · first
        | (exfalso; omega)
        | (obtain ⟨ta, tc, c3, c4⟩ := h3 k hlt
           rw [← hb.cell (p := ⟨b, off + k, none⟩) (by show b < _; omega)] at c3
           have C4 := hide (c4.keep (hb.mono hh))
           clear h3 c4
           go_wp2_with fail
           refine (toTypeS_any ta tc lo hi (G k) _ (HM.out k hlt).1 (HM.out k hlt).2 C4.out ?_).mono ?_
           · have := hb.size; omega
           rintro e w1 ⟨na, rfl, hf1, hb1⟩
           have HO1 := hide (HO.out.below hb1 HO.out.lt)
           have f0 := HO1.out.frozen k
           obtain ⟨v0, d0⟩ := HO1.out.cell (o := k) (by omega)
           have hs1 := Own.lt HO.out
           have HF1 := hide hf1
           clear hf1
           go_wp2_with fail
           have hF1 : ∀ j, j < k → GroupNew w1 (w.heap.size + 1) w1.heap.size w.heap.size j (G j) := fun j hj => by
             obtain ⟨fa', fc', a4, a5⟩ := HF.out j hj
             refine ⟨fa', fc', ?_, a5.same (.of_below hb1 (Nat.le_refl _)) (Nat.le_refl _) hb1.size⟩
             rw [hb1.cell (by exact hs1)]; assumption
           refine ⟨⟨k + 1, by omega, by go_num, HO1.out.set _ _ _, ?_, (hb.trans (hb1.mono hb.size)).setCell (Nat.le_refl _) _⟩, by simp [intOf]; omega⟩
           have := group_set (tc := (G k).length) HO1.out G k (by omega) (Nat.lt_succ_self _) hF1 (HF1.out.wide (by omega) (Nat.le_refl _))
           simpa using this)
      · have hkn : Hid (k = n) := Nat.le_antisymm hk (Nat.le_of_not_lt hlt)
        go_wp2_with fail
        go_ret
        exact ⟨rfl, HO.out, hkn.out ▸ HF.out, hb⟩

/-- So few types and fields that all can be copied. -/
def Few (gs : List (List Ty)) : Prop := gs.length ≤ 1048576 ∧ ∀ i, i < gs.length → (grAt gs i).length ≤ 1048576 ∧ ∀ j, j < (grAt gs i).length → (tyAt (grAt gs i) j).fields.length ≤ 1048576

theorem toTypeSS_any (a : Option Addr) (cap lo hi : Nat) (gs : List (List Ty)) (w : World) (hn : Few gs) (hx : GroupsIn w lo hi a gs) (hh : hi ≤ w.heap.size) :
    Calls Tryd.prog 11 #[.slice a gs.length cap] w fun e w' => ∃ na, e = .returned (.slice na gs.length gs.length) ∧ GroupsNew w' w.heap.size w'.heap.size na gs ∧ Below w.heap.size w w' := by
  refine (toTypeSS_core a cap gs.length lo hi (grAt gs) w hn.1 hn.2 hh ?_).mono ?_
  · rcases hx with rfl | ⟨b, off, rfl, h1, h2, h3⟩
    · exact .inl (Nat.le_refl _)
    · exact .inr ⟨b, off, rfl, h1, h2, h3⟩
  · rintro e w' ⟨rfl, ho, hF, hb⟩
    refine ⟨_, rfl, .inr ⟨_, rfl, Nat.le_refl _, ho.lt, ho, fun i hi => ?_⟩, hb⟩
    obtain ⟨fa, fc, a4, a5⟩ := hF i hi
    exact ⟨fa, fc, a4, a5.wide (by omega) (Nat.le_refl _)⟩
end Go.Proofs.YtpkfihliconenaaDoor
