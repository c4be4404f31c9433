/- The copies that a law makes of its arguments: toFieldS, toType, toTypeS, toTypeSS: each lays in new memory what it was given. -/
import Derived.Test.YtlmciclkfmeepaaDoorTo0
import Derived.Test.YtlmciclkfmeepaaDoorFieldOk
namespace Go.Proofs.YtlmciclkfmeepaaDoor
open Go.ChangeShapes Go.WideShapes Go.ChangeAt Go.RowKit
set_option linter.unusedVariables false

set_option maxHeartbeats 400000 in
theorem toFieldS_core (a : Option Addr) (cap n : Nat) (F : Nat → Fd) (w : World) (hn : n ≤ 1048576)
    (hx : n ≤ 0 ∨ ∃ b off, a = some ⟨b, off, none⟩ ∧ b < w.heap.size ∧ ∀ i, i < n → FieldAt w b (off + i * 3) (F i)) :
    Calls Tryd.prog 61 #[.slice a n cap] w fun e w' => e = .returned (.slice (some ⟨w.heap.size, 0, none⟩) n n) ∧ Own w' w.heap.size (n * 3) 37 ∧ (∀ i, i < n → FieldAt w' w.heap.size (i * 3) (F i)) ∧ Below w.heap.size w w' := by
  have hmk := run_make_any (P := Tryd.prog) 78 37 _ 3 24 Tryd.underlying78 Tryd.infoField n (by omega) (by omega)
  rcases hx with h0 | ⟨b, off, rfl, h2, h3⟩
  all_goals
    go_enter Tryd.func61, Tryd.ntmps61
    go_wp2_with fail
    go_loopw [4] (fun i wr => ∃ k : Nat, k ≤ n ∧ i = .int .i64 k ∧ Own wr w.heap.size (n * 3) 37 ∧ (∀ j, j < k → FieldAt wr w.heap.size (j * 3) (F j)) ∧ Below w.heap.size w wr) (fun i wr => n - (intOf i).toNat)
    case atStart => exact ⟨0, Nat.zero_le _, rfl, Own.made _ _ _ _, fun j hj => absurd hj (Nat.not_lt_zero _), (Below.refl _ _).alloc (Nat.le_refl _) _⟩
    case round =>
      obtain ⟨k, hk, rfl, ho, hF, hb⟩ := hrel
      by_cases hlt : k < n
      · first
        | (exfalso; omega)
        | (obtain ⟨c0, c1, c2⟩ := h3 k hlt
           rw [← hb.cell (p := ⟨b, off + k * 3, none⟩) h2] at c0
           rw [← hb.cell (p := ⟨b, off + k * 3 + 1, none⟩) h2] at c1
           rw [← hb.cell (p := ⟨b, off + k * 3 + 2, none⟩) h2] at c2
           have HF := hide hF
           have HO := hide ho
           clear h3 hF ho
           go_wp2_with fail
           refine (toField_any _ _ _ _).mono ?_
           rintro e w1 ⟨rfl, hb1⟩
           have HO1 := hide (HO.out.below hb1 HO.out.lt)
           have f0 := HO1.out.frozen (k * 3)
           have f1 := HO1.out.frozen (k * 3 + 1)
           have f2 := HO1.out.frozen (k * 3 + 2)
           obtain ⟨v0, d0⟩ := HO1.out.cell (o := k * 3) (by omega)
           obtain ⟨v1, d1⟩ := HO1.out.cell (o := k * 3 + 1) (by omega)
           obtain ⟨v2, d2⟩ := HO1.out.cell (o := k * 3 + 2) (by omega)
           go_wp2_with fail
           have hs1 := Own.lt HO.out
           have hF1 : ∀ j, j < k → FieldAt w1 w.heap.size (j * 3) (F j) := fun j hj => (HF.out j hj).same (lo := 0) (hi := wr.heap.size) (.of_below hb1 (Nat.le_refl _)) (Nat.zero_le _) hs1
           exact ⟨⟨k + 1, by omega, by go_num, ((HO1.out.set _ _ _).set _ _ _).set _ _ _, field_set HO1.out F k (by omega) hF1, (((hb.trans (hb1.mono hb.size)).setCell (Nat.le_refl _) _).setCell (Nat.le_refl _) _).setCell (Nat.le_refl _) _⟩, by simp [intOf]; omega⟩)
      · have hkn : Hid (k = n) := Nat.le_antisymm hk (Nat.le_of_not_lt hlt)
        have HF := hide hF
        clear hF
        go_wp2_with fail
        go_ret
        exact ⟨rfl, ho, hkn.out ▸ HF.out, hb⟩

theorem toFieldS_any (a : Option Addr) (cap lo hi : Nat) (fs : List Fd) (w : World) (hn : fs.length ≤ 1048576) (hx : FieldsIn w lo hi a fs) (hh : hi ≤ w.heap.size) :
    Calls Tryd.prog 61 #[.slice a fs.length cap] w fun e w' => ∃ na, e = .returned (.slice na fs.length fs.length) ∧ FieldsNew w' w.heap.size w'.heap.size na fs ∧ Below w.heap.size w w' := by
  refine (toFieldS_core a cap fs.length (fdAt fs) w hn ?_).mono ?_
  · rcases hx with rfl | ⟨b, off, rfl, h1, h2, h3⟩
    · exact .inl (Nat.le_refl _)
    · exact .inr ⟨b, off, rfl, by omega, h3⟩
  · rintro e w' ⟨rfl, ho, hF, hb⟩
    exact ⟨_, rfl, ⟨.inr ⟨_, _, rfl, Nat.le_refl _, ho.lt, fun i hi => by simpa using hF i hi⟩, .inr ⟨_, _, rfl, Nat.le_refl _, ho.lt, ho, Nat.le_refl _⟩⟩, hb⟩

set_option maxHeartbeats 400000 in
theorem toType_any (fa : Option Addr) (fc lo hi : Nat) (t : Ty) (w : World) (hn : t.fields.length ≤ 1048576) (hx : FieldsIn w lo hi fa t.fields) (hh : hi ≤ w.heap.size) :
    Calls Tryd.prog 42 #[.agg #[.int .i64 t.kind, .int .i64 t.up, .bool t.last, .slice fa t.fields.length fc]] w fun e w' => ∃ na, e = .returned (.agg #[.int .i64 t.kind, .int .i64 t.up, .bool t.last,   .slice na t.fields.length t.fields.length]) ∧ FieldsNew w' w.heap.size w'.heap.size na t.fields ∧ Below w.heap.size w w' := by
  go_enter Tryd.func42, Tryd.ntmps42
  go_wp2_with fail
  have b0 : Below w.heap.size w (((w.alloc (.cells #[.int .i64 t.kind, .int .i64 t.up, .bool t.last, .slice fa t.fields.length fc] 75)).alloc (.cells #[.int .i64 0, .int .i64 0, .bool false, .slice none 0 0] 80)).alloc (.cells #[.int .i64 t.kind, .int .i64 t.up, .bool t.last, .slice none 0 0] 80)) :=
    (((Below.refl _ _).alloc (Nat.le_refl _) _).alloc (by simp) _).alloc (by simp; omega) _
  refine (toFieldS_any fa fc lo hi t.fields _ hn (hx.keep (b0.mono hh)) ?_).mono ?_
  · simp; omega
  rintro e w1 ⟨na, rfl, hf, hb1⟩
  obtain ⟨hc, hz⟩ := bcell hb1
  have hs := hb1.size
  simp only [World.size_alloc] at hs hc hz hf
  have HB := hide hb1
  have HF := hide hf
  have B0 := hide b0
  clear hb1 hf b0
  go_wp2_with fail
  refine bodyPost_ret (v := .agg #[.int .i64 t.kind, .int .i64 t.up, .bool t.last, .slice na t.fields.length t.fields.length]) (by simp [results, Tryd.results42, go_sem, hc]) rfl ⟨na, rfl, ?_, ?_⟩
  · refine HF.out.same ((((((Same.refl _ _ _).set ?_ _ _).set ?_ _ _).set ?_ _ _).set ?_ _ _).set ?_ _ _) (by omega) (by simp) <;> omega
  · exact (((((B0.out.trans (HB.out.mono (by simp; omega))).setCell (by simp; omega) _).setCell (by simp) _).setCell (by simp) _).setCell (by simp) _).setCell (by simp) _

set_option maxHeartbeats 400000 in
theorem toTypeS_core (a : Option Addr) (cap n lo hi : Nat) (T : Nat → Ty) (w : World) (hn : n ≤ 1048576) (hm : ∀ i, i < n → (T i).fields.length ≤ 1048576) (hh : hi ≤ w.heap.size)
    (hx : n ≤ 0 ∨ ∃ b off, a = some ⟨b, off, none⟩ ∧ lo ≤ b ∧ b < hi ∧ ∀ i, i < n → TypeAt w lo hi b (off + i * 4) (T i)) :
    Calls Tryd.prog 23 #[.slice a n cap] w fun e w' => e = .returned (.slice (some ⟨w.heap.size, 0, none⟩) n n) ∧ Own w' w.heap.size (n * 4) 80 ∧ (∀ i, i < n → TypeNew w' (w.heap.size + 1) w'.heap.size w.heap.size (i * 4) (T i)) ∧ Below w.heap.size w w' := by
  have hmk := run_make_any (P := Tryd.prog) 53 80 _ 4 48 Tryd.underlying53 Tryd.infoType n (by omega) (by omega)
  have HM := hide hm
  clear hm
  rcases hx with h0 | ⟨b, off, rfl, h1, h2, h3⟩
  all_goals
    go_enter Tryd.func23, Tryd.ntmps23
    go_wp2_with fail
    go_loopw [4] (fun i wr => ∃ k : Nat, k ≤ n ∧ i = .int .i64 k ∧ Own wr w.heap.size (n * 4) 80 ∧ (∀ j, j < k → TypeNew wr (w.heap.size + 1) wr.heap.size w.heap.size (j * 4) (T j)) ∧ Below w.heap.size w wr) (fun i wr => n - (intOf i).toNat)
    case atStart => exact ⟨0, Nat.zero_le _, rfl, Own.made _ _ _ _, fun j hj => absurd hj (Nat.not_lt_zero _), (Below.refl _ _).alloc (Nat.le_refl _) _⟩
    case round =>
      obtain ⟨k, hk, rfl, ho, hF, hb⟩ := hrel
      have HF := hide hF
      have HO := hide ho
      clear hF ho
      by_cases hlt : k < n
      · first
        | (exfalso; omega)
        | (obtain ⟨c0, c1, c2, fa, fc, c3, c4⟩ := (h3 k hlt).keep (hb.mono hh) h1 h2
           have C4 := hide c4
           clear h3 c4
           go_wp2_with fail
           refine (toType_any fa fc lo hi (T k) _ (HM.out k hlt) C4.out ?_).mono ?_
           · have := hb.size; omega
           rintro e w1 ⟨na, rfl, hf1, hb1⟩
           have HO1 := hide (HO.out.below hb1 HO.out.lt)
           have f0 := HO1.out.frozen (k * 4)
           have f1 := HO1.out.frozen (k * 4 + 1)
           have f2 := HO1.out.frozen (k * 4 + 2)
           have f3 := HO1.out.frozen (k * 4 + 3)
           obtain ⟨v0, d0⟩ := HO1.out.cell (o := k * 4) (by omega)
           obtain ⟨v1, d1⟩ := HO1.out.cell (o := k * 4 + 1) (by omega)
           obtain ⟨v2, d2⟩ := HO1.out.cell (o := k * 4 + 2) (by omega)
           obtain ⟨v3, d3⟩ := HO1.out.cell (o := k * 4 + 3) (by omega)
           have hs1 := Own.lt HO.out
           have HF1 := hide hf1
           clear hf1
           go_wp2_with fail
           have hF1 : ∀ j, j < k → TypeNew w1 (w.heap.size + 1) w1.heap.size w.heap.size (j * 4) (T j) := fun j hj => by
             obtain ⟨a1, a2, a3, fa', fc', a4, a5⟩ := HF.out j hj
             refine ⟨?_, ?_, ?_, fa', fc', ?_, a5.same (.of_below hb1 (Nat.le_refl _)) (Nat.le_refl _) hb1.size⟩
             all_goals rw [hb1.cell (by exact hs1)]; assumption
           refine ⟨⟨k + 1, by omega, by go_num, (((HO1.out.set _ _ _).set _ _ _).set _ _ _).set _ _ _, ?_, ((((hb.trans (hb1.mono hb.size)).setCell (Nat.le_refl _) _).setCell (Nat.le_refl _) _).setCell (Nat.le_refl _) _).setCell (Nat.le_refl _) _⟩, by simp [intOf]; omega⟩
           have := type_set (fc := (T k).fields.length) HO1.out T k (by omega) (Nat.lt_succ_self _) hF1 (HF1.out.wide (by omega) (Nat.le_refl _))
           simpa using this)
      · have hkn : Hid (k = n) := Nat.le_antisymm hk (Nat.le_of_not_lt hlt)
        go_wp2_with fail
        go_ret
        exact ⟨rfl, HO.out, hkn.out ▸ HF.out, hb⟩

theorem toTypeS_any (a : Option Addr) (cap lo hi : Nat) (ts : List Ty) (w : World) (hn : ts.length ≤ 1048576) (hm : ∀ i, i < ts.length → (tyAt ts i).fields.length ≤ 1048576) (hx : TypesIn w lo hi a ts) (hh : hi ≤ w.heap.size) :
    Calls Tryd.prog 23 #[.slice a ts.length cap] w fun e w' => ∃ na, e = .returned (.slice na ts.length ts.length) ∧ TypesNew w' w.heap.size w'.heap.size na ts ∧ Below w.heap.size w w' := by
  refine (toTypeS_core a cap ts.length lo hi (tyAt ts) w hn hm hh ?_).mono ?_
  · rcases hx with rfl | ⟨b, off, rfl, h1, h2, h3⟩
    · exact .inl (Nat.le_refl _)
    · exact .inr ⟨b, off, rfl, h1, h2, h3⟩
  · rintro e w' ⟨rfl, ho, hF, hb⟩
    refine ⟨_, rfl, .inr ⟨_, rfl, Nat.le_refl _, ho.lt, ho, fun i hi => ?_⟩, hb⟩
    obtain ⟨a1, a2, a3, fa, fc, a4, a5⟩ := hF i hi
    exact ⟨a1, a2, a3, fa, fc, a4, a5.wide (by omega) (Nat.le_refl _)⟩

set_option maxHeartbeats 400000 in
theorem toTypeSS_core (a : Option Addr) (cap n lo hi : Nat) (G : Nat → List Ty) (w : World) (hn : n ≤ 1048576) (hm : ∀ i, i < n → (G i).length ≤ 1048576 ∧ ∀ j, j < (G i).length → (tyAt (G i) j).fields.length ≤ 1048576) (hh : hi ≤ w.heap.size)
    (hx : n ≤ 0 ∨ ∃ b off, a = some ⟨b, off, none⟩ ∧ lo ≤ b ∧ b < hi ∧ ∀ i, i < n → GroupAt w lo hi b (off + i) (G i)) :
    Calls Tryd.prog 8 #[.slice a n cap] w fun e w' => e = .returned (.slice (some ⟨w.heap.size, 0, none⟩) n n) ∧ Own w' w.heap.size n 53 ∧ (∀ i, i < n → GroupNew w' (w.heap.size + 1) w'.heap.size w.heap.size i (G i)) ∧ Below w.heap.size w w' := by
  have hmk := run_make_row' (P := Tryd.prog) 31 53 _ 24 Tryd.underlying31 Tryd.infoTypeS rfl .i64 .i64 n (by omega) (by omega)
  have HM := hide hm
  clear hm
  rcases hx with h0 | ⟨b, off, rfl, h1, h2, h3⟩
  all_goals
    go_enter Tryd.func8, Tryd.ntmps8
    go_wp2_with fail
    go_loopw [4] (fun i wr => ∃ k : Nat, k ≤ n ∧ i = .int .i64 k ∧ Own wr w.heap.size n 53 ∧ (∀ j, j < k → GroupNew wr (w.heap.size + 1) wr.heap.size w.heap.size j (G j)) ∧ Below w.heap.size w wr) (fun i wr => n - (intOf i).toNat)
    case atStart => exact ⟨0, Nat.zero_le _, rfl, Own.made _ _ _ _, fun j hj => absurd hj (Nat.not_lt_zero _), (Below.refl _ _).alloc (Nat.le_refl _) _⟩
    case round =>
      obtain ⟨k, hk, rfl, ho, hF, hb⟩ := hrel
      have HF := hide hF
      have HO := hide ho
      clear hF ho
      by_cases hlt : k < n
      · first
        | (exfalso; omega)
        | (obtain ⟨ta, tc, c3, c4⟩ := h3 k hlt
           rw [← hb.cell (p := ⟨b, off + k, none⟩) (by show b < _; omega)] at c3
           have C4 := hide (c4.keep (hb.mono hh))
           clear h3 c4
           go_wp2_with fail
           refine (toTypeS_any ta tc lo hi (G k) _ (HM.out k hlt).1 (HM.out k hlt).2 C4.out ?_).mono ?_
           · have := hb.size; omega
           rintro e w1 ⟨na, rfl, hf1, hb1⟩
           have HO1 := hide (HO.out.below hb1 HO.out.lt)
           have f0 := HO1.out.frozen k
           obtain ⟨v0, d0⟩ := HO1.out.cell (o := k) (by omega)
           have hs1 := Own.lt HO.out
           have HF1 := hide hf1
           clear hf1
           go_wp2_with fail
           have hF1 : ∀ j, j < k → GroupNew w1 (w.heap.size + 1) w1.heap.size w.heap.size j (G j) := fun j hj => by
             obtain ⟨fa', fc', a4, a5⟩ := HF.out j hj
             refine ⟨fa', fc', ?_, a5.same (.of_below hb1 (Nat.le_refl _)) (Nat.le_refl _) hb1.size⟩
             rw [hb1.cell (by exact hs1)]; assumption
           refine ⟨⟨k + 1, by omega, by go_num, HO1.out.set _ _ _, ?_, (hb.trans (hb1.mono hb.size)).setCell (Nat.le_refl _) _⟩, by simp [intOf]; omega⟩
           have := group_set (tc := (G k).length) HO1.out G k (by omega) (Nat.lt_succ_self _) hF1 (HF1.out.wide (by omega) (Nat.le_refl _))
           simpa using this)
      · have hkn : Hid (k = n) := Nat.le_antisymm hk (Nat.le_of_not_lt hlt)
        go_wp2_with fail
        go_ret
        exact ⟨rfl, HO.out, hkn.out ▸ HF.out, hb⟩

theorem toTypeSS_any (a : Option Addr) (cap lo hi : Nat) (gs : List (List Ty)) (w : World) (hn : Few gs) (hx : GroupsIn w lo hi a gs) (hh : hi ≤ w.heap.size) :
    Calls Tryd.prog 8 #[.slice a gs.length cap] w fun e w' => ∃ na, e = .returned (.slice na gs.length gs.length) ∧ GroupsNew w' w.heap.size w'.heap.size na gs ∧ Below w.heap.size w w' := by
  refine (toTypeSS_core a cap gs.length lo hi (grAt gs) w hn.1 hn.2 hh ?_).mono ?_
  · rcases hx with rfl | ⟨b, off, rfl, h1, h2, h3⟩
    · exact .inl (Nat.le_refl _)
    · exact .inr ⟨b, off, rfl, h1, h2, h3⟩
  · rintro e w' ⟨rfl, ho, hF, hb⟩
    refine ⟨_, rfl, .inr ⟨_, rfl, Nat.le_refl _, ho.lt, ho, fun i hi => ?_⟩, hb⟩
    obtain ⟨fa, fc, a4, a5⟩ := hF i hi
    exact ⟨fa, fc, a4, a5.wide (by omega) (Nat.le_refl _)⟩
end Go.Proofs.YtlmciclkfmeepaaDoor
