/- PhN: GenVal, GenThingE, MarkVal, HeldVal, HpLaw3. -/
import Derived.Test.YtgobajjllnhlkaaGreatDoorPhWord
import Derived.Test.YtgobajjllnhlkaaGreatDoorPhM
import Derived.Test.YtgobajjllnhlkaaGreatDoorPhGen
namespace Go.Proofs.YtgobajjllnhlkaaGreatDoor
open Go.ChangeShapes Go.WideShapes Go.ChangeAt Go.RowKit Go.Joins Go.Deep
set_option linter.unusedVariables false
set_option maxHeartbeats 400000 in
theorem toVal_any (x : GVal) (w : World) :
    Calls Tryz.prog 30 #[.agg #[.int .i64 x.kind, .int .i64 x.n]] w fun e w' => e = .returned (.agg #[.int .i64 x.kind, .int .i64 x.n]) ∧ Below w.heap.size w w' := by
  go_enter Tryz.func30, Tryz.ntmps30
  go_wp2
  refine bodyPost_ret (v := .agg #[.int .i64 x.kind, .int .i64 x.n]) (by simp [results, Tryz.results30, go_sem]) rfl ⟨rfl, ?_⟩
  repeat (first | exact Below.refl _ _ | refine Below.alloc ?_ (by simp <;> omega) _)
/-- One laid at its place. -/
theorem val_set {w : World} {b n lo hi : Nat} {T' : TypeId} (h : Own w b n T') (F : Nat → GVal) (k : Nat) (hk : k * 2 + 1 < n) (hlo : b < lo) (hF : ∀ j, j < k → ValAt true w lo hi b (j * 2) (F j)) :
    ∀ j, j < k + 1 → ValAt true (((w).setCell ⟨b, k * 2, none⟩ (.int .i64 (F k).kind)).setCell ⟨b, k * 2 + 1, none⟩ (.int .i64 (F k).n)) lo hi b (j * 2) (F j) := by
  intro j hj
  have h1 := h.set b (k * 2) (.int .i64 (F k).kind)
  have hs : Same lo hi w (((w).setCell ⟨b, k * 2, none⟩ (.int .i64 (F k).kind)).setCell ⟨b, k * 2 + 1, none⟩ (.int .i64 (F k).n)) := ((Same.refl _ _ _).set (.inl hlo) _ _).set (.inl hlo) _ _
  unfold ValAt
  simp only [h1.cell_set (o := k * 2 + 1) (by omega : k * 2 + 1 < n), h.cell_set (o := k * 2) (by omega : k * 2 < n)]
  by_cases e : j = k
  · subst e
    exact ⟨by simp, by simp⟩
  · obtain ⟨e0, e1⟩ := hF j (by omega)
    refine ⟨?_, ?_⟩
    all_goals rw [if_neg (by omega), if_neg (by omega)]; assumption
set_option maxHeartbeats 800000 in
theorem toValS_core (a : Option Addr) (cap n lo hi : Nat) (F : Nat → GVal) (w : World) (hn : n ≤ 1048576) (hh : hi ≤ w.heap.size)
    (hx : n ≤ 0 ∨ ∃ b off, a = some ⟨b, off, none⟩ ∧ lo ≤ b ∧ b < hi ∧ ∀ i, i < n → ValAt false w lo hi b (off + i * 2) (F i)) :
    Calls Tryz.prog 35 #[.slice a n cap] w fun e w' => e = .returned (.slice (some ⟨w.heap.size, 0, none⟩) n n) ∧ Own w' w.heap.size (n * 2) 54 ∧ (∀ j, j < n → ValAt true w' (w.heap.size + 1) w'.heap.size w.heap.size (j * 2) (F j)) ∧ Below w.heap.size w w' := by
  have hmk := run_make_any (P := Tryz.prog) 41 54 _ 2 16 Tryz.underlying41 Tryz.infoVal n (by omega) (by omega)
  rcases hx with h0 | ⟨b, off, rfl, h1, h2, h3⟩
  all_goals
    go_enter Tryz.func35, Tryz.ntmps35
    go_wp2_with fail
    go_loopw [4] (fun i wr => ∃ k : Nat, k ≤ n ∧ i = .int .i64 k ∧ Own wr w.heap.size (n * 2) 54 ∧ (∀ j, j < k → ValAt true wr (w.heap.size + 1) wr.heap.size w.heap.size (j * 2) (F j)) ∧ Below w.heap.size w wr) (fun i wr => n - (intOf i).toNat)
    case atStart => exact ⟨0, Nat.zero_le _, rfl, Own.made _ _ _ _, fun j hj => absurd hj (Nat.not_lt_zero _), (Below.refl _ _).alloc (Nat.le_refl _) _⟩
    case round =>
      obtain ⟨k, hk, rfl, ho, hF, hb⟩ := hrel
      have HF := hide hF
      have HO := hide ho
      clear hF ho
      by_cases hlt : k < n
      · first
        | (exfalso; omega)
        | (have sb := hb.size
           have hx := (h3 k hlt).same (.of_below (hb.mono hh) (Nat.le_refl _)) (Nat.le_refl _) (Nat.le_refl _) h1 h2
           obtain ⟨e0, e1⟩ := hx
           clear h3
           go_wp2_with fail
           refine (toVal_any (F k) _).mono ?_
           rintro e w1 ⟨rfl, hb1⟩
           have HO1 := hide (HO.out.below hb1 HO.out.lt)
           have f0 := HO1.out.frozen (k * 2)
           have f1 := HO1.out.frozen (k * 2 + 1)
           obtain ⟨v0, d0⟩ := HO1.out.cell (o := k * 2) (by omega)
           obtain ⟨v1, d1⟩ := HO1.out.cell (o := k * 2 + 1) (by omega)
           have hs1 := Own.lt HO.out
           go_wp2_with fail
           have hF1 : ∀ j, j < k → ValAt true w1 (w.heap.size + 1) w1.heap.size w.heap.size (j * 2) (F j) := fun j hj => by
             obtain ⟨e0, e1⟩ := HF.out j hj
             exact ⟨(hb1.cell (by exact hs1)).trans e0, (hb1.cell (by exact hs1)).trans e1⟩
           refine ⟨⟨k + 1, by omega, by go_num, ((HO1.out).set _ _ _).set _ _ _, ?_, ((hb.trans (hb1.mono hb.size)).setCell (Nat.le_refl _) _).setCell (Nat.le_refl _) _⟩, by simp [intOf]; omega⟩
           have := val_set HO1.out F k (by omega) (Nat.lt_succ_self _) hF1
           simpa using this)
      · have hkn : Hid (k = n) := Nat.le_antisymm hk (Nat.le_of_not_lt hlt)
        go_wp2_with fail
        go_ret
        exact ⟨rfl, HO.out, hkn.out ▸ HF.out, hb⟩
theorem toValS_g {md : Bool} (a : Option Addr) (cap lo hi : Nat) (xs : List GVal) (w : World) (hn : ValsB 1048576 xs) (hx : ValsM md w lo hi a xs) (hh : hi ≤ w.heap.size) :
    Calls Tryz.prog 35 #[.slice a xs.length cap] w fun e w' => ∃ na, e = .returned (.slice na xs.length xs.length) ∧ ValsM true w' w.heap.size w'.heap.size na xs ∧ Below w.heap.size w w' := by
  refine (toValS_core a cap xs.length lo hi (valAt' xs) w hn hh ?_).mono ?_
  · rcases hx.plain with rfl | ⟨b, off, rfl, h1, h2, _, h3⟩
    · exact .inl (Nat.le_refl _)
    · exact .inr ⟨b, off, rfl, h1, h2, h3⟩
  · rintro e w' ⟨rfl, ho, hF, hb⟩
    refine ⟨_, rfl, .inr ⟨_, 0, rfl, Nat.le_refl _, ho.lt, fun _ => ⟨rfl, _, ho, Nat.le_refl _⟩, fun i hi => ?_⟩, hb⟩
    obtain ⟨e0, e1⟩ := hF i hi
    rw [Nat.zero_add]
    exact ⟨e0, e1⟩
set_option maxHeartbeats 800000 in
theorem szValS_g {md : Bool} (a : Option Addr) (cap lo hi : Nat) (xs : List GVal) (left : Int) (w : World) (hl : ValsB 9223372036854775807 xs) (hx : ValsM md w lo hi a xs) (hh : hi ≤ w.heap.size) (l0 : 0 ≤ left) (l1 : left ≤ 1048576) :
    Calls Tryz.prog 33 #[.slice a xs.length cap, .int .i64 left] w fun e w' => ∃ r : Int, e = .returned (.int .i64 r) ∧ -1 ≤ r ∧ r ≤ left ∧ (0 ≤ r → ValsB 1048576 xs) ∧ Below w.heap.size w w' := by
  have hn : xs.length ≤ 9223372036854775807 := hl
  clear hl hx
  by_cases hlt : left - (xs.length : Int) < 0
  · go_enter Tryz.func33, Tryz.ntmps33
    go_wp2_with fail
    go_ret
    exact ⟨-1, rfl, by omega, by omega, fun _ => (by unfold ValsB; omega), Below.refl _ _⟩
  · go_enter Tryz.func33, Tryz.ntmps33
    go_wp2_with fail
    go_ret
    exact ⟨left - xs.length, rfl, by omega, by omega, fun _ => (by unfold ValsB; omega), Below.refl _ _⟩
set_option maxHeartbeats 400000 in
theorem eqVal_g (x : GVal) (w : World) :
    Calls Tryz.prog 70 #[.agg #[.int .i64 x.kind, .int .i64 x.n], .agg #[.int .i64 x.kind, .int .i64 x.n]] w fun e w' => e = .returned (.bool true) ∧ Below w.heap.size w w' := by
  go_enter Tryz.func70, Tryz.ntmps70
  go_wp2_with fail
  go_ret
  exact ⟨rfl, ((Below.refl _ _).alloc (Nat.le_refl _) _).alloc (by simp) _⟩
set_option maxHeartbeats 800000 in
theorem eqValS_core (a a' : Option Addr) (cap cap' n lo hi lo' hi' : Nat) (F : Nat → GVal) (w : World) (hh : hi ≤ w.heap.size) (hh' : hi' ≤ w.heap.size)
    (hx : n ≤ 0 ∨ ∃ b off b' off', a = some ⟨b, off, none⟩ ∧ a' = some ⟨b', off', none⟩ ∧ lo ≤ b ∧ b < hi ∧ lo' ≤ b' ∧ b' < hi' ∧ (∀ i, i < n → ValAt false w lo hi b (off + i * 2) (F i)) ∧ (∀ i, i < n → ValAt false w lo' hi' b' (off' + i * 2) (F i))) (hn : n ≤ 1048576) :
    Calls Tryz.prog 37 #[.slice a n cap, .slice a' n cap'] w fun e w' => e = .returned (.bool true) ∧ Below w.heap.size w w' := by
  rcases hx with h0 | ⟨b, off, b', off', rfl, rfl, g1, g2, g3, g4, h3, h4⟩
  all_goals
    go_enter Tryz.func37, Tryz.ntmps37
    go_wp2_with fail
    go_loopw [5] (fun i wr => ∃ k : Nat, k ≤ n ∧ i = .int .i64 k ∧ Below w.heap.size w wr) (fun i wr => n - (intOf i).toNat)
    case atStart => exact ⟨0, Nat.zero_le _, rfl, Below.refl _ _⟩
    case round =>
      obtain ⟨k, hk, rfl, hb⟩ := hrel
      by_cases hlt : k < n
      · first
        | (exfalso; omega)
        | (have x1 := (h3 k hlt).same (.of_below (hb.mono hh) (Nat.le_refl _)) (Nat.le_refl _) (Nat.le_refl _) g1 g2
           have x2 := (h4 k hlt).same (.of_below (hb.mono hh') (Nat.le_refl _)) (Nat.le_refl _) (Nat.le_refl _) g3 g4
           obtain ⟨e0, e1⟩ := x1
           obtain ⟨f0, f1⟩ := x2
           clear h3 h4
           have k1 : (0 : Int) ≤ (k : Int) := by omega
           have k2 : (k : Int) < (n : Int) := by omega
           have s1 := hb.size
           go_wp2_with fail
           go_region_held3 (fun w' => (w'.cell? ⟨b, off + k * 2, none⟩ = some (.int .i64 (F k).kind) ∧ w'.cell? ⟨b, off + k * 2 + 1, none⟩ = some (.int .i64 (F k).n)) ∧ (w'.cell? ⟨b', off' + k * 2, none⟩ = some (.int .i64 (F k).kind) ∧ w'.cell? ⟨b', off' + k * 2 + 1, none⟩ = some (.int .i64 (F k).n))) (go_keep)
             ((go_at_call 70; refine (eqVal_g (F k) _).mono ?_; rintro e w1 ⟨rfl, hb1⟩; have y1 : ∀ o, w1.cell? ⟨b, o, none⟩ = wr.cell? ⟨b, o, none⟩ := fun o => hb1.cell (Nat.lt_of_lt_of_le g2 (Nat.le_trans hh s1)); have y2 : ∀ o, w1.cell? ⟨b', o, none⟩ = wr.cell? ⟨b', o, none⟩ := fun o => hb1.cell (Nat.lt_of_lt_of_le g4 (Nat.le_trans hh' s1))))
           go_wp2_with fail
           exact ⟨⟨k + 1, by omega, by go_num, hb.drew.trans (hb1.mono s1)⟩, by simp [intOf]; omega⟩)
      · go_wp2_with fail
        go_ret
        exact ⟨rfl, hb⟩
theorem eqValS_g {md md' : Bool} (a a' : Option Addr) (cap cap' lo hi lo' hi' : Nat) (xs : List GVal) (w : World) (hn : ValsB 1048576 xs) (hx : ValsM md w lo hi a xs) (hy : ValsM md' w lo' hi' a' xs) (hh : hi ≤ w.heap.size) (hh' : hi' ≤ w.heap.size) :
    Calls Tryz.prog 37 #[.slice a xs.length cap, .slice a' xs.length cap'] w fun e w' => e = .returned (.bool true) ∧ Below w.heap.size w w' := by
  refine eqValS_core a a' cap cap' xs.length lo hi lo' hi' (valAt' xs) w hh hh' ?_ hn
  rcases hx.plain with rfl | ⟨b, off, rfl, h1, h2, _, h3⟩
  · exact .inl (Nat.le_refl _)
  · rcases hy.plain with rfl | ⟨b', off', rfl, h1', h2', _, h3'⟩
    · exact .inl (Nat.le_refl _)
    · exact .inr ⟨b, off, b', off', rfl, rfl, h1, h2, h1', h2', h3, h3'⟩
set_option maxHeartbeats 800000 in
theorem eqThing_g {md md' : Bool} (a1 b1 : Option Addr) (c1 d1 lo hi lo' hi' : Nat) (x : GThing) (w : World) (hl : ThingB 1048576 x) (g1 : ValsM md w lo hi a1 x.vals) (k1 : ValsM md' w lo' hi' b1 x.vals) (hh : hi ≤ w.heap.size) (hh' : hi' ≤ w.heap.size) :
    Calls Tryz.prog 26 #[.agg #[.int .i64 x.typ, .slice a1 x.vals.length c1], .agg #[.int .i64 x.typ, .slice b1 x.vals.length d1]] w fun e w' => e = .returned (.bool true) ∧ Below w.heap.size w w' := by
  have HL := hide hl
  clear hl
  have G1 := hide g1
  have K1 := hide k1
  clear g1 k1
  go_enter Tryz.func26, Tryz.ntmps26
  go_wp2_with fail
  refine (eqValS_g a1 b1 c1 d1 lo hi lo' hi' x.vals _ HL.out (G1.out.keep (Below.mono (by (repeat (first | refine Below.al ?_ (Nat.le_refl _) _ | exact Below.refl _ _))) hh)) (K1.out.keep (Below.mono (by (repeat (first | refine Below.al ?_ (Nat.le_refl _) _ | exact Below.refl _ _))) hh')) (by simp only [World.size_alloc]; omega) (by simp only [World.size_alloc]; omega)).mono ?_
  rintro e w0 ⟨rfl, hb0⟩
  have HB0 : Hid (Below w.heap.size w w0) := by
    refine Below.trans ?_ (hb0.mono ?_)
    · (repeat (first | refine Below.al ?_ (Nat.le_refl _) _ | exact Below.refl _ _))
    · simp <;> omega
  have P0 : Hid (Rec w0 w.heap.size 43 [.int .i64 x.typ, .slice a1 x.vals.length c1]) := ((Rec.new' w _ _ _ rfl).alloc _).below hb0 (by go_size)
  have R0 : Hid (Rec w0 (w.heap.size + 1) 43 [.int .i64 x.typ, .slice b1 x.vals.length d1]) := (Rec.new' _ _ _ _ (by simp)).below hb0 (by go_size)
  clear hb0
  have p0_0 := P0.out.cell (o := 0) rfl
  have r0_0 := R0.out.cell (o := 0) rfl
  have p1_0 := P0.out.cell (o := 1) rfl
  have r1_0 := R0.out.cell (o := 1) rfl
  go_wp2_with fail
  go_ret
  exact ⟨rfl, HB0.out⟩
/-- The numbers from k on stand there. -/
def MarkedVal (w : World) (lo hi : Nat) (a : Option Addr) (n : Nat) (k : Int) : Prop := n = 0 ∨ ∃ b, a = some ⟨b, 0, none⟩ ∧ lo ≤ b ∧ b < hi ∧ (∀ i : Nat, i < n → w.cell? ⟨b, i * 2, none⟩ = some (.int .i64 (k + 2 * (i : Int))) ∧ w.cell? ⟨b, i * 2 + 1, none⟩ = some (.int .i64 (k + 2 * (i : Int) + 1)))
theorem MarkedVal.same {w w' : World} {lo hi : Nat} {a : Option Addr} {n : Nat} {k : Int} (h : MarkedVal w lo hi a n k) (hs : ∀ b, lo ≤ b → b < hi → w'.heap[b]? = w.heap[b]?) : MarkedVal w' lo hi a n k := by
  rcases h with h | ⟨b, e, h3, h4, h5⟩
  · exact .inl h
  · have q : ∀ o, w'.cell? ⟨b, o, none⟩ = w.cell? ⟨b, o, none⟩ := fun o => World.cell?_of_block (w := w) (hs b h3 h4)
    exact .inr ⟨b, e, h3, h4, fun i hi => by simp only [q]; exact h5 i hi⟩
theorem MarkedVal.keep {w w' : World} {lo hi : Nat} {a : Option Addr} {n : Nat} {k : Int} (h : MarkedVal w lo hi a n k) (hb : Below hi w w') : MarkedVal w' lo hi a n k := h.same fun b _ h2 => hb.block b h2
set_option maxHeartbeats 800000 in
theorem markValS_m (a : Option Addr) (cap n lo hi : Nat) (k : Int) (w : World) (hn : n ≤ 4398046511104) (k0 : 0 ≤ k) (k1 : k ≤ 4611686018427387904) (hx : FlatSh 54 2 w lo hi a n) :
    Calls Tryz.prog 38 #[.slice a n cap, .int .i64 k] w fun e w' => e = .returned (.int .i64 (k + 2 * (n : Int))) ∧ MarksG lo hi w w' ∧ MarkedVal w' lo hi a n k := by
  rcases hx with h0 | ⟨b, m, rfl, h1, h2, h3, h4⟩
  · have h0' : n ≤ 0 := by omega
    have H0 := hide h0
    clear h0
    go_enter Tryz.func38, Tryz.ntmps38
    go_wp2_with fail
    go_loop [1, 5] (fun l i => i = .int .i64 0 ∧ l = .int .i64 k) (fun l i => 0)
    case atStart => exact ⟨rfl, rfl⟩
    case round =>
      obtain ⟨rfl, rfl⟩ := hrel
      go_wp2_with fail
      go_ret
      exact ⟨ret_int (by rw [H0.out]; simp), MarksG.refl _ _ _, .inl H0.out⟩
  · have H3 := hide h3
    clear h3
    go_enter Tryz.func38, Tryz.ntmps38
    go_wp2_with fail
    go_loopw [1, 5] (fun l i wr => ∃ j : Nat, j ≤ n ∧ i = .int .i64 j ∧ l = .int .i64 (k + 2 * (j : Int)) ∧ MarksG lo hi w wr ∧ ∀ i : Nat, i < j → wr.cell? ⟨b, i * 2, none⟩ = some (.int .i64 (k + 2 * (i : Int))) ∧ wr.cell? ⟨b, i * 2 + 1, none⟩ = some (.int .i64 (k + 2 * (i : Int) + 1))) (fun l i wr => n - (intOf i).toNat)
    case atStart => exact ⟨0, Nat.zero_le _, rfl, by simp, MarksG.refl _ _ _, fun q hq => absurd hq (Nat.not_lt_zero _)⟩
    case round =>
      obtain ⟨j, hj, rfl, rfl, hM, hF⟩ := hrel
      have HM := hide hM
      have HF := hide hF
      clear hM hF
      by_cases hjn : j < n
      · have HO := hide (HM.out.own _ _ _ H3.out)
        have g1 : (0 : Int) ≤ (j : Int) := by omega
        have g2 : (j : Int) < (n : Int) := by omega
        have f0 := HO.out.frozen (j * 2)
        obtain ⟨v0, d0⟩ := HO.out.cell (o := j * 2) (by omega)
        have f1 := HO.out.frozen (j * 2 + 1)
        obtain ⟨v1, d1⟩ := HO.out.cell (o := j * 2 + 1) (by omega)
        go_wp2_with fail
        have o1 := HO.out.set b (j * 2) (.int .i64 (k + 2 * (j : Int)))
        have o2 := o1.set b (j * 2 + 1) (.int .i64 (k + 2 * (j : Int) + 1))
        have M2 := hide (((HM.out).set HO.out h1 h2 (j * 2) (by omega) (sl_f0 Tryz.infoVal j (by decide) rfl) (.int .i64 (k + 2 * (j : Int)))).set o1 h1 h2 (j * 2 + 1) (by omega) (sl_f Tryz.infoVal j 1 (by decide) rfl) (.int .i64 (k + 2 * (j : Int) + 1)))
        refine ⟨⟨j + 1, by omega, by go_num, ?_, M2.out, fun i hi => ?_⟩, by simp [intOf]; omega⟩
        · congr 1
          omega
        · simp only [o1.cell_set (o := j * 2 + 1) (by omega : j * 2 + 1 < m), HO.out.cell_set (o := j * 2) (by omega : j * 2 < m)]
          by_cases e : i = j
          · subst e
            exact ⟨by simp, by simp⟩
          · have q := HF.out i (by omega)
            refine ⟨?_, ?_⟩
            all_goals (rw [if_neg (by omega)]; rw [if_neg (by omega)])
            · exact q.1
            · exact q.2
      · have hje : Hid (j = n) := Nat.le_antisymm hj (Nat.le_of_not_lt hjn)
        go_wp2_with fail
        go_ret
        exact ⟨ret_int (by rw [hje.out]), HM.out, .inr ⟨b, rfl, h1, h2, hje.out ▸ HF.out⟩⟩
theorem ValsM.shapeG {lo hi : Nat} {w : World} {a : Option Addr} {xs : List GVal} (h : ValsM true w lo hi a xs) : FlatSh 54 2 w lo hi a xs.length := by
  rcases h with rfl | ⟨b, off, rfl, h3, h4, h5, h6⟩
  · exact .inl rfl
  · obtain ⟨rfl, m, ho, hm⟩ := h5 rfl
    exact .inr ⟨b, m, rfl, h3, h4, ho, hm⟩
set_option maxHeartbeats 800000 in
theorem heldValS_m (a : Option Addr) (cap n lo hi : Nat) (k : Int) (w : World) (hn : n ≤ 4398046511104) (k0 : 0 ≤ k) (k1 : k ≤ 4611686018427387904) (hx : MarkedVal w lo hi a n k) :
    Calls Tryz.prog 61 #[.slice a n cap, .int .i64 k] w fun e w' => e = .returned (.int .i64 (k + 2 * (n : Int))) ∧ Below w.heap.size w w' := by
  rcases hx with h0 | ⟨b, rfl, h1, h2, h3⟩
  · subst h0
    go_enter Tryz.func61, Tryz.ntmps61
    go_wp2_with fail
    go_loopw [1, 5] (fun kv i wr => i = .int .i64 0 ∧ kv = .int .i64 k ∧ wr = w) (fun kv i wr => 0)
    case atStart => exact ⟨rfl, rfl, rfl⟩
    case round =>
    obtain ⟨rfl, rfl, rfl⟩ := hrel
    go_wp2_with fail
    go_ret
    exact ⟨ret_int (by simp), Below.refl _ _⟩
  · go_enter Tryz.func61, Tryz.ntmps61
    go_wp2_with fail
    go_loopw [1, 5] (fun kv i wr => ∃ j : Nat, j ≤ n ∧ i = .int .i64 j ∧ kv = .int .i64 (k + 2 * (j : Int)) ∧ ∃ q, wr = w.drewN q) (fun kv i wr => n - (intOf i).toNat)
    case atStart => exact ⟨0, Nat.zero_le _, rfl, by simp, 0, rfl⟩
    case round =>
      obtain ⟨j, hj, rfl, rfl, q, rfl⟩ := hrel
      by_cases hlt : j < n
      · obtain ⟨c0, c1⟩ := h3 j hlt
        have g1 : (0 : Int) ≤ (j : Int) := by omega
        have g2 : (j : Int) < (n : Int) := by omega
        clear h3
        go_wp2_with fail
        exact ⟨⟨j + 1, by omega, by go_num, by congr 1; omega, _, rfl⟩, by simp [intOf]; omega⟩
      · have hjn : Hid (j = n) := Nat.le_antisymm hj (Nat.le_of_not_lt hlt)
        go_wp2_with fail
        go_ret
        exact ⟨ret_int (by rw [hjn.out]), below_drewN (Below.refl _ _) _⟩
end Go.Proofs.YtgobajjllnhlkaaGreatDoor
namespace Go.Proofs.YtgobajjllnhlkaaGreatDoor
open Go.ChangeShapes Go.WideShapes Go.ChangeAt Go.RowKit Go.Deep
set_option linter.unusedVariables false
set_option linter.unusedSimpArgs false
theorem StepB.of_set (w : World) (b o : Nat) (v : Value) : StepB b (b + 1) w (w.setCell ⟨b, o, none⟩ v) := ⟨rfl, rfl, rfl, by simp [World.setCell], fun k _ hk => Below.heap_setCell _ _ _ _ (by show k ≠ b; omega)⟩
theorem StepB.trans {lo hi : Nat} {a b c : World} (h : StepB lo hi a b) (k : StepB lo hi b c) : StepB lo hi a c := ⟨k.os.trans h.os, k.tape.trans h.tape, k.output.trans h.output, Nat.le_trans h.size k.size, fun i h1 h2 => (k.out i (Nat.lt_of_lt_of_le h1 h.size) h2).trans (h.out i h1 h2)⟩
theorem ValsM.stepB {md : Bool} {l u lo hi : Nat} {w w' : World} {a : Option Addr} {xs : List GVal} (h : ValsM md w l u a xs) (s : StepB lo hi w w') (hu : u ≤ w.heap.size) (hd : u ≤ lo ∨ hi ≤ l) : ValsM md w' l u a xs := h.same (fun k h1 h2 => s.out k (by omega) (by omega)) (Nat.le_refl _) (Nat.le_refl _)
theorem ValRow.own {w : World} {S cap : Nat} {a : Option Addr} {vs : List GVal} (h : ValRow w S a cap vs) : ValsM true w S w.heap.size a vs := by
 rcases h.vals with h0 | ⟨b, off, e, h1, h2, _, h4⟩
 ·exact .inl h0
 ·by_cases hz : vs = []
  ·exact .inl hz
  have hp : 0 < vs.length := List.length_pos_iff.2 hz
  rcases h.2 with ⟨_, hn⟩ | ⟨g, cap', cur, e', h5, h6, h7, _, h9, _⟩
  ·omega
  ·cases e'
   cases e
   exact .inr ⟨_, 0, rfl, h1, h2, fun _ => ⟨rfl, cur.size, ⟨cur, h6, rfl⟩, by omega⟩, h4⟩
theorem ValsM.wid {md : Bool} {l u l' u' : Nat} {w : World} {a : Option Addr} {xs : List GVal} (h : ValsM md w l u a xs) (h1 : l' ≤ l) (h2 : u ≤ u') : ValsM md w l' u' a xs := h.same (fun _ _ _ => rfl) h1 h2
theorem MarkedVal.step {l u lo hi n : Nat} {w w' : World} {a : Option Addr} {k : Int} (h : MarkedVal w l u a n k) (s : StepB lo hi w w') (hu : u ≤ w.heap.size) (hd : u ≤ lo ∨ hi ≤ l) : MarkedVal w' l u a n k := h.same fun b h1 h2 => s.out b (by omega) (by omega)
theorem eqTh {md md' : Bool} {lo hi lo' hi' c1 d1 : Nat} {a1 b1 : Option Addr} {t : Int} {vs : List GVal} {w : World} (hl : vs.length ≤ 1048576) (g1 : ValsM md w lo hi a1 vs) (k1 : ValsM md' w lo' hi' b1 vs) (hh : hi ≤ w.heap.size) (hh' : hi' ≤ w.heap.size) :
 Calls Tryz.prog 26 #[.agg #[.int .i64 t, .slice a1 vs.length c1], .agg #[.int .i64 t, .slice b1 vs.length d1]] w fun e w' => e = .returned (.bool true) ∧ Below w.heap.size w w' := eqThing_g a1 b1 c1 d1 lo hi lo' hi' ⟨t, vs⟩ w hl g1 k1 hh hh'
set_option maxHeartbeats 800000 in
theorem markTh (t : Int) (a : Option Addr) (cap n lo hi : Nat) (k : Int) (w : World) (hn : n ≤ 4398046511104) (k0 : 0 ≤ k) (k1 : k ≤ 4000000000000000000) (hx : FlatSh 54 2 w lo hi a n) (hh : hi ≤ w.heap.size) :
 Calls Tryz.prog 27 #[.agg #[.int .i64 t, .slice a n cap], .int .i64 k] w fun e w' => e = .returned (.int .i64 (k + 2 * (n : Int))) ∧ MarksG lo hi w w' ∧ MarkedVal w' lo hi a n k := by
 have HB : Hid (Below w.heap.size w (w.alloc (.cells #[.int .i64 t, .slice a n cap] 43))) := (Below.refl _ _).alloc (Nat.le_refl _) _
 have G := hide (hx.keep (HB.out.mono hh))
 have R0 := hide (Rec.new w 43 [.int .i64 t, .slice a n cap])
 clear hx
 go_enter Tryz.func27, Tryz.ntmps27
 go_wp2_with fail
 refine (markValS_m a cap n lo hi k _ hn k0 (by omega) G.out).mono ?_
 rintro e w1 ⟨rfl, hM, hK⟩
 have BU := hide ((MarksG.of_below (lo := lo) (hi := hi) HB.out).trans hM)
 have HK := hide hK
 clear hM hK
 go_wp2_with fail
 go_ret
 exact ⟨rfl, BU.out, HK.out⟩
set_option maxHeartbeats 800000 in
theorem heldTh (t : Int) (a : Option Addr) (cap n lo hi : Nat) (k : Int) (w : World) (hn : n ≤ 4398046511104) (k0 : 0 ≤ k) (k1 : k ≤ 4000000000000000000) (hx : MarkedVal w lo hi a n k) (hh : hi ≤ w.heap.size) :
 Calls Tryz.prog 28 #[.agg #[.int .i64 t, .slice a n cap], .int .i64 k] w fun e w' => e = .returned (.int .i64 (k + 2 * (n : Int))) ∧ Below w.heap.size w w' := by
 have HB : Hid (Below w.heap.size w (w.alloc (.cells #[.int .i64 t, .slice a n cap] 43))) := (Below.refl _ _).alloc (Nat.le_refl _) _
 have G := hide (hx.keep (HB.out.mono hh))
 clear hx
 have d0 : decide (k + 2 * (n : Int) < 0) = false := by simp; omega
 go_enter Tryz.func28, Tryz.ntmps28
 go_wp2_with fail
 refine (heldValS_m a cap n lo hi k _ hn k0 (by omega) G.out).mono ?_
 rintro e w1 ⟨rfl, hb⟩
 have B1 := hide (HB.out.trans (hb.mono HB.out.size))
 clear hb
 go_wp2_with fail
 go_ret
 exact ⟨rfl, B1.out⟩
end Go.Proofs.YtgobajjllnhlkaaGreatDoor
