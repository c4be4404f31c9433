/- eqField, eqFieldS, eqType, eqTypeS, eqTypeSS: they say yes of the same fields, types and groups, wherever these lie. -/
import Derived.Test.YtlmciclkfmeepaaDoorTo
import Derived.Deep.RegionHeld3
namespace Go.Proofs.YtlmciclkfmeepaaDoor
open Go.ChangeShapes Go.WideShapes Go.ChangeAt Go.RowKit
set_option linter.unusedVariables false

set_option maxHeartbeats 400000 in
theorem eqField_same (k o : Int) (m : Bool) (w : World) :
    Calls Tryd.prog 77 #[.agg #[.int .i64 k, .int .i64 o, .bool m], .agg #[.int .i64 k, .int .i64 o, .bool m]] w fun e w' => e = .returned (.bool true) ∧ Below w.heap.size w w' := by
  go_enter Tryd.func77, Tryd.ntmps77
  go_wp2_with fail
  go_ret
  exact ⟨rfl, ((Below.refl _ _).alloc (Nat.le_refl _) _).alloc (by simp) _⟩

set_option maxHeartbeats 400000 in
theorem eqFieldS_core (a a' : Option Addr) (cap cap' n : Nat) (F : Nat → Fd) (w : World)
    (hx : n ≤ 0 ∨ ∃ b off b' off', a = some ⟨b, off, none⟩ ∧ a' = some ⟨b', off', none⟩ ∧ b < w.heap.size ∧ b' < w.heap.size ∧ (∀ i, i < n → FieldAt w b (off + i * 3) (F i)) ∧ (∀ i, i < n → FieldAt w b' (off' + i * 3) (F i))) (hn : n ≤ 9223372036854775807) :
    Calls Tryd.prog 67 #[.slice a n cap, .slice a' n cap'] w fun e w' => e = .returned (.bool true) ∧ Below w.heap.size w w' := by
  rcases hx with h0 | ⟨b, off, b', off', rfl, rfl, h1, h2, h3, h4⟩
  all_goals
    go_enter Tryd.func67, Tryd.ntmps67
    go_wp2_with fail
    go_loopw [5] (fun i wr => ∃ k : Nat, k ≤ n ∧ i = .int .i64 k ∧ Below w.heap.size w wr) (fun i wr => n - (intOf i).toNat)
    case atStart => exact ⟨0, Nat.zero_le _, rfl, Below.refl _ _⟩
    case round =>
      obtain ⟨k, hk, rfl, hb⟩ := hrel
      by_cases hlt : k < n
      · first
        | (exfalso; omega)
        | (obtain ⟨c0, c1, c2⟩ := h3 k hlt
           obtain ⟨d0, d1, d2⟩ := h4 k hlt
           rw [← hb.cell (by exact h1)] at c0 c1 c2
           rw [← hb.cell (by exact h2)] at d0 d1 d2
           clear h3 h4
           have g1 : (0 : Int) ≤ (k : Int) := by omega
           have g2 : (k : Int) < (n : Int) := by omega
           have s1 := hb.size
           go_wp2_with fail
           go_region_held3 (fun w' => (w'.cell? ⟨b, off + k * 3, none⟩ = some (.int .i64 (F k).kind) ∧ w'.cell? ⟨b, off + k * 3 + 1, none⟩ = some (.int .i64 (F k).of) ∧ w'.cell? ⟨b, off + k * 3 + 2, none⟩ = some (.bool (F k).mt)) ∧ (w'.cell? ⟨b', off' + k * 3, none⟩ = some (.int .i64 (F k).kind) ∧ w'.cell? ⟨b', off' + k * 3 + 1, none⟩ = some (.int .i64 (F k).of) ∧ w'.cell? ⟨b', off' + k * 3 + 2, none⟩ = some (.bool (F k).mt))) (go_keep)
             ((go_at_call 77; refine (eqField_same _ _ _ _).mono ?_; rintro e w1 ⟨rfl, hb1⟩; have e1 : ∀ o, w1.cell? ⟨b, o, none⟩ = wr.cell? ⟨b, o, none⟩ := fun o => hb1.cell (Nat.lt_of_lt_of_le h1 s1); have e2 : ∀ o, w1.cell? ⟨b', o, none⟩ = wr.cell? ⟨b', o, none⟩ := fun o => hb1.cell (Nat.lt_of_lt_of_le h2 s1)))
           go_wp2_with fail
           exact ⟨⟨k + 1, by omega, by go_num, hb.drew.trans (hb1.mono s1)⟩, by simp [intOf]; omega⟩)
      · go_wp2_with fail
        go_ret
        exact ⟨rfl, hb⟩

theorem eqFieldS_same (a a' : Option Addr) (cap cap' lo hi lo' hi' : Nat) (fs : List Fd) (w : World) (hn : fs.length ≤ 9223372036854775807) (hx : FieldsIn w lo hi a fs) (hy : FieldsIn w lo' hi' a' fs) (hh : hi ≤ w.heap.size) (hh' : hi' ≤ w.heap.size) :
    Calls Tryd.prog 67 #[.slice a fs.length cap, .slice a' fs.length cap'] w fun e w' => e = .returned (.bool true) ∧ Below w.heap.size w w' := by
  refine eqFieldS_core a a' cap cap' fs.length (fdAt fs) w ?_ hn
  rcases hx with rfl | ⟨b, off, rfl, h1, h2, h3⟩
  · exact .inl (Nat.le_refl _)
  · rcases hy with rfl | ⟨b', off', rfl, h1', h2', h3'⟩
    · exact .inl (Nat.le_refl _)
    · exact .inr ⟨b, off, b', off', rfl, rfl, by omega, by omega, h3, h3'⟩

set_option maxHeartbeats 400000 in
theorem eqType_same (a a' : Option Addr) (cap cap' lo hi lo' hi' : Nat) (t : Ty) (w : World) (hn : t.fields.length ≤ 9223372036854775807) (hx : FieldsIn w lo hi a t.fields) (hy : FieldsIn w lo' hi' a' t.fields) (hh : hi ≤ w.heap.size) (hh' : hi' ≤ w.heap.size) :
    Calls Tryd.prog 51 #[.agg #[.int .i64 t.kind, .int .i64 t.up, .bool t.last, .slice a t.fields.length cap], .agg #[.int .i64 t.kind, .int .i64 t.up, .bool t.last, .slice a' t.fields.length cap']] w fun e w' => e = .returned (.bool true) ∧ Below w.heap.size w w' := by
  go_enter Tryd.func51, Tryd.ntmps51
  go_wp2_with fail
  have b0 : Below w.heap.size w ((w.alloc (.cells #[.int .i64 t.kind, .int .i64 t.up, .bool t.last, .slice a t.fields.length cap] 80)).alloc (.cells #[.int .i64 t.kind, .int .i64 t.up, .bool t.last, .slice a' t.fields.length cap'] 80)) :=
    ((Below.refl _ _).alloc (Nat.le_refl _) _).alloc (by simp) _
  refine (eqFieldS_same a a' cap cap' lo hi lo' hi' t.fields _ hn (hx.keep (b0.mono hh)) (hy.keep (b0.mono hh')) (by simp; omega) (by simp; omega)).mono ?_
  rintro e w1 ⟨rfl, hb1⟩
  go_wp2_with fail
  go_ret
  exact ⟨rfl, b0.trans (hb1.mono (by simp; omega))⟩

set_option maxHeartbeats 400000 in
theorem eqTypeS_core (a a' : Option Addr) (cap cap' n lo hi lo' hi' : Nat) (T : Nat → Ty) (w : World) (hm : ∀ i, i < n → (T i).fields.length ≤ 9223372036854775807) (hh : hi ≤ w.heap.size) (hh' : hi' ≤ w.heap.size)
    (hx : n ≤ 0 ∨ ∃ b off b' off', a = some ⟨b, off, none⟩ ∧ a' = some ⟨b', off', none⟩ ∧ lo ≤ b ∧ b < hi ∧ lo' ≤ b' ∧ b' < hi' ∧ (∀ i, i < n → TypeAt w lo hi b (off + i * 4) (T i)) ∧ (∀ i, i < n → TypeAt w lo' hi' b' (off' + i * 4) (T i))) (hn : n ≤ 9223372036854775807) :
    Calls Tryd.prog 27 #[.slice a n cap, .slice a' n cap'] w fun e w' => e = .returned (.bool true) ∧ Below w.heap.size w w' := by
  have HM := hide hm
  clear hm
  rcases hx with h0 | ⟨b, off, b', off', rfl, rfl, g1, g2, g3, g4, h3, h4⟩
  all_goals
    go_enter Tryd.func27, Tryd.ntmps27
    go_wp2_with fail
    go_loopw [5] (fun i wr => ∃ k : Nat, k ≤ n ∧ i = .int .i64 k ∧ Below w.heap.size w wr) (fun i wr => n - (intOf i).toNat)
    case atStart => exact ⟨0, Nat.zero_le _, rfl, Below.refl _ _⟩
    case round =>
      obtain ⟨k, hk, rfl, hb⟩ := hrel
      by_cases hlt : k < n
      · first
        | (exfalso; omega)
        | (obtain ⟨c0, c1, c2, fa, fc, c3, c4⟩ := (h3 k hlt).keep (hb.mono hh) g1 g2
           obtain ⟨d0, d1, d2, fa', fc', d3, d4⟩ := (h4 k hlt).keep (hb.mono hh') g3 g4
           have C4 := hide c4
           have D4 := hide d4
           clear h3 h4 c4 d4
           have k1 : (0 : Int) ≤ (k : Int) := by omega
           have k2 : (k : Int) < (n : Int) := by omega
           have s1 := hb.size
           go_wp2_with fail
           go_region_held3 (fun w' => (w'.cell? ⟨b, off + k * 4, none⟩ = some (.int .i64 (T k).kind) ∧ w'.cell? ⟨b, off + k * 4 + 1, none⟩ = some (.int .i64 (T k).up) ∧ w'.cell? ⟨b, off + k * 4 + 2, none⟩ = some (.bool (T k).last) ∧ w'.cell? ⟨b, off + k * 4 + 3, none⟩ = some (.slice fa (T k).fields.length fc)) ∧ (w'.cell? ⟨b', off' + k * 4, none⟩ = some (.int .i64 (T k).kind) ∧ w'.cell? ⟨b', off' + k * 4 + 1, none⟩ = some (.int .i64 (T k).up) ∧ w'.cell? ⟨b', off' + k * 4 + 2, none⟩ = some (.bool (T k).last) ∧ w'.cell? ⟨b', off' + k * 4 + 3, none⟩ = some (.slice fa' (T k).fields.length fc'))) (go_keep)
             ((go_at_call 51; refine (eqType_same fa fa' fc fc' lo hi lo' hi' (T k) wr.drew (HM.out k hlt) C4.out D4.out (Nat.le_trans hh s1) (Nat.le_trans hh' s1)).mono ?_; rintro e w1 ⟨rfl, hb1⟩; have e1 : ∀ o, w1.cell? ⟨b, o, none⟩ = wr.cell? ⟨b, o, none⟩ := fun o => hb1.cell (Nat.lt_of_lt_of_le g2 (Nat.le_trans hh s1)); have e2 : ∀ o, w1.cell? ⟨b', o, none⟩ = wr.cell? ⟨b', o, none⟩ := fun o => hb1.cell (Nat.lt_of_lt_of_le g4 (Nat.le_trans hh' s1))))
           go_wp2_with fail
           exact ⟨⟨k + 1, by omega, by go_num, hb.drew.trans (hb1.mono s1)⟩, by simp [intOf]; omega⟩)
      · go_wp2_with fail
        go_ret
        exact ⟨rfl, hb⟩

theorem eqTypeS_same (a a' : Option Addr) (cap cap' lo hi lo' hi' : Nat) (ts : List Ty) (w : World) (hn : ts.length ≤ 9223372036854775807) (hm : ∀ i, i < ts.length → (tyAt ts i).fields.length ≤ 9223372036854775807) (hx : TypesIn w lo hi a ts) (hy : TypesIn w lo' hi' a' ts) (hh : hi ≤ w.heap.size) (hh' : hi' ≤ w.heap.size) :
    Calls Tryd.prog 27 #[.slice a ts.length cap, .slice a' ts.length cap'] w fun e w' => e = .returned (.bool true) ∧ Below w.heap.size w w' := by
  refine eqTypeS_core a a' cap cap' ts.length lo hi lo' hi' (tyAt ts) w hm hh hh' ?_ hn
  rcases hx with rfl | ⟨b, off, rfl, h1, h2, h3⟩
  · exact .inl (Nat.le_refl _)
  · rcases hy with rfl | ⟨b', off', rfl, h1', h2', h3'⟩
    · exact .inl (Nat.le_refl _)
    · exact .inr ⟨b, off, b', off', rfl, rfl, h1, h2, h1', h2', h3, h3'⟩

set_option maxHeartbeats 400000 in
theorem eqTypeSS_core (a a' : Option Addr) (cap cap' n lo hi lo' hi' : Nat) (G : Nat → List Ty) (w : World) (hm : ∀ i, i < n → (G i).length ≤ 9223372036854775807 ∧ ∀ j, j < (G i).length → (tyAt (G i) j).fields.length ≤ 9223372036854775807) (hh : hi ≤ w.heap.size) (hh' : hi' ≤ w.heap.size)
    (hx : n ≤ 0 ∨ ∃ b off b' off', a = some ⟨b, off, none⟩ ∧ a' = some ⟨b', off', none⟩ ∧ lo ≤ b ∧ b < hi ∧ lo' ≤ b' ∧ b' < hi' ∧ (∀ i, i < n → GroupAt w lo hi b (off + i) (G i)) ∧ (∀ i, i < n → GroupAt w lo' hi' b' (off' + i) (G i))) (hn : n ≤ 9223372036854775807) :
    Calls Tryd.prog 13 #[.slice a n cap, .slice a' n cap'] w fun e w' => e = .returned (.bool true) ∧ Below w.heap.size w w' := by
  have HM := hide hm
  clear hm
  rcases hx with h0 | ⟨b, off, b', off', rfl, rfl, g1, g2, g3, g4, h3, h4⟩
  all_goals
    go_enter Tryd.func13, Tryd.ntmps13
    go_wp2_with fail
    go_loopw [5] (fun i wr => ∃ k : Nat, k ≤ n ∧ i = .int .i64 k ∧ Below w.heap.size w wr) (fun i wr => n - (intOf i).toNat)
    case atStart => exact ⟨0, Nat.zero_le _, rfl, Below.refl _ _⟩
    case round =>
      obtain ⟨k, hk, rfl, hb⟩ := hrel
      by_cases hlt : k < n
      · first
        | (exfalso; omega)
        | (obtain ⟨fa, fc, c3, c4⟩ := h3 k hlt
           obtain ⟨fa', fc', d3, d4⟩ := h4 k hlt
           have C4 := hide (c4.keep (hb.mono hh))
           have D4 := hide (d4.keep (hb.mono hh'))
           rw [← hb.cell (p := ⟨b, off + k, none⟩) (Nat.lt_of_lt_of_le g2 hh)] at c3
           rw [← hb.cell (p := ⟨b', off' + k, none⟩) (Nat.lt_of_lt_of_le g4 hh')] at d3
           clear h3 h4 c4 d4
           have k1 : (0 : Int) ≤ (k : Int) := by omega
           have k2 : (k : Int) < (n : Int) := by omega
           have s1 := hb.size
           go_wp2_with fail
           go_region_held3 (fun w' => w'.cell? ⟨b, off + k, none⟩ = some (.slice fa (G k).length fc) ∧ w'.cell? ⟨b', off' + k, none⟩ = some (.slice fa' (G k).length fc')) (go_keep)
             ((go_at_call 27; refine (eqTypeS_same fa fa' fc fc' lo hi lo' hi' (G k) wr.drew (HM.out k hlt).1 (HM.out k hlt).2 C4.out D4.out (Nat.le_trans hh s1) (Nat.le_trans hh' s1)).mono ?_; rintro e w1 ⟨rfl, hb1⟩; have e1 : ∀ o, w1.cell? ⟨b, o, none⟩ = wr.cell? ⟨b, o, none⟩ := fun o => hb1.cell (Nat.lt_of_lt_of_le g2 (Nat.le_trans hh s1)); have e2 : ∀ o, w1.cell? ⟨b', o, none⟩ = wr.cell? ⟨b', o, none⟩ := fun o => hb1.cell (Nat.lt_of_lt_of_le g4 (Nat.le_trans hh' s1))))
           go_wp2_with fail
           exact ⟨⟨k + 1, by omega, by go_num, hb.drew.trans (hb1.mono s1)⟩, by simp [intOf]; omega⟩)
      · go_wp2_with fail
        go_ret
        exact ⟨rfl, hb⟩

theorem eqTypeSS_same (a a' : Option Addr) (cap cap' lo hi lo' hi' : Nat) (gs : List (List Ty)) (w : World) (hn : Few gs) (hx : GroupsIn w lo hi a gs) (hy : GroupsIn w lo' hi' a' gs) (hh : hi ≤ w.heap.size) (hh' : hi' ≤ w.heap.size) :
    Calls Tryd.prog 13 #[.slice a gs.length cap, .slice a' gs.length cap'] w fun e w' => e = .returned (.bool true) ∧ Below w.heap.size w w' := by
  refine eqTypeSS_core a a' cap cap' gs.length lo hi lo' hi' (grAt gs) w (fun i hi => ⟨?_, fun j hj => ?_⟩) hh hh' ?_ ?_
  · have := (hn.2 i hi).1; omega
  · have := (hn.2 i hi).2 j hj; omega
  · rcases hx with rfl | ⟨b, off, rfl, h1, h2, h3⟩
    · exact .inl (Nat.le_refl _)
    · rcases hy with rfl | ⟨b', off', rfl, h1', h2', h3'⟩
      · exact .inl (Nat.le_refl _)
      · exact .inr ⟨b, off, b', off', rfl, rfl, h1, h2, h1', h2', h3, h3'⟩
  · have := hn.1; omega
end Go.Proofs.YtlmciclkfmeepaaDoor
