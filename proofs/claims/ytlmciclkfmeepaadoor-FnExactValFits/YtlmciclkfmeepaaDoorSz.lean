/- szFieldS, szType, szTypeS, szTypeSS: what is left is told only if there are few enough of all. -/
import Derived.Test.YtlmciclkfmeepaaDoorTo
namespace Go.Proofs.YtlmciclkfmeepaaDoor
open Go.ChangeShapes Go.WideShapes Go.ChangeAt Go.RowKit
set_option linter.unusedVariables false

set_option maxHeartbeats 400000 in
theorem szFieldS_any (a : Option Addr) (n cap : Nat) (left : Int) (w : World) (hn : n ≤ 9223372036854775807) (h0 : 0 ≤ left) (h1 : left ≤ 1048576) :
    Calls Tryd.prog 56 #[.slice a n cap, .int .i64 left] w fun e w' => ∃ r : Int, e = .returned (.int .i64 r) ∧ -1 ≤ r ∧ r ≤ left ∧ (0 ≤ r → n ≤ 1048576) ∧ w' = w := by
  by_cases hlt : left - (n : Int) < 0
  · go_enter Tryd.func56, Tryd.ntmps56
    go_wp2_with fail
    go_ret
    exact ⟨-1, rfl, by omega, by omega, by omega, rfl⟩
  · go_enter Tryd.func56, Tryd.ntmps56
    go_wp2_with fail
    go_ret
    exact ⟨left - n, rfl, by omega, by omega, by omega, rfl⟩

set_option maxHeartbeats 400000 in
theorem szType_any (k u : Int) (l : Bool) (a : Option Addr) (n cap : Nat) (left : Int) (w : World) (hn : n ≤ 9223372036854775807) (h0 : 0 ≤ left) (h1 : left ≤ 1048576) :
    Calls Tryd.prog 34 #[.agg #[.int .i64 k, .int .i64 u, .bool l, .slice a n cap], .int .i64 left] w fun e w' => ∃ r : Int, e = .returned (.int .i64 r) ∧ -1 ≤ r ∧ r ≤ left ∧ (0 ≤ r → n ≤ 1048576) ∧ Below w.heap.size w w' := by
  go_enter Tryd.func34, Tryd.ntmps34
  go_wp2_with fail
  refine (szFieldS_any _ _ _ _ _ hn h0 h1).mono ?_
  rintro e w1 ⟨r, rfl, r1, r2, r3, rfl⟩
  have R3 := hide r3
  clear r3
  by_cases hr : r < 0
  · go_wp2_with fail
    go_ret
    exact ⟨-1, rfl, by omega, by omega, by omega, (Below.refl _ _).alloc (Nat.le_refl _) _⟩
  · go_wp2_with fail
    go_ret
    exact ⟨r, rfl, by omega, by omega, R3.out, (Below.refl _ _).alloc (Nat.le_refl _) _⟩

set_option maxHeartbeats 400000 in
theorem szTypeS_core (a : Option Addr) (cap n lo hi : Nat) (T : Nat → Ty) (left : Int) (w : World) (hn : n ≤ 9223372036854775807) (hm : ∀ i, i < n → (T i).fields.length ≤ 9223372036854775807) (hh : hi ≤ w.heap.size) (l0 : 0 ≤ left) (l1 : left ≤ 1048576)
    (hx : n ≤ 0 ∨ ∃ b off, a = some ⟨b, off, none⟩ ∧ lo ≤ b ∧ b < hi ∧ ∀ i, i < n → TypeAt w lo hi b (off + i * 4) (T i)) :
    Calls Tryd.prog 17 #[.slice a n cap, .int .i64 left] w fun e w' => ∃ r : Int, e = .returned (.int .i64 r) ∧ -1 ≤ r ∧ r ≤ left ∧ (0 ≤ r → n ≤ 1048576 ∧ ∀ i, i < n → (T i).fields.length ≤ 1048576) ∧ Below w.heap.size w w' := by
  have HM := hide hm
  clear hm
  by_cases hlt : left - (n : Int) < 0
  · go_enter Tryd.func17, Tryd.ntmps17
    go_wp2_with fail
    go_ret
    exact ⟨-1, rfl, by omega, by omega, by omega, Below.refl _ _⟩
  rcases hx with h0 | ⟨b, off, rfl, h1, h2, h3⟩
  all_goals
    go_enter Tryd.func17, Tryd.ntmps17
    go_wp2_with fail
    go_loopw [1, 5] (fun l i wr => ∃ (k : Nat) (r : Int), k ≤ n ∧ i = .int .i64 k ∧ l = .int .i64 r ∧ 0 ≤ r ∧ r ≤ left ∧ (∀ j, j < k → (T j).fields.length ≤ 1048576) ∧ Below w.heap.size w wr) (fun l i wr => n - (intOf i).toNat)
    case atStart => exact ⟨0, left - n, Nat.zero_le _, rfl, rfl, by omega, by omega, fun j hj => absurd hj (Nat.not_lt_zero _), Below.refl _ _⟩
    case round =>
      obtain ⟨k, r, hk, rfl, rfl, r0, r1, hF, hb⟩ := hrel
      have HF := hide hF
      clear hF
      by_cases hkn : k < n
      · first
        | (exfalso; omega)
        | (obtain ⟨c0, c1, c2, fa, fc, c3, c4⟩ := (h3 k hkn).keep (hb.mono hh) h1 h2
           clear h3 c4
           go_wp2_with fail
           refine (szType_any _ _ _ _ _ _ _ _ (HM.out k hkn) r0 (by omega)).mono ?_
           rintro e w1 ⟨r', rfl, s0, s1, s2, hb1⟩
           have S2 := hide s2
           clear s2
           by_cases hr : r' < 0
           · go_wp2_with fail
             go_ret
             exact ⟨-1, rfl, by omega, by omega, by omega, hb.trans (hb1.mono hb.size)⟩
           · go_wp2_with fail
             refine ⟨⟨k + 1, r', by omega, by go_num, rfl, by omega, by omega, fun j hj => ?_, hb.trans (hb1.mono hb.size)⟩, by simp [intOf]; omega⟩
             by_cases e : j = k
             · subst e; exact S2.out (by omega)
             · exact HF.out j (by omega))
      · have hkn' : Hid (k = n) := Nat.le_antisymm hk (Nat.le_of_not_lt hkn)
        go_wp2_with fail
        go_ret
        exact ⟨r, rfl, by omega, by omega, fun _ => ⟨by omega, hkn'.out ▸ HF.out⟩, hb⟩

/-- No list is longer than a machine can count. -/
def Lens (gs : List (List Ty)) : Prop := gs.length ≤ 9223372036854775807 ∧ ∀ i, i < gs.length → (grAt gs i).length ≤ 9223372036854775807 ∧ ∀ j, j < (grAt gs i).length → (tyAt (grAt gs i) j).fields.length ≤ 9223372036854775807

set_option maxHeartbeats 400000 in
theorem szTypeSS_core (a : Option Addr) (cap n lo hi : Nat) (G : Nat → List Ty) (left : Int) (w : World) (hn : n ≤ 9223372036854775807)
    (hm : ∀ i, i < n → (G i).length ≤ 9223372036854775807 ∧ ∀ j, j < (G i).length → (tyAt (G i) j).fields.length ≤ 9223372036854775807) (hh : hi ≤ w.heap.size) (l0 : 0 ≤ left) (l1 : left ≤ 1048576)
    (hx : n ≤ 0 ∨ ∃ b off, a = some ⟨b, off, none⟩ ∧ lo ≤ b ∧ b < hi ∧ ∀ i, i < n → GroupAt w lo hi b (off + i) (G i)) :
    Calls Tryd.prog 5 #[.slice a n cap, .int .i64 left] w fun e w' => ∃ r : Int, e = .returned (.int .i64 r) ∧ -1 ≤ r ∧ r ≤ left ∧ (0 ≤ r → n ≤ 1048576 ∧ ∀ i, i < n → (G i).length ≤ 1048576 ∧ ∀ j, j < (G i).length → (tyAt (G i) j).fields.length ≤ 1048576) ∧ Below w.heap.size w w' := by
  have HM := hide hm
  clear hm
  by_cases hlt : left - (n : Int) < 0
  · go_enter Tryd.func5, Tryd.ntmps5
    go_wp2_with fail
    go_ret
    exact ⟨-1, rfl, by omega, by omega, by omega, Below.refl _ _⟩
  rcases hx with h0 | ⟨b, off, rfl, h1, h2, h3⟩
  all_goals
    go_enter Tryd.func5, Tryd.ntmps5
    go_wp2_with fail
    go_loopw [1, 5] (fun l i wr => ∃ (k : Nat) (r : Int), k ≤ n ∧ i = .int .i64 k ∧ l = .int .i64 r ∧ 0 ≤ r ∧ r ≤ left ∧ (∀ j, j < k → (G j).length ≤ 1048576 ∧ ∀ i, i < (G j).length → (tyAt (G j) i).fields.length ≤ 1048576) ∧ Below w.heap.size w wr) (fun l i wr => n - (intOf i).toNat)
    case atStart => exact ⟨0, left - n, Nat.zero_le _, rfl, rfl, by omega, by omega, fun j hj => absurd hj (Nat.not_lt_zero _), Below.refl _ _⟩
    case round =>
      obtain ⟨k, r, hk, rfl, rfl, r0, r1, hF, hb⟩ := hrel
      have HF := hide hF
      clear hF
      by_cases hkn : k < n
      · first
        | (exfalso; omega)
        | (obtain ⟨ta, tc, c3, c4⟩ := h3 k hkn
           rw [← hb.cell (p := ⟨b, off + k, none⟩) (by show b < _; omega)] at c3
           have C4 := hide (c4.keep (hb.mono hh))
           clear h3 c4
           go_wp2_with fail
           refine (szTypeS_core ta tc (G k).length lo hi (tyAt (G k)) r _ (HM.out k hkn).1 (HM.out k hkn).2 ?_ r0 (by omega) ?_).mono ?_
           · have := hb.size; omega
           · rcases C4.out with h | ⟨b', off', q1, q2, q3, q4⟩
             · exact .inl (by rw [h]; exact Nat.le_refl _)
             · exact .inr ⟨b', off', q1, q2, q3, q4⟩
           rintro e w1 ⟨r', rfl, s0, s1, s2, hb1⟩
           have S2 := hide s2
           clear s2
           by_cases hr : r' < 0
           · go_wp2_with fail
             go_ret
             exact ⟨-1, rfl, by omega, by omega, by omega, hb.trans (hb1.mono hb.size)⟩
           · go_wp2_with fail
             refine ⟨⟨k + 1, r', by omega, by go_num, rfl, by omega, by omega, fun j hj => ?_, hb.trans (hb1.mono hb.size)⟩, by simp [intOf]; omega⟩
             by_cases e : j = k
             · subst e; exact S2.out (by omega)
             · exact HF.out j (by omega))
      · have hkn' : Hid (k = n) := Nat.le_antisymm hk (Nat.le_of_not_lt hkn)
        go_wp2_with fail
        go_ret
        exact ⟨r, rfl, by omega, by omega, fun _ => ⟨by omega, hkn'.out ▸ HF.out⟩, hb⟩

theorem szTypeSS_any (a : Option Addr) (cap lo hi : Nat) (gs : List (List Ty)) (left : Int) (w : World) (hl : Lens gs) (hx : GroupsIn w lo hi a gs) (hh : hi ≤ w.heap.size) (l0 : 0 ≤ left) (l1 : left ≤ 1048576) :
    Calls Tryd.prog 5 #[.slice a gs.length cap, .int .i64 left] w fun e w' => ∃ r : Int, e = .returned (.int .i64 r) ∧ -1 ≤ r ∧ r ≤ left ∧ (0 ≤ r → Few gs) ∧ Below w.heap.size w w' := by
  refine szTypeSS_core a cap gs.length lo hi (grAt gs) left w hl.1 hl.2 hh l0 l1 ?_
  rcases hx with rfl | ⟨b, off, rfl, h1, h2, h3⟩
  · exact .inl (Nat.le_refl _)
  · exact .inr ⟨b, off, rfl, h1, h2, h3⟩
end Go.Proofs.YtlmciclkfmeepaaDoor
