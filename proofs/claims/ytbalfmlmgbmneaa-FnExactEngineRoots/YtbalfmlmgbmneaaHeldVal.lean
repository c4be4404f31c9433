/- heldValS of the laws. Written by tools/genmark.py. -/
import Derived.Test.YtbalfmlmgbmneaaMarkVal
namespace Go.Proofs.Ytbalfmlmgbmneaa
open Go.ChangeShapes Go.WideShapes Go.ChangeAt Go.RowKit Go.Joins Go.Deep
set_option linter.unusedVariables false

set_option maxHeartbeats 800000 in
theorem heldValS_m (a : Option Addr) (cap n lo hi : Nat) (k : Int) (w : World) (hn : n ≤ 4398046511104) (k0 : 0 ≤ k) (k1 : k ≤ 4611686018427387904) (hx : MarkedVal w lo hi a n k) :
    Calls Try.prog 12 #[.slice a n cap, .int .i64 k] w fun e w' => e = .returned (.int .i64 (k + 2 * (n : Int))) ∧ Below w.heap.size w w' := by
  rcases hx with h0 | ⟨b, rfl, h1, h2, h3⟩
  · subst h0
    go_enter Try.func12, Try.ntmps12
    go_wp2_with fail
    go_loopw [1, 5] (fun kv i wr => i = .int .i64 0 ∧ kv = .int .i64 k ∧ wr = w) (fun kv i wr => 0)
    case atStart => exact ⟨rfl, rfl, rfl⟩
    case round =>
    obtain ⟨rfl, rfl, rfl⟩ := hrel
    go_wp2_with fail
    go_ret
    exact ⟨ret_int (by simp), Below.refl _ _⟩
  · go_enter Try.func12, Try.ntmps12
    go_wp2_with fail
    go_loopw [1, 5] (fun kv i wr => ∃ j : Nat, j ≤ n ∧ i = .int .i64 j ∧ kv = .int .i64 (k + 2 * (j : Int)) ∧ ∃ q, wr = w.drewN q) (fun kv i wr => n - (intOf i).toNat)
    case atStart => exact ⟨0, Nat.zero_le _, rfl, by simp, 0, rfl⟩
    case round =>
      obtain ⟨j, hj, rfl, rfl, q, rfl⟩ := hrel
      by_cases hlt : j < n
      · obtain ⟨c0, c1⟩ := h3 j hlt
        have g1 : (0 : Int) ≤ (j : Int) := by omega
        have g2 : (j : Int) < (n : Int) := by omega
        clear h3
        go_wp2_with fail
        exact ⟨⟨j + 1, by omega, by go_num, by congr 1; omega, _, rfl⟩, by simp [intOf]; omega⟩
      · have hjn : Hid (j = n) := Nat.le_antisymm hj (Nat.le_of_not_lt hlt)
        go_wp2_with fail
        go_ret
        exact ⟨ret_int (by rw [hjn.out]), below_drewN (Below.refl _ _) _⟩
end Go.Proofs.Ytbalfmlmgbmneaa
