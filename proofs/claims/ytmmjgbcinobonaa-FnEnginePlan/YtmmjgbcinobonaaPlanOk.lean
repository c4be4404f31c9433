/- PlanOk of the program and of the model; the laws' copy of a plan. -/
import Derived.Test.YtmmjgbcinobonaaGenRoot
namespace Go.Proofs.Ytmmjgbcinobonaa
open Go.ChangeShapes Go.WideShapes Go.ChangeAt Go.RowKit Go.Deep
set_option linter.unusedVariables false

/-- Whether a plan is right. -/
def planOk (o y i j : Int) : Bool := decide ((1 ≤ o ∧ o ≤ 120) ∧ (0 ≤ y ∧ y ≤ 40) ∧ (0 ≤ i ∧ i ≤ 300) ∧ (0 ≤ j ∧ j ≤ 300))
theorem plan_cases (o y i j : Int) :
    (planOk o y i j = true ∧ 1 ≤ o ∧ o ≤ 120 ∧ 0 ≤ y ∧ y ≤ 40 ∧ 0 ≤ i ∧ i ≤ 300 ∧ 0 ≤ j ∧ j ≤ 300) ∨ (planOk o y i j = false ∧ decide (1 ≤ o) = false) ∨ (planOk o y i j = false ∧ 1 ≤ o ∧ decide (o ≤ 120) = false) ∨ (planOk o y i j = false ∧ 1 ≤ o ∧ o ≤ 120 ∧ decide (0 ≤ y) = false) ∨ (planOk o y i j = false ∧ 1 ≤ o ∧ o ≤ 120 ∧ 0 ≤ y ∧ decide (y ≤ 40) = false) ∨
    (planOk o y i j = false ∧ 1 ≤ o ∧ o ≤ 120 ∧ 0 ≤ y ∧ y ≤ 40 ∧ decide (0 ≤ i) = false) ∨ (planOk o y i j = false ∧ 1 ≤ o ∧ o ≤ 120 ∧ 0 ≤ y ∧ y ≤ 40 ∧ 0 ≤ i ∧ decide (i ≤ 300) = false) ∨ (planOk o y i j = false ∧ 1 ≤ o ∧ o ≤ 120 ∧ 0 ≤ y ∧ y ≤ 40 ∧ 0 ≤ i ∧ i ≤ 300 ∧ decide (0 ≤ j) = false) ∨ (planOk o y i j = false ∧ 1 ≤ o ∧ o ≤ 120 ∧ 0 ≤ y ∧ y ≤ 40 ∧ 0 ≤ i ∧ i ≤ 300 ∧ 0 ≤ j ∧ decide (j ≤ 300) = false) := by
  unfold planOk
  simp only [decide_eq_true_eq, decide_eq_false_iff_not]
  omega

set_option maxHeartbeats 2000000 in
theorem implPlanOk_v (o y i j : Int) {v : Bool} (hv : planOk o y i j = v) (w : World) :
    Calls Try.prog 6 #[.agg #[.int .i64 o, .int .i64 y, .int .i64 i, .int .i64 j]] w fun e w' => e = .returned (.bool v) ∧ Below w.heap.size w w' := by
  rcases plan_cases o y i j with h | h | h | h | h | h | h | h | h
  · obtain ⟨h0, h1, h2, h3, h4, h5, h6, h7, h8⟩ := h
    obtain rfl : true = v := h0.symm.trans hv
    clear h0 hv
    go_enter Try.func6, Try.ntmps6
    go_wp2_with fail
    go_ret
    exact ⟨rfl, (Below.refl _ _).alloc (Nat.le_refl _) _⟩
  all_goals
    obtain ⟨h0, h⟩ := h
    obtain rfl : false = v := h0.symm.trans hv
    clear h0 hv
    repeat' (obtain ⟨_, h⟩ := h)
    go_enter Try.func6, Try.ntmps6
    go_wp2_with fail
    go_ret
    exact ⟨rfl, (Below.refl _ _).alloc (Nat.le_refl _) _⟩
set_option maxHeartbeats 2000000 in
theorem specPlanOk_v (o y i j : Int) {v : Bool} (hv : planOk o y i j = v) (w : World) :
    Calls Try.prog 7 #[.agg #[.int .i64 o, .int .i64 y, .int .i64 i, .int .i64 j]] w fun e w' => e = .returned (.bool v) ∧ Below w.heap.size w w' := by
  rcases plan_cases o y i j with h | h | h | h | h | h | h | h | h
  · obtain ⟨h0, h1, h2, h3, h4, h5, h6, h7, h8⟩ := h
    obtain rfl : true = v := h0.symm.trans hv
    clear h0 hv
    go_enter Try.func7, Try.ntmps7
    go_wp2_with fail
    go_ret
    exact ⟨rfl, (Below.refl _ _).alloc (Nat.le_refl _) _⟩
  all_goals
    obtain ⟨h0, h⟩ := h
    obtain rfl : false = v := h0.symm.trans hv
    clear h0 hv
    repeat' (obtain ⟨_, h⟩ := h)
    go_enter Try.func7, Try.ntmps7
    go_wp2_with fail
    go_ret
    exact ⟨rfl, (Below.refl _ _).alloc (Nat.le_refl _) _⟩
end Go.Proofs.Ytmmjgbcinobonaa
