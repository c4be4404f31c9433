/- Whether a value is written right, plainly and of the model. -/
import Derived.Test.YtlmciclkfmeepaaDoorGenRoot
namespace Go.Proofs.YtlmciclkfmeepaaDoor
open Go.ChangeShapes Go.WideShapes Go.ChangeAt Go.RowKit
set_option linter.unusedVariables false

/-- A value that is written right, so many things being there. -/
def valForm (k n t : Int) : Bool :=
  if k = 1 ∨ k = 3 then decide (0 ≤ n ∧ n < 9973) else if k = 2 then decide (n = 0) else if k = 4 then decide (0 ≤ n ∧ n < t) else false

set_option maxHeartbeats 400000 in
theorem l5Number_any (n : Int) (w : World) :
    Calls Tryd.prog 53 #[.int .i64 n] w fun e w' => e = .returned (.bool (decide (0 ≤ n ∧ n < 9973))) ∧ w' = w := by
  go_enter Tryd.func53, Tryd.ntmps53
  go_wp2
  all_goals go_ret
  all_goals refine ⟨ret_bool ?_, rfl⟩
  all_goals (rw [Bool.eq_iff_iff]; simp_all <;> omega)

set_option maxHeartbeats 400000 in
theorem l5Form_any (k n t : Int) (w : World) :
    Calls Tryd.prog 29 #[.agg #[.int .i64 k, .int .i64 n], .int .i64 t] w fun e w' => e = .returned (.bool (valForm k n t)) ∧ Below w.heap.size w w' := by
  go_enter Tryd.func29, Tryd.ntmps29
  go_wp2_with (go_at_call 53; refine (l5Number_any _ _).mono ?_; rintro e w' ⟨rfl, rfl⟩)
  all_goals go_ret
  all_goals refine ⟨ret_bool ?_, (Below.refl _ _).alloc (Nat.le_refl _) _⟩
  all_goals (rw [Bool.eq_iff_iff]; simp_all [valForm] <;> omega)
end Go.Proofs.YtlmciclkfmeepaaDoor
