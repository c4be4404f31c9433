/- What FieldOk of the program and of the model answers, for every field and number; and toField's copy of a field. -/
import Derived.Test.YtblliefejffhoaaGreatDoorBase
namespace Go.Proofs.YtblliefejffhoaaGreatDoor
open Go.ChangeShapes Go.WideShapes Go.ChangeAt Go.RowKit
set_option linter.unusedVariables false

/-- FieldOk, plainly. -/
def fieldOk (k o n : Int) : Bool :=
  if k = 1 then decide (o = 0) else if k = 2 ∨ k = 3 then decide (o = -1 ∨ o = -2 ∨ (0 ≤ o ∧ o < n)) else false

set_option maxHeartbeats 400000 in
theorem specFieldOk_any (k o n : Int) (m : Bool) (w : World) :
    Calls Tryz.prog 92 #[.agg #[.int .i64 k, .int .i64 o, .bool m], .int .i64 n] w fun e w' => e = .returned (.bool (fieldOk k o n)) ∧ Below w.heap.size w w' := by
  go_enter Tryz.func92, Tryz.ntmps92
  go_wp2
  all_goals go_ret
  all_goals refine ⟨ret_bool ?_, (Below.refl _ _).alloc (Nat.le_refl _) _⟩
  all_goals (rw [Bool.eq_iff_iff]; simp_all [fieldOk] <;> omega)

set_option maxHeartbeats 400000 in
theorem implFieldOk_any (k o n : Int) (m : Bool) (w : World) :
    Calls Tryz.prog 88 #[.agg #[.int .i64 k, .int .i64 o, .bool m], .int .i64 n] w fun e w' => e = .returned (.bool (fieldOk k o n)) ∧ Below w.heap.size w w' := by
  go_enter Tryz.func88, Tryz.ntmps88
  go_wp2
  all_goals go_ret
  all_goals refine ⟨ret_bool ?_, (Below.refl _ _).alloc (Nat.le_refl _) _⟩
  all_goals (rw [Bool.eq_iff_iff]; simp_all [fieldOk] <;> omega)
end Go.Proofs.YtblliefejffhoaaGreatDoor
