/- Values and words: WordOf and WordVal of the program and of the model, plainly; and the laws' copy of a value. -/
import Derived.Test.YtogdkabmhhbelaaGenRoot
namespace Go.Proofs.Ytogdkabmhhbelaa
open Go.ChangeShapes Go.WideShapes Go.ChangeAt Go.RowKit
set_option linter.unusedVariables false

/-- A value that is written right, so many things being there. -/
def valForm (k n t : Int) : Bool :=
  if k = 1 ∨ k = 3 then decide (0 ≤ n ∧ n < 9973) else if k = 2 then decide (n = 0) else if k = 4 then decide (0 ≤ n ∧ n < t) else false
/-- WordOf, plainly. -/
def wordOf (k n : Int) : Int :=
  if k = 1 ∧ 0 ≤ n ∧ n < 9973 then n else if k = 3 ∧ 0 ≤ n ∧ n < 9973 then 2 * n + 1 else if k = 4 ∧ 0 ≤ n ∧ n < 160 then 2 * n + 2 else 0

set_option maxHeartbeats 400000 in
theorem l5Number_any (n : Int) (w : World) :
    Calls Try.prog 45 #[.int .i64 n] w fun e w' => e = .returned (.bool (decide (0 ≤ n ∧ n < 9973))) ∧ w' = w := by
  go_enter Try.func45, Try.ntmps45
  go_wp2
  all_goals go_ret
  all_goals refine ⟨ret_bool ?_, rfl⟩
  all_goals (rw [Bool.eq_iff_iff]; simp_all <;> omega)

set_option maxHeartbeats 400000 in
theorem l5Form_any (k n t : Int) (w : World) :
    Calls Try.prog 43 #[.agg #[.int .i64 k, .int .i64 n], .int .i64 t] w fun e w' => e = .returned (.bool (valForm k n t)) ∧ Below w.heap.size w w' := by
  go_enter Try.func43, Try.ntmps43
  go_wp2_with (go_at_call 45; refine (l5Number_any _ _).mono ?_; rintro e w' ⟨rfl, rfl⟩)
  all_goals go_ret
  all_goals refine ⟨ret_bool ?_, (Below.refl _ _).alloc (Nat.le_refl _) _⟩
  all_goals (rw [Bool.eq_iff_iff]; simp_all [valForm] <;> omega)

theorem l7Many_any (w : World) : Calls Try.prog 44 #[] w fun e w' => e = .returned (.int .i64 160) ∧ w' = w := by
  go_enter Try.func44, Try.ntmps44
  go_wp2
  go_ret
  exact ⟨rfl, rfl⟩

set_option maxHeartbeats 400000 in
theorem implWordOf_any (k n : Int) (w : World) :
    Calls Try.prog 10 #[.agg #[.int .i64 k, .int .i64 n]] w fun e w' => e = .returned (.int .i64 (wordOf k n)) ∧ Below w.heap.size w w' := by
  go_enter Try.func10, Try.ntmps10
  go_wp2
  all_goals go_ret
  all_goals refine ⟨ret_int ?_, (Below.refl _ _).alloc (Nat.le_refl _) _⟩
  all_goals (simp_all [wordOf] <;> omega)
end Go.Proofs.Ytogdkabmhhbelaa
