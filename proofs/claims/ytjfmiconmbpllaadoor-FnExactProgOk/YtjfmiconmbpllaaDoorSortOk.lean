/- What SortOk of the program and of the model answers, for every field and number; and FnExactSortOk walked. -/
import Derived.Test.YtjfmiconmbpllaaDoorFieldOk0
namespace Go.Proofs.YtjfmiconmbpllaaDoor
open Go.ChangeShapes Go.WideShapes Go.ChangeAt Go.RowKit
set_option linter.unusedVariables false

/-- SortOk, plainly. -/
def sortOk (k o n : Int) (m : Bool) : Bool := fieldOk k o n && !m

set_option maxHeartbeats 400000 in
theorem specSortOk_any (k o n : Int) (m : Bool) (w : World) :
    Calls Tryd.prog 31 #[.agg #[.int .i64 k, .int .i64 o, .bool m], .int .i64 n] w fun e w' => e = .returned (.bool (sortOk k o n m)) ∧ Below w.heap.size w w' := by
  cases m
  · go_enter Tryd.func31, Tryd.ntmps31
    go_wp2_with fail
    refine (specFieldOk_any _ _ _ _ _).mono ?_
    rintro e w1 ⟨rfl, hb1⟩
    go_wp2_with fail
    go_ret
    exact ⟨ret_bool (by simp [sortOk]), ((Below.refl _ _).alloc (Nat.le_refl _) _).trans (hb1.mono (by simp))⟩
  · go_enter Tryd.func31, Tryd.ntmps31
    go_wp2_with fail
    go_ret
    exact ⟨ret_bool (by simp [sortOk]), (Below.refl _ _).alloc (Nat.le_refl _) _⟩

set_option maxHeartbeats 400000 in
theorem implSortOk_any (k o n : Int) (m : Bool) (w : World) :
    Calls Tryd.prog 39 #[.agg #[.int .i64 k, .int .i64 o, .bool m], .int .i64 n] w fun e w' => e = .returned (.bool (sortOk k o n m)) ∧ Below w.heap.size w w' := by
  go_enter Tryd.func39, Tryd.ntmps39
  go_wp2_with fail
  refine (implFieldOk_any _ _ _ _ _).mono ?_
  rintro e w1 ⟨rfl, hb1⟩
  obtain ⟨hc1, hf1⟩ := bcell hb1
  have c2 := hc1 w.heap.size 2 (by simp)
  simp at c2
  clear hc1 hf1
  have hb : Below w.heap.size w w1 := ((Below.refl _ _).alloc (Nat.le_refl _) _).trans (hb1.mono (by simp))
  cases hk : fieldOk k o n
  · go_wp2_with fail
    go_ret
    exact ⟨ret_bool (by simp [sortOk, hk]), hb⟩
  · go_wp2_with fail
    go_ret
    exact ⟨ret_bool (by simp [sortOk, hk]), hb⟩
end Go.Proofs.YtjfmiconmbpllaaDoor
