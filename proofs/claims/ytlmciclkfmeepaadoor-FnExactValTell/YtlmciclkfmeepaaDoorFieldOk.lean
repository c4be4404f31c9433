/- FieldOk, and the copy that a law makes of a field. -/
import Derived.Test.YtlmciclkfmeepaaDoorFieldOk0
namespace Go.Proofs.YtlmciclkfmeepaaDoor
open Go.ChangeShapes Go.WideShapes Go.ChangeAt Go.RowKit

set_option maxHeartbeats 400000 in
theorem toField_any (k o : Int) (m : Bool) (w : World) :
    Calls Tryd.prog 11 #[.agg #[.int .i64 k, .int .i64 o, .bool m]] w fun e w' => e = .returned (.agg #[.int .i64 k, .int .i64 o, .bool m]) ∧ Below w.heap.size w w' := by
  go_enter Tryd.func11, Tryd.ntmps11
  go_wp2
  refine bodyPost_ret (v := .agg #[.int .i64 k, .int .i64 o, .bool m]) (by simp [results, Tryd.results11, go_sem]) rfl ⟨rfl, ?_⟩
  repeat (first | exact Below.refl _ _ | refine Below.alloc ?_ (by simp <;> omega) _)
end Go.Proofs.YtlmciclkfmeepaaDoor
