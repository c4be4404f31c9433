/- PcUp: UpTo, InsLeave. -/
import Derived.Test.YtpaneomkphjpcaaGreatDoorPaOne
import Derived.Laws.StructEq
namespace Go.Proofs.YtpaneomkphjpcaaGreatDoor
open Go.ChangeShapes Go.WideShapes Go.ChangeAt Go.RowKit Go.Joins Go.Deep
set_option linter.unusedVariables false
def upTo (P:Nat→Bool):Nat→Bool
 | 0=>true
 | n+1=>upTo P n&&P n
theorem upTo_false {P:Nat→Bool} {k n:Nat} (h:k<n) (hk:P k=false):upTo P n=false:=by
 induction n with
 | zero=>omega
 | succ n ih =>
  by_cases e:k=n
  ·subst e;simp[upTo,hk]
  ·simp[upTo,ih (by omega)]
theorem upTo_step {P:Nat→Bool} {k:Nat} (h:upTo P k=true) (hk:P k=true):upTo P (k+1)=true:=by simp[upTo,h,hk]
theorem quiet_at {P:Program} {f:FuncId} {args:Array Value} {w:World} {q m:Nat} {v:Value} (h:Calls P f args (w.drewN (q+m)) fun e w'=>e=.returned v∧∃j,w'=(w.drewN (q+m)).drewN j):Calls P f args (w.drewN (q+m)) fun e w'=>e=.returned v∧∃j,w'=w.drewN (q+j) :=
 h.mono fun _ _ ⟨he,j,hj⟩=>⟨he,m+j,by rw[hj,World.drewN_drewN,Nat.add_assoc]⟩
end Go.Proofs.YtpaneomkphjpcaaGreatDoor
namespace Go.Proofs.YtpaneomkphjpcaaGreatDoor
open Go.ChangeShapes Go.WideShapes Go.ChangeAt Go.RowKit
set_option linter.unusedVariables false
set_option maxHeartbeats 400000 in
theorem implInsLeaves_any (op a b:Int) (w:World) :
  Calls Tryz.prog 105 #[.agg #[.int .i64 op,.int .i64 a,.int .i64 b]] w fun e w'=>e=.returned (.bool (decide (op=25∨op=28∨op=29)))∧Below w.heap.size w w':=by
 go_enter Tryz.func105,Tryz.ntmps105
 go_wp2
 all_goals go_ret
 all_goals refine⟨ret_bool ?_,(Below.refl _ _).alloc (Nat.le_refl _) _⟩
 all_goals (rw[Bool.eq_iff_iff];simp_all)
set_option maxHeartbeats 400000 in
theorem specInsLeaves_any (op a b:Int) (w:World) :
  Calls Tryz.prog 64 #[.agg #[.int .i64 op,.int .i64 a,.int .i64 b]] w fun e w'=>e=.returned (.bool (decide (op=25∨op=28∨op=29)))∧Below w.heap.size w w':=by
 go_enter Tryz.func64,Tryz.ntmps64
 go_wp2
 all_goals go_ret
 all_goals refine⟨ret_bool ?_,(Below.refl _ _).alloc (Nat.le_refl _) _⟩
 all_goals (rw[Bool.eq_iff_iff];simp_all)
end Go.Proofs.YtpaneomkphjpcaaGreatDoor
