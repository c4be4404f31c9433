/- PcKin: KinN0, KinN1. -/
import Derived.Test.YtpaneomkphjpcaaGreatDoorPaKinC
namespace Go.Proofs.YtpaneomkphjpcaaGreatDoor
open Go.ChangeShapes Go.WideShapes Go.ChangeAt Go.RowKit
set_option linter.unusedVariables false
def isTypeF (gs:List (List Ty)) (a:Int):Bool:=decide (0≤a)&&decide (a<(kinCount gs:Int))
def isRefF (gs:List (List Ty)) (a:Int):Bool:=decide (-2≤a)&&decide (a<(kinCount gs:Int))
set_option maxHeartbeats 400000 in
theorem isType_any (ra ca:Option Addr) (rc cc:Nat) (gs:List (List Ty)) (a:Int) (w:World) (hn:kinCount gs≤1099511627776) :
  Calls Tryz.prog 196 #[.agg #[.slice ra (kinCount gs) rc,.slice ca (kinCount gs) cc],.int .i64 a] w fun e w'=>e=.returned (.bool (isTypeF gs a))∧Below w.heap.size w w':=by
 by_cases h:0≤a
 ·have d:decide (0≤a)=true:=by simpa using h
  go_enter Tryz.func196,Tryz.ntmps196
  go_wp2_with fail
  go_ret
  exact⟨ret_bool (by unfold isTypeF;simp[h]),(Below.refl _ _).alloc (Nat.le_refl _) _⟩
 ·have d:decide (0≤a)=false:=by simpa using h
  go_enter Tryz.func196,Tryz.ntmps196
  go_wp2_with fail
  go_ret
  exact⟨ret_bool (by unfold isTypeF;rw[d];rfl),(Below.refl _ _).alloc (Nat.le_refl _) _⟩
theorem tab_alloc {w:World} {lo hi:Nat} {ra:Option Addr} {cb co:Nat} {gs:List (List Ty)} (h:TabIn w lo hi ra cb co gs) (hh:hi≤w.heap.size) (o:Obj):TabIn (w.alloc o) lo hi ra cb co gs :=
 h.keep (((Below.refl w.heap.size w).alloc (Nat.le_refl _) o).mono hh)
set_option maxHeartbeats 400000 in
theorem isRef_any (ra ca:Option Addr) (rc cc:Nat) (gs:List (List Ty)) (a:Int) (w:World) (hn:kinCount gs≤1099511627776) :
  Calls Tryz.prog 185 #[.agg #[.slice ra (kinCount gs) rc,.slice ca (kinCount gs) cc],.int .i64 a] w fun e w'=>e=.returned (.bool (isRefF gs a))∧Below w.heap.size w w':=by
 by_cases h1:a=-1
 ·subst h1
  go_enter Tryz.func185,Tryz.ntmps185
  go_wp2_with fail
  go_ret
  exact⟨ret_bool (by unfold isRefF;simp;omega),(Below.refl _ _).alloc (Nat.le_refl _) _⟩
 by_cases h2:a=-2
 ·subst h2
  go_enter Tryz.func185,Tryz.ntmps185
  go_wp2_with fail
  go_ret
  exact⟨ret_bool (by unfold isRefF;simp;omega),(Below.refl _ _).alloc (Nat.le_refl _) _⟩
 have n1:(a==-1)=false:=beq_eq_false_iff_ne.2 h1
 have n2:(a==-2)=false:=beq_eq_false_iff_ne.2 h2
 go_enter Tryz.func185,Tryz.ntmps185
 go_wp2_with fail
 refine(isType_any ra ca rc cc gs a _ hn).mono ?_
 rintro e w1 ⟨rfl,hb1⟩
 have B1:=hide (((Below.refl w.heap.size w).alloc (Nat.le_refl _) (.cells #[.slice ra (kinCount gs) rc,.slice ca (kinCount gs) cc] 86)).trans (hb1.mono (by simp)))
 clear hb1
 go_wp2_with fail
 go_ret
 refine⟨ret_bool ?_,B1.out⟩
 unfold isRefF isTypeF
 rw[Bool.eq_iff_iff]
 simp
 omega
end Go.Proofs.YtpaneomkphjpcaaGreatDoor
