/- The law FnExactKinUnder, walked. -/
import Derived.Test.YtpkfihliconenaaDoorKinO
import Derived.Test.YtpkfihliconenaaDoorSz
import Derived.Test.YtpkfihliconenaaDoorEq
import Derived.Test.YtpkfihliconenaaDoorOpen
namespace Go.Proofs.YtpkfihliconenaaDoor
open Go.ChangeShapes Go.WideShapes Go.ChangeAt Go.RowKit
set_option linter.unusedVariables false

set_option maxHeartbeats 800000 in
theorem fnExactKinUnder_walk (a : Option Addr) (cap : Nat) (gs : List (List Ty)) (p : Int) (wp : (Lit.int .i64 p).wf = true) (q : Int) (wq : (Lit.int .i64 q).wf = true) (w : World) (hl : Lens gs) (hx : GroupsIn w 0 w.heap.size a gs) (hp : pow10 w) :
    Calls Tryd.prog 5 #[.slice a gs.length cap, .int .i64 p, .int .i64 q] w fun e w' => e = .returned (.bool true) ∧ Below w.heap.size w w' := by
  have HX := hide hx
  have HP := hide hp
  have HLn := hide hl
  clear hx hp hl
  go_enter Tryd.func5, Tryd.ntmps5
  go_wp2_with fail
  refine (szTypeSS_any a cap 0 w.heap.size gs 1048576 w HLn.out HX.out (Nat.le_refl _) (by omega) (by omega)).mono ?_
  rintro e w0 ⟨r, rfl, r1, r2, r3, hb0⟩
  have B0 := hide hb0
  clear hb0
  by_cases hr : r < 0
  · clear r3
    go_wp2_with fail
    go_ret
    exact ⟨rfl, B0.out⟩
  have hf := hide (r3 (by omega))
  clear r3
  go_wp2_with fail
  refine (toTypeSS_any a cap 0 w.heap.size gs _ hf.out (HX.out.keep B0.out) B0.out.size).mono ?_
  rintro e w1 ⟨n1, rfl, hx1, hb1⟩
  have X1 := hide hx1
  have S1 := hide hb1.size
  have B1 := hide (B0.out.trans (hb1.mono B0.out.size))
  clear hx1 hb1
  go_wp2_with fail
  refine (specKinUnder_any n1 gs.length w0.heap.size w1.heap.size gs p q w1 hf.out (Nat.le_refl _) S1.out (Nat.le_refl _) X1.out.plain).mono ?_
  rintro e w2 ⟨rfl, hb2⟩
  have B2 := hide (B1.out.trans (hb2.mono B1.out.size))
  clear hb2
  go_wp2_with fail
  refine (toTypeSS_any a cap 0 w.heap.size gs _ hf.out (HX.out.keep B2.out) B2.out.size).mono ?_
  rintro e w3 ⟨n3, rfl, hx3, hb3⟩
  have X3 := hide hx3
  have S3 := hide hb3.size
  have B3 := hide (B2.out.trans (hb3.mono B2.out.size))
  clear hx3 hb3
  go_wp2_with fail
  refine (implKinUnder_any n3 gs.length w2.heap.size w3.heap.size gs p q w3 hf.out S3.out (Nat.le_refl _) X3.out.plain (pow10_keep HP.out B3.out)).mono ?_
  rintro e w4 ⟨rfl, hb4⟩
  have X4 := hide (X3.out.keep hb4)
  have S4 := hide hb4.size
  have B4 := hide (B3.out.trans (hb4.mono B3.out.size))
  clear hb4
  go_wp2_with fail
  refine (toTypeSS_any a cap 0 w.heap.size gs _ hf.out (HX.out.keep B4.out) B4.out.size).mono ?_
  rintro e w5 ⟨n5, rfl, hx5, hb5⟩
  have X5 := hide hx5
  have X6 := hide (X4.out.same (.of_below hb5 S4.out) (Nat.le_refl _) (Nat.le_trans S4.out hb5.size))
  have B5 := hide (B4.out.trans (hb5.mono B4.out.size))
  clear hx5 hb5
  go_wp2_with fail
  refine (eqTypeSS_same n3 n5 _ _ _ _ _ _ gs _ hf.out X6.out.plain X5.out.plain (Nat.le_refl _) (Nat.le_refl _)).mono ?_
  rintro e w6 ⟨rfl, hb6⟩
  have B6 := hide (B5.out.trans (hb6.mono B5.out.size))
  clear hb6
  go_wp2_with fail
  go_ret
  exact ⟨rfl, B6.out⟩
end Go.Proofs.YtpkfihliconenaaDoor
