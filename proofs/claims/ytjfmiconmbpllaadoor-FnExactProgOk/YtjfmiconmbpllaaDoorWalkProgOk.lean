/- The law FnExactProgOk, walked. -/
import Derived.Test.YtjfmiconmbpllaaDoorProgOkD
import Derived.Test.YtjfmiconmbpllaaDoorGenOpen
import Derived.Deep.RegionHeld3
namespace Go.Proofs.YtjfmiconmbpllaaDoor
open Go.ChangeShapes Go.WideShapes Go.ChangeAt Go.RowKit
set_option linter.unusedVariables false

set_option maxHeartbeats 1600000 in
theorem fnExactProgOk_walk (a0 a1 a2 : Option Addr) (c0 c1 c2 : Nat) (x : GProg) (w : World) (hlx : ProgB 9223372036854775807 x) (hx : PM false w 0 w.heap.size a0 a1 a2 x) (hp : pow10 w) :
    Calls Tryd.prog 3 #[.agg #[.slice a0 x.types.length c0, .slice a1 x.glob.length c1, .slice a2 x.funs.length c2]] w fun e w' => e = .returned (.bool true) ∧ Below w.heap.size w w' := by
  have HLX := hide hlx
  have HX := hide hx
  have Hp := hide hp
  have r0 : Rec (w.alloc (.cells #[.slice a0 x.types.length c0, .slice a1 x.glob.length c1, .slice a2 x.funs.length c2] 26)) w.heap.size 26 [.slice a0 x.types.length c0, .slice a1 x.glob.length c1, .slice a2 x.funs.length c2] := Rec.new _ _ _
  have b0 : Below w.heap.size w (w.alloc (.cells #[.slice a0 x.types.length c0, .slice a1 x.glob.length c1, .slice a2 x.funs.length c2] 26)) := (Below.refl _ _).alloc (Nat.le_refl _) _
  have R0 := hide r0
  have B0 := hide b0
  clear hlx hx hp r0 b0
  go_enter Tryd.func3, Tryd.ntmps3
  go_wp2_with fail
  refine (szProg_any a0 a1 a2 c0 c1 c2 0 w.heap.size x 1048576 _ HLX.out (HX.out.1.keep B0.out) (HX.out.2.1.keep B0.out) (HX.out.2.2.keep B0.out) B0.out.size (by omega) (by omega)).mono ?_
  rintro e w1 ⟨r, rfl, s0, t0, u0, hb1⟩
  have U0 := hide u0
  have B1 := hide (B0.out.trans (hb1.mono B0.out.size))
  have R1 := hide (R0.out.below hb1 R0.out.lt)
  clear u0 hb1 R0 B0
  by_cases hr : r < 0
  · go_wp2_with fail
    go_ret
    exact ⟨rfl, B1.out⟩
  have FX : Hid (ProgB 1048576 x) := U0.out (by omega)
  have p0 := R1.out.cell (o := 0) rfl
  have p1 := R1.out.cell (o := 1) rfl
  have p2 := R1.out.cell (o := 2) rfl
  clear U0
  go_wp2_with fail
  refine (toProg_any a0 c0 a1 c1 a2 c2 0 w.heap.size x _ FX.out (HX.out.1.keep B1.out) (HX.out.2.1.keep B1.out) (HX.out.2.2.keep B1.out) B1.out.size).mono ?_
  rintro e w2 ⟨n0, n1, n2, rfl, q0, q1, q2, hb2⟩
  have X2 : Hid (PM true w2 w1.heap.size w2.heap.size n0 n1 n2 x) := ⟨q0, q1, q2⟩
  have S2 := hide hb2.size
  have B2 := hide (B1.out.trans (hb2.mono B1.out.size))
  have R2 := hide (R1.out.below hb2 R1.out.lt)
  clear q0 q1 q2 hb2 B1 R1 p0 p1 p2
  go_wp2_with fail
  refine (specProgOk_any n0 n1 n2 _ _ _ _ _ x w2 FX.out X2.out (Nat.le_refl _) S2.out (Nat.le_refl _)).mono ?_
  rintro e w3 ⟨rfl, hb3⟩
  have B3 := hide (B2.out.trans (hb3.mono B2.out.size))
  have R3 := hide (R2.out.below hb3 R2.out.lt)
  have p0 := R3.out.cell (o := 0) rfl
  have p1 := R3.out.cell (o := 1) rfl
  have p2 := R3.out.cell (o := 2) rfl
  clear hb3 B2 R2 X2 S2
  go_wp2_with fail
  refine (toProg_any a0 c0 a1 c1 a2 c2 0 w.heap.size x _ FX.out (HX.out.1.keep B3.out) (HX.out.2.1.keep B3.out) (HX.out.2.2.keep B3.out) B3.out.size).mono ?_
  rintro e w4 ⟨m0, m1, m2, rfl, q0, q1, q2, hb4⟩
  have X4 : Hid (PM true w4 w3.heap.size w4.heap.size m0 m1 m2 x) := ⟨q0, q1, q2⟩
  have S4 := hide hb4.size
  have B4 := hide (B3.out.trans (hb4.mono B3.out.size))
  have R4 := hide (R3.out.below hb4 R3.out.lt)
  clear q0 q1 q2 hb4 B3 R3 p0 p1 p2
  have A5 := hide ((Below.refl w4.heap.size w4).alloc (Nat.le_refl _) (.cells #[.slice m0 x.types.length x.types.length, .slice m1 x.glob.length x.glob.length, .slice m2 x.funs.length x.funs.length] 33))
  have P5 : Hid (Rec (w4.alloc (.cells #[.slice m0 x.types.length x.types.length, .slice m1 x.glob.length x.glob.length, .slice m2 x.funs.length x.funs.length] 33)) w4.heap.size 33 [.slice m0 x.types.length x.types.length, .slice m1 x.glob.length x.glob.length, .slice m2 x.funs.length x.funs.length]) := Rec.new _ _ _
  have B5 := hide (B4.out.trans (A5.out.mono B4.out.size))
  have R5 := hide (R4.out.below A5.out R4.out.lt)
  have X5 := hide (X4.out.keep A5.out)
  go_wp2_with fail
  refine (implProgOk_any m0 m1 m2 _ _ _ _ _ x _ FX.out X5.out S4.out A5.out.size (pow10_keep Hp.out B5.out)).mono ?_
  rintro e w6 ⟨rfl, hb6⟩
  have B6 := hide (B5.out.trans (hb6.mono B5.out.size))
  have R6 := hide (R5.out.below hb6 R5.out.lt)
  have P6 := hide (P5.out.below hb6 P5.out.lt)
  have X6 := hide (X5.out.keep (hb6.mono A5.out.size))
  have S6 : Hid (w4.heap.size ≤ w6.heap.size) := Nat.le_trans A5.out.size hb6.size
  clear hb6 B5 R5 P5 X5 A5 X4 B4 R4
  have p0 := R6.out.cell (o := 0) rfl
  have p1 := R6.out.cell (o := 1) rfl
  have p2 := R6.out.cell (o := 2) rfl
  have k0 := P6.out.cell (o := 0) rfl
  have k1 := P6.out.cell (o := 1) rfl
  have k2 := P6.out.cell (o := 2) rfl
  have HT : Hid (∀ W, Below w6.heap.size w6 W → Calls Tryd.prog 6 #[.agg #[.slice a0 x.types.length c0, .slice a1 x.glob.length c1, .slice a2 x.funs.length c2]] W fun e w' => ∃ n0 n1 n2, e = .returned (.agg #[.slice n0 x.types.length x.types.length, .slice n1 x.glob.length x.glob.length, .slice n2 x.funs.length x.funs.length]) ∧ PM true w' W.heap.size w'.heap.size n0 n1 n2 x ∧ Below W.heap.size W w') := fun W hW => by
    have hb := B6.out.trans (hW.mono B6.out.size)
    refine (toProg_any a0 c0 a1 c1 a2 c2 0 w.heap.size x W FX.out (HX.out.1.keep hb) (HX.out.2.1.keep hb) (HX.out.2.2.keep hb) hb.size).mono ?_
    rintro e w' ⟨n0, n1, n2, rfl, q0, q1, q2, hb⟩
    exact ⟨n0, n1, n2, rfl, ⟨q0, q1, q2⟩, hb⟩
  generalize progOkF x = R
  go_wp2_with fail
  go_region_held3 (fun w' => (w'.cell? ⟨w.heap.size, 0, none⟩ = some (.slice a0 x.types.length c0) ∧ w'.cell? ⟨w.heap.size, 1, none⟩ = some (.slice a1 x.glob.length c1) ∧ w'.cell? ⟨w.heap.size, 2, none⟩ = some (.slice a2 x.funs.length c2)) ∧ (w'.cell? ⟨w4.heap.size, 0, none⟩ = some (.slice m0 x.types.length x.types.length) ∧ w'.cell? ⟨w4.heap.size, 1, none⟩ = some (.slice m1 x.glob.length x.glob.length) ∧ w'.cell? ⟨w4.heap.size, 2, none⟩ = some (.slice m2 x.funs.length x.funs.length)))
    (go_keep)
    ((first
      | (go_at_call 6; refine (HT.out _ (Below.refl _ _).drew).mono ?_; rintro e w7 ⟨l0, l1, l2, rfl, hx7, hb7⟩; have R7 : Hid (Rec w7 w.heap.size 26 [.slice a0 x.types.length c0, .slice a1 x.glob.length c1, .slice a2 x.funs.length c2]) := Rec.below (w := w6.drew) R6.out hb7 R6.out.lt; have P7 : Hid (Rec w7 w4.heap.size 33 [.slice m0 x.types.length x.types.length, .slice m1 x.glob.length x.glob.length, .slice m2 x.funs.length x.funs.length]) := Rec.below (w := w6.drew) P6.out hb7 P6.out.lt; have B7 := hide (B6.out.drew.trans (hb7.mono B6.out.size)); have X7 := hide hx7; have Y7 := hide (PM.keep (w := w6.drew) X6.out (hb7.mono S6.out)); have S7 : Hid (w4.heap.size ≤ w7.heap.size) := Nat.le_trans S6.out hb7.size; clear hx7 hb7; have p0 := R7.out.cell (o := 0) rfl; have p1 := R7.out.cell (o := 1) rfl; have p2 := R7.out.cell (o := 2) rfl; have k0 := P7.out.cell (o := 0) rfl; have k1 := P7.out.cell (o := 1) rfl; have k2 := P7.out.cell (o := 2) rfl)
      | (go_at_call 8; refine (eqProg_g m0 l0 m1 l1 m2 l2 _ _ _ _ _ _ _ _ _ _ x _ FX.out Y7.out.1 Y7.out.2.1 Y7.out.2.2 X7.out.1 X7.out.2.1 X7.out.2.2 S7.out (Nat.le_refl _)).mono ?_; rintro e w8 ⟨rfl, hb8⟩; have R8 := hide (R7.out.below hb8 R7.out.lt); have P8 := hide (P7.out.below hb8 P7.out.lt); have B8 := hide (B7.out.trans (hb8.mono B7.out.size)); clear hb8; have p0 := R8.out.cell (o := 0) rfl; have p1 := R8.out.cell (o := 1) rfl; have p2 := R8.out.cell (o := 2) rfl; have k0 := P8.out.cell (o := 0) rfl; have k1 := P8.out.cell (o := 1) rfl; have k2 := P8.out.cell (o := 2) rfl)))
  go_wp2_with fail
  go_ret
  exact ⟨rfl, B8.out⟩
end Go.Proofs.YtjfmiconmbpllaaDoor
