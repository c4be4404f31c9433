/- FnExactProgSame: for any two programs ProgSame of the program answers as ProgSame of the model does, and changes none. -/
import Derived.Test.YtgmjdneejkebhaaProgSame6
import Derived.Test.YtgmjdneejkebhaaGenOpen
import Derived.Deep.RegionWith
import Derived.Deep.RegionHeld3
namespace Go.Proofs.Ytgmjdneejkebhaa.fnExactProgSame
open Go.ChangeShapes Go.WideShapes Go.ChangeAt Go.RowKit Go.Joins Go.Deep
set_option linter.unusedVariables false

/-- A program as it lies, three lists. -/
def PM (md : Bool) (w : World) (lo hi : Nat) (a0 a1 a2 : Option Addr) (x : GProg) : Prop := GroupsM md w lo hi a0 x.types ∧ FieldsM md w lo hi a1 x.glob ∧ FunsM md w lo hi a2 x.funs
theorem PM.keep {md : Bool} {w w' : World} {lo hi : Nat} {a0 a1 a2 : Option Addr} {x : GProg} (h : PM md w lo hi a0 a1 a2 x) (hb : Below hi w w') : PM md w' lo hi a0 a1 a2 x := ⟨h.1.keep hb, h.2.1.keep hb, h.2.2.keep hb⟩

set_option maxHeartbeats 1600000 in
theorem walk (a0 a1 a2 b0 b1 b2 : Option Addr) (c0 c1 c2 d0 d1 d2 : Nat) (x y : GProg) (w : World) (hlx : ProgB 9223372036854775807 x) (hly : ProgB 9223372036854775807 y) (hx : PM false w 0 w.heap.size a0 a1 a2 x) (hy : PM false w 0 w.heap.size b0 b1 b2 y) :
    Calls Try.prog 5 #[.agg #[.slice a0 x.types.length c0, .slice a1 x.glob.length c1, .slice a2 x.funs.length c2], .agg #[.slice b0 y.types.length d0, .slice b1 y.glob.length d1, .slice b2 y.funs.length d2]] w fun e w' => e = .returned (.bool true) ∧ Below w.heap.size w w' := by
  have HLX := hide hlx
  have HLY := hide hly
  have HX := hide hx
  have HY := hide hy
  clear hlx hly hx hy
  go_enter Try.func5, Try.ntmps5
  -- calls
  go_wp2_with fail
  refine (szProg_any a0 a1 a2 c0 c1 c2 0 w.heap.size x 1048576 _ HLX.out (HX.out.1.keep (by (repeat (first | refine Below.al ?_ (Nat.le_refl _) _ | exact Below.refl _ _)))) (HX.out.2.1.keep (by (repeat (first | refine Below.al ?_ (Nat.le_refl _) _ | exact Below.refl _ _)))) (HX.out.2.2.keep (by (repeat (first | refine Below.al ?_ (Nat.le_refl _) _ | exact Below.refl _ _)))) (by go_size) (by omega) (by omega)).mono ?_
  rintro e w0 ⟨r0, rfl, s0, t0, u0, hb0⟩
  have U0 := hide u0
  clear u0
  have B0 : Hid (Below w.heap.size w w0) := Below.trans (by (repeat (first | refine Below.al ?_ (Nat.le_refl _) _ | exact Below.refl _ _))) (hb0.mono (by go_size))
  have P0 : Hid (Rec w0 w.heap.size 36 [.slice a0 x.types.length c0, .slice a1 x.glob.length c1, .slice a2 x.funs.length c2]) := ((Rec.new' _ _ _ _ rfl).alloc _).below hb0 (by go_size)
  have R0 : Hid (Rec w0 (w.heap.size + 1) 36 [.slice b0 y.types.length d0, .slice b1 y.glob.length d1, .slice b2 y.funs.length d2]) := (Rec.new' _ _ _ _ (by simp)).below hb0 (by go_size)
  have p0_0 := P0.out.cell (o := 0) rfl
  have r0_0 := R0.out.cell (o := 0) rfl
  have p1_0 := P0.out.cell (o := 1) rfl
  have r1_0 := R0.out.cell (o := 1) rfl
  have p2_0 := P0.out.cell (o := 2) rfl
  have r2_0 := R0.out.cell (o := 2) rfl
  clear hb0
  by_cases hr0 : r0 < 0
  · go_wp2_with fail
    go_ret
    exact ⟨rfl, B0.out⟩
  have FX : Hid (ProgB 1048576 x) := U0.out (by omega)
  clear U0
  go_wp2_with fail
  refine (szProg_any b0 b1 b2 d0 d1 d2 0 w.heap.size y r0 _ HLY.out (HY.out.1.keep B0.out) (HY.out.2.1.keep B0.out) (HY.out.2.2.keep B0.out) B0.out.size (by omega) (by omega)).mono ?_
  rintro e w1 ⟨r1, rfl, s1, t1, u1, hb1⟩
  have U1 := hide u1
  clear u1
  have B1 : Hid (Below w.heap.size w w1) := B0.out.trans (hb1.mono B0.out.size)
  have P1 : Hid (Rec w1 w.heap.size 36 [.slice a0 x.types.length c0, .slice a1 x.glob.length c1, .slice a2 x.funs.length c2]) := P0.out.below hb1 P0.out.lt
  have R1 : Hid (Rec w1 (w.heap.size + 1) 36 [.slice b0 y.types.length d0, .slice b1 y.glob.length d1, .slice b2 y.funs.length d2]) := R0.out.below hb1 R0.out.lt
  clear p0_0 r0_0 p1_0 r1_0 p2_0 r2_0
  have p0_1 := P1.out.cell (o := 0) rfl
  have r0_1 := R1.out.cell (o := 0) rfl
  have p1_1 := P1.out.cell (o := 1) rfl
  have r1_1 := R1.out.cell (o := 1) rfl
  have p2_1 := P1.out.cell (o := 2) rfl
  have r2_1 := R1.out.cell (o := 2) rfl
  clear hb1
  by_cases hr1 : r1 < 0
  · go_wp2_with fail
    go_ret
    exact ⟨rfl, B1.out⟩
  have FY : Hid (ProgB 1048576 y) := U1.out (by omega)
  clear U1
  go_wp2_with fail
  have CX : Hid (∀ W, Below w1.heap.size w1 W → Calls Try.prog 13 #[.agg #[.slice a0 x.types.length c0, .slice a1 x.glob.length c1, .slice a2 x.funs.length c2]] W fun e w' => ∃ n0 n1 n2, e = .returned (.agg #[.slice n0 x.types.length x.types.length, .slice n1 x.glob.length x.glob.length, .slice n2 x.funs.length x.funs.length]) ∧ PM true w' w1.heap.size w'.heap.size n0 n1 n2 x ∧ Below w1.heap.size w1 w' ∧ Below W.heap.size W w') := fun W hW => by
    refine (toProg_any a0 c0 a1 c1 a2 c2 0 w.heap.size x W FX.out (HX.out.1.keep (B1.out.trans (hW.mono B1.out.size))) (HX.out.2.1.keep (B1.out.trans (hW.mono B1.out.size))) (HX.out.2.2.keep (B1.out.trans (hW.mono B1.out.size))) (Nat.le_trans B1.out.size hW.size)).mono ?_
    rintro e w' ⟨n0, n1, n2, rfl, q0, q1, q2, hb⟩
    exact ⟨n0, n1, n2, rfl, ⟨q0.wide hW.size (Nat.le_refl _), q1.wide hW.size (Nat.le_refl _), q2.wide hW.size (Nat.le_refl _)⟩, hW.trans (hb.mono hW.size), hb⟩
  have CY : Hid (∀ W, Below w1.heap.size w1 W → Calls Try.prog 13 #[.agg #[.slice b0 y.types.length d0, .slice b1 y.glob.length d1, .slice b2 y.funs.length d2]] W fun e w' => ∃ n0 n1 n2, e = .returned (.agg #[.slice n0 y.types.length y.types.length, .slice n1 y.glob.length y.glob.length, .slice n2 y.funs.length y.funs.length]) ∧ PM true w' w1.heap.size w'.heap.size n0 n1 n2 y ∧ Below w1.heap.size w1 w' ∧ Below W.heap.size W w') := fun W hW => by
    refine (toProg_any b0 d0 b1 d1 b2 d2 0 w.heap.size y W FY.out (HY.out.1.keep (B1.out.trans (hW.mono B1.out.size))) (HY.out.2.1.keep (B1.out.trans (hW.mono B1.out.size))) (HY.out.2.2.keep (B1.out.trans (hW.mono B1.out.size))) (Nat.le_trans B1.out.size hW.size)).mono ?_
    rintro e w' ⟨n0, n1, n2, rfl, q0, q1, q2, hb⟩
    exact ⟨n0, n1, n2, rfl, ⟨q0.wide hW.size (Nat.le_refl _), q1.wide hW.size (Nat.le_refl _), q2.wide hW.size (Nat.le_refl _)⟩, hW.trans (hb.mono hW.size), hb⟩
  have CS : Hid (∀ W lo hi lo' hi' k0 k1 k2 l0 l1 l2, Below w1.heap.size w1 W → PM true W lo hi k0 k1 k2 x → PM true W lo' hi' l0 l1 l2 y → hi ≤ W.heap.size → hi' ≤ W.heap.size → Calls Try.prog 12 #[.agg #[.slice k0 x.types.length x.types.length, .slice k1 x.glob.length x.glob.length, .slice k2 x.funs.length x.funs.length], .agg #[.slice l0 y.types.length y.types.length, .slice l1 y.glob.length y.glob.length, .slice l2 y.funs.length y.funs.length]] W fun e w' => e = .returned (.bool (progSame x y)) ∧ Below w1.heap.size w1 w') := fun W lo hi lo' hi' k0 k1 k2 l0 l1 l2 hW hk hl h1 h2 => by
    refine (specProgSame_any k0 k1 k2 l0 l1 l2 _ _ _ _ _ _ lo hi lo' hi' x y W FX.out FY.out hk.1 hk.2.1 hk.2.2 hl.1 hl.2.1 hl.2.2 h1 h2).mono ?_
    rintro e w' ⟨rfl, hb⟩
    exact ⟨rfl, hW.trans (hb.mono hW.size)⟩
  go_region_with (first
    | (go_at_call_of 13 (Value.slice a0 x.types.length c0); refine (CX.out _ ?_).mono ?_; (first | exact (Below.refl _ _).drew | exact bY | exact bY.drew | exact Below.refl _ _); rintro e wX ⟨x0, x1, x2, rfl, pX, bX, tX⟩; have pX0 := (P1.out.below bX P1.out.lt).cell (o := 0) rfl; have pX1 := (P1.out.below bX P1.out.lt).cell (o := 1) rfl; have pX2 := (P1.out.below bX P1.out.lt).cell (o := 2) rfl; have rX0 := (R1.out.below bX R1.out.lt).cell (o := 0) rfl; have rX1 := (R1.out.below bX R1.out.lt).cell (o := 1) rfl; have rX2 := (R1.out.below bX R1.out.lt).cell (o := 2) rfl)
    | (go_at_call_of 13 (Value.slice b0 y.types.length d0); refine (CY.out _ ?_).mono ?_; (first | exact (Below.refl _ _).drew | exact bX | exact bX.drew | exact Below.refl _ _); rintro e wY ⟨y0, y1, y2, rfl, pY, bY, tY⟩; have pY0 := (P1.out.below bY P1.out.lt).cell (o := 0) rfl; have pY1 := (P1.out.below bY P1.out.lt).cell (o := 1) rfl; have pY2 := (P1.out.below bY P1.out.lt).cell (o := 2) rfl; have rY0 := (R1.out.below bY R1.out.lt).cell (o := 0) rfl; have rY1 := (R1.out.below bY R1.out.lt).cell (o := 1) rfl; have rY2 := (R1.out.below bY R1.out.lt).cell (o := 2) rfl)
    | (go_at_call 12; first
        | (refine (CS.out _ _ _ _ _ x0 x1 x2 y0 y1 y2 bY (pX.keep tY) pY tY.size (Nat.le_refl _)).mono ?_; rintro e w2 ⟨rfl, bS⟩)
        | (refine (CS.out _ _ _ _ _ x0 x1 x2 y0 y1 y2 bX pX (pY.keep tX) (Nat.le_refl _) tX.size).mono ?_; rintro e w2 ⟨rfl, bS⟩)))
  all_goals
    have B2 : Hid (Below w.heap.size w w2) := B1.out.trans (bS.mono B1.out.size)
    have P2 : Hid (Rec w2 w.heap.size 36 [.slice a0 x.types.length c0, .slice a1 x.glob.length c1, .slice a2 x.funs.length c2]) := P1.out.below bS P1.out.lt
    have R2 : Hid (Rec w2 (w.heap.size + 1) 36 [.slice b0 y.types.length d0, .slice b1 y.glob.length d1, .slice b2 y.funs.length d2]) := R1.out.below bS R1.out.lt
    clear pX bX tX pY bY tY bS CX CY CS pX0 pX1 pX2 pY0 pY1 pY2 rX0 rX1 rX2 rY0 rY1 rY2 p0_1 r0_1 p1_1 r1_1 p2_1 r2_1
    have p0_2 := P2.out.cell (o := 0) rfl
    have r0_2 := R2.out.cell (o := 0) rfl
    have p1_2 := P2.out.cell (o := 1) rfl
    have r1_2 := R2.out.cell (o := 1) rfl
    have p2_2 := P2.out.cell (o := 2) rfl
    have r2_2 := R2.out.cell (o := 2) rfl
    go_wp2_with fail
    refine (toProg_any a0 c0 a1 c1 a2 c2 0 w.heap.size x _ FX.out (HX.out.1.keep B2.out) (HX.out.2.1.keep B2.out) (HX.out.2.2.keep B2.out) B2.out.size).mono ?_
    rintro e w3 ⟨k0, k1, k2, rfl, q0, q1, q2, hb3⟩
    have K : Hid (PM true w3 w2.heap.size w3.heap.size k0 k1 k2 x) := ⟨q0, q1, q2⟩
    clear q0 q1 q2
    have B3 : Hid (Below w.heap.size w w3) := B2.out.trans (hb3.mono B2.out.size)
    have P3 : Hid (Rec w3 w.heap.size 36 [.slice a0 x.types.length c0, .slice a1 x.glob.length c1, .slice a2 x.funs.length c2]) := P2.out.below hb3 P2.out.lt
    have R3 : Hid (Rec w3 (w.heap.size + 1) 36 [.slice b0 y.types.length d0, .slice b1 y.glob.length d1, .slice b2 y.funs.length d2]) := R2.out.below hb3 R2.out.lt
    clear p0_2 r0_2 p1_2 r1_2 p2_2 r2_2
    have p0_3 := P3.out.cell (o := 0) rfl
    have r0_3 := R3.out.cell (o := 0) rfl
    have p1_3 := P3.out.cell (o := 1) rfl
    have r1_3 := R3.out.cell (o := 1) rfl
    have p2_3 := P3.out.cell (o := 2) rfl
    have r2_3 := R3.out.cell (o := 2) rfl
    clear hb3
    have y1 : w.heap.size < w3.heap.size := P3.out.lt
    have y2 : w.heap.size + 1 < w3.heap.size := R3.out.lt
    go_wp2_with fail
    refine (toProg_any b0 d0 b1 d1 b2 d2 0 w.heap.size y _ FY.out (HY.out.1.keep (Below.al B3.out (Nat.le_refl _) _)) (HY.out.2.1.keep (Below.al B3.out (Nat.le_refl _) _)) (HY.out.2.2.keep (Below.al B3.out (Nat.le_refl _) _)) (Nat.le_trans B3.out.size (by go_size))).mono ?_
    rintro e w4 ⟨l0, l1, l2, rfl, q0, q1, q2, hb4⟩
    have U4 : Hid (Below w3.heap.size w3 w4) := Below.trans (Below.al (Below.refl _ _) (Nat.le_refl _) _) (hb4.mono (by go_size))
    have L4 : Hid (PM true w4 w3.heap.size w4.heap.size l0 l1 l2 y) := ⟨q0.wide (by go_size) (Nat.le_refl _), q1.wide (by go_size) (Nat.le_refl _), q2.wide (by go_size) (Nat.le_refl _)⟩
    have K4 : Hid (PM true w4 w2.heap.size w3.heap.size k0 k1 k2 x) := K.out.keep U4.out
    have X4 : Hid (Rec w4 w3.heap.size 43 [.slice k0 x.types.length x.types.length, .slice k1 x.glob.length x.glob.length, .slice k2 x.funs.length x.funs.length]) := (Rec.new' _ _ _ _ rfl).below hb4 (by go_size)
    have B4 : Hid (Below w.heap.size w w4) := B3.out.trans (U4.out.mono B3.out.size)
    have P4 : Hid (Rec w4 w.heap.size 36 [.slice a0 x.types.length c0, .slice a1 x.glob.length c1, .slice a2 x.funs.length c2]) := P3.out.below U4.out P3.out.lt
    have R4 : Hid (Rec w4 (w.heap.size + 1) 36 [.slice b0 y.types.length d0, .slice b1 y.glob.length d1, .slice b2 y.funs.length d2]) := R3.out.below U4.out R3.out.lt
    clear q0 q1 q2 hb4 p0_3 p1_3 p2_3 r0_3 r1_3 r2_3 y1 y2
    have y1 : w.heap.size < w4.heap.size := P4.out.lt
    have y2 : w.heap.size + 1 < w4.heap.size := R4.out.lt
    have y3 : w3.heap.size < w4.heap.size := X4.out.lt
    have x0_4 := X4.out.cell (o := 0) rfl
    have p0_4 := P4.out.cell (o := 0) rfl
    have r0_4 := R4.out.cell (o := 0) rfl
    have x1_4 := X4.out.cell (o := 1) rfl
    have p1_4 := P4.out.cell (o := 1) rfl
    have r1_4 := R4.out.cell (o := 1) rfl
    have x2_4 := X4.out.cell (o := 2) rfl
    have p2_4 := P4.out.cell (o := 2) rfl
    have r2_4 := R4.out.cell (o := 2) rfl
    go_wp2_with fail
    refine (implProgSame_any k0 k1 k2 l0 l1 l2 _ _ _ _ _ _ w2.heap.size w3.heap.size w3.heap.size w4.heap.size x y _ FX.out FY.out (K4.out.1.keep (Below.al (Below.refl _ _) (Nat.le_of_lt y3) _)) (K4.out.2.1.keep (Below.al (Below.refl _ _) (Nat.le_of_lt y3) _)) (K4.out.2.2.keep (Below.al (Below.refl _ _) (Nat.le_of_lt y3) _)) (L4.out.1.keep (Below.al (Below.refl _ _) (Nat.le_refl _) _)) (L4.out.2.1.keep (Below.al (Below.refl _ _) (Nat.le_refl _) _)) (L4.out.2.2.keep (Below.al (Below.refl _ _) (Nat.le_refl _) _)) (by go_size) (by go_size)).mono ?_
    rintro e w5 ⟨rfl, hb5⟩
    have U5 : Hid (Below w4.heap.size w4 w5) := Below.trans (Below.al (Below.refl _ _) (Nat.le_refl _) _) (hb5.mono (by go_size))
    have Y5 : Hid (Rec w5 w4.heap.size 43 [.slice l0 y.types.length y.types.length, .slice l1 y.glob.length y.glob.length, .slice l2 y.funs.length y.funs.length]) := (Rec.new' _ _ _ _ rfl).below hb5 (by go_size)
    have X5 : Hid (Rec w5 w3.heap.size 43 [.slice k0 x.types.length x.types.length, .slice k1 x.glob.length x.glob.length, .slice k2 x.funs.length x.funs.length]) := X4.out.below U5.out X4.out.lt
    have K5 : Hid (PM true w5 w2.heap.size w3.heap.size k0 k1 k2 x) := K4.out.keep (U5.out.mono (Nat.le_of_lt y3))
    have L5 : Hid (PM true w5 w3.heap.size w4.heap.size l0 l1 l2 y) := L4.out.keep U5.out
    have B5 : Hid (Below w.heap.size w w5) := B4.out.trans (U5.out.mono B4.out.size)
    have P5 : Hid (Rec w5 w.heap.size 36 [.slice a0 x.types.length c0, .slice a1 x.glob.length c1, .slice a2 x.funs.length c2]) := P4.out.below U5.out P4.out.lt
    have R5 : Hid (Rec w5 (w.heap.size + 1) 36 [.slice b0 y.types.length d0, .slice b1 y.glob.length d1, .slice b2 y.funs.length d2]) := R4.out.below U5.out R4.out.lt
    have y4 : w4.heap.size < w5.heap.size := Y5.out.lt
    clear hb5 x0_4 x1_4 x2_4 p0_4 p1_4 p2_4 r0_4 r1_4 r2_4
    have x0_5 := X5.out.cell (o := 0) rfl
    have x1_5 := X5.out.cell (o := 1) rfl
    have x2_5 := X5.out.cell (o := 2) rfl
    have y0_5 := Y5.out.cell (o := 0) rfl
    have y1_5 := Y5.out.cell (o := 1) rfl
    have y2_5 := Y5.out.cell (o := 2) rfl
    have p0_5 := P5.out.cell (o := 0) rfl
    have p1_5 := P5.out.cell (o := 1) rfl
    have p2_5 := P5.out.cell (o := 2) rfl
    have r0_5 := R5.out.cell (o := 0) rfl
    have r1_5 := R5.out.cell (o := 1) rfl
    have r2_5 := R5.out.cell (o := 2) rfl
    go_wp2_with fail
    have C5 : Hid (∀ W, Below w5.heap.size w5 W → Calls Try.prog 13 #[.agg #[.slice a0 x.types.length c0, .slice a1 x.glob.length c1, .slice a2 x.funs.length c2]] W fun e w' => ∃ n0 n1 n2, e = .returned (.agg #[.slice n0 x.types.length x.types.length, .slice n1 x.glob.length x.glob.length, .slice n2 x.funs.length x.funs.length]) ∧ PM true w' w5.heap.size w'.heap.size n0 n1 n2 x ∧ Below w5.heap.size w5 w') := fun W hW => by
      refine (toProg_any a0 c0 a1 c1 a2 c2 0 w.heap.size x W FX.out (HX.out.1.keep (B5.out.trans (hW.mono B5.out.size))) (HX.out.2.1.keep (B5.out.trans (hW.mono B5.out.size))) (HX.out.2.2.keep (B5.out.trans (hW.mono B5.out.size))) (Nat.le_trans B5.out.size hW.size)).mono ?_
      rintro e w' ⟨n0, n1, n2, rfl, q0, q1, q2, hb⟩
      exact ⟨n0, n1, n2, rfl, ⟨q0.wide hW.size (Nat.le_refl _), q1.wide hW.size (Nat.le_refl _), q2.wide hW.size (Nat.le_refl _)⟩, hW.trans (hb.mono hW.size)⟩
    have E5 : Hid (∀ W n0 n1 n2, Below w5.heap.size w5 W → PM true W w5.heap.size W.heap.size n0 n1 n2 x → Calls Try.prog 15 #[.agg #[.slice k0 x.types.length x.types.length, .slice k1 x.glob.length x.glob.length, .slice k2 x.funs.length x.funs.length], .agg #[.slice n0 x.types.length x.types.length, .slice n1 x.glob.length x.glob.length, .slice n2 x.funs.length x.funs.length]] W fun e w' => e = .returned (.bool true) ∧ Below w5.heap.size w5 w') := fun W n0 n1 n2 hW hm => by
      have hk := K5.out.keep (hW.mono (Nat.le_of_lt (Nat.lt_trans y3 y4)))
      refine (eqProg_g k0 n0 k1 n1 k2 n2 _ _ _ _ _ _ w2.heap.size w3.heap.size w5.heap.size W.heap.size x W FX.out hk.1 hk.2.1 hk.2.2 hm.1 hm.2.1 hm.2.2 (Nat.le_trans (Nat.le_of_lt (Nat.lt_trans y3 y4)) hW.size) (Nat.le_refl _)).mono ?_
      rintro e w' ⟨rfl, hb⟩
      exact ⟨rfl, hW.trans (hb.mono hW.size)⟩
    go_region_held3 (fun w' => (w'.cell? ⟨w.heap.size, 0, none⟩ = some (.slice a0 x.types.length c0) ∧ w'.cell? ⟨w.heap.size, 1, none⟩ = some (.slice a1 x.glob.length c1) ∧ w'.cell? ⟨w.heap.size, 2, none⟩ = some (.slice a2 x.funs.length c2)) ∧ (w'.cell? ⟨w3.heap.size, 0, none⟩ = some (.slice k0 x.types.length x.types.length) ∧ w'.cell? ⟨w3.heap.size, 1, none⟩ = some (.slice k1 x.glob.length x.glob.length) ∧ w'.cell? ⟨w3.heap.size, 2, none⟩ = some (.slice k2 x.funs.length x.funs.length)) ∧ Below w5.heap.size w5 w') (first | (refine ⟨⟨?_, ?_, ?_⟩, ⟨?_, ?_, ?_⟩, ?_⟩ <;> first | assumption | exact (Below.refl _ _).drew | exact Below.refl _ _))
      ((first | (go_at_call 13; refine (C5.out _ ?_).mono ?_; (first | assumption | exact (Below.refl _ _).drew | exact Below.refl _ _); rintro e v1 ⟨m0, m1, m2, rfl, pm, bv1⟩; have pv10 := (P5.out.below bv1 P5.out.lt).cell (o := 0) rfl; have pv11 := (P5.out.below bv1 P5.out.lt).cell (o := 1) rfl; have pv12 := (P5.out.below bv1 P5.out.lt).cell (o := 2) rfl; have ov10 := (X5.out.below bv1 X5.out.lt).cell (o := 0) rfl; have ov11 := (X5.out.below bv1 X5.out.lt).cell (o := 1) rfl; have ov12 := (X5.out.below bv1 X5.out.lt).cell (o := 2) rfl) | (go_at_call 15; refine (E5.out _ m0 m1 m2 ?_ ?_).mono ?_; assumption; assumption; rintro e w6 ⟨rfl, bv2⟩; have pv20 := (P5.out.below bv2 P5.out.lt).cell (o := 0) rfl; have pv21 := (P5.out.below bv2 P5.out.lt).cell (o := 1) rfl; have pv22 := (P5.out.below bv2 P5.out.lt).cell (o := 2) rfl; have ov20 := (X5.out.below bv2 X5.out.lt).cell (o := 0) rfl; have ov21 := (X5.out.below bv2 X5.out.lt).cell (o := 1) rfl; have ov22 := (X5.out.below bv2 X5.out.lt).cell (o := 2) rfl)))
    have y5 : w5.heap.size ≤ w6.heap.size := bv2.size
    have Y6 : Hid (Rec w6 w4.heap.size 43 [.slice l0 y.types.length y.types.length, .slice l1 y.glob.length y.glob.length, .slice l2 y.funs.length y.funs.length]) := Y5.out.below bv2 Y5.out.lt
    have L6 : Hid (PM true w6 w3.heap.size w4.heap.size l0 l1 l2 y) := L5.out.keep (bv2.mono (Nat.le_of_lt y4))
    have B6 : Hid (Below w.heap.size w w6) := B5.out.trans (bv2.mono B5.out.size)
    have R6 : Hid (Rec w6 (w.heap.size + 1) 36 [.slice b0 y.types.length d0, .slice b1 y.glob.length d1, .slice b2 y.funs.length d2]) := R5.out.below bv2 R5.out.lt
    clear bv1 bv2 pm C5 E5 pv10 pv11 pv12 pv20 pv21 pv22 ov10 ov11 ov12 ov20 ov21 ov22 x0_5 x1_5 x2_5 y0_5 y1_5 y2_5 p0_5 p1_5 p2_5 r0_5 r1_5 r2_5
    have y0_6 := Y6.out.cell (o := 0) rfl
    have y1_6 := Y6.out.cell (o := 1) rfl
    have y2_6 := Y6.out.cell (o := 2) rfl
    have r0_6 := R6.out.cell (o := 0) rfl
    have r1_6 := R6.out.cell (o := 1) rfl
    have r2_6 := R6.out.cell (o := 2) rfl
    go_wp2_with fail
    have C6 : Hid (∀ W, Below w6.heap.size w6 W → Calls Try.prog 13 #[.agg #[.slice b0 y.types.length d0, .slice b1 y.glob.length d1, .slice b2 y.funs.length d2]] W fun e w' => ∃ n0 n1 n2, e = .returned (.agg #[.slice n0 y.types.length y.types.length, .slice n1 y.glob.length y.glob.length, .slice n2 y.funs.length y.funs.length]) ∧ PM true w' w6.heap.size w'.heap.size n0 n1 n2 y ∧ Below w6.heap.size w6 w') := fun W hW => by
      refine (toProg_any b0 d0 b1 d1 b2 d2 0 w.heap.size y W FY.out (HY.out.1.keep (B6.out.trans (hW.mono B6.out.size))) (HY.out.2.1.keep (B6.out.trans (hW.mono B6.out.size))) (HY.out.2.2.keep (B6.out.trans (hW.mono B6.out.size))) (Nat.le_trans B6.out.size hW.size)).mono ?_
      rintro e w' ⟨n0, n1, n2, rfl, q0, q1, q2, hb⟩
      exact ⟨n0, n1, n2, rfl, ⟨q0.wide hW.size (Nat.le_refl _), q1.wide hW.size (Nat.le_refl _), q2.wide hW.size (Nat.le_refl _)⟩, hW.trans (hb.mono hW.size)⟩
    have E6 : Hid (∀ W n0 n1 n2, Below w6.heap.size w6 W → PM true W w6.heap.size W.heap.size n0 n1 n2 y → Calls Try.prog 15 #[.agg #[.slice l0 y.types.length y.types.length, .slice l1 y.glob.length y.glob.length, .slice l2 y.funs.length y.funs.length], .agg #[.slice n0 y.types.length y.types.length, .slice n1 y.glob.length y.glob.length, .slice n2 y.funs.length y.funs.length]] W fun e w' => e = .returned (.bool true) ∧ Below w6.heap.size w6 w') := fun W n0 n1 n2 hW hm => by
      have hk := L6.out.keep (hW.mono (Nat.le_trans (Nat.le_of_lt y4) y5))
      refine (eqProg_g l0 n0 l1 n1 l2 n2 _ _ _ _ _ _ w3.heap.size w4.heap.size w6.heap.size W.heap.size y W FY.out hk.1 hk.2.1 hk.2.2 hm.1 hm.2.1 hm.2.2 (Nat.le_trans (Nat.le_trans (Nat.le_of_lt y4) y5) hW.size) (Nat.le_refl _)).mono ?_
      rintro e w' ⟨rfl, hb⟩
      exact ⟨rfl, hW.trans (hb.mono hW.size)⟩
    go_region_held3 (fun w' => (w'.cell? ⟨w.heap.size + 1, 0, none⟩ = some (.slice b0 y.types.length d0) ∧ w'.cell? ⟨w.heap.size + 1, 1, none⟩ = some (.slice b1 y.glob.length d1) ∧ w'.cell? ⟨w.heap.size + 1, 2, none⟩ = some (.slice b2 y.funs.length d2)) ∧ (w'.cell? ⟨w4.heap.size, 0, none⟩ = some (.slice l0 y.types.length y.types.length) ∧ w'.cell? ⟨w4.heap.size, 1, none⟩ = some (.slice l1 y.glob.length y.glob.length) ∧ w'.cell? ⟨w4.heap.size, 2, none⟩ = some (.slice l2 y.funs.length y.funs.length)) ∧ Below w6.heap.size w6 w') (first | (refine ⟨⟨?_, ?_, ?_⟩, ⟨?_, ?_, ?_⟩, ?_⟩ <;> first | assumption | exact (Below.refl _ _).drew | exact Below.refl _ _))
      ((first | (go_at_call 13; refine (C6.out _ ?_).mono ?_; (first | assumption | exact (Below.refl _ _).drew | exact Below.refl _ _); rintro e v1 ⟨m0, m1, m2, rfl, pm, bv1⟩; have pv10 := (R6.out.below bv1 R6.out.lt).cell (o := 0) rfl; have pv11 := (R6.out.below bv1 R6.out.lt).cell (o := 1) rfl; have pv12 := (R6.out.below bv1 R6.out.lt).cell (o := 2) rfl; have ov10 := (Y6.out.below bv1 Y6.out.lt).cell (o := 0) rfl; have ov11 := (Y6.out.below bv1 Y6.out.lt).cell (o := 1) rfl; have ov12 := (Y6.out.below bv1 Y6.out.lt).cell (o := 2) rfl) | (go_at_call 15; refine (E6.out _ m0 m1 m2 ?_ ?_).mono ?_; assumption; assumption; rintro e w7 ⟨rfl, bv2⟩; have pv20 := (R6.out.below bv2 R6.out.lt).cell (o := 0) rfl; have pv21 := (R6.out.below bv2 R6.out.lt).cell (o := 1) rfl; have pv22 := (R6.out.below bv2 R6.out.lt).cell (o := 2) rfl; have ov20 := (Y6.out.below bv2 Y6.out.lt).cell (o := 0) rfl; have ov21 := (Y6.out.below bv2 Y6.out.lt).cell (o := 1) rfl; have ov22 := (Y6.out.below bv2 Y6.out.lt).cell (o := 2) rfl)))
    go_wp2_with fail
    go_ret
    exact ⟨rfl, B6.out.trans (bv2.mono B6.out.size)⟩
theorem cellsP : Try.prog.cellsOf 36 = 3 := by kernel_rfl

set_option maxRecDepth 100000 in
theorem lifted (os : Os) (started : os.Started) (H : Type) (enc : TypeId × Value → H) :
    ReturnsInHanded {} Try.checked os 5 .any (Rows.fnExactProgSameSpec.pre6 enc Try.prog Try.f5 Rows.fnExactProgSameRow.domain false) (Rows.fnExactProgSameSpec.post enc Try.prog Try.f5 false true false false) := by
  refine returnsInHanded_of_change (C := Try.checked) Try.own started (by kernel_rfl) Try.func5
    (ChangeSpec.witness6 (enc := enc) (C := Try.checked) false ⟨#[], #[.agg #[.slice none 0 0, .slice none 0 0, .slice none 0 0], .agg #[.slice none 0 0, .slice none 0 0, .slice none 0 0]], []⟩ 8 (by kernel_rfl) (by kernel_rfl) (by kernel_rfl) (by kernel_rfl)) ?_
  intro W base args ds gs before hval0 hW hcnd _
  have hval : ∀ (j : Nat) t v, Try.f5.params[j]? = some t → args[j]? = some v → Value.okWide Try.prog W .any base t v := hval0
  have hW' := hW
  obtain ⟨p, q, hA0, hV, rfl, hfz, hnd⟩ := hW
  have hA : DataW.TrodAll enc Try.prog W 0 (fun _ => true) true Try.f5.params.toList args.toList ds p := hA0
  rw [Try.params5] at hA hval
  obtain ⟨v0, vs0, d0, ds0, p0, q0, hargs, rfl, rfl, h0, r0⟩ := trodAll_cons hA
  obtain ⟨v1, vs1, d1, ds1, p1, q1, rfl, rfl, rfl, h1, r1⟩ := trodAll_cons r0
  obtain ⟨rfl, rfl, rfl⟩ := trodAll_nil r1
  obtain rfl : args = #[v0, v1] := by cases args; simp_all
  obtain ⟨rfl, rfl⟩ := trodVars_none hV
  have k0 := h0
  have lt0 : ∀ x ∈ p0, x.block < W.heap.size := by obtain ⟨m, hm⟩ := k0; exact DataW.trod_lt m _ _ _ hm
  obtain ⟨c00, c01, c02, y00, y01, y02, nn0, rfl, rfl, rfl, hy00, hy01, hy02⟩ := open_agg3 Try.underlying36 (by kernel_rfl) cellsP (hval 0 36 v0 rfl rfl) h0
  obtain ⟨ga0, gs0, gc0, rfl, hg0, bg0⟩ := groupsM_open hy00
  obtain ⟨fa0, fs0, fc0, rfl, hf0, bf0⟩ := fieldsM_open hy01
  obtain ⟨ua0, us0, uc0, rfl, hu0, bu0⟩ := funs_open hy02
  have k1 := h1
  have lt1 : ∀ x ∈ p1, x.block < W.heap.size := by obtain ⟨m, hm⟩ := k1; exact DataW.trod_lt m _ _ _ hm
  obtain ⟨c10, c11, c12, y10, y11, y12, nn1, rfl, rfl, rfl, hy10, hy11, hy12⟩ := open_agg3 Try.underlying36 (by kernel_rfl) cellsP (hval 1 36 v1 rfl rfl) h1
  obtain ⟨ga1, gs1, gc1, rfl, hg1, bg1⟩ := groupsM_open hy10
  obtain ⟨fa1, fs1, fc1, rfl, hf1, bf1⟩ := fieldsM_open hy11
  obtain ⟨ua1, us1, uc1, rfl, hu1, bu1⟩ := funs_open hy12
  clear hA0 hval0
  refine (walk ga0 fa0 ua0 ga1 fa1 ua1 gc0 fc0 uc0 gc1 fc1 uc1 ⟨gs0, fs0, us0⟩ ⟨gs1, fs1, us1⟩ W ⟨bg0, bf0, bu0⟩ ⟨bg1, bf1, bu1⟩ ⟨hg0, hf0, hu0⟩ ⟨hg1, hf1, hu1⟩).mono fun e W' ⟨he, bel⟩ => ?_
  subst he
  exact ⟨_, rfl, _, _, _, [], _, [], hW', trodAll_mk1 (shut_bool Try.underlying4 _), (trodAll_cons_mk (Below.trod Try.laidOut (by kernel_rfl) (of_decide_eq_true (by kernel_rfl)) k0 bel lt0) (trodAll_cons_mk (Below.trod Try.laidOut (by kernel_rfl) (of_decide_eq_true (by kernel_rfl)) k1 bel lt1) trodAll_mk0)), rfl, bel.frame _, fun h => by cases h⟩

theorem over : Rows.fnExactProgSameRow.holds Try.pinned (OpenSpec.ofChange Rows.fnExactProgSameSpec) :=
  OpenClaim.holds_of_wide 5 Try.f5 rfl rfl rfl rfl rfl rfl rfl ⟨rfl, rfl, rfl, rfl, rfl⟩ rfl rfl rfl rfl rfl (by kernel_rfl) Try.func5 (by kernel_rfl)
    (of_decide_eq_true (by kernel_rfl)) (by unfold Func.isWrapper; first | (rw [if_pos (by decide +kernel)]; kernel_rfl) | (rw [if_neg (by decide +kernel)]; exact ⟨rfl, rfl⟩))
    (fun os started H enc _ => lifted os started H enc)
end Go.Proofs.Ytgmjdneejkebhaa.fnExactProgSame
namespace Go.Proofs.Ytgmjdneejkebhaa
theorem fnExactProgSame_holds : Rows.FnExactProgSameSaid := fnExactProgSame.over
end Go.Proofs.Ytgmjdneejkebhaa
