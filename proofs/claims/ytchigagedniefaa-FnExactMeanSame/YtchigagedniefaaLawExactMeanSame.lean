/- FnExactMeanSame: for any two MeanSame of the program answers as that of the model does, and changes none. Written by tools/lawsame.py. -/
import Derived.Test.YtchigagedniefaaMeanSame5
import Derived.Test.YtchigagedniefaaOpenMean
import Derived.Deep.RegionWith
import Derived.Deep.RegionHeld3
namespace Go.Proofs.Ytchigagedniefaa.fnExactMeanSame
open Go.ChangeShapes Go.WideShapes Go.ChangeAt Go.RowKit Go.Joins Go.Deep
set_option linter.unusedVariables false

/-- As it lies, by its lists. -/
def PM (md : Bool) (w : World) (lo hi : Nat) (a0 a1 a2 a3 : Option Addr) (x : GMean) : Prop := ThingsM md w lo hi a0 x.things ∧ ValsM md w lo hi a1 x.glob ∧ FramesM md w lo hi a2 x.frames ∧ NumsM md w lo hi a3 x.outs
theorem PM.keep {md : Bool} {w w' : World} {lo hi : Nat} {a0 a1 a2 a3 : Option Addr} {x : GMean} (h : PM md w lo hi a0 a1 a2 a3 x) (hb : Below hi w w') : PM md w' lo hi a0 a1 a2 a3 x := ⟨h.1.keep hb, h.2.1.keep hb, h.2.2.1.keep hb, h.2.2.2.keep hb⟩

set_option maxHeartbeats 6400000 in
theorem walk (a0 a1 a2 a3 b0 b1 b2 b3 : Option Addr) (c0 c1 c2 c3 d0 d1 d2 d3 : Nat) (x y : GMean) (w : World) (hlx : MeanB 9223372036854775807 x) (hly : MeanB 9223372036854775807 y) (hx : PM false w 0 w.heap.size a0 a1 a2 a3 x) (hy : PM false w 0 w.heap.size b0 b1 b2 b3 y) :
    Calls Try.prog 3 #[.agg #[.slice a0 x.things.length c0, .slice a1 x.glob.length c1, .slice a2 x.frames.length c2, .slice a3 x.outs.length c3, .int .i64 x.asked, .int .i64 x.code], .agg #[.slice b0 y.things.length d0, .slice b1 y.glob.length d1, .slice b2 y.frames.length d2, .slice b3 y.outs.length d3, .int .i64 y.asked, .int .i64 y.code]] w fun e w' => e = .returned (.bool true) ∧ Below w.heap.size w w' := by
  have HLX := hide hlx
  have HLY := hide hly
  have HX := hide hx
  have HY := hide hy
  clear hlx hly hx hy
  go_enter Try.func3, Try.ntmps3
  go_wp2_with fail
  refine (szMean_any a0 a1 a2 a3 c0 c1 c2 c3 0 w.heap.size x 1048576 _ HLX.out (HX.out.1.keep (by (repeat (first | refine Below.al ?_ (Nat.le_refl _) _ | exact Below.refl _ _)))) (HX.out.2.1.keep (by (repeat (first | refine Below.al ?_ (Nat.le_refl _) _ | exact Below.refl _ _)))) (HX.out.2.2.1.keep (by (repeat (first | refine Below.al ?_ (Nat.le_refl _) _ | exact Below.refl _ _)))) (HX.out.2.2.2.keep (by (repeat (first | refine Below.al ?_ (Nat.le_refl _) _ | exact Below.refl _ _)))) (by go_size) (by omega) (by omega)).mono ?_
  rintro e w0 ⟨r0, rfl, s0, t0, u0, hb0⟩
  have U0 := hide u0
  clear u0
  have B0 : Hid (Below w.heap.size w w0) := Below.trans (by (repeat (first | refine Below.al ?_ (Nat.le_refl _) _ | exact Below.refl _ _))) (hb0.mono (by go_size))
  have P0 : Hid (Rec w0 w.heap.size 27 [.slice a0 x.things.length c0, .slice a1 x.glob.length c1, .slice a2 x.frames.length c2, .slice a3 x.outs.length c3, .int .i64 x.asked, .int .i64 x.code]) := ((Rec.new' _ _ _ _ rfl).alloc _).below hb0 (by go_size)
  have R0 : Hid (Rec w0 (w.heap.size + 1) 27 [.slice b0 y.things.length d0, .slice b1 y.glob.length d1, .slice b2 y.frames.length d2, .slice b3 y.outs.length d3, .int .i64 y.asked, .int .i64 y.code]) := (Rec.new' _ _ _ _ (by simp)).below hb0 (by go_size)
  have p0_0 := P0.out.cell (o := 0) rfl
  have r0_0 := R0.out.cell (o := 0) rfl
  have p1_0 := P0.out.cell (o := 1) rfl
  have r1_0 := R0.out.cell (o := 1) rfl
  have p2_0 := P0.out.cell (o := 2) rfl
  have r2_0 := R0.out.cell (o := 2) rfl
  have p3_0 := P0.out.cell (o := 3) rfl
  have r3_0 := R0.out.cell (o := 3) rfl
  have p4_0 := P0.out.cell (o := 4) rfl
  have r4_0 := R0.out.cell (o := 4) rfl
  have p5_0 := P0.out.cell (o := 5) rfl
  have r5_0 := R0.out.cell (o := 5) rfl
  clear hb0
  by_cases hr0 : r0 < 0
  · go_wp2_with fail
    go_ret
    exact ⟨rfl, B0.out⟩
  have FX : Hid (MeanB 1048576 x) := U0.out (by omega)
  clear U0
  go_wp2_with fail
  refine (szMean_any b0 b1 b2 b3 d0 d1 d2 d3 0 w.heap.size y r0 _ HLY.out (HY.out.1.keep B0.out) (HY.out.2.1.keep B0.out) (HY.out.2.2.1.keep B0.out) (HY.out.2.2.2.keep B0.out) B0.out.size (by omega) (by omega)).mono ?_
  rintro e w1 ⟨r1, rfl, s1, t1, u1, hb1⟩
  have U1 := hide u1
  clear u1
  have B1 : Hid (Below w.heap.size w w1) := B0.out.trans (hb1.mono B0.out.size)
  have P1 : Hid (Rec w1 w.heap.size 27 [.slice a0 x.things.length c0, .slice a1 x.glob.length c1, .slice a2 x.frames.length c2, .slice a3 x.outs.length c3, .int .i64 x.asked, .int .i64 x.code]) := P0.out.below hb1 P0.out.lt
  have R1 : Hid (Rec w1 (w.heap.size + 1) 27 [.slice b0 y.things.length d0, .slice b1 y.glob.length d1, .slice b2 y.frames.length d2, .slice b3 y.outs.length d3, .int .i64 y.asked, .int .i64 y.code]) := R0.out.below hb1 R0.out.lt
  clear p0_0 r0_0 p1_0 r1_0 p2_0 r2_0 p3_0 r3_0 p4_0 r4_0 p5_0 r5_0
  have p0_1 := P1.out.cell (o := 0) rfl
  have r0_1 := R1.out.cell (o := 0) rfl
  have p1_1 := P1.out.cell (o := 1) rfl
  have r1_1 := R1.out.cell (o := 1) rfl
  have p2_1 := P1.out.cell (o := 2) rfl
  have r2_1 := R1.out.cell (o := 2) rfl
  have p3_1 := P1.out.cell (o := 3) rfl
  have r3_1 := R1.out.cell (o := 3) rfl
  have p4_1 := P1.out.cell (o := 4) rfl
  have r4_1 := R1.out.cell (o := 4) rfl
  have p5_1 := P1.out.cell (o := 5) rfl
  have r5_1 := R1.out.cell (o := 5) rfl
  clear hb1
  by_cases hr1 : r1 < 0
  · go_wp2_with fail
    go_ret
    exact ⟨rfl, B1.out⟩
  have FY : Hid (MeanB 1048576 y) := U1.out (by omega)
  clear U1
  go_wp2_with fail
  have CX : Hid (∀ W, Below w1.heap.size w1 W → Calls Try.prog 6 #[.agg #[.slice a0 x.things.length c0, .slice a1 x.glob.length c1, .slice a2 x.frames.length c2, .slice a3 x.outs.length c3, .int .i64 x.asked, .int .i64 x.code]] W fun e w' => ∃ n0 n1 n2 n3, e = .returned (.agg #[.slice n0 x.things.length x.things.length, .slice n1 x.glob.length x.glob.length, .slice n2 x.frames.length x.frames.length, .slice n3 x.outs.length x.outs.length, .int .i64 x.asked, .int .i64 x.code]) ∧ PM true w' w1.heap.size w'.heap.size n0 n1 n2 n3 x ∧ Below w1.heap.size w1 w' ∧ Below W.heap.size W w') := fun W hW => by
    refine (toMean_any a0 c0 a1 c1 a2 c2 a3 c3 0 w.heap.size x W FX.out (HX.out.1.keep (B1.out.trans (hW.mono B1.out.size))) (HX.out.2.1.keep (B1.out.trans (hW.mono B1.out.size))) (HX.out.2.2.1.keep (B1.out.trans (hW.mono B1.out.size))) (HX.out.2.2.2.keep (B1.out.trans (hW.mono B1.out.size))) (Nat.le_trans B1.out.size hW.size)).mono ?_
    rintro e w' ⟨n0, n1, n2, n3, rfl, q0, q1, q2, q3, hb⟩
    exact ⟨n0, n1, n2, n3, rfl, ⟨q0.wide hW.size (Nat.le_refl _), q1.wide hW.size (Nat.le_refl _), q2.wide hW.size (Nat.le_refl _), q3.wide hW.size (Nat.le_refl _)⟩, hW.trans (hb.mono hW.size), hb⟩
  have CY : Hid (∀ W, Below w1.heap.size w1 W → Calls Try.prog 6 #[.agg #[.slice b0 y.things.length d0, .slice b1 y.glob.length d1, .slice b2 y.frames.length d2, .slice b3 y.outs.length d3, .int .i64 y.asked, .int .i64 y.code]] W fun e w' => ∃ n0 n1 n2 n3, e = .returned (.agg #[.slice n0 y.things.length y.things.length, .slice n1 y.glob.length y.glob.length, .slice n2 y.frames.length y.frames.length, .slice n3 y.outs.length y.outs.length, .int .i64 y.asked, .int .i64 y.code]) ∧ PM true w' w1.heap.size w'.heap.size n0 n1 n2 n3 y ∧ Below w1.heap.size w1 w' ∧ Below W.heap.size W w') := fun W hW => by
    refine (toMean_any b0 d0 b1 d1 b2 d2 b3 d3 0 w.heap.size y W FY.out (HY.out.1.keep (B1.out.trans (hW.mono B1.out.size))) (HY.out.2.1.keep (B1.out.trans (hW.mono B1.out.size))) (HY.out.2.2.1.keep (B1.out.trans (hW.mono B1.out.size))) (HY.out.2.2.2.keep (B1.out.trans (hW.mono B1.out.size))) (Nat.le_trans B1.out.size hW.size)).mono ?_
    rintro e w' ⟨n0, n1, n2, n3, rfl, q0, q1, q2, q3, hb⟩
    exact ⟨n0, n1, n2, n3, rfl, ⟨q0.wide hW.size (Nat.le_refl _), q1.wide hW.size (Nat.le_refl _), q2.wide hW.size (Nat.le_refl _), q3.wide hW.size (Nat.le_refl _)⟩, hW.trans (hb.mono hW.size), hb⟩
  have CS : Hid (∀ W lo hi lo' hi' k0 k1 k2 k3 l0 l1 l2 l3, Below w1.heap.size w1 W → PM true W lo hi k0 k1 k2 k3 x → PM true W lo' hi' l0 l1 l2 l3 y → hi ≤ W.heap.size → hi' ≤ W.heap.size → Calls Try.prog 5 #[.agg #[.slice k0 x.things.length x.things.length, .slice k1 x.glob.length x.glob.length, .slice k2 x.frames.length x.frames.length, .slice k3 x.outs.length x.outs.length, .int .i64 x.asked, .int .i64 x.code], .agg #[.slice l0 y.things.length y.things.length, .slice l1 y.glob.length y.glob.length, .slice l2 y.frames.length y.frames.length, .slice l3 y.outs.length y.outs.length, .int .i64 y.asked, .int .i64 y.code]] W fun e w' => e = .returned (.bool (meanSame x y)) ∧ Below w1.heap.size w1 w') := fun W lo hi lo' hi' k0 k1 k2 k3 l0 l1 l2 l3 hW hk hl h1 h2 => by
    refine (specMeanSame_any k0 k1 k2 k3 l0 l1 l2 l3 _ _ _ _ _ _ _ _ lo hi lo' hi' x y W FX.out FY.out hk.1 hk.2.1 hk.2.2.1 hk.2.2.2 hl.1 hl.2.1 hl.2.2.1 hl.2.2.2 h1 h2).mono ?_
    rintro e w' ⟨rfl, hb⟩
    exact ⟨rfl, hW.trans (hb.mono hW.size)⟩
  go_region_with (first
    | (go_at_call_of 6 (Value.slice a0 x.things.length c0); refine (CX.out _ ?_).mono ?_; (first | exact (Below.refl _ _).drew | exact bY | exact bY.drew | exact Below.refl _ _); rintro e wX ⟨x0, x1, x2, x3, rfl, pX, bX, tX⟩; have pX0 := (P1.out.below bX P1.out.lt).cell (o := 0) rfl; have pX1 := (P1.out.below bX P1.out.lt).cell (o := 1) rfl; have pX2 := (P1.out.below bX P1.out.lt).cell (o := 2) rfl; have pX3 := (P1.out.below bX P1.out.lt).cell (o := 3) rfl; have pX4 := (P1.out.below bX P1.out.lt).cell (o := 4) rfl; have pX5 := (P1.out.below bX P1.out.lt).cell (o := 5) rfl; have rX0 := (R1.out.below bX R1.out.lt).cell (o := 0) rfl; have rX1 := (R1.out.below bX R1.out.lt).cell (o := 1) rfl; have rX2 := (R1.out.below bX R1.out.lt).cell (o := 2) rfl; have rX3 := (R1.out.below bX R1.out.lt).cell (o := 3) rfl; have rX4 := (R1.out.below bX R1.out.lt).cell (o := 4) rfl; have rX5 := (R1.out.below bX R1.out.lt).cell (o := 5) rfl)
    | (go_at_call_of 6 (Value.slice b0 y.things.length d0); refine (CY.out _ ?_).mono ?_; (first | exact (Below.refl _ _).drew | exact bX | exact bX.drew | exact Below.refl _ _); rintro e wY ⟨y0, y1, y2, y3, rfl, pY, bY, tY⟩; have pY0 := (P1.out.below bY P1.out.lt).cell (o := 0) rfl; have pY1 := (P1.out.below bY P1.out.lt).cell (o := 1) rfl; have pY2 := (P1.out.below bY P1.out.lt).cell (o := 2) rfl; have pY3 := (P1.out.below bY P1.out.lt).cell (o := 3) rfl; have pY4 := (P1.out.below bY P1.out.lt).cell (o := 4) rfl; have pY5 := (P1.out.below bY P1.out.lt).cell (o := 5) rfl; have rY0 := (R1.out.below bY R1.out.lt).cell (o := 0) rfl; have rY1 := (R1.out.below bY R1.out.lt).cell (o := 1) rfl; have rY2 := (R1.out.below bY R1.out.lt).cell (o := 2) rfl; have rY3 := (R1.out.below bY R1.out.lt).cell (o := 3) rfl; have rY4 := (R1.out.below bY R1.out.lt).cell (o := 4) rfl; have rY5 := (R1.out.below bY R1.out.lt).cell (o := 5) rfl)
    | (go_at_call 5; first
        | (refine (CS.out _ _ _ _ _ x0 x1 x2 x3 y0 y1 y2 y3 bY (pX.keep tY) pY tY.size (Nat.le_refl _)).mono ?_; rintro e w2 ⟨rfl, bS⟩)
        | (refine (CS.out _ _ _ _ _ x0 x1 x2 x3 y0 y1 y2 y3 bX pX (pY.keep tX) (Nat.le_refl _) tX.size).mono ?_; rintro e w2 ⟨rfl, bS⟩)))
  all_goals
    have B2 : Hid (Below w.heap.size w w2) := B1.out.trans (bS.mono B1.out.size)
    have P2 : Hid (Rec w2 w.heap.size 27 [.slice a0 x.things.length c0, .slice a1 x.glob.length c1, .slice a2 x.frames.length c2, .slice a3 x.outs.length c3, .int .i64 x.asked, .int .i64 x.code]) := P1.out.below bS P1.out.lt
    have R2 : Hid (Rec w2 (w.heap.size + 1) 27 [.slice b0 y.things.length d0, .slice b1 y.glob.length d1, .slice b2 y.frames.length d2, .slice b3 y.outs.length d3, .int .i64 y.asked, .int .i64 y.code]) := R1.out.below bS R1.out.lt
    clear pX bX tX pY bY tY bS CX CY CS pX0 pX1 pX2 pX3 pX4 pX5 pY0 pY1 pY2 pY3 pY4 pY5 rX0 rX1 rX2 rX3 rX4 rX5 rY0 rY1 rY2 rY3 rY4 rY5 p0_1 r0_1 p1_1 r1_1 p2_1 r2_1 p3_1 r3_1 p4_1 r4_1 p5_1 r5_1
    have p0_2 := P2.out.cell (o := 0) rfl
    have r0_2 := R2.out.cell (o := 0) rfl
    have p1_2 := P2.out.cell (o := 1) rfl
    have r1_2 := R2.out.cell (o := 1) rfl
    have p2_2 := P2.out.cell (o := 2) rfl
    have r2_2 := R2.out.cell (o := 2) rfl
    have p3_2 := P2.out.cell (o := 3) rfl
    have r3_2 := R2.out.cell (o := 3) rfl
    have p4_2 := P2.out.cell (o := 4) rfl
    have r4_2 := R2.out.cell (o := 4) rfl
    have p5_2 := P2.out.cell (o := 5) rfl
    have r5_2 := R2.out.cell (o := 5) rfl
    go_wp2_with fail
    refine (toMean_any a0 c0 a1 c1 a2 c2 a3 c3 0 w.heap.size x _ FX.out (HX.out.1.keep B2.out) (HX.out.2.1.keep B2.out) (HX.out.2.2.1.keep B2.out) (HX.out.2.2.2.keep B2.out) B2.out.size).mono ?_
    rintro e w3 ⟨k0, k1, k2, k3, rfl, q0, q1, q2, q3, hb3⟩
    have K : Hid (PM true w3 w2.heap.size w3.heap.size k0 k1 k2 k3 x) := ⟨q0, q1, q2, q3⟩
    clear q0 q1 q2 q3
    have B3 : Hid (Below w.heap.size w w3) := B2.out.trans (hb3.mono B2.out.size)
    have P3 : Hid (Rec w3 w.heap.size 27 [.slice a0 x.things.length c0, .slice a1 x.glob.length c1, .slice a2 x.frames.length c2, .slice a3 x.outs.length c3, .int .i64 x.asked, .int .i64 x.code]) := P2.out.below hb3 P2.out.lt
    have R3 : Hid (Rec w3 (w.heap.size + 1) 27 [.slice b0 y.things.length d0, .slice b1 y.glob.length d1, .slice b2 y.frames.length d2, .slice b3 y.outs.length d3, .int .i64 y.asked, .int .i64 y.code]) := R2.out.below hb3 R2.out.lt
    clear p0_2 r0_2 p1_2 r1_2 p2_2 r2_2 p3_2 r3_2 p4_2 r4_2 p5_2 r5_2
    have p0_3 := P3.out.cell (o := 0) rfl
    have r0_3 := R3.out.cell (o := 0) rfl
    have p1_3 := P3.out.cell (o := 1) rfl
    have r1_3 := R3.out.cell (o := 1) rfl
    have p2_3 := P3.out.cell (o := 2) rfl
    have r2_3 := R3.out.cell (o := 2) rfl
    have p3_3 := P3.out.cell (o := 3) rfl
    have r3_3 := R3.out.cell (o := 3) rfl
    have p4_3 := P3.out.cell (o := 4) rfl
    have r4_3 := R3.out.cell (o := 4) rfl
    have p5_3 := P3.out.cell (o := 5) rfl
    have r5_3 := R3.out.cell (o := 5) rfl
    clear hb3
    have y1 : w.heap.size < w3.heap.size := P3.out.lt
    have y2 : w.heap.size + 1 < w3.heap.size := R3.out.lt
    go_wp2_with fail
    refine (toMean_any b0 d0 b1 d1 b2 d2 b3 d3 0 w.heap.size y _ FY.out (HY.out.1.keep (Below.al B3.out (Nat.le_refl _) _)) (HY.out.2.1.keep (Below.al B3.out (Nat.le_refl _) _)) (HY.out.2.2.1.keep (Below.al B3.out (Nat.le_refl _) _)) (HY.out.2.2.2.keep (Below.al B3.out (Nat.le_refl _) _)) (Nat.le_trans B3.out.size (by go_size))).mono ?_
    rintro e w4 ⟨l0, l1, l2, l3, rfl, q0, q1, q2, q3, hb4⟩
    have U4 : Hid (Below w3.heap.size w3 w4) := Below.trans (Below.al (Below.refl _ _) (Nat.le_refl _) _) (hb4.mono (by go_size))
    have L4 : Hid (PM true w4 w3.heap.size w4.heap.size l0 l1 l2 l3 y) := ⟨q0.wide (by go_size) (Nat.le_refl _), q1.wide (by go_size) (Nat.le_refl _), q2.wide (by go_size) (Nat.le_refl _), q3.wide (by go_size) (Nat.le_refl _)⟩
    have K4 : Hid (PM true w4 w2.heap.size w3.heap.size k0 k1 k2 k3 x) := K.out.keep U4.out
    have X4 : Hid (Rec w4 w3.heap.size 34 [.slice k0 x.things.length x.things.length, .slice k1 x.glob.length x.glob.length, .slice k2 x.frames.length x.frames.length, .slice k3 x.outs.length x.outs.length, .int .i64 x.asked, .int .i64 x.code]) := (Rec.new' _ _ _ _ rfl).below hb4 (by go_size)
    have B4 : Hid (Below w.heap.size w w4) := B3.out.trans (U4.out.mono B3.out.size)
    have P4 : Hid (Rec w4 w.heap.size 27 [.slice a0 x.things.length c0, .slice a1 x.glob.length c1, .slice a2 x.frames.length c2, .slice a3 x.outs.length c3, .int .i64 x.asked, .int .i64 x.code]) := P3.out.below U4.out P3.out.lt
    have R4 : Hid (Rec w4 (w.heap.size + 1) 27 [.slice b0 y.things.length d0, .slice b1 y.glob.length d1, .slice b2 y.frames.length d2, .slice b3 y.outs.length d3, .int .i64 y.asked, .int .i64 y.code]) := R3.out.below U4.out R3.out.lt
    clear q0 q1 q2 q3 hb4 p0_3 r0_3 p1_3 r1_3 p2_3 r2_3 p3_3 r3_3 p4_3 r4_3 p5_3 r5_3 y1 y2
    have y1 : w.heap.size < w4.heap.size := P4.out.lt
    have y2 : w.heap.size + 1 < w4.heap.size := R4.out.lt
    have y3 : w3.heap.size < w4.heap.size := X4.out.lt
    have x0_4 := X4.out.cell (o := 0) rfl
    have p0_4 := P4.out.cell (o := 0) rfl
    have r0_4 := R4.out.cell (o := 0) rfl
    have x1_4 := X4.out.cell (o := 1) rfl
    have p1_4 := P4.out.cell (o := 1) rfl
    have r1_4 := R4.out.cell (o := 1) rfl
    have x2_4 := X4.out.cell (o := 2) rfl
    have p2_4 := P4.out.cell (o := 2) rfl
    have r2_4 := R4.out.cell (o := 2) rfl
    have x3_4 := X4.out.cell (o := 3) rfl
    have p3_4 := P4.out.cell (o := 3) rfl
    have r3_4 := R4.out.cell (o := 3) rfl
    have x4_4 := X4.out.cell (o := 4) rfl
    have p4_4 := P4.out.cell (o := 4) rfl
    have r4_4 := R4.out.cell (o := 4) rfl
    have x5_4 := X4.out.cell (o := 5) rfl
    have p5_4 := P4.out.cell (o := 5) rfl
    have r5_4 := R4.out.cell (o := 5) rfl
    go_wp2_with fail
    refine (implMeanSame_any k0 k1 k2 k3 l0 l1 l2 l3 _ _ _ _ _ _ _ _ w2.heap.size w3.heap.size w3.heap.size w4.heap.size x y _ FX.out FY.out (K4.out.1.keep (Below.al (Below.refl _ _) (Nat.le_of_lt y3) _)) (K4.out.2.1.keep (Below.al (Below.refl _ _) (Nat.le_of_lt y3) _)) (K4.out.2.2.1.keep (Below.al (Below.refl _ _) (Nat.le_of_lt y3) _)) (K4.out.2.2.2.keep (Below.al (Below.refl _ _) (Nat.le_of_lt y3) _)) (L4.out.1.keep (Below.al (Below.refl _ _) (Nat.le_refl _) _)) (L4.out.2.1.keep (Below.al (Below.refl _ _) (Nat.le_refl _) _)) (L4.out.2.2.1.keep (Below.al (Below.refl _ _) (Nat.le_refl _) _)) (L4.out.2.2.2.keep (Below.al (Below.refl _ _) (Nat.le_refl _) _)) (by go_size) (by go_size)).mono ?_
    rintro e w5 ⟨rfl, hb5⟩
    have U5 : Hid (Below w4.heap.size w4 w5) := Below.trans (Below.al (Below.refl _ _) (Nat.le_refl _) _) (hb5.mono (by go_size))
    have Y5 : Hid (Rec w5 w4.heap.size 34 [.slice l0 y.things.length y.things.length, .slice l1 y.glob.length y.glob.length, .slice l2 y.frames.length y.frames.length, .slice l3 y.outs.length y.outs.length, .int .i64 y.asked, .int .i64 y.code]) := (Rec.new' _ _ _ _ rfl).below hb5 (by go_size)
    have X5 : Hid (Rec w5 w3.heap.size 34 [.slice k0 x.things.length x.things.length, .slice k1 x.glob.length x.glob.length, .slice k2 x.frames.length x.frames.length, .slice k3 x.outs.length x.outs.length, .int .i64 x.asked, .int .i64 x.code]) := X4.out.below U5.out X4.out.lt
    have K5 : Hid (PM true w5 w2.heap.size w3.heap.size k0 k1 k2 k3 x) := K4.out.keep (U5.out.mono (Nat.le_of_lt y3))
    have L5 : Hid (PM true w5 w3.heap.size w4.heap.size l0 l1 l2 l3 y) := L4.out.keep U5.out
    have B5 : Hid (Below w.heap.size w w5) := B4.out.trans (U5.out.mono B4.out.size)
    have P5 : Hid (Rec w5 w.heap.size 27 [.slice a0 x.things.length c0, .slice a1 x.glob.length c1, .slice a2 x.frames.length c2, .slice a3 x.outs.length c3, .int .i64 x.asked, .int .i64 x.code]) := P4.out.below U5.out P4.out.lt
    have R5 : Hid (Rec w5 (w.heap.size + 1) 27 [.slice b0 y.things.length d0, .slice b1 y.glob.length d1, .slice b2 y.frames.length d2, .slice b3 y.outs.length d3, .int .i64 y.asked, .int .i64 y.code]) := R4.out.below U5.out R4.out.lt
    have y4 : w4.heap.size < w5.heap.size := Y5.out.lt
    clear hb5 x0_4 p0_4 r0_4 x1_4 p1_4 r1_4 x2_4 p2_4 r2_4 x3_4 p3_4 r3_4 x4_4 p4_4 r4_4 x5_4 p5_4 r5_4
    have x0_5 := X5.out.cell (o := 0) rfl
    have x1_5 := X5.out.cell (o := 1) rfl
    have x2_5 := X5.out.cell (o := 2) rfl
    have x3_5 := X5.out.cell (o := 3) rfl
    have x4_5 := X5.out.cell (o := 4) rfl
    have x5_5 := X5.out.cell (o := 5) rfl
    have y0_5 := Y5.out.cell (o := 0) rfl
    have y1_5 := Y5.out.cell (o := 1) rfl
    have y2_5 := Y5.out.cell (o := 2) rfl
    have y3_5 := Y5.out.cell (o := 3) rfl
    have y4_5 := Y5.out.cell (o := 4) rfl
    have y5_5 := Y5.out.cell (o := 5) rfl
    have p0_5 := P5.out.cell (o := 0) rfl
    have p1_5 := P5.out.cell (o := 1) rfl
    have p2_5 := P5.out.cell (o := 2) rfl
    have p3_5 := P5.out.cell (o := 3) rfl
    have p4_5 := P5.out.cell (o := 4) rfl
    have p5_5 := P5.out.cell (o := 5) rfl
    have r0_5 := R5.out.cell (o := 0) rfl
    have r1_5 := R5.out.cell (o := 1) rfl
    have r2_5 := R5.out.cell (o := 2) rfl
    have r3_5 := R5.out.cell (o := 3) rfl
    have r4_5 := R5.out.cell (o := 4) rfl
    have r5_5 := R5.out.cell (o := 5) rfl
    go_wp2_with fail
    have C5 : Hid (∀ W, Below w5.heap.size w5 W → Calls Try.prog 6 #[.agg #[.slice a0 x.things.length c0, .slice a1 x.glob.length c1, .slice a2 x.frames.length c2, .slice a3 x.outs.length c3, .int .i64 x.asked, .int .i64 x.code]] W fun e w' => ∃ n0 n1 n2 n3, e = .returned (.agg #[.slice n0 x.things.length x.things.length, .slice n1 x.glob.length x.glob.length, .slice n2 x.frames.length x.frames.length, .slice n3 x.outs.length x.outs.length, .int .i64 x.asked, .int .i64 x.code]) ∧ PM true w' w5.heap.size w'.heap.size n0 n1 n2 n3 x ∧ Below w5.heap.size w5 w') := fun W hW => by
      refine (toMean_any a0 c0 a1 c1 a2 c2 a3 c3 0 w.heap.size x W FX.out (HX.out.1.keep (B5.out.trans (hW.mono B5.out.size))) (HX.out.2.1.keep (B5.out.trans (hW.mono B5.out.size))) (HX.out.2.2.1.keep (B5.out.trans (hW.mono B5.out.size))) (HX.out.2.2.2.keep (B5.out.trans (hW.mono B5.out.size))) (Nat.le_trans B5.out.size hW.size)).mono ?_
      rintro e w' ⟨n0, n1, n2, n3, rfl, q0, q1, q2, q3, hb⟩
      exact ⟨n0, n1, n2, n3, rfl, ⟨q0.wide hW.size (Nat.le_refl _), q1.wide hW.size (Nat.le_refl _), q2.wide hW.size (Nat.le_refl _), q3.wide hW.size (Nat.le_refl _)⟩, hW.trans (hb.mono hW.size)⟩
    have E5 : Hid (∀ W n0 n1 n2 n3, Below w5.heap.size w5 W → PM true W w5.heap.size W.heap.size n0 n1 n2 n3 x → Calls Try.prog 8 #[.agg #[.slice k0 x.things.length x.things.length, .slice k1 x.glob.length x.glob.length, .slice k2 x.frames.length x.frames.length, .slice k3 x.outs.length x.outs.length, .int .i64 x.asked, .int .i64 x.code], .agg #[.slice n0 x.things.length x.things.length, .slice n1 x.glob.length x.glob.length, .slice n2 x.frames.length x.frames.length, .slice n3 x.outs.length x.outs.length, .int .i64 x.asked, .int .i64 x.code]] W fun e w' => e = .returned (.bool true) ∧ Below w5.heap.size w5 w') := fun W n0 n1 n2 n3 hW hm => by
      have hk := K5.out.keep (hW.mono (Nat.le_of_lt (Nat.lt_trans y3 y4)))
      refine (eqMean_g k0 n0 k1 n1 k2 n2 k3 n3 _ _ _ _ _ _ _ _ w2.heap.size w3.heap.size w5.heap.size W.heap.size x W FX.out hk.1 hk.2.1 hk.2.2.1 hk.2.2.2 hm.1 hm.2.1 hm.2.2.1 hm.2.2.2 (Nat.le_trans (Nat.le_of_lt (Nat.lt_trans y3 y4)) hW.size) (Nat.le_refl _)).mono ?_
      rintro e w' ⟨rfl, hb⟩
      exact ⟨rfl, hW.trans (hb.mono hW.size)⟩
    go_region_held3 (fun w' => (w'.cell? ⟨w.heap.size, 0, none⟩ = some (.slice a0 x.things.length c0) ∧ w'.cell? ⟨w.heap.size, 1, none⟩ = some (.slice a1 x.glob.length c1) ∧ w'.cell? ⟨w.heap.size, 2, none⟩ = some (.slice a2 x.frames.length c2) ∧ w'.cell? ⟨w.heap.size, 3, none⟩ = some (.slice a3 x.outs.length c3) ∧ w'.cell? ⟨w.heap.size, 4, none⟩ = some (.int .i64 x.asked) ∧ w'.cell? ⟨w.heap.size, 5, none⟩ = some (.int .i64 x.code)) ∧ (w'.cell? ⟨w3.heap.size, 0, none⟩ = some (.slice k0 x.things.length x.things.length) ∧ w'.cell? ⟨w3.heap.size, 1, none⟩ = some (.slice k1 x.glob.length x.glob.length) ∧ w'.cell? ⟨w3.heap.size, 2, none⟩ = some (.slice k2 x.frames.length x.frames.length) ∧ w'.cell? ⟨w3.heap.size, 3, none⟩ = some (.slice k3 x.outs.length x.outs.length) ∧ w'.cell? ⟨w3.heap.size, 4, none⟩ = some (.int .i64 x.asked) ∧ w'.cell? ⟨w3.heap.size, 5, none⟩ = some (.int .i64 x.code)) ∧ Below w5.heap.size w5 w') (first | (refine ⟨⟨?_, ?_, ?_, ?_, ?_, ?_⟩, ⟨?_, ?_, ?_, ?_, ?_, ?_⟩, ?_⟩ <;> first | assumption | exact (Below.refl _ _).drew | exact Below.refl _ _))
      ((first | (go_at_call 6; refine (C5.out _ ?_).mono ?_; (first | assumption | exact (Below.refl _ _).drew | exact Below.refl _ _); rintro e v1 ⟨m0, m1, m2, m3, rfl, pm, bv1⟩; have pv10 := (P5.out.below bv1 P5.out.lt).cell (o := 0) rfl; have pv11 := (P5.out.below bv1 P5.out.lt).cell (o := 1) rfl; have pv12 := (P5.out.below bv1 P5.out.lt).cell (o := 2) rfl; have pv13 := (P5.out.below bv1 P5.out.lt).cell (o := 3) rfl; have pv14 := (P5.out.below bv1 P5.out.lt).cell (o := 4) rfl; have pv15 := (P5.out.below bv1 P5.out.lt).cell (o := 5) rfl; have ov10 := (X5.out.below bv1 X5.out.lt).cell (o := 0) rfl; have ov11 := (X5.out.below bv1 X5.out.lt).cell (o := 1) rfl; have ov12 := (X5.out.below bv1 X5.out.lt).cell (o := 2) rfl; have ov13 := (X5.out.below bv1 X5.out.lt).cell (o := 3) rfl; have ov14 := (X5.out.below bv1 X5.out.lt).cell (o := 4) rfl; have ov15 := (X5.out.below bv1 X5.out.lt).cell (o := 5) rfl) | (go_at_call 8; refine (E5.out _ m0 m1 m2 m3 ?_ ?_).mono ?_; assumption; assumption; rintro e w6 ⟨rfl, bv2⟩; have pv20 := (P5.out.below bv2 P5.out.lt).cell (o := 0) rfl; have pv21 := (P5.out.below bv2 P5.out.lt).cell (o := 1) rfl; have pv22 := (P5.out.below bv2 P5.out.lt).cell (o := 2) rfl; have pv23 := (P5.out.below bv2 P5.out.lt).cell (o := 3) rfl; have pv24 := (P5.out.below bv2 P5.out.lt).cell (o := 4) rfl; have pv25 := (P5.out.below bv2 P5.out.lt).cell (o := 5) rfl; have ov20 := (X5.out.below bv2 X5.out.lt).cell (o := 0) rfl; have ov21 := (X5.out.below bv2 X5.out.lt).cell (o := 1) rfl; have ov22 := (X5.out.below bv2 X5.out.lt).cell (o := 2) rfl; have ov23 := (X5.out.below bv2 X5.out.lt).cell (o := 3) rfl; have ov24 := (X5.out.below bv2 X5.out.lt).cell (o := 4) rfl; have ov25 := (X5.out.below bv2 X5.out.lt).cell (o := 5) rfl)))
    have y5 : w5.heap.size ≤ w6.heap.size := bv2.size
    have Y6 : Hid (Rec w6 w4.heap.size 34 [.slice l0 y.things.length y.things.length, .slice l1 y.glob.length y.glob.length, .slice l2 y.frames.length y.frames.length, .slice l3 y.outs.length y.outs.length, .int .i64 y.asked, .int .i64 y.code]) := Y5.out.below bv2 Y5.out.lt
    have L6 : Hid (PM true w6 w3.heap.size w4.heap.size l0 l1 l2 l3 y) := L5.out.keep (bv2.mono (Nat.le_of_lt y4))
    have B6 : Hid (Below w.heap.size w w6) := B5.out.trans (bv2.mono B5.out.size)
    have R6 : Hid (Rec w6 (w.heap.size + 1) 27 [.slice b0 y.things.length d0, .slice b1 y.glob.length d1, .slice b2 y.frames.length d2, .slice b3 y.outs.length d3, .int .i64 y.asked, .int .i64 y.code]) := R5.out.below bv2 R5.out.lt
    clear bv1 bv2 pm C5 E5 pv10 pv11 pv12 pv13 pv14 pv15 pv20 pv21 pv22 pv23 pv24 pv25 ov10 ov11 ov12 ov13 ov14 ov15 ov20 ov21 ov22 ov23 ov24 ov25 x0_5 x1_5 x2_5 x3_5 x4_5 x5_5 y0_5 y1_5 y2_5 y3_5 y4_5 y5_5 p0_5 p1_5 p2_5 p3_5 p4_5 p5_5 r0_5 r1_5 r2_5 r3_5 r4_5 r5_5
    have y0_6 := Y6.out.cell (o := 0) rfl
    have y1_6 := Y6.out.cell (o := 1) rfl
    have y2_6 := Y6.out.cell (o := 2) rfl
    have y3_6 := Y6.out.cell (o := 3) rfl
    have y4_6 := Y6.out.cell (o := 4) rfl
    have y5_6 := Y6.out.cell (o := 5) rfl
    have r0_6 := R6.out.cell (o := 0) rfl
    have r1_6 := R6.out.cell (o := 1) rfl
    have r2_6 := R6.out.cell (o := 2) rfl
    have r3_6 := R6.out.cell (o := 3) rfl
    have r4_6 := R6.out.cell (o := 4) rfl
    have r5_6 := R6.out.cell (o := 5) rfl
    go_wp2_with fail
    have C6 : Hid (∀ W, Below w6.heap.size w6 W → Calls Try.prog 6 #[.agg #[.slice b0 y.things.length d0, .slice b1 y.glob.length d1, .slice b2 y.frames.length d2, .slice b3 y.outs.length d3, .int .i64 y.asked, .int .i64 y.code]] W fun e w' => ∃ n0 n1 n2 n3, e = .returned (.agg #[.slice n0 y.things.length y.things.length, .slice n1 y.glob.length y.glob.length, .slice n2 y.frames.length y.frames.length, .slice n3 y.outs.length y.outs.length, .int .i64 y.asked, .int .i64 y.code]) ∧ PM true w' w6.heap.size w'.heap.size n0 n1 n2 n3 y ∧ Below w6.heap.size w6 w') := fun W hW => by
      refine (toMean_any b0 d0 b1 d1 b2 d2 b3 d3 0 w.heap.size y W FY.out (HY.out.1.keep (B6.out.trans (hW.mono B6.out.size))) (HY.out.2.1.keep (B6.out.trans (hW.mono B6.out.size))) (HY.out.2.2.1.keep (B6.out.trans (hW.mono B6.out.size))) (HY.out.2.2.2.keep (B6.out.trans (hW.mono B6.out.size))) (Nat.le_trans B6.out.size hW.size)).mono ?_
      rintro e w' ⟨n0, n1, n2, n3, rfl, q0, q1, q2, q3, hb⟩
      exact ⟨n0, n1, n2, n3, rfl, ⟨q0.wide hW.size (Nat.le_refl _), q1.wide hW.size (Nat.le_refl _), q2.wide hW.size (Nat.le_refl _), q3.wide hW.size (Nat.le_refl _)⟩, hW.trans (hb.mono hW.size)⟩
    have E6 : Hid (∀ W n0 n1 n2 n3, Below w6.heap.size w6 W → PM true W w6.heap.size W.heap.size n0 n1 n2 n3 y → Calls Try.prog 8 #[.agg #[.slice l0 y.things.length y.things.length, .slice l1 y.glob.length y.glob.length, .slice l2 y.frames.length y.frames.length, .slice l3 y.outs.length y.outs.length, .int .i64 y.asked, .int .i64 y.code], .agg #[.slice n0 y.things.length y.things.length, .slice n1 y.glob.length y.glob.length, .slice n2 y.frames.length y.frames.length, .slice n3 y.outs.length y.outs.length, .int .i64 y.asked, .int .i64 y.code]] W fun e w' => e = .returned (.bool true) ∧ Below w6.heap.size w6 w') := fun W n0 n1 n2 n3 hW hm => by
      have hk := L6.out.keep (hW.mono (Nat.le_trans (Nat.le_of_lt y4) y5))
      refine (eqMean_g l0 n0 l1 n1 l2 n2 l3 n3 _ _ _ _ _ _ _ _ w3.heap.size w4.heap.size w6.heap.size W.heap.size y W FY.out hk.1 hk.2.1 hk.2.2.1 hk.2.2.2 hm.1 hm.2.1 hm.2.2.1 hm.2.2.2 (Nat.le_trans (Nat.le_trans (Nat.le_of_lt y4) y5) hW.size) (Nat.le_refl _)).mono ?_
      rintro e w' ⟨rfl, hb⟩
      exact ⟨rfl, hW.trans (hb.mono hW.size)⟩
    go_region_held3 (fun w' => (w'.cell? ⟨w.heap.size + 1, 0, none⟩ = some (.slice b0 y.things.length d0) ∧ w'.cell? ⟨w.heap.size + 1, 1, none⟩ = some (.slice b1 y.glob.length d1) ∧ w'.cell? ⟨w.heap.size + 1, 2, none⟩ = some (.slice b2 y.frames.length d2) ∧ w'.cell? ⟨w.heap.size + 1, 3, none⟩ = some (.slice b3 y.outs.length d3) ∧ w'.cell? ⟨w.heap.size + 1, 4, none⟩ = some (.int .i64 y.asked) ∧ w'.cell? ⟨w.heap.size + 1, 5, none⟩ = some (.int .i64 y.code)) ∧ (w'.cell? ⟨w4.heap.size, 0, none⟩ = some (.slice l0 y.things.length y.things.length) ∧ w'.cell? ⟨w4.heap.size, 1, none⟩ = some (.slice l1 y.glob.length y.glob.length) ∧ w'.cell? ⟨w4.heap.size, 2, none⟩ = some (.slice l2 y.frames.length y.frames.length) ∧ w'.cell? ⟨w4.heap.size, 3, none⟩ = some (.slice l3 y.outs.length y.outs.length) ∧ w'.cell? ⟨w4.heap.size, 4, none⟩ = some (.int .i64 y.asked) ∧ w'.cell? ⟨w4.heap.size, 5, none⟩ = some (.int .i64 y.code)) ∧ Below w6.heap.size w6 w') (first | (refine ⟨⟨?_, ?_, ?_, ?_, ?_, ?_⟩, ⟨?_, ?_, ?_, ?_, ?_, ?_⟩, ?_⟩ <;> first | assumption | exact (Below.refl _ _).drew | exact Below.refl _ _))
      ((first | (go_at_call 6; refine (C6.out _ ?_).mono ?_; (first | assumption | exact (Below.refl _ _).drew | exact Below.refl _ _); rintro e v1 ⟨m0, m1, m2, m3, rfl, pm, bv1⟩; have pv10 := (R6.out.below bv1 R6.out.lt).cell (o := 0) rfl; have pv11 := (R6.out.below bv1 R6.out.lt).cell (o := 1) rfl; have pv12 := (R6.out.below bv1 R6.out.lt).cell (o := 2) rfl; have pv13 := (R6.out.below bv1 R6.out.lt).cell (o := 3) rfl; have pv14 := (R6.out.below bv1 R6.out.lt).cell (o := 4) rfl; have pv15 := (R6.out.below bv1 R6.out.lt).cell (o := 5) rfl; have ov10 := (Y6.out.below bv1 Y6.out.lt).cell (o := 0) rfl; have ov11 := (Y6.out.below bv1 Y6.out.lt).cell (o := 1) rfl; have ov12 := (Y6.out.below bv1 Y6.out.lt).cell (o := 2) rfl; have ov13 := (Y6.out.below bv1 Y6.out.lt).cell (o := 3) rfl; have ov14 := (Y6.out.below bv1 Y6.out.lt).cell (o := 4) rfl; have ov15 := (Y6.out.below bv1 Y6.out.lt).cell (o := 5) rfl) | (go_at_call 8; refine (E6.out _ m0 m1 m2 m3 ?_ ?_).mono ?_; assumption; assumption; rintro e w7 ⟨rfl, bv2⟩; have pv20 := (R6.out.below bv2 R6.out.lt).cell (o := 0) rfl; have pv21 := (R6.out.below bv2 R6.out.lt).cell (o := 1) rfl; have pv22 := (R6.out.below bv2 R6.out.lt).cell (o := 2) rfl; have pv23 := (R6.out.below bv2 R6.out.lt).cell (o := 3) rfl; have pv24 := (R6.out.below bv2 R6.out.lt).cell (o := 4) rfl; have pv25 := (R6.out.below bv2 R6.out.lt).cell (o := 5) rfl; have ov20 := (Y6.out.below bv2 Y6.out.lt).cell (o := 0) rfl; have ov21 := (Y6.out.below bv2 Y6.out.lt).cell (o := 1) rfl; have ov22 := (Y6.out.below bv2 Y6.out.lt).cell (o := 2) rfl; have ov23 := (Y6.out.below bv2 Y6.out.lt).cell (o := 3) rfl; have ov24 := (Y6.out.below bv2 Y6.out.lt).cell (o := 4) rfl; have ov25 := (Y6.out.below bv2 Y6.out.lt).cell (o := 5) rfl)))
    go_wp2_with fail
    go_ret
    exact ⟨rfl, B6.out.trans (bv2.mono B6.out.size)⟩

theorem cellsP : Try.prog.cellsOf 27 = 6 := by kernel_rfl

set_option maxRecDepth 100000 in
theorem lifted (os : Os) (started : os.Started) (H : Type) (enc : TypeId × Value → H) :
    ReturnsInHanded {} Try.checked os 3 .any (Rows.fnExactMeanSameSpec.pre6 enc Try.prog Try.f3 Rows.fnExactMeanSameRow.domain false) (Rows.fnExactMeanSameSpec.post enc Try.prog Try.f3 false true false false) := by
  refine returnsInHanded_of_change (C := Try.checked) Try.own started (by kernel_rfl) Try.func3
    (ChangeSpec.witness6 (enc := enc) (C := Try.checked) false ⟨#[], #[.agg #[.slice none 0 0, .slice none 0 0, .slice none 0 0, .slice none 0 0, .int .i64 0, .int .i64 0], .agg #[.slice none 0 0, .slice none 0 0, .slice none 0 0, .slice none 0 0, .int .i64 0, .int .i64 0]], []⟩ 8 (by kernel_rfl) (by kernel_rfl) (by kernel_rfl) (by kernel_rfl)) ?_
  intro W base args ds gs before hval0 hW hcnd _
  have hval : ∀ (j : Nat) t v, Try.f3.params[j]? = some t → args[j]? = some v → Value.okWide Try.prog W .any base t v := hval0
  have hW' := hW
  obtain ⟨p, q, hA0, hV, rfl, hfz, hnd⟩ := hW
  have hA : DataW.TrodAll enc Try.prog W 0 (fun _ => true) true Try.f3.params.toList args.toList ds p := hA0
  rw [Try.params3] at hA hval
  obtain ⟨v0, vs0, d0, ds0, p0, q0, hargs, rfl, rfl, h0, r0⟩ := trodAll_cons hA
  obtain ⟨v1, vs1, d1, ds1, p1, q1, rfl, rfl, rfl, h1, r1⟩ := trodAll_cons r0
  obtain ⟨rfl, rfl, rfl⟩ := trodAll_nil r1
  obtain rfl : args = #[v0, v1] := by cases args; simp_all
  obtain ⟨rfl, rfl⟩ := trodVars_none hV
  have k0 := h0
  have lt0 : ∀ x ∈ p0, x.block < W.heap.size := by obtain ⟨m, hm⟩ := k0; exact DataW.trod_lt m _ _ _ hm
  obtain ⟨c0_0, c0_1, c0_2, c0_3, c0_4, c0_5, y0_0, y0_1, y0_2, y0_3, y0_4, y0_5, nn0, rfl, rfl, rfl, hy0_0, hy0_1, hy0_2, hy0_3, hy0_4, hy0_5⟩ := open_agg6 Try.underlying27 (by kernel_rfl) cellsP (hval 0 27 v0 rfl rfl) h0
  obtain ⟨ga0_0, z0_0, gc0_0, rfl, hg0_0, bg0_0⟩ := things_open hy0_0
  obtain ⟨ga0_1, z0_1, gc0_1, rfl, hg0_1, bg0_1⟩ := vals_open hy0_1
  obtain ⟨ga0_2, z0_2, gc0_2, rfl, hg0_2, bg0_2⟩ := frames_open hy0_2
  obtain ⟨ga0_3, z0_3, gc0_3, rfl, hg0_3, bg0_3⟩ := nums_open hy0_3
  obtain ⟨z0_4, hz, _, _⟩ := DataW.trod_int Try.underlying3 hy0_4
  obtain rfl : c0_4 = .int .i64 z0_4 := by simpa using hz
  clear hz
  obtain ⟨z0_5, hz, _, _⟩ := DataW.trod_int Try.underlying3 hy0_5
  obtain rfl : c0_5 = .int .i64 z0_5 := by simpa using hz
  clear hz
  have k1 := h1
  have lt1 : ∀ x ∈ p1, x.block < W.heap.size := by obtain ⟨m, hm⟩ := k1; exact DataW.trod_lt m _ _ _ hm
  obtain ⟨c1_0, c1_1, c1_2, c1_3, c1_4, c1_5, y1_0, y1_1, y1_2, y1_3, y1_4, y1_5, nn1, rfl, rfl, rfl, hy1_0, hy1_1, hy1_2, hy1_3, hy1_4, hy1_5⟩ := open_agg6 Try.underlying27 (by kernel_rfl) cellsP (hval 1 27 v1 rfl rfl) h1
  obtain ⟨ga1_0, z1_0, gc1_0, rfl, hg1_0, bg1_0⟩ := things_open hy1_0
  obtain ⟨ga1_1, z1_1, gc1_1, rfl, hg1_1, bg1_1⟩ := vals_open hy1_1
  obtain ⟨ga1_2, z1_2, gc1_2, rfl, hg1_2, bg1_2⟩ := frames_open hy1_2
  obtain ⟨ga1_3, z1_3, gc1_3, rfl, hg1_3, bg1_3⟩ := nums_open hy1_3
  obtain ⟨z1_4, hz, _, _⟩ := DataW.trod_int Try.underlying3 hy1_4
  obtain rfl : c1_4 = .int .i64 z1_4 := by simpa using hz
  clear hz
  obtain ⟨z1_5, hz, _, _⟩ := DataW.trod_int Try.underlying3 hy1_5
  obtain rfl : c1_5 = .int .i64 z1_5 := by simpa using hz
  clear hz
  clear hA0 hval0
  refine (walk ga0_0 ga0_1 ga0_2 ga0_3 ga1_0 ga1_1 ga1_2 ga1_3 gc0_0 gc0_1 gc0_2 gc0_3 gc1_0 gc1_1 gc1_2 gc1_3 ⟨z0_0, z0_1, z0_2, z0_3, z0_4, z0_5⟩ ⟨z1_0, z1_1, z1_2, z1_3, z1_4, z1_5⟩ W ⟨bg0_0, bg0_1, bg0_2, bg0_3⟩ ⟨bg1_0, bg1_1, bg1_2, bg1_3⟩ ⟨hg0_0, hg0_1, hg0_2, hg0_3⟩ ⟨hg1_0, hg1_1, hg1_2, hg1_3⟩).mono fun e W' ⟨he, bel⟩ => ?_
  subst he
  exact ⟨_, rfl, _, _, _, [], _, [], hW', trodAll_mk1 (shut_bool Try.underlying4 _), (trodAll_cons_mk (Below.trod Try.laidOut (by kernel_rfl) (of_decide_eq_true (by kernel_rfl)) k0 bel lt0) (trodAll_cons_mk (Below.trod Try.laidOut (by kernel_rfl) (of_decide_eq_true (by kernel_rfl)) k1 bel lt1) trodAll_mk0)), rfl, bel.frame _, fun h => by cases h⟩

theorem over : Rows.fnExactMeanSameRow.holds Try.pinned (OpenSpec.ofChange Rows.fnExactMeanSameSpec) :=
  OpenClaim.holds_of_wide 3 Try.f3 rfl rfl rfl rfl rfl rfl rfl ⟨rfl, rfl, rfl, rfl, rfl⟩ rfl rfl rfl rfl rfl (by kernel_rfl) Try.func3 (by kernel_rfl)
    (of_decide_eq_true (by kernel_rfl)) (by unfold Func.isWrapper; first | (rw [if_pos (by decide +kernel)]; kernel_rfl) | (rw [if_neg (by decide +kernel)]; exact ⟨rfl, rfl⟩))
    (fun os started H enc _ => lifted os started H enc)
end Go.Proofs.Ytchigagedniefaa.fnExactMeanSame
namespace Go.Proofs.Ytchigagedniefaa
theorem fnExactMeanSame_holds : Rows.FnExactMeanSameSaid := fnExactMeanSame.over
end Go.Proofs.Ytchigagedniefaa
