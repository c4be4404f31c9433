/- FnExactEngineSame: for any two EngineSame of the program answers as that of the model does, and changes none. Written by tools/lawsame.py. -/
import Derived.Test.YtpagchajjncmbaaEngSameS
import Derived.Test.YtpagchajjncmbaaOpenEngine
import Derived.Test.YtpagchajjncmbaaGenEngine
import Derived.Deep.RegionWith
import Derived.Deep.RegionHeld3
namespace Go.Proofs.Ytpagchajjncmbaa.fnExactEngineSame
open Go.ChangeShapes Go.WideShapes Go.ChangeAt Go.RowKit Go.Joins Go.Deep
set_option linter.unusedVariables false

/-- As it lies, by its lists. -/
def PM (md : Bool) (w : World) (lo hi : Nat) (a0 a4 a5 a6 a7 : Option Addr) (x : GEngine) : Prop := NumsM md w lo hi a0 x.heap.words ∧ NumsM md w lo hi a4 x.heap.log ∧ ValsM md w lo hi a5 x.glob ∧ FramesM md w lo hi a6 x.frames ∧ NumsM md w lo hi a7 x.outs
theorem PM.keep {md : Bool} {w w' : World} {lo hi : Nat} {a0 a4 a5 a6 a7 : Option Addr} {x : GEngine} (h : PM md w lo hi a0 a4 a5 a6 a7 x) (hb : Below hi w w') : PM md w' lo hi a0 a4 a5 a6 a7 x := ⟨h.1.keep hb, h.2.1.keep hb, h.2.2.1.keep hb, h.2.2.2.1.keep hb, h.2.2.2.2.keep hb⟩

set_option maxHeartbeats 64000000 in
theorem walk (a0 a4 a5 a6 a7 b0 b4 b5 b6 b7 : Option Addr) (c0 c4 c5 c6 c7 d0 d4 d5 d6 d7 : Nat) (x y : GEngine) (w : World) (hlx : EngineB 9223372036854775807 x) (hly : EngineB 9223372036854775807 y) (hx : PM false w 0 w.heap.size a0 a4 a5 a6 a7 x) (hy : PM false w 0 w.heap.size b0 b4 b5 b6 b7 y) :
    Calls Try.prog 3 #[.agg #[.slice a0 x.heap.words.length c0, .int .i64 x.heap.old, .int .i64 x.heap.oldAt, .int .i64 x.heap.youngAt, .slice a4 x.heap.log.length c4, .slice a5 x.glob.length c5, .slice a6 x.frames.length c6, .slice a7 x.outs.length c7, .int .i64 x.asked, .int .i64 x.code, .int .i64 x.steps], .agg #[.slice b0 y.heap.words.length d0, .int .i64 y.heap.old, .int .i64 y.heap.oldAt, .int .i64 y.heap.youngAt, .slice b4 y.heap.log.length d4, .slice b5 y.glob.length d5, .slice b6 y.frames.length d6, .slice b7 y.outs.length d7, .int .i64 y.asked, .int .i64 y.code, .int .i64 y.steps]] w fun e w' => e = .returned (.bool true) ∧ Below w.heap.size w w' := by
  have HLX := hide hlx
  have HLY := hide hly
  have HX := hide hx
  have HY := hide hy
  clear hlx hly hx hy
  go_enter Try.func3, Try.ntmps3
  go_wp2_with fail
  refine (szEngine_any a0 a4 a5 a6 a7 c0 c4 c5 c6 c7 0 w.heap.size x 1048576 _ HLX.out (HX.out.1.keep (by (repeat (first | refine Below.al ?_ (Nat.le_refl _) _ | exact Below.refl _ _)))) (HX.out.2.1.keep (by (repeat (first | refine Below.al ?_ (Nat.le_refl _) _ | exact Below.refl _ _)))) (HX.out.2.2.1.keep (by (repeat (first | refine Below.al ?_ (Nat.le_refl _) _ | exact Below.refl _ _)))) (HX.out.2.2.2.1.keep (by (repeat (first | refine Below.al ?_ (Nat.le_refl _) _ | exact Below.refl _ _)))) (HX.out.2.2.2.2.keep (by (repeat (first | refine Below.al ?_ (Nat.le_refl _) _ | exact Below.refl _ _)))) (by go_size) (by omega) (by omega)).mono ?_
  rintro e w0 ⟨r0, rfl, s0, t0, u0, hb0⟩
  have U0 := hide u0
  clear u0
  have B0 : Hid (Below w.heap.size w w0) := Below.trans (by (repeat (first | refine Below.al ?_ (Nat.le_refl _) _ | exact Below.refl _ _))) (hb0.mono (by go_size))
  have P0 : Hid (Rec w0 w.heap.size 28 [.slice a0 x.heap.words.length c0, .int .i64 x.heap.old, .int .i64 x.heap.oldAt, .int .i64 x.heap.youngAt, .slice a4 x.heap.log.length c4, .slice a5 x.glob.length c5, .slice a6 x.frames.length c6, .slice a7 x.outs.length c7, .int .i64 x.asked, .int .i64 x.code, .int .i64 x.steps]) := ((Rec.new' _ _ _ _ rfl).alloc _).below hb0 (by go_size)
  have R0 : Hid (Rec w0 (w.heap.size + 1) 28 [.slice b0 y.heap.words.length d0, .int .i64 y.heap.old, .int .i64 y.heap.oldAt, .int .i64 y.heap.youngAt, .slice b4 y.heap.log.length d4, .slice b5 y.glob.length d5, .slice b6 y.frames.length d6, .slice b7 y.outs.length d7, .int .i64 y.asked, .int .i64 y.code, .int .i64 y.steps]) := (Rec.new' _ _ _ _ (by simp)).below hb0 (by go_size)
  have p0_0 := P0.out.cell (o := 0) rfl
  have r0_0 := R0.out.cell (o := 0) rfl
  have p1_0 := P0.out.cell (o := 1) rfl
  have r1_0 := R0.out.cell (o := 1) rfl
  have p2_0 := P0.out.cell (o := 2) rfl
  have r2_0 := R0.out.cell (o := 2) rfl
  have p3_0 := P0.out.cell (o := 3) rfl
  have r3_0 := R0.out.cell (o := 3) rfl
  have p4_0 := P0.out.cell (o := 4) rfl
  have r4_0 := R0.out.cell (o := 4) rfl
  have p5_0 := P0.out.cell (o := 5) rfl
  have r5_0 := R0.out.cell (o := 5) rfl
  have p6_0 := P0.out.cell (o := 6) rfl
  have r6_0 := R0.out.cell (o := 6) rfl
  have p7_0 := P0.out.cell (o := 7) rfl
  have r7_0 := R0.out.cell (o := 7) rfl
  have p8_0 := P0.out.cell (o := 8) rfl
  have r8_0 := R0.out.cell (o := 8) rfl
  have p9_0 := P0.out.cell (o := 9) rfl
  have r9_0 := R0.out.cell (o := 9) rfl
  have p10_0 := P0.out.cell (o := 10) rfl
  have r10_0 := R0.out.cell (o := 10) rfl
  clear hb0
  by_cases hr0 : r0 < 0
  · go_wp2_with fail
    go_ret
    exact ⟨rfl, B0.out⟩
  have FX : Hid (EngineB 1048576 x) := U0.out (by omega)
  clear U0
  go_wp2_with fail
  refine (szEngine_any b0 b4 b5 b6 b7 d0 d4 d5 d6 d7 0 w.heap.size y r0 _ HLY.out (HY.out.1.keep B0.out) (HY.out.2.1.keep B0.out) (HY.out.2.2.1.keep B0.out) (HY.out.2.2.2.1.keep B0.out) (HY.out.2.2.2.2.keep B0.out) B0.out.size (by omega) (by omega)).mono ?_
  rintro e w1 ⟨r1, rfl, s1, t1, u1, hb1⟩
  have U1 := hide u1
  clear u1
  have B1 : Hid (Below w.heap.size w w1) := B0.out.trans (hb1.mono B0.out.size)
  have P1 : Hid (Rec w1 w.heap.size 28 [.slice a0 x.heap.words.length c0, .int .i64 x.heap.old, .int .i64 x.heap.oldAt, .int .i64 x.heap.youngAt, .slice a4 x.heap.log.length c4, .slice a5 x.glob.length c5, .slice a6 x.frames.length c6, .slice a7 x.outs.length c7, .int .i64 x.asked, .int .i64 x.code, .int .i64 x.steps]) := P0.out.below hb1 P0.out.lt
  have R1 : Hid (Rec w1 (w.heap.size + 1) 28 [.slice b0 y.heap.words.length d0, .int .i64 y.heap.old, .int .i64 y.heap.oldAt, .int .i64 y.heap.youngAt, .slice b4 y.heap.log.length d4, .slice b5 y.glob.length d5, .slice b6 y.frames.length d6, .slice b7 y.outs.length d7, .int .i64 y.asked, .int .i64 y.code, .int .i64 y.steps]) := R0.out.below hb1 R0.out.lt
  clear p0_0 r0_0 p1_0 r1_0 p2_0 r2_0 p3_0 r3_0 p4_0 r4_0 p5_0 r5_0 p6_0 r6_0 p7_0 r7_0 p8_0 r8_0 p9_0 r9_0 p10_0 r10_0
  have p0_1 := P1.out.cell (o := 0) rfl
  have r0_1 := R1.out.cell (o := 0) rfl
  have p1_1 := P1.out.cell (o := 1) rfl
  have r1_1 := R1.out.cell (o := 1) rfl
  have p2_1 := P1.out.cell (o := 2) rfl
  have r2_1 := R1.out.cell (o := 2) rfl
  have p3_1 := P1.out.cell (o := 3) rfl
  have r3_1 := R1.out.cell (o := 3) rfl
  have p4_1 := P1.out.cell (o := 4) rfl
  have r4_1 := R1.out.cell (o := 4) rfl
  have p5_1 := P1.out.cell (o := 5) rfl
  have r5_1 := R1.out.cell (o := 5) rfl
  have p6_1 := P1.out.cell (o := 6) rfl
  have r6_1 := R1.out.cell (o := 6) rfl
  have p7_1 := P1.out.cell (o := 7) rfl
  have r7_1 := R1.out.cell (o := 7) rfl
  have p8_1 := P1.out.cell (o := 8) rfl
  have r8_1 := R1.out.cell (o := 8) rfl
  have p9_1 := P1.out.cell (o := 9) rfl
  have r9_1 := R1.out.cell (o := 9) rfl
  have p10_1 := P1.out.cell (o := 10) rfl
  have r10_1 := R1.out.cell (o := 10) rfl
  clear hb1
  by_cases hr1 : r1 < 0
  · go_wp2_with fail
    go_ret
    exact ⟨rfl, B1.out⟩
  have FY : Hid (EngineB 1048576 y) := U1.out (by omega)
  clear U1
  go_wp2_with fail
  have CX : Hid (∀ W, Below w1.heap.size w1 W → Calls Try.prog 7 #[.agg #[.slice a0 x.heap.words.length c0, .int .i64 x.heap.old, .int .i64 x.heap.oldAt, .int .i64 x.heap.youngAt, .slice a4 x.heap.log.length c4, .slice a5 x.glob.length c5, .slice a6 x.frames.length c6, .slice a7 x.outs.length c7, .int .i64 x.asked, .int .i64 x.code, .int .i64 x.steps]] W fun e w' => ∃ n0 n4 n5 n6 n7, e = .returned (.agg #[.slice n0 x.heap.words.length x.heap.words.length, .int .i64 x.heap.old, .int .i64 x.heap.oldAt, .int .i64 x.heap.youngAt, .slice n4 x.heap.log.length x.heap.log.length, .slice n5 x.glob.length x.glob.length, .slice n6 x.frames.length x.frames.length, .slice n7 x.outs.length x.outs.length, .int .i64 x.asked, .int .i64 x.code, .int .i64 x.steps]) ∧ PM true w' w1.heap.size w'.heap.size n0 n4 n5 n6 n7 x ∧ Below w1.heap.size w1 w' ∧ Below W.heap.size W w') := fun W hW => by
    refine (toEngine_any a0 c0 a4 c4 a5 c5 a6 c6 a7 c7 0 w.heap.size x W FX.out (HX.out.1.keep (B1.out.trans (hW.mono B1.out.size))) (HX.out.2.1.keep (B1.out.trans (hW.mono B1.out.size))) (HX.out.2.2.1.keep (B1.out.trans (hW.mono B1.out.size))) (HX.out.2.2.2.1.keep (B1.out.trans (hW.mono B1.out.size))) (HX.out.2.2.2.2.keep (B1.out.trans (hW.mono B1.out.size))) (Nat.le_trans B1.out.size hW.size)).mono ?_
    rintro e w' ⟨n0, n4, n5, n6, n7, rfl, q0, q4, q5, q6, q7, hb⟩
    exact ⟨n0, n4, n5, n6, n7, rfl, ⟨q0.wide hW.size (Nat.le_refl _), q4.wide hW.size (Nat.le_refl _), q5.wide hW.size (Nat.le_refl _), q6.wide hW.size (Nat.le_refl _), q7.wide hW.size (Nat.le_refl _)⟩, hW.trans (hb.mono hW.size), hb⟩
  have CY : Hid (∀ W, Below w1.heap.size w1 W → Calls Try.prog 7 #[.agg #[.slice b0 y.heap.words.length d0, .int .i64 y.heap.old, .int .i64 y.heap.oldAt, .int .i64 y.heap.youngAt, .slice b4 y.heap.log.length d4, .slice b5 y.glob.length d5, .slice b6 y.frames.length d6, .slice b7 y.outs.length d7, .int .i64 y.asked, .int .i64 y.code, .int .i64 y.steps]] W fun e w' => ∃ n0 n4 n5 n6 n7, e = .returned (.agg #[.slice n0 y.heap.words.length y.heap.words.length, .int .i64 y.heap.old, .int .i64 y.heap.oldAt, .int .i64 y.heap.youngAt, .slice n4 y.heap.log.length y.heap.log.length, .slice n5 y.glob.length y.glob.length, .slice n6 y.frames.length y.frames.length, .slice n7 y.outs.length y.outs.length, .int .i64 y.asked, .int .i64 y.code, .int .i64 y.steps]) ∧ PM true w' w1.heap.size w'.heap.size n0 n4 n5 n6 n7 y ∧ Below w1.heap.size w1 w' ∧ Below W.heap.size W w') := fun W hW => by
    refine (toEngine_any b0 d0 b4 d4 b5 d5 b6 d6 b7 d7 0 w.heap.size y W FY.out (HY.out.1.keep (B1.out.trans (hW.mono B1.out.size))) (HY.out.2.1.keep (B1.out.trans (hW.mono B1.out.size))) (HY.out.2.2.1.keep (B1.out.trans (hW.mono B1.out.size))) (HY.out.2.2.2.1.keep (B1.out.trans (hW.mono B1.out.size))) (HY.out.2.2.2.2.keep (B1.out.trans (hW.mono B1.out.size))) (Nat.le_trans B1.out.size hW.size)).mono ?_
    rintro e w' ⟨n0, n4, n5, n6, n7, rfl, q0, q4, q5, q6, q7, hb⟩
    exact ⟨n0, n4, n5, n6, n7, rfl, ⟨q0.wide hW.size (Nat.le_refl _), q4.wide hW.size (Nat.le_refl _), q5.wide hW.size (Nat.le_refl _), q6.wide hW.size (Nat.le_refl _), q7.wide hW.size (Nat.le_refl _)⟩, hW.trans (hb.mono hW.size), hb⟩
  have CS : Hid (∀ W lo hi lo' hi' k0 k4 k5 k6 k7 l0 l4 l5 l6 l7, Below w1.heap.size w1 W → PM true W lo hi k0 k4 k5 k6 k7 x → PM true W lo' hi' l0 l4 l5 l6 l7 y → hi ≤ W.heap.size → hi' ≤ W.heap.size → Calls Try.prog 6 #[.agg #[.slice k0 x.heap.words.length x.heap.words.length, .int .i64 x.heap.old, .int .i64 x.heap.oldAt, .int .i64 x.heap.youngAt, .slice k4 x.heap.log.length x.heap.log.length, .slice k5 x.glob.length x.glob.length, .slice k6 x.frames.length x.frames.length, .slice k7 x.outs.length x.outs.length, .int .i64 x.asked, .int .i64 x.code, .int .i64 x.steps], .agg #[.slice l0 y.heap.words.length y.heap.words.length, .int .i64 y.heap.old, .int .i64 y.heap.oldAt, .int .i64 y.heap.youngAt, .slice l4 y.heap.log.length y.heap.log.length, .slice l5 y.glob.length y.glob.length, .slice l6 y.frames.length y.frames.length, .slice l7 y.outs.length y.outs.length, .int .i64 y.asked, .int .i64 y.code, .int .i64 y.steps]] W fun e w' => e = .returned (.bool (engineSame x y)) ∧ Below w1.heap.size w1 w') := fun W lo hi lo' hi' k0 k4 k5 k6 k7 l0 l4 l5 l6 l7 hW hk hl h1 h2 => by
    refine (specEngineSame_any k0 k4 k5 k6 k7 l0 l4 l5 l6 l7 _ _ _ _ _ _ _ _ _ _ lo hi lo' hi' x y W FX.out FY.out hk.1 hk.2.1 hk.2.2.1 hk.2.2.2.1 hk.2.2.2.2 hl.1 hl.2.1 hl.2.2.1 hl.2.2.2.1 hl.2.2.2.2 h1 h2).mono ?_
    rintro e w' ⟨rfl, hb⟩
    exact ⟨rfl, hW.trans (hb.mono hW.size)⟩
  go_region_with (first
    | (go_at_call_of 7 (Value.slice a0 x.heap.words.length c0); refine (CX.out _ ?_).mono ?_; (first | exact (Below.refl _ _).drew | exact bY | exact bY.drew | exact Below.refl _ _); rintro e wX ⟨x0, x4, x5, x6, x7, rfl, pX, bX, tX⟩; have pX0 := (P1.out.below bX P1.out.lt).cell (o := 0) rfl; have pX1 := (P1.out.below bX P1.out.lt).cell (o := 1) rfl; have pX2 := (P1.out.below bX P1.out.lt).cell (o := 2) rfl; have pX3 := (P1.out.below bX P1.out.lt).cell (o := 3) rfl; have pX4 := (P1.out.below bX P1.out.lt).cell (o := 4) rfl; have pX5 := (P1.out.below bX P1.out.lt).cell (o := 5) rfl; have pX6 := (P1.out.below bX P1.out.lt).cell (o := 6) rfl; have pX7 := (P1.out.below bX P1.out.lt).cell (o := 7) rfl; have pX8 := (P1.out.below bX P1.out.lt).cell (o := 8) rfl; have pX9 := (P1.out.below bX P1.out.lt).cell (o := 9) rfl; have pX10 := (P1.out.below bX P1.out.lt).cell (o := 10) rfl; have rX0 := (R1.out.below bX R1.out.lt).cell (o := 0) rfl; have rX1 := (R1.out.below bX R1.out.lt).cell (o := 1) rfl; have rX2 := (R1.out.below bX R1.out.lt).cell (o := 2) rfl; have rX3 := (R1.out.below bX R1.out.lt).cell (o := 3) rfl; have rX4 := (R1.out.below bX R1.out.lt).cell (o := 4) rfl; have rX5 := (R1.out.below bX R1.out.lt).cell (o := 5) rfl; have rX6 := (R1.out.below bX R1.out.lt).cell (o := 6) rfl; have rX7 := (R1.out.below bX R1.out.lt).cell (o := 7) rfl; have rX8 := (R1.out.below bX R1.out.lt).cell (o := 8) rfl; have rX9 := (R1.out.below bX R1.out.lt).cell (o := 9) rfl; have rX10 := (R1.out.below bX R1.out.lt).cell (o := 10) rfl)
    | (go_at_call_of 7 (Value.slice b0 y.heap.words.length d0); refine (CY.out _ ?_).mono ?_; (first | exact (Below.refl _ _).drew | exact bX | exact bX.drew | exact Below.refl _ _); rintro e wY ⟨y0, y4, y5, y6, y7, rfl, pY, bY, tY⟩; have pY0 := (P1.out.below bY P1.out.lt).cell (o := 0) rfl; have pY1 := (P1.out.below bY P1.out.lt).cell (o := 1) rfl; have pY2 := (P1.out.below bY P1.out.lt).cell (o := 2) rfl; have pY3 := (P1.out.below bY P1.out.lt).cell (o := 3) rfl; have pY4 := (P1.out.below bY P1.out.lt).cell (o := 4) rfl; have pY5 := (P1.out.below bY P1.out.lt).cell (o := 5) rfl; have pY6 := (P1.out.below bY P1.out.lt).cell (o := 6) rfl; have pY7 := (P1.out.below bY P1.out.lt).cell (o := 7) rfl; have pY8 := (P1.out.below bY P1.out.lt).cell (o := 8) rfl; have pY9 := (P1.out.below bY P1.out.lt).cell (o := 9) rfl; have pY10 := (P1.out.below bY P1.out.lt).cell (o := 10) rfl; have rY0 := (R1.out.below bY R1.out.lt).cell (o := 0) rfl; have rY1 := (R1.out.below bY R1.out.lt).cell (o := 1) rfl; have rY2 := (R1.out.below bY R1.out.lt).cell (o := 2) rfl; have rY3 := (R1.out.below bY R1.out.lt).cell (o := 3) rfl; have rY4 := (R1.out.below bY R1.out.lt).cell (o := 4) rfl; have rY5 := (R1.out.below bY R1.out.lt).cell (o := 5) rfl; have rY6 := (R1.out.below bY R1.out.lt).cell (o := 6) rfl; have rY7 := (R1.out.below bY R1.out.lt).cell (o := 7) rfl; have rY8 := (R1.out.below bY R1.out.lt).cell (o := 8) rfl; have rY9 := (R1.out.below bY R1.out.lt).cell (o := 9) rfl; have rY10 := (R1.out.below bY R1.out.lt).cell (o := 10) rfl)
    | (go_at_call 6; first
        | (refine (CS.out _ _ _ _ _ x0 x4 x5 x6 x7 y0 y4 y5 y6 y7 bY (pX.keep tY) pY tY.size (Nat.le_refl _)).mono ?_; rintro e w2 ⟨rfl, bS⟩)
        | (refine (CS.out _ _ _ _ _ x0 x4 x5 x6 x7 y0 y4 y5 y6 y7 bX pX (pY.keep tX) (Nat.le_refl _) tX.size).mono ?_; rintro e w2 ⟨rfl, bS⟩)))
  all_goals
    have B2 : Hid (Below w.heap.size w w2) := B1.out.trans (bS.mono B1.out.size)
    have P2 : Hid (Rec w2 w.heap.size 28 [.slice a0 x.heap.words.length c0, .int .i64 x.heap.old, .int .i64 x.heap.oldAt, .int .i64 x.heap.youngAt, .slice a4 x.heap.log.length c4, .slice a5 x.glob.length c5, .slice a6 x.frames.length c6, .slice a7 x.outs.length c7, .int .i64 x.asked, .int .i64 x.code, .int .i64 x.steps]) := P1.out.below bS P1.out.lt
    have R2 : Hid (Rec w2 (w.heap.size + 1) 28 [.slice b0 y.heap.words.length d0, .int .i64 y.heap.old, .int .i64 y.heap.oldAt, .int .i64 y.heap.youngAt, .slice b4 y.heap.log.length d4, .slice b5 y.glob.length d5, .slice b6 y.frames.length d6, .slice b7 y.outs.length d7, .int .i64 y.asked, .int .i64 y.code, .int .i64 y.steps]) := R1.out.below bS R1.out.lt
    clear pX bX tX pY bY tY bS CX CY CS pX0 pX1 pX2 pX3 pX4 pX5 pX6 pX7 pX8 pX9 pX10 pY0 pY1 pY2 pY3 pY4 pY5 pY6 pY7 pY8 pY9 pY10 rX0 rX1 rX2 rX3 rX4 rX5 rX6 rX7 rX8 rX9 rX10 rY0 rY1 rY2 rY3 rY4 rY5 rY6 rY7 rY8 rY9 rY10 p0_1 r0_1 p1_1 r1_1 p2_1 r2_1 p3_1 r3_1 p4_1 r4_1 p5_1 r5_1 p6_1 r6_1 p7_1 r7_1 p8_1 r8_1 p9_1 r9_1 p10_1 r10_1
    have p0_2 := P2.out.cell (o := 0) rfl
    have r0_2 := R2.out.cell (o := 0) rfl
    have p1_2 := P2.out.cell (o := 1) rfl
    have r1_2 := R2.out.cell (o := 1) rfl
    have p2_2 := P2.out.cell (o := 2) rfl
    have r2_2 := R2.out.cell (o := 2) rfl
    have p3_2 := P2.out.cell (o := 3) rfl
    have r3_2 := R2.out.cell (o := 3) rfl
    have p4_2 := P2.out.cell (o := 4) rfl
    have r4_2 := R2.out.cell (o := 4) rfl
    have p5_2 := P2.out.cell (o := 5) rfl
    have r5_2 := R2.out.cell (o := 5) rfl
    have p6_2 := P2.out.cell (o := 6) rfl
    have r6_2 := R2.out.cell (o := 6) rfl
    have p7_2 := P2.out.cell (o := 7) rfl
    have r7_2 := R2.out.cell (o := 7) rfl
    have p8_2 := P2.out.cell (o := 8) rfl
    have r8_2 := R2.out.cell (o := 8) rfl
    have p9_2 := P2.out.cell (o := 9) rfl
    have r9_2 := R2.out.cell (o := 9) rfl
    have p10_2 := P2.out.cell (o := 10) rfl
    have r10_2 := R2.out.cell (o := 10) rfl
    go_wp2_with fail
    refine (toEngine_any a0 c0 a4 c4 a5 c5 a6 c6 a7 c7 0 w.heap.size x _ FX.out (HX.out.1.keep B2.out) (HX.out.2.1.keep B2.out) (HX.out.2.2.1.keep B2.out) (HX.out.2.2.2.1.keep B2.out) (HX.out.2.2.2.2.keep B2.out) B2.out.size).mono ?_
    rintro e w3 ⟨k0, k4, k5, k6, k7, rfl, q0, q4, q5, q6, q7, hb3⟩
    have K : Hid (PM true w3 w2.heap.size w3.heap.size k0 k4 k5 k6 k7 x) := ⟨q0, q4, q5, q6, q7⟩
    clear q0 q4 q5 q6 q7
    have B3 : Hid (Below w.heap.size w w3) := B2.out.trans (hb3.mono B2.out.size)
    have P3 : Hid (Rec w3 w.heap.size 28 [.slice a0 x.heap.words.length c0, .int .i64 x.heap.old, .int .i64 x.heap.oldAt, .int .i64 x.heap.youngAt, .slice a4 x.heap.log.length c4, .slice a5 x.glob.length c5, .slice a6 x.frames.length c6, .slice a7 x.outs.length c7, .int .i64 x.asked, .int .i64 x.code, .int .i64 x.steps]) := P2.out.below hb3 P2.out.lt
    have R3 : Hid (Rec w3 (w.heap.size + 1) 28 [.slice b0 y.heap.words.length d0, .int .i64 y.heap.old, .int .i64 y.heap.oldAt, .int .i64 y.heap.youngAt, .slice b4 y.heap.log.length d4, .slice b5 y.glob.length d5, .slice b6 y.frames.length d6, .slice b7 y.outs.length d7, .int .i64 y.asked, .int .i64 y.code, .int .i64 y.steps]) := R2.out.below hb3 R2.out.lt
    clear p0_2 r0_2 p1_2 r1_2 p2_2 r2_2 p3_2 r3_2 p4_2 r4_2 p5_2 r5_2 p6_2 r6_2 p7_2 r7_2 p8_2 r8_2 p9_2 r9_2 p10_2 r10_2
    have p0_3 := P3.out.cell (o := 0) rfl
    have r0_3 := R3.out.cell (o := 0) rfl
    have p1_3 := P3.out.cell (o := 1) rfl
    have r1_3 := R3.out.cell (o := 1) rfl
    have p2_3 := P3.out.cell (o := 2) rfl
    have r2_3 := R3.out.cell (o := 2) rfl
    have p3_3 := P3.out.cell (o := 3) rfl
    have r3_3 := R3.out.cell (o := 3) rfl
    have p4_3 := P3.out.cell (o := 4) rfl
    have r4_3 := R3.out.cell (o := 4) rfl
    have p5_3 := P3.out.cell (o := 5) rfl
    have r5_3 := R3.out.cell (o := 5) rfl
    have p6_3 := P3.out.cell (o := 6) rfl
    have r6_3 := R3.out.cell (o := 6) rfl
    have p7_3 := P3.out.cell (o := 7) rfl
    have r7_3 := R3.out.cell (o := 7) rfl
    have p8_3 := P3.out.cell (o := 8) rfl
    have r8_3 := R3.out.cell (o := 8) rfl
    have p9_3 := P3.out.cell (o := 9) rfl
    have r9_3 := R3.out.cell (o := 9) rfl
    have p10_3 := P3.out.cell (o := 10) rfl
    have r10_3 := R3.out.cell (o := 10) rfl
    clear hb3
    have y1 : w.heap.size < w3.heap.size := P3.out.lt
    have y2 : w.heap.size + 1 < w3.heap.size := R3.out.lt
    go_wp2_with fail
    refine (toEngine_any b0 d0 b4 d4 b5 d5 b6 d6 b7 d7 0 w.heap.size y _ FY.out (HY.out.1.keep (Below.al B3.out (Nat.le_refl _) _)) (HY.out.2.1.keep (Below.al B3.out (Nat.le_refl _) _)) (HY.out.2.2.1.keep (Below.al B3.out (Nat.le_refl _) _)) (HY.out.2.2.2.1.keep (Below.al B3.out (Nat.le_refl _) _)) (HY.out.2.2.2.2.keep (Below.al B3.out (Nat.le_refl _) _)) (Nat.le_trans B3.out.size (by go_size))).mono ?_
    rintro e w4 ⟨l0, l4, l5, l6, l7, rfl, q0, q4, q5, q6, q7, hb4⟩
    have U4 : Hid (Below w3.heap.size w3 w4) := Below.trans (Below.al (Below.refl _ _) (Nat.le_refl _) _) (hb4.mono (by go_size))
    have L4 : Hid (PM true w4 w3.heap.size w4.heap.size l0 l4 l5 l6 l7 y) := ⟨q0.wide (by go_size) (Nat.le_refl _), q4.wide (by go_size) (Nat.le_refl _), q5.wide (by go_size) (Nat.le_refl _), q6.wide (by go_size) (Nat.le_refl _), q7.wide (by go_size) (Nat.le_refl _)⟩
    have K4 : Hid (PM true w4 w2.heap.size w3.heap.size k0 k4 k5 k6 k7 x) := K.out.keep U4.out
    have X4 : Hid (Rec w4 w3.heap.size 35 [.slice k0 x.heap.words.length x.heap.words.length, .int .i64 x.heap.old, .int .i64 x.heap.oldAt, .int .i64 x.heap.youngAt, .slice k4 x.heap.log.length x.heap.log.length, .slice k5 x.glob.length x.glob.length, .slice k6 x.frames.length x.frames.length, .slice k7 x.outs.length x.outs.length, .int .i64 x.asked, .int .i64 x.code, .int .i64 x.steps]) := (Rec.new' _ _ _ _ rfl).below hb4 (by go_size)
    have B4 : Hid (Below w.heap.size w w4) := B3.out.trans (U4.out.mono B3.out.size)
    have P4 : Hid (Rec w4 w.heap.size 28 [.slice a0 x.heap.words.length c0, .int .i64 x.heap.old, .int .i64 x.heap.oldAt, .int .i64 x.heap.youngAt, .slice a4 x.heap.log.length c4, .slice a5 x.glob.length c5, .slice a6 x.frames.length c6, .slice a7 x.outs.length c7, .int .i64 x.asked, .int .i64 x.code, .int .i64 x.steps]) := P3.out.below U4.out P3.out.lt
    have R4 : Hid (Rec w4 (w.heap.size + 1) 28 [.slice b0 y.heap.words.length d0, .int .i64 y.heap.old, .int .i64 y.heap.oldAt, .int .i64 y.heap.youngAt, .slice b4 y.heap.log.length d4, .slice b5 y.glob.length d5, .slice b6 y.frames.length d6, .slice b7 y.outs.length d7, .int .i64 y.asked, .int .i64 y.code, .int .i64 y.steps]) := R3.out.below U4.out R3.out.lt
    clear q0 q4 q5 q6 q7 hb4 p0_3 r0_3 p1_3 r1_3 p2_3 r2_3 p3_3 r3_3 p4_3 r4_3 p5_3 r5_3 p6_3 r6_3 p7_3 r7_3 p8_3 r8_3 p9_3 r9_3 p10_3 r10_3 y1 y2
    have y1 : w.heap.size < w4.heap.size := P4.out.lt
    have y2 : w.heap.size + 1 < w4.heap.size := R4.out.lt
    have y3 : w3.heap.size < w4.heap.size := X4.out.lt
    have x0_4 := X4.out.cell (o := 0) rfl
    have p0_4 := P4.out.cell (o := 0) rfl
    have r0_4 := R4.out.cell (o := 0) rfl
    have x1_4 := X4.out.cell (o := 1) rfl
    have p1_4 := P4.out.cell (o := 1) rfl
    have r1_4 := R4.out.cell (o := 1) rfl
    have x2_4 := X4.out.cell (o := 2) rfl
    have p2_4 := P4.out.cell (o := 2) rfl
    have r2_4 := R4.out.cell (o := 2) rfl
    have x3_4 := X4.out.cell (o := 3) rfl
    have p3_4 := P4.out.cell (o := 3) rfl
    have r3_4 := R4.out.cell (o := 3) rfl
    have x4_4 := X4.out.cell (o := 4) rfl
    have p4_4 := P4.out.cell (o := 4) rfl
    have r4_4 := R4.out.cell (o := 4) rfl
    have x5_4 := X4.out.cell (o := 5) rfl
    have p5_4 := P4.out.cell (o := 5) rfl
    have r5_4 := R4.out.cell (o := 5) rfl
    have x6_4 := X4.out.cell (o := 6) rfl
    have p6_4 := P4.out.cell (o := 6) rfl
    have r6_4 := R4.out.cell (o := 6) rfl
    have x7_4 := X4.out.cell (o := 7) rfl
    have p7_4 := P4.out.cell (o := 7) rfl
    have r7_4 := R4.out.cell (o := 7) rfl
    have x8_4 := X4.out.cell (o := 8) rfl
    have p8_4 := P4.out.cell (o := 8) rfl
    have r8_4 := R4.out.cell (o := 8) rfl
    have x9_4 := X4.out.cell (o := 9) rfl
    have p9_4 := P4.out.cell (o := 9) rfl
    have r9_4 := R4.out.cell (o := 9) rfl
    have x10_4 := X4.out.cell (o := 10) rfl
    have p10_4 := P4.out.cell (o := 10) rfl
    have r10_4 := R4.out.cell (o := 10) rfl
    go_wp2_with fail
    refine (implEngineSame_any k0 k4 k5 k6 k7 l0 l4 l5 l6 l7 _ _ _ _ _ _ _ _ _ _ w2.heap.size w3.heap.size w3.heap.size w4.heap.size x y _ FX.out FY.out (K4.out.1.keep (Below.al (Below.refl _ _) (Nat.le_of_lt y3) _)) (K4.out.2.1.keep (Below.al (Below.refl _ _) (Nat.le_of_lt y3) _)) (K4.out.2.2.1.keep (Below.al (Below.refl _ _) (Nat.le_of_lt y3) _)) (K4.out.2.2.2.1.keep (Below.al (Below.refl _ _) (Nat.le_of_lt y3) _)) (K4.out.2.2.2.2.keep (Below.al (Below.refl _ _) (Nat.le_of_lt y3) _)) (L4.out.1.keep (Below.al (Below.refl _ _) (Nat.le_refl _) _)) (L4.out.2.1.keep (Below.al (Below.refl _ _) (Nat.le_refl _) _)) (L4.out.2.2.1.keep (Below.al (Below.refl _ _) (Nat.le_refl _) _)) (L4.out.2.2.2.1.keep (Below.al (Below.refl _ _) (Nat.le_refl _) _)) (L4.out.2.2.2.2.keep (Below.al (Below.refl _ _) (Nat.le_refl _) _)) (by go_size) (by go_size)).mono ?_
    rintro e w5 ⟨rfl, hb5⟩
    have U5 : Hid (Below w4.heap.size w4 w5) := Below.trans (Below.al (Below.refl _ _) (Nat.le_refl _) _) (hb5.mono (by go_size))
    have Y5 : Hid (Rec w5 w4.heap.size 35 [.slice l0 y.heap.words.length y.heap.words.length, .int .i64 y.heap.old, .int .i64 y.heap.oldAt, .int .i64 y.heap.youngAt, .slice l4 y.heap.log.length y.heap.log.length, .slice l5 y.glob.length y.glob.length, .slice l6 y.frames.length y.frames.length, .slice l7 y.outs.length y.outs.length, .int .i64 y.asked, .int .i64 y.code, .int .i64 y.steps]) := (Rec.new' _ _ _ _ rfl).below hb5 (by go_size)
    have X5 : Hid (Rec w5 w3.heap.size 35 [.slice k0 x.heap.words.length x.heap.words.length, .int .i64 x.heap.old, .int .i64 x.heap.oldAt, .int .i64 x.heap.youngAt, .slice k4 x.heap.log.length x.heap.log.length, .slice k5 x.glob.length x.glob.length, .slice k6 x.frames.length x.frames.length, .slice k7 x.outs.length x.outs.length, .int .i64 x.asked, .int .i64 x.code, .int .i64 x.steps]) := X4.out.below U5.out X4.out.lt
    have K5 : Hid (PM true w5 w2.heap.size w3.heap.size k0 k4 k5 k6 k7 x) := K4.out.keep (U5.out.mono (Nat.le_of_lt y3))
    have L5 : Hid (PM true w5 w3.heap.size w4.heap.size l0 l4 l5 l6 l7 y) := L4.out.keep U5.out
    have B5 : Hid (Below w.heap.size w w5) := B4.out.trans (U5.out.mono B4.out.size)
    have P5 : Hid (Rec w5 w.heap.size 28 [.slice a0 x.heap.words.length c0, .int .i64 x.heap.old, .int .i64 x.heap.oldAt, .int .i64 x.heap.youngAt, .slice a4 x.heap.log.length c4, .slice a5 x.glob.length c5, .slice a6 x.frames.length c6, .slice a7 x.outs.length c7, .int .i64 x.asked, .int .i64 x.code, .int .i64 x.steps]) := P4.out.below U5.out P4.out.lt
    have R5 : Hid (Rec w5 (w.heap.size + 1) 28 [.slice b0 y.heap.words.length d0, .int .i64 y.heap.old, .int .i64 y.heap.oldAt, .int .i64 y.heap.youngAt, .slice b4 y.heap.log.length d4, .slice b5 y.glob.length d5, .slice b6 y.frames.length d6, .slice b7 y.outs.length d7, .int .i64 y.asked, .int .i64 y.code, .int .i64 y.steps]) := R4.out.below U5.out R4.out.lt
    have y4 : w4.heap.size < w5.heap.size := Y5.out.lt
    clear hb5 x0_4 p0_4 r0_4 x1_4 p1_4 r1_4 x2_4 p2_4 r2_4 x3_4 p3_4 r3_4 x4_4 p4_4 r4_4 x5_4 p5_4 r5_4 x6_4 p6_4 r6_4 x7_4 p7_4 r7_4 x8_4 p8_4 r8_4 x9_4 p9_4 r9_4 x10_4 p10_4 r10_4
    have x0_5 := X5.out.cell (o := 0) rfl
    have x1_5 := X5.out.cell (o := 1) rfl
    have x2_5 := X5.out.cell (o := 2) rfl
    have x3_5 := X5.out.cell (o := 3) rfl
    have x4_5 := X5.out.cell (o := 4) rfl
    have x5_5 := X5.out.cell (o := 5) rfl
    have x6_5 := X5.out.cell (o := 6) rfl
    have x7_5 := X5.out.cell (o := 7) rfl
    have x8_5 := X5.out.cell (o := 8) rfl
    have x9_5 := X5.out.cell (o := 9) rfl
    have x10_5 := X5.out.cell (o := 10) rfl
    have y0_5 := Y5.out.cell (o := 0) rfl
    have y1_5 := Y5.out.cell (o := 1) rfl
    have y2_5 := Y5.out.cell (o := 2) rfl
    have y3_5 := Y5.out.cell (o := 3) rfl
    have y4_5 := Y5.out.cell (o := 4) rfl
    have y5_5 := Y5.out.cell (o := 5) rfl
    have y6_5 := Y5.out.cell (o := 6) rfl
    have y7_5 := Y5.out.cell (o := 7) rfl
    have y8_5 := Y5.out.cell (o := 8) rfl
    have y9_5 := Y5.out.cell (o := 9) rfl
    have y10_5 := Y5.out.cell (o := 10) rfl
    have p0_5 := P5.out.cell (o := 0) rfl
    have p1_5 := P5.out.cell (o := 1) rfl
    have p2_5 := P5.out.cell (o := 2) rfl
    have p3_5 := P5.out.cell (o := 3) rfl
    have p4_5 := P5.out.cell (o := 4) rfl
    have p5_5 := P5.out.cell (o := 5) rfl
    have p6_5 := P5.out.cell (o := 6) rfl
    have p7_5 := P5.out.cell (o := 7) rfl
    have p8_5 := P5.out.cell (o := 8) rfl
    have p9_5 := P5.out.cell (o := 9) rfl
    have p10_5 := P5.out.cell (o := 10) rfl
    have r0_5 := R5.out.cell (o := 0) rfl
    have r1_5 := R5.out.cell (o := 1) rfl
    have r2_5 := R5.out.cell (o := 2) rfl
    have r3_5 := R5.out.cell (o := 3) rfl
    have r4_5 := R5.out.cell (o := 4) rfl
    have r5_5 := R5.out.cell (o := 5) rfl
    have r6_5 := R5.out.cell (o := 6) rfl
    have r7_5 := R5.out.cell (o := 7) rfl
    have r8_5 := R5.out.cell (o := 8) rfl
    have r9_5 := R5.out.cell (o := 9) rfl
    have r10_5 := R5.out.cell (o := 10) rfl
    go_wp2_with fail
    have C5 : Hid (∀ W, Below w5.heap.size w5 W → Calls Try.prog 7 #[.agg #[.slice a0 x.heap.words.length c0, .int .i64 x.heap.old, .int .i64 x.heap.oldAt, .int .i64 x.heap.youngAt, .slice a4 x.heap.log.length c4, .slice a5 x.glob.length c5, .slice a6 x.frames.length c6, .slice a7 x.outs.length c7, .int .i64 x.asked, .int .i64 x.code, .int .i64 x.steps]] W fun e w' => ∃ n0 n4 n5 n6 n7, e = .returned (.agg #[.slice n0 x.heap.words.length x.heap.words.length, .int .i64 x.heap.old, .int .i64 x.heap.oldAt, .int .i64 x.heap.youngAt, .slice n4 x.heap.log.length x.heap.log.length, .slice n5 x.glob.length x.glob.length, .slice n6 x.frames.length x.frames.length, .slice n7 x.outs.length x.outs.length, .int .i64 x.asked, .int .i64 x.code, .int .i64 x.steps]) ∧ PM true w' w5.heap.size w'.heap.size n0 n4 n5 n6 n7 x ∧ Below w5.heap.size w5 w') := fun W hW => by
      refine (toEngine_any a0 c0 a4 c4 a5 c5 a6 c6 a7 c7 0 w.heap.size x W FX.out (HX.out.1.keep (B5.out.trans (hW.mono B5.out.size))) (HX.out.2.1.keep (B5.out.trans (hW.mono B5.out.size))) (HX.out.2.2.1.keep (B5.out.trans (hW.mono B5.out.size))) (HX.out.2.2.2.1.keep (B5.out.trans (hW.mono B5.out.size))) (HX.out.2.2.2.2.keep (B5.out.trans (hW.mono B5.out.size))) (Nat.le_trans B5.out.size hW.size)).mono ?_
      rintro e w' ⟨n0, n4, n5, n6, n7, rfl, q0, q4, q5, q6, q7, hb⟩
      exact ⟨n0, n4, n5, n6, n7, rfl, ⟨q0.wide hW.size (Nat.le_refl _), q4.wide hW.size (Nat.le_refl _), q5.wide hW.size (Nat.le_refl _), q6.wide hW.size (Nat.le_refl _), q7.wide hW.size (Nat.le_refl _)⟩, hW.trans (hb.mono hW.size)⟩
    have E5 : Hid (∀ W n0 n4 n5 n6 n7, Below w5.heap.size w5 W → PM true W w5.heap.size W.heap.size n0 n4 n5 n6 n7 x → Calls Try.prog 9 #[.agg #[.slice k0 x.heap.words.length x.heap.words.length, .int .i64 x.heap.old, .int .i64 x.heap.oldAt, .int .i64 x.heap.youngAt, .slice k4 x.heap.log.length x.heap.log.length, .slice k5 x.glob.length x.glob.length, .slice k6 x.frames.length x.frames.length, .slice k7 x.outs.length x.outs.length, .int .i64 x.asked, .int .i64 x.code, .int .i64 x.steps], .agg #[.slice n0 x.heap.words.length x.heap.words.length, .int .i64 x.heap.old, .int .i64 x.heap.oldAt, .int .i64 x.heap.youngAt, .slice n4 x.heap.log.length x.heap.log.length, .slice n5 x.glob.length x.glob.length, .slice n6 x.frames.length x.frames.length, .slice n7 x.outs.length x.outs.length, .int .i64 x.asked, .int .i64 x.code, .int .i64 x.steps]] W fun e w' => e = .returned (.bool true) ∧ Below w5.heap.size w5 w') := fun W n0 n4 n5 n6 n7 hW hm => by
      have hk := K5.out.keep (hW.mono (Nat.le_of_lt (Nat.lt_trans y3 y4)))
      refine (eqEngine_g k0 n0 k4 n4 k5 n5 k6 n6 k7 n7 _ _ _ _ _ _ _ _ _ _ w2.heap.size w3.heap.size w5.heap.size W.heap.size x W FX.out hk.1 hk.2.1 hk.2.2.1 hk.2.2.2.1 hk.2.2.2.2 hm.1 hm.2.1 hm.2.2.1 hm.2.2.2.1 hm.2.2.2.2 (Nat.le_trans (Nat.le_of_lt (Nat.lt_trans y3 y4)) hW.size) (Nat.le_refl _)).mono ?_
      rintro e w' ⟨rfl, hb⟩
      exact ⟨rfl, hW.trans (hb.mono hW.size)⟩
    go_region_held3 (fun w' => (w'.cell? ⟨w.heap.size, 0, none⟩ = some (.slice a0 x.heap.words.length c0) ∧ w'.cell? ⟨w.heap.size, 1, none⟩ = some (.int .i64 x.heap.old) ∧ w'.cell? ⟨w.heap.size, 2, none⟩ = some (.int .i64 x.heap.oldAt) ∧ w'.cell? ⟨w.heap.size, 3, none⟩ = some (.int .i64 x.heap.youngAt) ∧ w'.cell? ⟨w.heap.size, 4, none⟩ = some (.slice a4 x.heap.log.length c4) ∧ w'.cell? ⟨w.heap.size, 5, none⟩ = some (.slice a5 x.glob.length c5) ∧ w'.cell? ⟨w.heap.size, 6, none⟩ = some (.slice a6 x.frames.length c6) ∧ w'.cell? ⟨w.heap.size, 7, none⟩ = some (.slice a7 x.outs.length c7) ∧ w'.cell? ⟨w.heap.size, 8, none⟩ = some (.int .i64 x.asked) ∧ w'.cell? ⟨w.heap.size, 9, none⟩ = some (.int .i64 x.code) ∧ w'.cell? ⟨w.heap.size, 10, none⟩ = some (.int .i64 x.steps)) ∧ (w'.cell? ⟨w3.heap.size, 0, none⟩ = some (.slice k0 x.heap.words.length x.heap.words.length) ∧ w'.cell? ⟨w3.heap.size, 1, none⟩ = some (.int .i64 x.heap.old) ∧ w'.cell? ⟨w3.heap.size, 2, none⟩ = some (.int .i64 x.heap.oldAt) ∧ w'.cell? ⟨w3.heap.size, 3, none⟩ = some (.int .i64 x.heap.youngAt) ∧ w'.cell? ⟨w3.heap.size, 4, none⟩ = some (.slice k4 x.heap.log.length x.heap.log.length) ∧ w'.cell? ⟨w3.heap.size, 5, none⟩ = some (.slice k5 x.glob.length x.glob.length) ∧ w'.cell? ⟨w3.heap.size, 6, none⟩ = some (.slice k6 x.frames.length x.frames.length) ∧ w'.cell? ⟨w3.heap.size, 7, none⟩ = some (.slice k7 x.outs.length x.outs.length) ∧ w'.cell? ⟨w3.heap.size, 8, none⟩ = some (.int .i64 x.asked) ∧ w'.cell? ⟨w3.heap.size, 9, none⟩ = some (.int .i64 x.code) ∧ w'.cell? ⟨w3.heap.size, 10, none⟩ = some (.int .i64 x.steps)) ∧ Below w5.heap.size w5 w') (first | (refine ⟨⟨?_, ?_, ?_, ?_, ?_, ?_, ?_, ?_, ?_, ?_, ?_⟩, ⟨?_, ?_, ?_, ?_, ?_, ?_, ?_, ?_, ?_, ?_, ?_⟩, ?_⟩ <;> first | assumption | exact (Below.refl _ _).drew | exact Below.refl _ _))
      ((first | (go_at_call 7; refine (C5.out _ ?_).mono ?_; (first | assumption | exact (Below.refl _ _).drew | exact Below.refl _ _); rintro e v1 ⟨m0, m4, m5, m6, m7, rfl, pm, bv1⟩; have pv10 := (P5.out.below bv1 P5.out.lt).cell (o := 0) rfl; have pv11 := (P5.out.below bv1 P5.out.lt).cell (o := 1) rfl; have pv12 := (P5.out.below bv1 P5.out.lt).cell (o := 2) rfl; have pv13 := (P5.out.below bv1 P5.out.lt).cell (o := 3) rfl; have pv14 := (P5.out.below bv1 P5.out.lt).cell (o := 4) rfl; have pv15 := (P5.out.below bv1 P5.out.lt).cell (o := 5) rfl; have pv16 := (P5.out.below bv1 P5.out.lt).cell (o := 6) rfl; have pv17 := (P5.out.below bv1 P5.out.lt).cell (o := 7) rfl; have pv18 := (P5.out.below bv1 P5.out.lt).cell (o := 8) rfl; have pv19 := (P5.out.below bv1 P5.out.lt).cell (o := 9) rfl; have pv110 := (P5.out.below bv1 P5.out.lt).cell (o := 10) rfl; have ov10 := (X5.out.below bv1 X5.out.lt).cell (o := 0) rfl; have ov11 := (X5.out.below bv1 X5.out.lt).cell (o := 1) rfl; have ov12 := (X5.out.below bv1 X5.out.lt).cell (o := 2) rfl; have ov13 := (X5.out.below bv1 X5.out.lt).cell (o := 3) rfl; have ov14 := (X5.out.below bv1 X5.out.lt).cell (o := 4) rfl; have ov15 := (X5.out.below bv1 X5.out.lt).cell (o := 5) rfl; have ov16 := (X5.out.below bv1 X5.out.lt).cell (o := 6) rfl; have ov17 := (X5.out.below bv1 X5.out.lt).cell (o := 7) rfl; have ov18 := (X5.out.below bv1 X5.out.lt).cell (o := 8) rfl; have ov19 := (X5.out.below bv1 X5.out.lt).cell (o := 9) rfl; have ov110 := (X5.out.below bv1 X5.out.lt).cell (o := 10) rfl) | (go_at_call 9; refine (E5.out _ m0 m4 m5 m6 m7 ?_ ?_).mono ?_; assumption; assumption; rintro e w6 ⟨rfl, bv2⟩; have pv20 := (P5.out.below bv2 P5.out.lt).cell (o := 0) rfl; have pv21 := (P5.out.below bv2 P5.out.lt).cell (o := 1) rfl; have pv22 := (P5.out.below bv2 P5.out.lt).cell (o := 2) rfl; have pv23 := (P5.out.below bv2 P5.out.lt).cell (o := 3) rfl; have pv24 := (P5.out.below bv2 P5.out.lt).cell (o := 4) rfl; have pv25 := (P5.out.below bv2 P5.out.lt).cell (o := 5) rfl; have pv26 := (P5.out.below bv2 P5.out.lt).cell (o := 6) rfl; have pv27 := (P5.out.below bv2 P5.out.lt).cell (o := 7) rfl; have pv28 := (P5.out.below bv2 P5.out.lt).cell (o := 8) rfl; have pv29 := (P5.out.below bv2 P5.out.lt).cell (o := 9) rfl; have pv210 := (P5.out.below bv2 P5.out.lt).cell (o := 10) rfl; have ov20 := (X5.out.below bv2 X5.out.lt).cell (o := 0) rfl; have ov21 := (X5.out.below bv2 X5.out.lt).cell (o := 1) rfl; have ov22 := (X5.out.below bv2 X5.out.lt).cell (o := 2) rfl; have ov23 := (X5.out.below bv2 X5.out.lt).cell (o := 3) rfl; have ov24 := (X5.out.below bv2 X5.out.lt).cell (o := 4) rfl; have ov25 := (X5.out.below bv2 X5.out.lt).cell (o := 5) rfl; have ov26 := (X5.out.below bv2 X5.out.lt).cell (o := 6) rfl; have ov27 := (X5.out.below bv2 X5.out.lt).cell (o := 7) rfl; have ov28 := (X5.out.below bv2 X5.out.lt).cell (o := 8) rfl; have ov29 := (X5.out.below bv2 X5.out.lt).cell (o := 9) rfl; have ov210 := (X5.out.below bv2 X5.out.lt).cell (o := 10) rfl)))
    have y5 : w5.heap.size ≤ w6.heap.size := bv2.size
    have Y6 : Hid (Rec w6 w4.heap.size 35 [.slice l0 y.heap.words.length y.heap.words.length, .int .i64 y.heap.old, .int .i64 y.heap.oldAt, .int .i64 y.heap.youngAt, .slice l4 y.heap.log.length y.heap.log.length, .slice l5 y.glob.length y.glob.length, .slice l6 y.frames.length y.frames.length, .slice l7 y.outs.length y.outs.length, .int .i64 y.asked, .int .i64 y.code, .int .i64 y.steps]) := Y5.out.below bv2 Y5.out.lt
    have L6 : Hid (PM true w6 w3.heap.size w4.heap.size l0 l4 l5 l6 l7 y) := L5.out.keep (bv2.mono (Nat.le_of_lt y4))
    have B6 : Hid (Below w.heap.size w w6) := B5.out.trans (bv2.mono B5.out.size)
    have R6 : Hid (Rec w6 (w.heap.size + 1) 28 [.slice b0 y.heap.words.length d0, .int .i64 y.heap.old, .int .i64 y.heap.oldAt, .int .i64 y.heap.youngAt, .slice b4 y.heap.log.length d4, .slice b5 y.glob.length d5, .slice b6 y.frames.length d6, .slice b7 y.outs.length d7, .int .i64 y.asked, .int .i64 y.code, .int .i64 y.steps]) := R5.out.below bv2 R5.out.lt
    clear bv1 bv2 pm C5 E5 pv10 pv11 pv12 pv13 pv14 pv15 pv16 pv17 pv18 pv19 pv110 pv20 pv21 pv22 pv23 pv24 pv25 pv26 pv27 pv28 pv29 pv210 ov10 ov11 ov12 ov13 ov14 ov15 ov16 ov17 ov18 ov19 ov110 ov20 ov21 ov22 ov23 ov24 ov25 ov26 ov27 ov28 ov29 ov210 x0_5 x1_5 x2_5 x3_5 x4_5 x5_5 x6_5 x7_5 x8_5 x9_5 x10_5 y0_5 y1_5 y2_5 y3_5 y4_5 y5_5 y6_5 y7_5 y8_5 y9_5 y10_5 p0_5 p1_5 p2_5 p3_5 p4_5 p5_5 p6_5 p7_5 p8_5 p9_5 p10_5 r0_5 r1_5 r2_5 r3_5 r4_5 r5_5 r6_5 r7_5 r8_5 r9_5 r10_5
    have y0_6 := Y6.out.cell (o := 0) rfl
    have y1_6 := Y6.out.cell (o := 1) rfl
    have y2_6 := Y6.out.cell (o := 2) rfl
    have y3_6 := Y6.out.cell (o := 3) rfl
    have y4_6 := Y6.out.cell (o := 4) rfl
    have y5_6 := Y6.out.cell (o := 5) rfl
    have y6_6 := Y6.out.cell (o := 6) rfl
    have y7_6 := Y6.out.cell (o := 7) rfl
    have y8_6 := Y6.out.cell (o := 8) rfl
    have y9_6 := Y6.out.cell (o := 9) rfl
    have y10_6 := Y6.out.cell (o := 10) rfl
    have r0_6 := R6.out.cell (o := 0) rfl
    have r1_6 := R6.out.cell (o := 1) rfl
    have r2_6 := R6.out.cell (o := 2) rfl
    have r3_6 := R6.out.cell (o := 3) rfl
    have r4_6 := R6.out.cell (o := 4) rfl
    have r5_6 := R6.out.cell (o := 5) rfl
    have r6_6 := R6.out.cell (o := 6) rfl
    have r7_6 := R6.out.cell (o := 7) rfl
    have r8_6 := R6.out.cell (o := 8) rfl
    have r9_6 := R6.out.cell (o := 9) rfl
    have r10_6 := R6.out.cell (o := 10) rfl
    go_wp2_with fail
    have C6 : Hid (∀ W, Below w6.heap.size w6 W → Calls Try.prog 7 #[.agg #[.slice b0 y.heap.words.length d0, .int .i64 y.heap.old, .int .i64 y.heap.oldAt, .int .i64 y.heap.youngAt, .slice b4 y.heap.log.length d4, .slice b5 y.glob.length d5, .slice b6 y.frames.length d6, .slice b7 y.outs.length d7, .int .i64 y.asked, .int .i64 y.code, .int .i64 y.steps]] W fun e w' => ∃ n0 n4 n5 n6 n7, e = .returned (.agg #[.slice n0 y.heap.words.length y.heap.words.length, .int .i64 y.heap.old, .int .i64 y.heap.oldAt, .int .i64 y.heap.youngAt, .slice n4 y.heap.log.length y.heap.log.length, .slice n5 y.glob.length y.glob.length, .slice n6 y.frames.length y.frames.length, .slice n7 y.outs.length y.outs.length, .int .i64 y.asked, .int .i64 y.code, .int .i64 y.steps]) ∧ PM true w' w6.heap.size w'.heap.size n0 n4 n5 n6 n7 y ∧ Below w6.heap.size w6 w') := fun W hW => by
      refine (toEngine_any b0 d0 b4 d4 b5 d5 b6 d6 b7 d7 0 w.heap.size y W FY.out (HY.out.1.keep (B6.out.trans (hW.mono B6.out.size))) (HY.out.2.1.keep (B6.out.trans (hW.mono B6.out.size))) (HY.out.2.2.1.keep (B6.out.trans (hW.mono B6.out.size))) (HY.out.2.2.2.1.keep (B6.out.trans (hW.mono B6.out.size))) (HY.out.2.2.2.2.keep (B6.out.trans (hW.mono B6.out.size))) (Nat.le_trans B6.out.size hW.size)).mono ?_
      rintro e w' ⟨n0, n4, n5, n6, n7, rfl, q0, q4, q5, q6, q7, hb⟩
      exact ⟨n0, n4, n5, n6, n7, rfl, ⟨q0.wide hW.size (Nat.le_refl _), q4.wide hW.size (Nat.le_refl _), q5.wide hW.size (Nat.le_refl _), q6.wide hW.size (Nat.le_refl _), q7.wide hW.size (Nat.le_refl _)⟩, hW.trans (hb.mono hW.size)⟩
    have E6 : Hid (∀ W n0 n4 n5 n6 n7, Below w6.heap.size w6 W → PM true W w6.heap.size W.heap.size n0 n4 n5 n6 n7 y → Calls Try.prog 9 #[.agg #[.slice l0 y.heap.words.length y.heap.words.length, .int .i64 y.heap.old, .int .i64 y.heap.oldAt, .int .i64 y.heap.youngAt, .slice l4 y.heap.log.length y.heap.log.length, .slice l5 y.glob.length y.glob.length, .slice l6 y.frames.length y.frames.length, .slice l7 y.outs.length y.outs.length, .int .i64 y.asked, .int .i64 y.code, .int .i64 y.steps], .agg #[.slice n0 y.heap.words.length y.heap.words.length, .int .i64 y.heap.old, .int .i64 y.heap.oldAt, .int .i64 y.heap.youngAt, .slice n4 y.heap.log.length y.heap.log.length, .slice n5 y.glob.length y.glob.length, .slice n6 y.frames.length y.frames.length, .slice n7 y.outs.length y.outs.length, .int .i64 y.asked, .int .i64 y.code, .int .i64 y.steps]] W fun e w' => e = .returned (.bool true) ∧ Below w6.heap.size w6 w') := fun W n0 n4 n5 n6 n7 hW hm => by
      have hk := L6.out.keep (hW.mono (Nat.le_trans (Nat.le_of_lt y4) y5))
      refine (eqEngine_g l0 n0 l4 n4 l5 n5 l6 n6 l7 n7 _ _ _ _ _ _ _ _ _ _ w3.heap.size w4.heap.size w6.heap.size W.heap.size y W FY.out hk.1 hk.2.1 hk.2.2.1 hk.2.2.2.1 hk.2.2.2.2 hm.1 hm.2.1 hm.2.2.1 hm.2.2.2.1 hm.2.2.2.2 (Nat.le_trans (Nat.le_trans (Nat.le_of_lt y4) y5) hW.size) (Nat.le_refl _)).mono ?_
      rintro e w' ⟨rfl, hb⟩
      exact ⟨rfl, hW.trans (hb.mono hW.size)⟩
    go_region_held3 (fun w' => (w'.cell? ⟨w.heap.size + 1, 0, none⟩ = some (.slice b0 y.heap.words.length d0) ∧ w'.cell? ⟨w.heap.size + 1, 1, none⟩ = some (.int .i64 y.heap.old) ∧ w'.cell? ⟨w.heap.size + 1, 2, none⟩ = some (.int .i64 y.heap.oldAt) ∧ w'.cell? ⟨w.heap.size + 1, 3, none⟩ = some (.int .i64 y.heap.youngAt) ∧ w'.cell? ⟨w.heap.size + 1, 4, none⟩ = some (.slice b4 y.heap.log.length d4) ∧ w'.cell? ⟨w.heap.size + 1, 5, none⟩ = some (.slice b5 y.glob.length d5) ∧ w'.cell? ⟨w.heap.size + 1, 6, none⟩ = some (.slice b6 y.frames.length d6) ∧ w'.cell? ⟨w.heap.size + 1, 7, none⟩ = some (.slice b7 y.outs.length d7) ∧ w'.cell? ⟨w.heap.size + 1, 8, none⟩ = some (.int .i64 y.asked) ∧ w'.cell? ⟨w.heap.size + 1, 9, none⟩ = some (.int .i64 y.code) ∧ w'.cell? ⟨w.heap.size + 1, 10, none⟩ = some (.int .i64 y.steps)) ∧ (w'.cell? ⟨w4.heap.size, 0, none⟩ = some (.slice l0 y.heap.words.length y.heap.words.length) ∧ w'.cell? ⟨w4.heap.size, 1, none⟩ = some (.int .i64 y.heap.old) ∧ w'.cell? ⟨w4.heap.size, 2, none⟩ = some (.int .i64 y.heap.oldAt) ∧ w'.cell? ⟨w4.heap.size, 3, none⟩ = some (.int .i64 y.heap.youngAt) ∧ w'.cell? ⟨w4.heap.size, 4, none⟩ = some (.slice l4 y.heap.log.length y.heap.log.length) ∧ w'.cell? ⟨w4.heap.size, 5, none⟩ = some (.slice l5 y.glob.length y.glob.length) ∧ w'.cell? ⟨w4.heap.size, 6, none⟩ = some (.slice l6 y.frames.length y.frames.length) ∧ w'.cell? ⟨w4.heap.size, 7, none⟩ = some (.slice l7 y.outs.length y.outs.length) ∧ w'.cell? ⟨w4.heap.size, 8, none⟩ = some (.int .i64 y.asked) ∧ w'.cell? ⟨w4.heap.size, 9, none⟩ = some (.int .i64 y.code) ∧ w'.cell? ⟨w4.heap.size, 10, none⟩ = some (.int .i64 y.steps)) ∧ Below w6.heap.size w6 w') (first | (refine ⟨⟨?_, ?_, ?_, ?_, ?_, ?_, ?_, ?_, ?_, ?_, ?_⟩, ⟨?_, ?_, ?_, ?_, ?_, ?_, ?_, ?_, ?_, ?_, ?_⟩, ?_⟩ <;> first | assumption | exact (Below.refl _ _).drew | exact Below.refl _ _))
      ((first | (go_at_call 7; refine (C6.out _ ?_).mono ?_; (first | assumption | exact (Below.refl _ _).drew | exact Below.refl _ _); rintro e v1 ⟨m0, m4, m5, m6, m7, rfl, pm, bv1⟩; have pv10 := (R6.out.below bv1 R6.out.lt).cell (o := 0) rfl; have pv11 := (R6.out.below bv1 R6.out.lt).cell (o := 1) rfl; have pv12 := (R6.out.below bv1 R6.out.lt).cell (o := 2) rfl; have pv13 := (R6.out.below bv1 R6.out.lt).cell (o := 3) rfl; have pv14 := (R6.out.below bv1 R6.out.lt).cell (o := 4) rfl; have pv15 := (R6.out.below bv1 R6.out.lt).cell (o := 5) rfl; have pv16 := (R6.out.below bv1 R6.out.lt).cell (o := 6) rfl; have pv17 := (R6.out.below bv1 R6.out.lt).cell (o := 7) rfl; have pv18 := (R6.out.below bv1 R6.out.lt).cell (o := 8) rfl; have pv19 := (R6.out.below bv1 R6.out.lt).cell (o := 9) rfl; have pv110 := (R6.out.below bv1 R6.out.lt).cell (o := 10) rfl; have ov10 := (Y6.out.below bv1 Y6.out.lt).cell (o := 0) rfl; have ov11 := (Y6.out.below bv1 Y6.out.lt).cell (o := 1) rfl; have ov12 := (Y6.out.below bv1 Y6.out.lt).cell (o := 2) rfl; have ov13 := (Y6.out.below bv1 Y6.out.lt).cell (o := 3) rfl; have ov14 := (Y6.out.below bv1 Y6.out.lt).cell (o := 4) rfl; have ov15 := (Y6.out.below bv1 Y6.out.lt).cell (o := 5) rfl; have ov16 := (Y6.out.below bv1 Y6.out.lt).cell (o := 6) rfl; have ov17 := (Y6.out.below bv1 Y6.out.lt).cell (o := 7) rfl; have ov18 := (Y6.out.below bv1 Y6.out.lt).cell (o := 8) rfl; have ov19 := (Y6.out.below bv1 Y6.out.lt).cell (o := 9) rfl; have ov110 := (Y6.out.below bv1 Y6.out.lt).cell (o := 10) rfl) | (go_at_call 9; refine (E6.out _ m0 m4 m5 m6 m7 ?_ ?_).mono ?_; assumption; assumption; rintro e w7 ⟨rfl, bv2⟩; have pv20 := (R6.out.below bv2 R6.out.lt).cell (o := 0) rfl; have pv21 := (R6.out.below bv2 R6.out.lt).cell (o := 1) rfl; have pv22 := (R6.out.below bv2 R6.out.lt).cell (o := 2) rfl; have pv23 := (R6.out.below bv2 R6.out.lt).cell (o := 3) rfl; have pv24 := (R6.out.below bv2 R6.out.lt).cell (o := 4) rfl; have pv25 := (R6.out.below bv2 R6.out.lt).cell (o := 5) rfl; have pv26 := (R6.out.below bv2 R6.out.lt).cell (o := 6) rfl; have pv27 := (R6.out.below bv2 R6.out.lt).cell (o := 7) rfl; have pv28 := (R6.out.below bv2 R6.out.lt).cell (o := 8) rfl; have pv29 := (R6.out.below bv2 R6.out.lt).cell (o := 9) rfl; have pv210 := (R6.out.below bv2 R6.out.lt).cell (o := 10) rfl; have ov20 := (Y6.out.below bv2 Y6.out.lt).cell (o := 0) rfl; have ov21 := (Y6.out.below bv2 Y6.out.lt).cell (o := 1) rfl; have ov22 := (Y6.out.below bv2 Y6.out.lt).cell (o := 2) rfl; have ov23 := (Y6.out.below bv2 Y6.out.lt).cell (o := 3) rfl; have ov24 := (Y6.out.below bv2 Y6.out.lt).cell (o := 4) rfl; have ov25 := (Y6.out.below bv2 Y6.out.lt).cell (o := 5) rfl; have ov26 := (Y6.out.below bv2 Y6.out.lt).cell (o := 6) rfl; have ov27 := (Y6.out.below bv2 Y6.out.lt).cell (o := 7) rfl; have ov28 := (Y6.out.below bv2 Y6.out.lt).cell (o := 8) rfl; have ov29 := (Y6.out.below bv2 Y6.out.lt).cell (o := 9) rfl; have ov210 := (Y6.out.below bv2 Y6.out.lt).cell (o := 10) rfl)))
    go_wp2_with fail
    go_ret
    exact ⟨rfl, B6.out.trans (bv2.mono B6.out.size)⟩

theorem cellsP : Try.prog.cellsOf 28 = 11 := by kernel_rfl

set_option maxRecDepth 100000 in
theorem lifted (os : Os) (started : os.Started) (H : Type) (enc : TypeId × Value → H) :
    ReturnsInHanded {} Try.checked os 3 .any (Rows.fnExactEngineSameSpec.pre6 enc Try.prog Try.f3 Rows.fnExactEngineSameRow.domain false) (Rows.fnExactEngineSameSpec.post enc Try.prog Try.f3 false true false false) := by
  refine returnsInHanded_of_change (C := Try.checked) Try.own started (by kernel_rfl) Try.func3
    (ChangeSpec.witness6 (enc := enc) (C := Try.checked) false ⟨#[], #[.agg #[.slice none 0 0, .int .i64 0, .int .i64 0, .int .i64 0, .slice none 0 0, .slice none 0 0, .slice none 0 0, .slice none 0 0, .int .i64 0, .int .i64 0, .int .i64 0], .agg #[.slice none 0 0, .int .i64 0, .int .i64 0, .int .i64 0, .slice none 0 0, .slice none 0 0, .slice none 0 0, .slice none 0 0, .int .i64 0, .int .i64 0, .int .i64 0]], []⟩ 8 (by kernel_rfl) (by kernel_rfl) (by kernel_rfl) (by kernel_rfl)) ?_
  intro W base args ds gs before hval0 hW hcnd _
  have hval : ∀ (j : Nat) t v, Try.f3.params[j]? = some t → args[j]? = some v → Value.okWide Try.prog W .any base t v := hval0
  have hW' := hW
  obtain ⟨p, q, hA0, hV, rfl, hfz, hnd⟩ := hW
  have hA : DataW.TrodAll enc Try.prog W 0 (fun _ => true) true Try.f3.params.toList args.toList ds p := hA0
  rw [Try.params3] at hA hval
  obtain ⟨v0, vs0, d0, ds0, p0, q0, hargs, rfl, rfl, h0, r0⟩ := trodAll_cons hA
  obtain ⟨v1, vs1, d1, ds1, p1, q1, rfl, rfl, rfl, h1, r1⟩ := trodAll_cons r0
  obtain ⟨rfl, rfl, rfl⟩ := trodAll_nil r1
  obtain rfl : args = #[v0, v1] := by cases args; simp_all
  obtain ⟨rfl, rfl⟩ := trodVars_none hV
  have k0 := h0
  have lt0 : ∀ x ∈ p0, x.block < W.heap.size := by obtain ⟨m, hm⟩ := k0; exact DataW.trod_lt m _ _ _ hm
  obtain ⟨c0_0, c0_1, c0_2, c0_3, c0_4, c0_5, c0_6, c0_7, c0_8, c0_9, c0_10, y0_0, y0_1, y0_2, y0_3, y0_4, y0_5, y0_6, y0_7, y0_8, y0_9, y0_10, nn0, nn0', rfl, hy0_0, hy0_1, hy0_2, hy0_3, hy0_4, hy0_5, hy0_6, hy0_7, hy0_8, hy0_9, hy0_10⟩ := open_eng (hval 0 28 v0 rfl rfl) h0
  obtain ⟨ga0_0, z0_0, gc0_0, rfl, hg0_0, bg0_0⟩ := nums_open hy0_0
  obtain ⟨z0_1, hz, _, _⟩ := DataW.trod_int Try.underlying3 hy0_1
  obtain rfl : c0_1 = .int .i64 z0_1 := by simpa using hz
  clear hz
  obtain ⟨z0_2, hz, _, _⟩ := DataW.trod_int Try.underlying3 hy0_2
  obtain rfl : c0_2 = .int .i64 z0_2 := by simpa using hz
  clear hz
  obtain ⟨z0_3, hz, _, _⟩ := DataW.trod_int Try.underlying3 hy0_3
  obtain rfl : c0_3 = .int .i64 z0_3 := by simpa using hz
  clear hz
  obtain ⟨ga0_4, z0_4, gc0_4, rfl, hg0_4, bg0_4⟩ := nums_open hy0_4
  obtain ⟨ga0_5, z0_5, gc0_5, rfl, hg0_5, bg0_5⟩ := vals_open hy0_5
  obtain ⟨ga0_6, z0_6, gc0_6, rfl, hg0_6, bg0_6⟩ := frames_open hy0_6
  obtain ⟨ga0_7, z0_7, gc0_7, rfl, hg0_7, bg0_7⟩ := nums_open hy0_7
  obtain ⟨z0_8, hz, _, _⟩ := DataW.trod_int Try.underlying3 hy0_8
  obtain rfl : c0_8 = .int .i64 z0_8 := by simpa using hz
  clear hz
  obtain ⟨z0_9, hz, _, _⟩ := DataW.trod_int Try.underlying3 hy0_9
  obtain rfl : c0_9 = .int .i64 z0_9 := by simpa using hz
  clear hz
  obtain ⟨z0_10, hz, _, _⟩ := DataW.trod_int Try.underlying3 hy0_10
  obtain rfl : c0_10 = .int .i64 z0_10 := by simpa using hz
  clear hz
  have k1 := h1
  have lt1 : ∀ x ∈ p1, x.block < W.heap.size := by obtain ⟨m, hm⟩ := k1; exact DataW.trod_lt m _ _ _ hm
  obtain ⟨c1_0, c1_1, c1_2, c1_3, c1_4, c1_5, c1_6, c1_7, c1_8, c1_9, c1_10, y1_0, y1_1, y1_2, y1_3, y1_4, y1_5, y1_6, y1_7, y1_8, y1_9, y1_10, nn1, nn1', rfl, hy1_0, hy1_1, hy1_2, hy1_3, hy1_4, hy1_5, hy1_6, hy1_7, hy1_8, hy1_9, hy1_10⟩ := open_eng (hval 1 28 v1 rfl rfl) h1
  obtain ⟨ga1_0, z1_0, gc1_0, rfl, hg1_0, bg1_0⟩ := nums_open hy1_0
  obtain ⟨z1_1, hz, _, _⟩ := DataW.trod_int Try.underlying3 hy1_1
  obtain rfl : c1_1 = .int .i64 z1_1 := by simpa using hz
  clear hz
  obtain ⟨z1_2, hz, _, _⟩ := DataW.trod_int Try.underlying3 hy1_2
  obtain rfl : c1_2 = .int .i64 z1_2 := by simpa using hz
  clear hz
  obtain ⟨z1_3, hz, _, _⟩ := DataW.trod_int Try.underlying3 hy1_3
  obtain rfl : c1_3 = .int .i64 z1_3 := by simpa using hz
  clear hz
  obtain ⟨ga1_4, z1_4, gc1_4, rfl, hg1_4, bg1_4⟩ := nums_open hy1_4
  obtain ⟨ga1_5, z1_5, gc1_5, rfl, hg1_5, bg1_5⟩ := vals_open hy1_5
  obtain ⟨ga1_6, z1_6, gc1_6, rfl, hg1_6, bg1_6⟩ := frames_open hy1_6
  obtain ⟨ga1_7, z1_7, gc1_7, rfl, hg1_7, bg1_7⟩ := nums_open hy1_7
  obtain ⟨z1_8, hz, _, _⟩ := DataW.trod_int Try.underlying3 hy1_8
  obtain rfl : c1_8 = .int .i64 z1_8 := by simpa using hz
  clear hz
  obtain ⟨z1_9, hz, _, _⟩ := DataW.trod_int Try.underlying3 hy1_9
  obtain rfl : c1_9 = .int .i64 z1_9 := by simpa using hz
  clear hz
  obtain ⟨z1_10, hz, _, _⟩ := DataW.trod_int Try.underlying3 hy1_10
  obtain rfl : c1_10 = .int .i64 z1_10 := by simpa using hz
  clear hz
  clear hA0 hval0
  refine (walk ga0_0 ga0_4 ga0_5 ga0_6 ga0_7 ga1_0 ga1_4 ga1_5 ga1_6 ga1_7 gc0_0 gc0_4 gc0_5 gc0_6 gc0_7 gc1_0 gc1_4 gc1_5 gc1_6 gc1_7 ⟨⟨z0_0, z0_1, z0_2, z0_3, z0_4⟩, z0_5, z0_6, z0_7, z0_8, z0_9, z0_10⟩ ⟨⟨z1_0, z1_1, z1_2, z1_3, z1_4⟩, z1_5, z1_6, z1_7, z1_8, z1_9, z1_10⟩ W ⟨bg0_0, bg0_4, bg0_5, bg0_6, bg0_7⟩ ⟨bg1_0, bg1_4, bg1_5, bg1_6, bg1_7⟩ ⟨hg0_0, hg0_4, hg0_5, hg0_6, hg0_7⟩ ⟨hg1_0, hg1_4, hg1_5, hg1_6, hg1_7⟩).mono fun e W' ⟨he, bel⟩ => ?_
  subst he
  exact ⟨_, rfl, _, _, _, [], _, [], hW', trodAll_mk1 (shut_bool Try.underlying4 _), (trodAll_cons_mk (Below.trod Try.laidOut (by kernel_rfl) (of_decide_eq_true (by kernel_rfl)) k0 bel lt0) (trodAll_cons_mk (Below.trod Try.laidOut (by kernel_rfl) (of_decide_eq_true (by kernel_rfl)) k1 bel lt1) trodAll_mk0)), rfl, bel.frame _, fun h => by cases h⟩

theorem over : Rows.fnExactEngineSameRow.holds Try.pinned (OpenSpec.ofChange Rows.fnExactEngineSameSpec) :=
  OpenClaim.holds_of_wide 3 Try.f3 rfl rfl rfl rfl rfl rfl rfl ⟨rfl, rfl, rfl, rfl, rfl⟩ rfl rfl rfl rfl rfl (by kernel_rfl) Try.func3 (by kernel_rfl)
    (of_decide_eq_true (by kernel_rfl)) (by unfold Func.isWrapper; first | (rw [if_pos (by decide +kernel)]; kernel_rfl) | (rw [if_neg (by decide +kernel)]; exact ⟨rfl, rfl⟩))
    (fun os started H enc _ => lifted os started H enc)
end Go.Proofs.Ytpagchajjncmbaa.fnExactEngineSame
namespace Go.Proofs.Ytpagchajjncmbaa
theorem fnExactEngineSame_holds : Rows.FnExactEngineSameSaid := fnExactEngineSame.over
end Go.Proofs.Ytpagchajjncmbaa
