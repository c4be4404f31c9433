/- Engine: how it lies in memory, and what the laws' own to.., sz.. and eq.. of it do. Written by tools/gen.py. -/
import Derived.Test.YtbalfmlmgbmneaaGenEngineD
import Derived.Test.YtbalfmlmgbmneaaGenHeap
import Derived.Test.YtbalfmlmgbmneaaGenVal
import Derived.Test.YtbalfmlmgbmneaaGenFrame
import Derived.Test.YtbalfmlmgbmneaaGenNum
namespace Go.Proofs.Ytbalfmlmgbmneaa
open Go.ChangeShapes Go.WideShapes Go.ChangeAt Go.RowKit Go.Joins Go.Deep
set_option linter.unusedVariables false

set_option maxHeartbeats 16000000 in
theorem toEngine_any {md : Bool} (a0 : Option Addr) (c0 : Nat) (a4 : Option Addr) (c4 : Nat) (a5 : Option Addr) (c5 : Nat) (a6 : Option Addr) (c6 : Nat) (a7 : Option Addr) (c7 : Nat) (lo hi : Nat) (x : GEngine) (w : World) (hl : EngineB 1048576 x) (g0 : NumsM md w lo hi a0 x.heap.words) (g4 : NumsM md w lo hi a4 x.heap.log) (g5 : ValsM md w lo hi a5 x.glob) (g6 : FramesM md w lo hi a6 x.frames) (g7 : NumsM md w lo hi a7 x.outs) (hh : hi ≤ w.heap.size) :
    Calls Try.prog 6 #[.agg #[.slice a0 x.heap.words.length c0, .int .i64 x.heap.old, .int .i64 x.heap.oldAt, .int .i64 x.heap.youngAt, .slice a4 x.heap.log.length c4, .slice a5 x.glob.length c5, .slice a6 x.frames.length c6, .slice a7 x.outs.length c7, .int .i64 x.asked, .int .i64 x.code, .int .i64 x.steps]] w fun e w' => ∃ n0 n4 n5 n6 n7, e = .returned (.agg #[.slice n0 x.heap.words.length x.heap.words.length, .int .i64 x.heap.old, .int .i64 x.heap.oldAt, .int .i64 x.heap.youngAt, .slice n4 x.heap.log.length x.heap.log.length, .slice n5 x.glob.length x.glob.length, .slice n6 x.frames.length x.frames.length, .slice n7 x.outs.length x.outs.length, .int .i64 x.asked, .int .i64 x.code, .int .i64 x.steps]) ∧ NumsM true w' w.heap.size w'.heap.size n0 x.heap.words ∧ NumsM true w' w.heap.size w'.heap.size n4 x.heap.log ∧ ValsM true w' w.heap.size w'.heap.size n5 x.glob ∧ FramesM true w' w.heap.size w'.heap.size n6 x.frames ∧ NumsM true w' w.heap.size w'.heap.size n7 x.outs ∧ Below w.heap.size w w' := by
  have HL := hide hl
  clear hl
  have G0 := hide g0
  have G4 := hide g4
  have G5 := hide g5
  have G6 := hide g6
  have G7 := hide g7
  clear g0 g4 g5 g6 g7
  go_enter Try.func6, Try.ntmps6
  go_wp2_with fail
  refine (toHeap_any a0 c0 a4 c4 lo hi x.heap _ ⟨HL.out.1, HL.out.2.1⟩ (G0.out.keep (Below.mono (by (repeat (first | refine Below.al ?_ (Nat.le_refl _) _ | exact Below.refl _ _))) hh)) (G4.out.keep (Below.mono (by (repeat (first | refine Below.al ?_ (Nat.le_refl _) _ | exact Below.refl _ _))) hh)) (by go_size)).mono ?_
  rintro e w0 ⟨n0, n4, rfl, q0, q4, hb0⟩
  have B0 : Hid (Below w.heap.size w w0) := by
    refine Below.trans ?_ (hb0.mono (by go_size))
    (repeat (first | refine Below.al ?_ (Nat.le_refl _) _ | exact Below.refl _ _))
  have sz0 : w.heap.size + 3 ≤ w0.heap.size := by
    have := hb0.size
    simp only [World.size_alloc] at this
    omega
  have P0 : Hid (Rec w0 w.heap.size 28 [.slice a0 x.heap.words.length c0, .int .i64 x.heap.old, .int .i64 x.heap.oldAt, .int .i64 x.heap.youngAt, .slice a4 x.heap.log.length c4, .slice a5 x.glob.length c5, .slice a6 x.frames.length c6, .slice a7 x.outs.length c7, .int .i64 x.asked, .int .i64 x.code, .int .i64 x.steps]) := ((((Rec.new' w _ _ _ rfl).alloc _).alloc _).below hb0 (by go_size))
  have R0 : Hid (Rec w0 (w.heap.size + 1) 35 [.slice none 0 0, .int .i64 0, .int .i64 0, .int .i64 0, .slice none 0 0, .slice none 0 0, .slice none 0 0, .slice none 0 0, .int .i64 0, .int .i64 0, .int .i64 0]) := (((Rec.new' _ _ _ _ (by simp)).alloc _).below hb0 (by go_size))
  have O0 : Hid (Rec w0 (w.heap.size + 1 + 1) 35 [.slice none 0 0, .int .i64 0, .int .i64 0, .int .i64 0, .slice none 0 0, .slice none 0 0, .slice none 0 0, .slice none 0 0, .int .i64 0, .int .i64 0, .int .i64 0]) := ((Rec.new' _ _ _ _ (by simp)).below hb0 (by go_size))
  have p0_0 := P0.out.cell (o := 0) rfl
  have o0_0 := O0.out.cell (o := 0) rfl
  have f0_0 := O0.out.frozen 0
  have r0_0 := R0.out.cell (o := 0) rfl
  have s0_0 := R0.out.frozen 0
  have p1_0 := P0.out.cell (o := 1) rfl
  have o1_0 := O0.out.cell (o := 1) rfl
  have f1_0 := O0.out.frozen 1
  have r1_0 := R0.out.cell (o := 1) rfl
  have s1_0 := R0.out.frozen 1
  have p2_0 := P0.out.cell (o := 2) rfl
  have o2_0 := O0.out.cell (o := 2) rfl
  have f2_0 := O0.out.frozen 2
  have r2_0 := R0.out.cell (o := 2) rfl
  have s2_0 := R0.out.frozen 2
  have p3_0 := P0.out.cell (o := 3) rfl
  have o3_0 := O0.out.cell (o := 3) rfl
  have f3_0 := O0.out.frozen 3
  have r3_0 := R0.out.cell (o := 3) rfl
  have s3_0 := R0.out.frozen 3
  have p4_0 := P0.out.cell (o := 4) rfl
  have o4_0 := O0.out.cell (o := 4) rfl
  have f4_0 := O0.out.frozen 4
  have r4_0 := R0.out.cell (o := 4) rfl
  have s4_0 := R0.out.frozen 4
  have p5_0 := P0.out.cell (o := 5) rfl
  have o5_0 := O0.out.cell (o := 5) rfl
  have f5_0 := O0.out.frozen 5
  have r5_0 := R0.out.cell (o := 5) rfl
  have s5_0 := R0.out.frozen 5
  have p6_0 := P0.out.cell (o := 6) rfl
  have o6_0 := O0.out.cell (o := 6) rfl
  have f6_0 := O0.out.frozen 6
  have r6_0 := R0.out.cell (o := 6) rfl
  have s6_0 := R0.out.frozen 6
  have p7_0 := P0.out.cell (o := 7) rfl
  have o7_0 := O0.out.cell (o := 7) rfl
  have f7_0 := O0.out.frozen 7
  have r7_0 := R0.out.cell (o := 7) rfl
  have s7_0 := R0.out.frozen 7
  have p8_0 := P0.out.cell (o := 8) rfl
  have o8_0 := O0.out.cell (o := 8) rfl
  have f8_0 := O0.out.frozen 8
  have r8_0 := R0.out.cell (o := 8) rfl
  have s8_0 := R0.out.frozen 8
  have p9_0 := P0.out.cell (o := 9) rfl
  have o9_0 := O0.out.cell (o := 9) rfl
  have f9_0 := O0.out.frozen 9
  have r9_0 := R0.out.cell (o := 9) rfl
  have s9_0 := R0.out.frozen 9
  have p10_0 := P0.out.cell (o := 10) rfl
  have o10_0 := O0.out.cell (o := 10) rfl
  have f10_0 := O0.out.frozen 10
  have r10_0 := R0.out.cell (o := 10) rfl
  have s10_0 := R0.out.frozen 10
  have Q0_0 := hide (q0.wide (lo' := w.heap.size + 3) (hi' := w0.heap.size) (by go_size) (Nat.le_refl _))
  have Q4_0 := hide (q4.wide (lo' := w.heap.size + 3) (hi' := w0.heap.size) (by go_size) (Nat.le_refl _))
  clear q0 q4 hb0
  go_wp2_with fail
  refine (toValS_g a5 c5 lo hi x.glob _ HL.out.2.2.1 (G5.out.keep (Below.mono (by (repeat (first | exact B0.out | refine Below.setCell ?_ (by simp <;> omega) _))) hh)) (by go_size)).mono ?_
  rintro e w1 ⟨n5, rfl, q5, hb1⟩
  have B1 : Hid (Below w.heap.size w w1) := by
    refine Below.trans ?_ (hb1.mono (by go_size))
    (repeat (first | exact B0.out | refine Below.setCell ?_ (by simp <;> omega) _))
  have sz1 : w.heap.size + 3 ≤ w1.heap.size ∧ w0.heap.size ≤ w1.heap.size := by
    have := hb1.size
    simp only [World.size_setCell] at this
    omega
  have P1 : Hid (Rec w1 w.heap.size 28 [.slice a0 x.heap.words.length c0, .int .i64 x.heap.old, .int .i64 x.heap.oldAt, .int .i64 x.heap.youngAt, .slice a4 x.heap.log.length c4, .slice a5 x.glob.length c5, .slice a6 x.frames.length c6, .slice a7 x.outs.length c7, .int .i64 x.asked, .int .i64 x.code, .int .i64 x.steps]) := by
    refine Rec.below ?_ hb1 (by go_size)
    (repeat (first | exact P0.out | refine Rec.other ?_ (by omega) _ _))
  have R1 : Hid (Rec w1 (w.heap.size + 1) 35 [.slice none 0 0, .int .i64 0, .int .i64 0, .int .i64 0, .slice none 0 0, .slice none 0 0, .slice none 0 0, .slice none 0 0, .int .i64 0, .int .i64 0, .int .i64 0]) := by
    refine Rec.below ?_ hb1 (by go_size)
    (repeat (first | exact R0.out | refine Rec.other ?_ (by omega) _ _))
  have O1 : Hid (Rec w1 (w.heap.size + 1 + 1) 35 [.slice n0 x.heap.words.length x.heap.words.length, .int .i64 x.heap.old, .int .i64 x.heap.oldAt, .int .i64 x.heap.youngAt, .slice n4 x.heap.log.length x.heap.log.length, .slice none 0 0, .slice none 0 0, .slice none 0 0, .int .i64 0, .int .i64 0, .int .i64 0]) := Rec.below ((((((O0.out).set _ _).set _ _).set _ _).set _ _).set _ _) hb1 (by go_size)
  have SM1 : Same (w.heap.size + 3) w0.heap.size w0 w1 := by
    refine Same.trans ?_ (Same.of_below hb1 (by go_size))
    (repeat (first | refine Same.set ?_ (.inl (by omega)) _ _ | exact Same.refl _ _ _))
  have Q0_1 := hide (Q0_0.out.same SM1 (Nat.le_refl _) sz1.2)
  have Q4_1 := hide (Q4_0.out.same SM1 (Nat.le_refl _) sz1.2)
  clear Q0_0 Q4_0 SM1
  clear p0_0 o0_0 f0_0 r0_0 s0_0 p1_0 o1_0 f1_0 r1_0 s1_0 p2_0 o2_0 f2_0 r2_0 s2_0 p3_0 o3_0 f3_0 r3_0 s3_0 p4_0 o4_0 f4_0 r4_0 s4_0 p5_0 o5_0 f5_0 r5_0 s5_0 p6_0 o6_0 f6_0 r6_0 s6_0 p7_0 o7_0 f7_0 r7_0 s7_0 p8_0 o8_0 f8_0 r8_0 s8_0 p9_0 o9_0 f9_0 r9_0 s9_0 p10_0 o10_0 f10_0 r10_0 s10_0
  have p0_1 := P1.out.cell (o := 0) rfl
  have o0_1 := O1.out.cell (o := 0) rfl
  have f0_1 := O1.out.frozen 0
  have r0_1 := R1.out.cell (o := 0) rfl
  have s0_1 := R1.out.frozen 0
  have p1_1 := P1.out.cell (o := 1) rfl
  have o1_1 := O1.out.cell (o := 1) rfl
  have f1_1 := O1.out.frozen 1
  have r1_1 := R1.out.cell (o := 1) rfl
  have s1_1 := R1.out.frozen 1
  have p2_1 := P1.out.cell (o := 2) rfl
  have o2_1 := O1.out.cell (o := 2) rfl
  have f2_1 := O1.out.frozen 2
  have r2_1 := R1.out.cell (o := 2) rfl
  have s2_1 := R1.out.frozen 2
  have p3_1 := P1.out.cell (o := 3) rfl
  have o3_1 := O1.out.cell (o := 3) rfl
  have f3_1 := O1.out.frozen 3
  have r3_1 := R1.out.cell (o := 3) rfl
  have s3_1 := R1.out.frozen 3
  have p4_1 := P1.out.cell (o := 4) rfl
  have o4_1 := O1.out.cell (o := 4) rfl
  have f4_1 := O1.out.frozen 4
  have r4_1 := R1.out.cell (o := 4) rfl
  have s4_1 := R1.out.frozen 4
  have p5_1 := P1.out.cell (o := 5) rfl
  have o5_1 := O1.out.cell (o := 5) rfl
  have f5_1 := O1.out.frozen 5
  have r5_1 := R1.out.cell (o := 5) rfl
  have s5_1 := R1.out.frozen 5
  have p6_1 := P1.out.cell (o := 6) rfl
  have o6_1 := O1.out.cell (o := 6) rfl
  have f6_1 := O1.out.frozen 6
  have r6_1 := R1.out.cell (o := 6) rfl
  have s6_1 := R1.out.frozen 6
  have p7_1 := P1.out.cell (o := 7) rfl
  have o7_1 := O1.out.cell (o := 7) rfl
  have f7_1 := O1.out.frozen 7
  have r7_1 := R1.out.cell (o := 7) rfl
  have s7_1 := R1.out.frozen 7
  have p8_1 := P1.out.cell (o := 8) rfl
  have o8_1 := O1.out.cell (o := 8) rfl
  have f8_1 := O1.out.frozen 8
  have r8_1 := R1.out.cell (o := 8) rfl
  have s8_1 := R1.out.frozen 8
  have p9_1 := P1.out.cell (o := 9) rfl
  have o9_1 := O1.out.cell (o := 9) rfl
  have f9_1 := O1.out.frozen 9
  have r9_1 := R1.out.cell (o := 9) rfl
  have s9_1 := R1.out.frozen 9
  have p10_1 := P1.out.cell (o := 10) rfl
  have o10_1 := O1.out.cell (o := 10) rfl
  have f10_1 := O1.out.frozen 10
  have r10_1 := R1.out.cell (o := 10) rfl
  have s10_1 := R1.out.frozen 10
  have Q5_1 := hide (q5.wide (lo' := w.heap.size + 3) (hi' := w1.heap.size) (by go_size) (Nat.le_refl _))
  clear q5 hb1
  go_wp2_with fail
  refine (toFrameS_g a6 c6 lo hi x.frames _ HL.out.2.2.2.1 (G6.out.keep (Below.mono (by (repeat (first | exact B1.out | refine Below.setCell ?_ (by simp <;> omega) _))) hh)) (by go_size)).mono ?_
  rintro e w2 ⟨n6, rfl, q6, hb2⟩
  have B2 : Hid (Below w.heap.size w w2) := by
    refine Below.trans ?_ (hb2.mono (by go_size))
    (repeat (first | exact B1.out | refine Below.setCell ?_ (by simp <;> omega) _))
  have sz2 : w.heap.size + 3 ≤ w2.heap.size ∧ w1.heap.size ≤ w2.heap.size := by
    have := hb2.size
    simp only [World.size_setCell] at this
    omega
  have P2 : Hid (Rec w2 w.heap.size 28 [.slice a0 x.heap.words.length c0, .int .i64 x.heap.old, .int .i64 x.heap.oldAt, .int .i64 x.heap.youngAt, .slice a4 x.heap.log.length c4, .slice a5 x.glob.length c5, .slice a6 x.frames.length c6, .slice a7 x.outs.length c7, .int .i64 x.asked, .int .i64 x.code, .int .i64 x.steps]) := by
    refine Rec.below ?_ hb2 (by go_size)
    (repeat (first | exact P1.out | refine Rec.other ?_ (by omega) _ _))
  have R2 : Hid (Rec w2 (w.heap.size + 1) 35 [.slice none 0 0, .int .i64 0, .int .i64 0, .int .i64 0, .slice none 0 0, .slice none 0 0, .slice none 0 0, .slice none 0 0, .int .i64 0, .int .i64 0, .int .i64 0]) := by
    refine Rec.below ?_ hb2 (by go_size)
    (repeat (first | exact R1.out | refine Rec.other ?_ (by omega) _ _))
  have O2 : Hid (Rec w2 (w.heap.size + 1 + 1) 35 [.slice n0 x.heap.words.length x.heap.words.length, .int .i64 x.heap.old, .int .i64 x.heap.oldAt, .int .i64 x.heap.youngAt, .slice n4 x.heap.log.length x.heap.log.length, .slice n5 x.glob.length x.glob.length, .slice none 0 0, .slice none 0 0, .int .i64 0, .int .i64 0, .int .i64 0]) := Rec.below ((O1.out).set _ _) hb2 (by go_size)
  have SM2 : Same (w.heap.size + 3) w1.heap.size w1 w2 := by
    refine Same.trans ?_ (Same.of_below hb2 (by go_size))
    (repeat (first | refine Same.set ?_ (.inl (by omega)) _ _ | exact Same.refl _ _ _))
  have Q0_2 := hide (Q0_1.out.same SM2 (Nat.le_refl _) sz2.2)
  have Q4_2 := hide (Q4_1.out.same SM2 (Nat.le_refl _) sz2.2)
  have Q5_2 := hide (Q5_1.out.same SM2 (Nat.le_refl _) sz2.2)
  clear Q0_1 Q4_1 Q5_1 SM2
  clear p0_1 o0_1 f0_1 r0_1 s0_1 p1_1 o1_1 f1_1 r1_1 s1_1 p2_1 o2_1 f2_1 r2_1 s2_1 p3_1 o3_1 f3_1 r3_1 s3_1 p4_1 o4_1 f4_1 r4_1 s4_1 p5_1 o5_1 f5_1 r5_1 s5_1 p6_1 o6_1 f6_1 r6_1 s6_1 p7_1 o7_1 f7_1 r7_1 s7_1 p8_1 o8_1 f8_1 r8_1 s8_1 p9_1 o9_1 f9_1 r9_1 s9_1 p10_1 o10_1 f10_1 r10_1 s10_1
  have p0_2 := P2.out.cell (o := 0) rfl
  have o0_2 := O2.out.cell (o := 0) rfl
  have f0_2 := O2.out.frozen 0
  have r0_2 := R2.out.cell (o := 0) rfl
  have s0_2 := R2.out.frozen 0
  have p1_2 := P2.out.cell (o := 1) rfl
  have o1_2 := O2.out.cell (o := 1) rfl
  have f1_2 := O2.out.frozen 1
  have r1_2 := R2.out.cell (o := 1) rfl
  have s1_2 := R2.out.frozen 1
  have p2_2 := P2.out.cell (o := 2) rfl
  have o2_2 := O2.out.cell (o := 2) rfl
  have f2_2 := O2.out.frozen 2
  have r2_2 := R2.out.cell (o := 2) rfl
  have s2_2 := R2.out.frozen 2
  have p3_2 := P2.out.cell (o := 3) rfl
  have o3_2 := O2.out.cell (o := 3) rfl
  have f3_2 := O2.out.frozen 3
  have r3_2 := R2.out.cell (o := 3) rfl
  have s3_2 := R2.out.frozen 3
  have p4_2 := P2.out.cell (o := 4) rfl
  have o4_2 := O2.out.cell (o := 4) rfl
  have f4_2 := O2.out.frozen 4
  have r4_2 := R2.out.cell (o := 4) rfl
  have s4_2 := R2.out.frozen 4
  have p5_2 := P2.out.cell (o := 5) rfl
  have o5_2 := O2.out.cell (o := 5) rfl
  have f5_2 := O2.out.frozen 5
  have r5_2 := R2.out.cell (o := 5) rfl
  have s5_2 := R2.out.frozen 5
  have p6_2 := P2.out.cell (o := 6) rfl
  have o6_2 := O2.out.cell (o := 6) rfl
  have f6_2 := O2.out.frozen 6
  have r6_2 := R2.out.cell (o := 6) rfl
  have s6_2 := R2.out.frozen 6
  have p7_2 := P2.out.cell (o := 7) rfl
  have o7_2 := O2.out.cell (o := 7) rfl
  have f7_2 := O2.out.frozen 7
  have r7_2 := R2.out.cell (o := 7) rfl
  have s7_2 := R2.out.frozen 7
  have p8_2 := P2.out.cell (o := 8) rfl
  have o8_2 := O2.out.cell (o := 8) rfl
  have f8_2 := O2.out.frozen 8
  have r8_2 := R2.out.cell (o := 8) rfl
  have s8_2 := R2.out.frozen 8
  have p9_2 := P2.out.cell (o := 9) rfl
  have o9_2 := O2.out.cell (o := 9) rfl
  have f9_2 := O2.out.frozen 9
  have r9_2 := R2.out.cell (o := 9) rfl
  have s9_2 := R2.out.frozen 9
  have p10_2 := P2.out.cell (o := 10) rfl
  have o10_2 := O2.out.cell (o := 10) rfl
  have f10_2 := O2.out.frozen 10
  have r10_2 := R2.out.cell (o := 10) rfl
  have s10_2 := R2.out.frozen 10
  have Q6_2 := hide (q6.wide (lo' := w.heap.size + 3) (hi' := w2.heap.size) (by go_size) (Nat.le_refl _))
  clear q6 hb2
  go_wp2_with fail
  refine (toIntS_g a7 c7 lo hi x.outs _ HL.out.2.2.2.2 (G7.out.keep (Below.mono (by (repeat (first | exact B2.out | refine Below.setCell ?_ (by simp <;> omega) _))) hh)) (by go_size)).mono ?_
  rintro e w3 ⟨n7, rfl, q7, hb3⟩
  have B3 : Hid (Below w.heap.size w w3) := by
    refine Below.trans ?_ (hb3.mono (by go_size))
    (repeat (first | exact B2.out | refine Below.setCell ?_ (by simp <;> omega) _))
  have sz3 : w.heap.size + 3 ≤ w3.heap.size ∧ w2.heap.size ≤ w3.heap.size := by
    have := hb3.size
    simp only [World.size_setCell] at this
    omega
  have P3 : Hid (Rec w3 w.heap.size 28 [.slice a0 x.heap.words.length c0, .int .i64 x.heap.old, .int .i64 x.heap.oldAt, .int .i64 x.heap.youngAt, .slice a4 x.heap.log.length c4, .slice a5 x.glob.length c5, .slice a6 x.frames.length c6, .slice a7 x.outs.length c7, .int .i64 x.asked, .int .i64 x.code, .int .i64 x.steps]) := by
    refine Rec.below ?_ hb3 (by go_size)
    (repeat (first | exact P2.out | refine Rec.other ?_ (by omega) _ _))
  have R3 : Hid (Rec w3 (w.heap.size + 1) 35 [.slice none 0 0, .int .i64 0, .int .i64 0, .int .i64 0, .slice none 0 0, .slice none 0 0, .slice none 0 0, .slice none 0 0, .int .i64 0, .int .i64 0, .int .i64 0]) := by
    refine Rec.below ?_ hb3 (by go_size)
    (repeat (first | exact R2.out | refine Rec.other ?_ (by omega) _ _))
  have O3 : Hid (Rec w3 (w.heap.size + 1 + 1) 35 [.slice n0 x.heap.words.length x.heap.words.length, .int .i64 x.heap.old, .int .i64 x.heap.oldAt, .int .i64 x.heap.youngAt, .slice n4 x.heap.log.length x.heap.log.length, .slice n5 x.glob.length x.glob.length, .slice n6 x.frames.length x.frames.length, .slice none 0 0, .int .i64 0, .int .i64 0, .int .i64 0]) := Rec.below ((O2.out).set _ _) hb3 (by go_size)
  have SM3 : Same (w.heap.size + 3) w2.heap.size w2 w3 := by
    refine Same.trans ?_ (Same.of_below hb3 (by go_size))
    (repeat (first | refine Same.set ?_ (.inl (by omega)) _ _ | exact Same.refl _ _ _))
  have Q0_3 := hide (Q0_2.out.same SM3 (Nat.le_refl _) sz3.2)
  have Q4_3 := hide (Q4_2.out.same SM3 (Nat.le_refl _) sz3.2)
  have Q5_3 := hide (Q5_2.out.same SM3 (Nat.le_refl _) sz3.2)
  have Q6_3 := hide (Q6_2.out.same SM3 (Nat.le_refl _) sz3.2)
  clear Q0_2 Q4_2 Q5_2 Q6_2 SM3
  clear p0_2 o0_2 f0_2 r0_2 s0_2 p1_2 o1_2 f1_2 r1_2 s1_2 p2_2 o2_2 f2_2 r2_2 s2_2 p3_2 o3_2 f3_2 r3_2 s3_2 p4_2 o4_2 f4_2 r4_2 s4_2 p5_2 o5_2 f5_2 r5_2 s5_2 p6_2 o6_2 f6_2 r6_2 s6_2 p7_2 o7_2 f7_2 r7_2 s7_2 p8_2 o8_2 f8_2 r8_2 s8_2 p9_2 o9_2 f9_2 r9_2 s9_2 p10_2 o10_2 f10_2 r10_2 s10_2
  have p0_3 := P3.out.cell (o := 0) rfl
  have o0_3 := O3.out.cell (o := 0) rfl
  have f0_3 := O3.out.frozen 0
  have r0_3 := R3.out.cell (o := 0) rfl
  have s0_3 := R3.out.frozen 0
  have p1_3 := P3.out.cell (o := 1) rfl
  have o1_3 := O3.out.cell (o := 1) rfl
  have f1_3 := O3.out.frozen 1
  have r1_3 := R3.out.cell (o := 1) rfl
  have s1_3 := R3.out.frozen 1
  have p2_3 := P3.out.cell (o := 2) rfl
  have o2_3 := O3.out.cell (o := 2) rfl
  have f2_3 := O3.out.frozen 2
  have r2_3 := R3.out.cell (o := 2) rfl
  have s2_3 := R3.out.frozen 2
  have p3_3 := P3.out.cell (o := 3) rfl
  have o3_3 := O3.out.cell (o := 3) rfl
  have f3_3 := O3.out.frozen 3
  have r3_3 := R3.out.cell (o := 3) rfl
  have s3_3 := R3.out.frozen 3
  have p4_3 := P3.out.cell (o := 4) rfl
  have o4_3 := O3.out.cell (o := 4) rfl
  have f4_3 := O3.out.frozen 4
  have r4_3 := R3.out.cell (o := 4) rfl
  have s4_3 := R3.out.frozen 4
  have p5_3 := P3.out.cell (o := 5) rfl
  have o5_3 := O3.out.cell (o := 5) rfl
  have f5_3 := O3.out.frozen 5
  have r5_3 := R3.out.cell (o := 5) rfl
  have s5_3 := R3.out.frozen 5
  have p6_3 := P3.out.cell (o := 6) rfl
  have o6_3 := O3.out.cell (o := 6) rfl
  have f6_3 := O3.out.frozen 6
  have r6_3 := R3.out.cell (o := 6) rfl
  have s6_3 := R3.out.frozen 6
  have p7_3 := P3.out.cell (o := 7) rfl
  have o7_3 := O3.out.cell (o := 7) rfl
  have f7_3 := O3.out.frozen 7
  have r7_3 := R3.out.cell (o := 7) rfl
  have s7_3 := R3.out.frozen 7
  have p8_3 := P3.out.cell (o := 8) rfl
  have o8_3 := O3.out.cell (o := 8) rfl
  have f8_3 := O3.out.frozen 8
  have r8_3 := R3.out.cell (o := 8) rfl
  have s8_3 := R3.out.frozen 8
  have p9_3 := P3.out.cell (o := 9) rfl
  have o9_3 := O3.out.cell (o := 9) rfl
  have f9_3 := O3.out.frozen 9
  have r9_3 := R3.out.cell (o := 9) rfl
  have s9_3 := R3.out.frozen 9
  have p10_3 := P3.out.cell (o := 10) rfl
  have o10_3 := O3.out.cell (o := 10) rfl
  have f10_3 := O3.out.frozen 10
  have r10_3 := R3.out.cell (o := 10) rfl
  have s10_3 := R3.out.frozen 10
  have Q7_3 := hide (q7.wide (lo' := w.heap.size + 3) (hi' := w3.heap.size) (by go_size) (Nat.le_refl _))
  clear q7 hb3
  go_wp2_with fail
  refine bodyPost_ret (v := .agg #[.slice n0 x.heap.words.length x.heap.words.length, .int .i64 x.heap.old, .int .i64 x.heap.oldAt, .int .i64 x.heap.youngAt, .slice n4 x.heap.log.length x.heap.log.length, .slice n5 x.glob.length x.glob.length, .slice n6 x.frames.length x.frames.length, .slice n7 x.outs.length x.outs.length, .int .i64 x.asked, .int .i64 x.code, .int .i64 x.steps]) (by simp [results, Try.results6, go_sem, r0_3, r1_3, r2_3, r3_3, r4_3, r5_3, r6_3, r7_3, r8_3, r9_3, r10_3]) rfl ⟨n0, n4, n5, n6, n7, rfl, ?_, ?_, ?_, ?_, ?_, ?_⟩
  · refine Q0_3.out.same ?_ (by omega) (by go_size)
    (repeat (first | refine Same.set ?_ (.inl (by omega)) _ _ | exact Same.refl _ _ _))
  · refine Q4_3.out.same ?_ (by omega) (by go_size)
    (repeat (first | refine Same.set ?_ (.inl (by omega)) _ _ | exact Same.refl _ _ _))
  · refine Q5_3.out.same ?_ (by omega) (by go_size)
    (repeat (first | refine Same.set ?_ (.inl (by omega)) _ _ | exact Same.refl _ _ _))
  · refine Q6_3.out.same ?_ (by omega) (by go_size)
    (repeat (first | refine Same.set ?_ (.inl (by omega)) _ _ | exact Same.refl _ _ _))
  · refine Q7_3.out.same ?_ (by omega) (by go_size)
    (repeat (first | refine Same.set ?_ (.inl (by omega)) _ _ | exact Same.refl _ _ _))
  · (repeat (first | refine Below.setCell ?_ (by simp <;> omega) _ | exact B3.out))

set_option maxHeartbeats 800000 in
theorem szEngine_any {md : Bool} (a0 a4 a5 a6 a7 : Option Addr) (c0 c4 c5 c6 c7 lo hi : Nat) (x : GEngine) (left : Int) (w : World) (hl : EngineB 9223372036854775807 x) (g0 : NumsM md w lo hi a0 x.heap.words) (g4 : NumsM md w lo hi a4 x.heap.log) (g5 : ValsM md w lo hi a5 x.glob) (g6 : FramesM md w lo hi a6 x.frames) (g7 : NumsM md w lo hi a7 x.outs) (hh : hi ≤ w.heap.size) (l0 : 0 ≤ left) (l1 : left ≤ 1048576) :
    Calls Try.prog 4 #[.agg #[.slice a0 x.heap.words.length c0, .int .i64 x.heap.old, .int .i64 x.heap.oldAt, .int .i64 x.heap.youngAt, .slice a4 x.heap.log.length c4, .slice a5 x.glob.length c5, .slice a6 x.frames.length c6, .slice a7 x.outs.length c7, .int .i64 x.asked, .int .i64 x.code, .int .i64 x.steps], .int .i64 left] w fun e w' => ∃ r : Int, e = .returned (.int .i64 r) ∧ -1 ≤ r ∧ r ≤ left ∧ (0 ≤ r → EngineB 1048576 x) ∧ Below w.heap.size w w' := by
  have HL := hide hl
  clear hl
  have G0 := hide g0
  have G4 := hide g4
  have G5 := hide g5
  have G6 := hide g6
  have G7 := hide g7
  clear g0 g4 g5 g6 g7
  go_enter Try.func4, Try.ntmps4
  go_wp2_with fail
  refine (szHeap_any a0 a4 c0 c4 lo hi x.heap left _ ⟨HL.out.1, HL.out.2.1⟩ (G0.out.keep (Below.mono (by (repeat (first | refine Below.al ?_ (Nat.le_refl _) _ | exact Below.refl _ _))) hh)) (G4.out.keep (Below.mono (by (repeat (first | refine Below.al ?_ (Nat.le_refl _) _ | exact Below.refl _ _))) hh)) (by simp only [World.size_alloc]; omega) (by omega) (by omega)).mono ?_
  rintro e w0 ⟨r0, rfl, s0, t0, u0, hb0⟩
  have U0 := hide u0
  have HB0 : Hid (Below w.heap.size w w0) := by
    refine Below.trans ?_ (hb0.mono ?_)
    · (repeat (first | refine Below.al ?_ (Nat.le_refl _) _ | exact Below.refl _ _))
    · simp
  have P0 : Hid (Rec w0 w.heap.size 28 [.slice a0 x.heap.words.length c0, .int .i64 x.heap.old, .int .i64 x.heap.oldAt, .int .i64 x.heap.youngAt, .slice a4 x.heap.log.length c4, .slice a5 x.glob.length c5, .slice a6 x.frames.length c6, .slice a7 x.outs.length c7, .int .i64 x.asked, .int .i64 x.code, .int .i64 x.steps]) := (Rec.new' w _ _ _ rfl).below hb0 (by go_size)
  clear u0 hb0
  have p0_0 := P0.out.cell (o := 0) rfl
  have p1_0 := P0.out.cell (o := 1) rfl
  have p2_0 := P0.out.cell (o := 2) rfl
  have p3_0 := P0.out.cell (o := 3) rfl
  have p4_0 := P0.out.cell (o := 4) rfl
  have p5_0 := P0.out.cell (o := 5) rfl
  have p6_0 := P0.out.cell (o := 6) rfl
  have p7_0 := P0.out.cell (o := 7) rfl
  have p8_0 := P0.out.cell (o := 8) rfl
  have p9_0 := P0.out.cell (o := 9) rfl
  have p10_0 := P0.out.cell (o := 10) rfl
  by_cases hr0 : r0 < 0
  · go_wp2_with fail
    go_ret
    exact ⟨-1, rfl, by omega, by omega, by omega, HB0.out⟩
  go_wp2_with fail
  refine (szValS_g a5 c5 lo hi x.glob r0 _ HL.out.2.2.1 (G5.out.keep (Below.mono (by exact HB0.out) hh)) (Nat.le_trans hh HB0.out.size) (by omega) (by omega)).mono ?_
  rintro e w1 ⟨r1, rfl, s1, t1, u1, hb1⟩
  have U1 := hide u1
  have HB1 : Hid (Below w.heap.size w w1) := by
    refine Below.trans ?_ (hb1.mono ?_)
    · exact HB0.out
    · exact HB0.out.size
  have P1 : Hid (Rec w1 w.heap.size 28 [.slice a0 x.heap.words.length c0, .int .i64 x.heap.old, .int .i64 x.heap.oldAt, .int .i64 x.heap.youngAt, .slice a4 x.heap.log.length c4, .slice a5 x.glob.length c5, .slice a6 x.frames.length c6, .slice a7 x.outs.length c7, .int .i64 x.asked, .int .i64 x.code, .int .i64 x.steps]) := P0.out.below hb1 P0.out.lt
  clear u1 hb1 p0_0 p1_0 p2_0 p3_0 p4_0 p5_0 p6_0 p7_0 p8_0 p9_0 p10_0
  have p0_1 := P1.out.cell (o := 0) rfl
  have p1_1 := P1.out.cell (o := 1) rfl
  have p2_1 := P1.out.cell (o := 2) rfl
  have p3_1 := P1.out.cell (o := 3) rfl
  have p4_1 := P1.out.cell (o := 4) rfl
  have p5_1 := P1.out.cell (o := 5) rfl
  have p6_1 := P1.out.cell (o := 6) rfl
  have p7_1 := P1.out.cell (o := 7) rfl
  have p8_1 := P1.out.cell (o := 8) rfl
  have p9_1 := P1.out.cell (o := 9) rfl
  have p10_1 := P1.out.cell (o := 10) rfl
  by_cases hr1 : r1 < 0
  · go_wp2_with fail
    go_ret
    exact ⟨-1, rfl, by omega, by omega, by omega, HB1.out⟩
  go_wp2_with fail
  refine (szFrameS_g a6 c6 lo hi x.frames r1 _ HL.out.2.2.2.1 (G6.out.keep (Below.mono (by exact HB1.out) hh)) (Nat.le_trans hh HB1.out.size) (by omega) (by omega)).mono ?_
  rintro e w2 ⟨r2, rfl, s2, t2, u2, hb2⟩
  have U2 := hide u2
  have HB2 : Hid (Below w.heap.size w w2) := by
    refine Below.trans ?_ (hb2.mono ?_)
    · exact HB1.out
    · exact HB1.out.size
  have P2 : Hid (Rec w2 w.heap.size 28 [.slice a0 x.heap.words.length c0, .int .i64 x.heap.old, .int .i64 x.heap.oldAt, .int .i64 x.heap.youngAt, .slice a4 x.heap.log.length c4, .slice a5 x.glob.length c5, .slice a6 x.frames.length c6, .slice a7 x.outs.length c7, .int .i64 x.asked, .int .i64 x.code, .int .i64 x.steps]) := P1.out.below hb2 P1.out.lt
  clear u2 hb2 p0_1 p1_1 p2_1 p3_1 p4_1 p5_1 p6_1 p7_1 p8_1 p9_1 p10_1
  have p0_2 := P2.out.cell (o := 0) rfl
  have p1_2 := P2.out.cell (o := 1) rfl
  have p2_2 := P2.out.cell (o := 2) rfl
  have p3_2 := P2.out.cell (o := 3) rfl
  have p4_2 := P2.out.cell (o := 4) rfl
  have p5_2 := P2.out.cell (o := 5) rfl
  have p6_2 := P2.out.cell (o := 6) rfl
  have p7_2 := P2.out.cell (o := 7) rfl
  have p8_2 := P2.out.cell (o := 8) rfl
  have p9_2 := P2.out.cell (o := 9) rfl
  have p10_2 := P2.out.cell (o := 10) rfl
  by_cases hr2 : r2 < 0
  · go_wp2_with fail
    go_ret
    exact ⟨-1, rfl, by omega, by omega, by omega, HB2.out⟩
  go_wp2_with fail
  refine (szIntS_g a7 c7 lo hi x.outs r2 _ HL.out.2.2.2.2 (G7.out.keep (Below.mono (by exact HB2.out) hh)) (Nat.le_trans hh HB2.out.size) (by omega) (by omega)).mono ?_
  rintro e w3 ⟨r3, rfl, s3, t3, u3, hb3⟩
  have U3 := hide u3
  have HB3 : Hid (Below w.heap.size w w3) := by
    refine Below.trans ?_ (hb3.mono ?_)
    · exact HB2.out
    · exact HB2.out.size
  have P3 : Hid (Rec w3 w.heap.size 28 [.slice a0 x.heap.words.length c0, .int .i64 x.heap.old, .int .i64 x.heap.oldAt, .int .i64 x.heap.youngAt, .slice a4 x.heap.log.length c4, .slice a5 x.glob.length c5, .slice a6 x.frames.length c6, .slice a7 x.outs.length c7, .int .i64 x.asked, .int .i64 x.code, .int .i64 x.steps]) := P2.out.below hb3 P2.out.lt
  clear u3 hb3 p0_2 p1_2 p2_2 p3_2 p4_2 p5_2 p6_2 p7_2 p8_2 p9_2 p10_2
  have p0_3 := P3.out.cell (o := 0) rfl
  have p1_3 := P3.out.cell (o := 1) rfl
  have p2_3 := P3.out.cell (o := 2) rfl
  have p3_3 := P3.out.cell (o := 3) rfl
  have p4_3 := P3.out.cell (o := 4) rfl
  have p5_3 := P3.out.cell (o := 5) rfl
  have p6_3 := P3.out.cell (o := 6) rfl
  have p7_3 := P3.out.cell (o := 7) rfl
  have p8_3 := P3.out.cell (o := 8) rfl
  have p9_3 := P3.out.cell (o := 9) rfl
  have p10_3 := P3.out.cell (o := 10) rfl
  by_cases hr3 : r3 < 0
  · go_wp2_with fail
    go_ret
    exact ⟨-1, rfl, by omega, by omega, by omega, HB3.out⟩
  go_wp2_with fail
  go_ret
  exact ⟨r3, rfl, by omega, by omega, fun _ => ⟨(U0.out (by omega)).1, (U0.out (by omega)).2, U1.out (by omega), U2.out (by omega), U3.out (by omega)⟩, HB3.out⟩

set_option maxHeartbeats 800000 in
theorem eqEngine_g {md md' : Bool} (a0 b0 a4 b4 a5 b5 a6 b6 a7 b7 : Option Addr) (c0 d0 c4 d4 c5 d5 c6 d6 c7 d7 lo hi lo' hi' : Nat) (x : GEngine) (w : World) (hl : EngineB 1048576 x) (g0 : NumsM md w lo hi a0 x.heap.words) (g4 : NumsM md w lo hi a4 x.heap.log) (g5 : ValsM md w lo hi a5 x.glob) (g6 : FramesM md w lo hi a6 x.frames) (g7 : NumsM md w lo hi a7 x.outs) (k0 : NumsM md' w lo' hi' b0 x.heap.words) (k4 : NumsM md' w lo' hi' b4 x.heap.log) (k5 : ValsM md' w lo' hi' b5 x.glob) (k6 : FramesM md' w lo' hi' b6 x.frames) (k7 : NumsM md' w lo' hi' b7 x.outs) (hh : hi ≤ w.heap.size) (hh' : hi' ≤ w.heap.size) :
    Calls Try.prog 9 #[.agg #[.slice a0 x.heap.words.length c0, .int .i64 x.heap.old, .int .i64 x.heap.oldAt, .int .i64 x.heap.youngAt, .slice a4 x.heap.log.length c4, .slice a5 x.glob.length c5, .slice a6 x.frames.length c6, .slice a7 x.outs.length c7, .int .i64 x.asked, .int .i64 x.code, .int .i64 x.steps], .agg #[.slice b0 x.heap.words.length d0, .int .i64 x.heap.old, .int .i64 x.heap.oldAt, .int .i64 x.heap.youngAt, .slice b4 x.heap.log.length d4, .slice b5 x.glob.length d5, .slice b6 x.frames.length d6, .slice b7 x.outs.length d7, .int .i64 x.asked, .int .i64 x.code, .int .i64 x.steps]] w fun e w' => e = .returned (.bool true) ∧ Below w.heap.size w w' := by
  have HL := hide hl
  clear hl
  have G0 := hide g0
  have K0 := hide k0
  have G4 := hide g4
  have K4 := hide k4
  have G5 := hide g5
  have K5 := hide k5
  have G6 := hide g6
  have K6 := hide k6
  have G7 := hide g7
  have K7 := hide k7
  clear g0 k0 g4 k4 g5 k5 g6 k6 g7 k7
  go_enter Try.func9, Try.ntmps9
  go_wp2_with fail
  refine (eqHeap_g a0 b0 a4 b4 c0 d0 c4 d4 lo hi lo' hi' x.heap _ ⟨HL.out.1, HL.out.2.1⟩ (G0.out.keep (Below.mono (by (repeat (first | refine Below.al ?_ (Nat.le_refl _) _ | exact Below.refl _ _))) hh)) (G4.out.keep (Below.mono (by (repeat (first | refine Below.al ?_ (Nat.le_refl _) _ | exact Below.refl _ _))) hh)) (K0.out.keep (Below.mono (by (repeat (first | refine Below.al ?_ (Nat.le_refl _) _ | exact Below.refl _ _))) hh')) (K4.out.keep (Below.mono (by (repeat (first | refine Below.al ?_ (Nat.le_refl _) _ | exact Below.refl _ _))) hh')) (by simp only [World.size_alloc]; omega) (by simp only [World.size_alloc]; omega)).mono ?_
  rintro e w0 ⟨rfl, hb0⟩
  have HB0 : Hid (Below w.heap.size w w0) := by
    refine Below.trans ?_ (hb0.mono ?_)
    · (repeat (first | refine Below.al ?_ (Nat.le_refl _) _ | exact Below.refl _ _))
    · simp <;> omega
  have P0 : Hid (Rec w0 w.heap.size 35 [.slice a0 x.heap.words.length c0, .int .i64 x.heap.old, .int .i64 x.heap.oldAt, .int .i64 x.heap.youngAt, .slice a4 x.heap.log.length c4, .slice a5 x.glob.length c5, .slice a6 x.frames.length c6, .slice a7 x.outs.length c7, .int .i64 x.asked, .int .i64 x.code, .int .i64 x.steps]) := ((Rec.new' w _ _ _ rfl).alloc _).below hb0 (by go_size)
  have R0 : Hid (Rec w0 (w.heap.size + 1) 35 [.slice b0 x.heap.words.length d0, .int .i64 x.heap.old, .int .i64 x.heap.oldAt, .int .i64 x.heap.youngAt, .slice b4 x.heap.log.length d4, .slice b5 x.glob.length d5, .slice b6 x.frames.length d6, .slice b7 x.outs.length d7, .int .i64 x.asked, .int .i64 x.code, .int .i64 x.steps]) := (Rec.new' _ _ _ _ (by simp)).below hb0 (by go_size)
  clear hb0
  have p0_0 := P0.out.cell (o := 0) rfl
  have r0_0 := R0.out.cell (o := 0) rfl
  have p1_0 := P0.out.cell (o := 1) rfl
  have r1_0 := R0.out.cell (o := 1) rfl
  have p2_0 := P0.out.cell (o := 2) rfl
  have r2_0 := R0.out.cell (o := 2) rfl
  have p3_0 := P0.out.cell (o := 3) rfl
  have r3_0 := R0.out.cell (o := 3) rfl
  have p4_0 := P0.out.cell (o := 4) rfl
  have r4_0 := R0.out.cell (o := 4) rfl
  have p5_0 := P0.out.cell (o := 5) rfl
  have r5_0 := R0.out.cell (o := 5) rfl
  have p6_0 := P0.out.cell (o := 6) rfl
  have r6_0 := R0.out.cell (o := 6) rfl
  have p7_0 := P0.out.cell (o := 7) rfl
  have r7_0 := R0.out.cell (o := 7) rfl
  have p8_0 := P0.out.cell (o := 8) rfl
  have r8_0 := R0.out.cell (o := 8) rfl
  have p9_0 := P0.out.cell (o := 9) rfl
  have r9_0 := R0.out.cell (o := 9) rfl
  have p10_0 := P0.out.cell (o := 10) rfl
  have r10_0 := R0.out.cell (o := 10) rfl
  go_wp2_with fail
  refine (eqValS_g a5 b5 c5 d5 lo hi lo' hi' x.glob _ HL.out.2.2.1 (G5.out.keep (Below.mono (by exact HB0.out) hh)) (K5.out.keep (Below.mono (by exact HB0.out) hh')) (Nat.le_trans hh HB0.out.size) (Nat.le_trans hh' HB0.out.size)).mono ?_
  rintro e w1 ⟨rfl, hb1⟩
  have HB1 : Hid (Below w.heap.size w w1) := by
    refine Below.trans ?_ (hb1.mono ?_)
    · exact HB0.out
    · exact HB0.out.size
  have P1 : Hid (Rec w1 w.heap.size 35 [.slice a0 x.heap.words.length c0, .int .i64 x.heap.old, .int .i64 x.heap.oldAt, .int .i64 x.heap.youngAt, .slice a4 x.heap.log.length c4, .slice a5 x.glob.length c5, .slice a6 x.frames.length c6, .slice a7 x.outs.length c7, .int .i64 x.asked, .int .i64 x.code, .int .i64 x.steps]) := P0.out.below hb1 P0.out.lt
  have R1 : Hid (Rec w1 (w.heap.size + 1) 35 [.slice b0 x.heap.words.length d0, .int .i64 x.heap.old, .int .i64 x.heap.oldAt, .int .i64 x.heap.youngAt, .slice b4 x.heap.log.length d4, .slice b5 x.glob.length d5, .slice b6 x.frames.length d6, .slice b7 x.outs.length d7, .int .i64 x.asked, .int .i64 x.code, .int .i64 x.steps]) := R0.out.below hb1 R0.out.lt
  clear hb1 p0_0 r0_0 p1_0 r1_0 p2_0 r2_0 p3_0 r3_0 p4_0 r4_0 p5_0 r5_0 p6_0 r6_0 p7_0 r7_0 p8_0 r8_0 p9_0 r9_0 p10_0 r10_0
  have p0_1 := P1.out.cell (o := 0) rfl
  have r0_1 := R1.out.cell (o := 0) rfl
  have p1_1 := P1.out.cell (o := 1) rfl
  have r1_1 := R1.out.cell (o := 1) rfl
  have p2_1 := P1.out.cell (o := 2) rfl
  have r2_1 := R1.out.cell (o := 2) rfl
  have p3_1 := P1.out.cell (o := 3) rfl
  have r3_1 := R1.out.cell (o := 3) rfl
  have p4_1 := P1.out.cell (o := 4) rfl
  have r4_1 := R1.out.cell (o := 4) rfl
  have p5_1 := P1.out.cell (o := 5) rfl
  have r5_1 := R1.out.cell (o := 5) rfl
  have p6_1 := P1.out.cell (o := 6) rfl
  have r6_1 := R1.out.cell (o := 6) rfl
  have p7_1 := P1.out.cell (o := 7) rfl
  have r7_1 := R1.out.cell (o := 7) rfl
  have p8_1 := P1.out.cell (o := 8) rfl
  have r8_1 := R1.out.cell (o := 8) rfl
  have p9_1 := P1.out.cell (o := 9) rfl
  have r9_1 := R1.out.cell (o := 9) rfl
  have p10_1 := P1.out.cell (o := 10) rfl
  have r10_1 := R1.out.cell (o := 10) rfl
  go_wp2_with fail
  refine (eqFrameS_g a6 b6 c6 d6 lo hi lo' hi' x.frames _ HL.out.2.2.2.1 (G6.out.keep (Below.mono (by exact HB1.out) hh)) (K6.out.keep (Below.mono (by exact HB1.out) hh')) (Nat.le_trans hh HB1.out.size) (Nat.le_trans hh' HB1.out.size)).mono ?_
  rintro e w2 ⟨rfl, hb2⟩
  have HB2 : Hid (Below w.heap.size w w2) := by
    refine Below.trans ?_ (hb2.mono ?_)
    · exact HB1.out
    · exact HB1.out.size
  have P2 : Hid (Rec w2 w.heap.size 35 [.slice a0 x.heap.words.length c0, .int .i64 x.heap.old, .int .i64 x.heap.oldAt, .int .i64 x.heap.youngAt, .slice a4 x.heap.log.length c4, .slice a5 x.glob.length c5, .slice a6 x.frames.length c6, .slice a7 x.outs.length c7, .int .i64 x.asked, .int .i64 x.code, .int .i64 x.steps]) := P1.out.below hb2 P1.out.lt
  have R2 : Hid (Rec w2 (w.heap.size + 1) 35 [.slice b0 x.heap.words.length d0, .int .i64 x.heap.old, .int .i64 x.heap.oldAt, .int .i64 x.heap.youngAt, .slice b4 x.heap.log.length d4, .slice b5 x.glob.length d5, .slice b6 x.frames.length d6, .slice b7 x.outs.length d7, .int .i64 x.asked, .int .i64 x.code, .int .i64 x.steps]) := R1.out.below hb2 R1.out.lt
  clear hb2 p0_1 r0_1 p1_1 r1_1 p2_1 r2_1 p3_1 r3_1 p4_1 r4_1 p5_1 r5_1 p6_1 r6_1 p7_1 r7_1 p8_1 r8_1 p9_1 r9_1 p10_1 r10_1
  have p0_2 := P2.out.cell (o := 0) rfl
  have r0_2 := R2.out.cell (o := 0) rfl
  have p1_2 := P2.out.cell (o := 1) rfl
  have r1_2 := R2.out.cell (o := 1) rfl
  have p2_2 := P2.out.cell (o := 2) rfl
  have r2_2 := R2.out.cell (o := 2) rfl
  have p3_2 := P2.out.cell (o := 3) rfl
  have r3_2 := R2.out.cell (o := 3) rfl
  have p4_2 := P2.out.cell (o := 4) rfl
  have r4_2 := R2.out.cell (o := 4) rfl
  have p5_2 := P2.out.cell (o := 5) rfl
  have r5_2 := R2.out.cell (o := 5) rfl
  have p6_2 := P2.out.cell (o := 6) rfl
  have r6_2 := R2.out.cell (o := 6) rfl
  have p7_2 := P2.out.cell (o := 7) rfl
  have r7_2 := R2.out.cell (o := 7) rfl
  have p8_2 := P2.out.cell (o := 8) rfl
  have r8_2 := R2.out.cell (o := 8) rfl
  have p9_2 := P2.out.cell (o := 9) rfl
  have r9_2 := R2.out.cell (o := 9) rfl
  have p10_2 := P2.out.cell (o := 10) rfl
  have r10_2 := R2.out.cell (o := 10) rfl
  go_wp2_with fail
  refine (eqIntS_g a7 b7 c7 d7 lo hi lo' hi' x.outs _ HL.out.2.2.2.2 (G7.out.keep (Below.mono (by exact HB2.out) hh)) (K7.out.keep (Below.mono (by exact HB2.out) hh')) (Nat.le_trans hh HB2.out.size) (Nat.le_trans hh' HB2.out.size)).mono ?_
  rintro e w3 ⟨rfl, hb3⟩
  have HB3 : Hid (Below w.heap.size w w3) := by
    refine Below.trans ?_ (hb3.mono ?_)
    · exact HB2.out
    · exact HB2.out.size
  have P3 : Hid (Rec w3 w.heap.size 35 [.slice a0 x.heap.words.length c0, .int .i64 x.heap.old, .int .i64 x.heap.oldAt, .int .i64 x.heap.youngAt, .slice a4 x.heap.log.length c4, .slice a5 x.glob.length c5, .slice a6 x.frames.length c6, .slice a7 x.outs.length c7, .int .i64 x.asked, .int .i64 x.code, .int .i64 x.steps]) := P2.out.below hb3 P2.out.lt
  have R3 : Hid (Rec w3 (w.heap.size + 1) 35 [.slice b0 x.heap.words.length d0, .int .i64 x.heap.old, .int .i64 x.heap.oldAt, .int .i64 x.heap.youngAt, .slice b4 x.heap.log.length d4, .slice b5 x.glob.length d5, .slice b6 x.frames.length d6, .slice b7 x.outs.length d7, .int .i64 x.asked, .int .i64 x.code, .int .i64 x.steps]) := R2.out.below hb3 R2.out.lt
  clear hb3 p0_2 r0_2 p1_2 r1_2 p2_2 r2_2 p3_2 r3_2 p4_2 r4_2 p5_2 r5_2 p6_2 r6_2 p7_2 r7_2 p8_2 r8_2 p9_2 r9_2 p10_2 r10_2
  have p0_3 := P3.out.cell (o := 0) rfl
  have r0_3 := R3.out.cell (o := 0) rfl
  have p1_3 := P3.out.cell (o := 1) rfl
  have r1_3 := R3.out.cell (o := 1) rfl
  have p2_3 := P3.out.cell (o := 2) rfl
  have r2_3 := R3.out.cell (o := 2) rfl
  have p3_3 := P3.out.cell (o := 3) rfl
  have r3_3 := R3.out.cell (o := 3) rfl
  have p4_3 := P3.out.cell (o := 4) rfl
  have r4_3 := R3.out.cell (o := 4) rfl
  have p5_3 := P3.out.cell (o := 5) rfl
  have r5_3 := R3.out.cell (o := 5) rfl
  have p6_3 := P3.out.cell (o := 6) rfl
  have r6_3 := R3.out.cell (o := 6) rfl
  have p7_3 := P3.out.cell (o := 7) rfl
  have r7_3 := R3.out.cell (o := 7) rfl
  have p8_3 := P3.out.cell (o := 8) rfl
  have r8_3 := R3.out.cell (o := 8) rfl
  have p9_3 := P3.out.cell (o := 9) rfl
  have r9_3 := R3.out.cell (o := 9) rfl
  have p10_3 := P3.out.cell (o := 10) rfl
  have r10_3 := R3.out.cell (o := 10) rfl
  go_wp2_with fail
  go_ret
  exact ⟨rfl, HB3.out⟩
end Go.Proofs.Ytbalfmlmgbmneaa
