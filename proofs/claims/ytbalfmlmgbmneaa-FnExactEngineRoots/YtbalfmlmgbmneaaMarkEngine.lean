/- markEngine of the laws. Written by tools/genmark.py. -/
import Derived.Test.YtbalfmlmgbmneaaGenEngine
import Derived.Test.YtbalfmlmgbmneaaMarkHeap
import Derived.Test.YtbalfmlmgbmneaaMarkVal
import Derived.Test.YtbalfmlmgbmneaaMarkFrame
import Derived.Test.YtbalfmlmgbmneaaMarkInt
namespace Go.Proofs.Ytbalfmlmgbmneaa
open Go.ChangeShapes Go.WideShapes Go.ChangeAt Go.RowKit Go.Joins Go.Deep
set_option linter.unusedVariables false
set_option maxHeartbeats 1600000 in
theorem markEngine_m (a0 : Option Addr) (c0 : Nat) (a4 : Option Addr) (c4 : Nat) (a5 : Option Addr) (c5 : Nat) (a6 : Option Addr) (c6 : Nat) (a7 : Option Addr) (c7 : Nat) (lo hi : Nat) (x : GEngine) (k : Int) (w : World) (hl : EngineB 1048576 x) (k0 : 0 ≤ k) (k1 : k ≤ 1125899906842624) (g0 : FlatSh 3 1 w lo hi a0 x.heap.words.length) (g4 : FlatSh 3 1 w lo hi a4 x.heap.log.length) (g5 : FlatSh 62 2 w lo hi a5 x.glob.length) (g6 : FrameSh w lo hi a6 x.frames) (g7 : FlatSh 3 1 w lo hi a7 x.outs.length) (hh : hi ≤ w.heap.size) :
    Calls Try.prog 10 #[.agg #[.slice a0 x.heap.words.length c0, .int .i64 x.heap.old, .int .i64 x.heap.oldAt, .int .i64 x.heap.youngAt, .slice a4 x.heap.log.length c4, .slice a5 x.glob.length c5, .slice a6 x.frames.length c6, .slice a7 x.outs.length c7, .int .i64 x.asked, .int .i64 x.code, .int .i64 x.steps], .int .i64 k] w fun e w' => ∃ r : Int, e = .returned (.int .i64 r) ∧ k ≤ r ∧ r ≤ k + 4398053851136 ∧ MarksG lo hi w w' := by
  have HL := hide hl
  have HH := hide hh
  clear hl hh
  have HB : Hid (Below w.heap.size w (w.alloc (.cells #[.slice a0 x.heap.words.length c0, .int .i64 x.heap.old, .int .i64 x.heap.oldAt, .int .i64 x.heap.youngAt, .slice a4 x.heap.log.length c4, .slice a5 x.glob.length c5, .slice a6 x.frames.length c6, .slice a7 x.outs.length c7, .int .i64 x.asked, .int .i64 x.code, .int .i64 x.steps] 35))) := (Below.refl _ _).alloc (Nat.le_refl _) _
  have G0_0 := hide (g0.keep (HB.out.mono HH.out))
  have G4_0 := hide (g4.keep (HB.out.mono HH.out))
  have G5_0 := hide (g5.keep (HB.out.mono HH.out))
  have G6_0 := hide (g6.keep (HB.out.mono HH.out))
  have G7_0 := hide (g7.keep (HB.out.mono HH.out))
  have R0 : Hid (Rec (w.alloc (.cells #[.slice a0 x.heap.words.length c0, .int .i64 x.heap.old, .int .i64 x.heap.oldAt, .int .i64 x.heap.youngAt, .slice a4 x.heap.log.length c4, .slice a5 x.glob.length c5, .slice a6 x.frames.length c6, .slice a7 x.outs.length c7, .int .i64 x.asked, .int .i64 x.code, .int .i64 x.steps] 35)) w.heap.size 35 [.slice a0 x.heap.words.length c0, .int .i64 x.heap.old, .int .i64 x.heap.oldAt, .int .i64 x.heap.youngAt, .slice a4 x.heap.log.length c4, .slice a5 x.glob.length c5, .slice a6 x.frames.length c6, .slice a7 x.outs.length c7, .int .i64 x.asked, .int .i64 x.code, .int .i64 x.steps]) := Rec.new' _ _ _ _ rfl
  have BU0 : Hid (MarksG lo hi w (w.alloc (.cells #[.slice a0 x.heap.words.length c0, .int .i64 x.heap.old, .int .i64 x.heap.oldAt, .int .i64 x.heap.youngAt, .slice a4 x.heap.log.length c4, .slice a5 x.glob.length c5, .slice a6 x.frames.length c6, .slice a7 x.outs.length c7, .int .i64 x.asked, .int .i64 x.code, .int .i64 x.steps] 35))) := MarksG.of_below HB.out
  clear g0 g4 g5 g6 g7
  go_enter Try.func10, Try.ntmps10
  go_wp2_with fail
  refine (markHeap_m a0 c0 a4 c4 lo hi x.heap _ _ ⟨HL.out.1, HL.out.2.1⟩ (by omega) (by omega) G0_0.out G4_0.out ?hh0).mono ?_
  case hh0 => exact Nat.le_trans HH.out BU0.out.size
  rintro e w1 ⟨q0, rfl, t0, u0, hM1⟩
  have BU1 := hide (BU0.out.trans hM1)
  have G0_1 := hide (G0_0.out.marks hM1)
  have G4_1 := hide (G4_0.out.marks hM1)
  have G5_1 := hide (G5_0.out.marks hM1)
  have G6_1 := hide (G6_0.out.marks hM1)
  have G7_1 := hide (G7_0.out.marks hM1)
  have R1 := hide (R0.out.marks hM1 (.inr HH.out))
  have r0_1 := R1.out.cell (o := 0) rfl
  have r1_1 := R1.out.cell (o := 1) rfl
  have r2_1 := R1.out.cell (o := 2) rfl
  have r3_1 := R1.out.cell (o := 3) rfl
  have r4_1 := R1.out.cell (o := 4) rfl
  have r5_1 := R1.out.cell (o := 5) rfl
  have r6_1 := R1.out.cell (o := 6) rfl
  have r7_1 := R1.out.cell (o := 7) rfl
  have r8_1 := R1.out.cell (o := 8) rfl
  have r9_1 := R1.out.cell (o := 9) rfl
  have r10_1 := R1.out.cell (o := 10) rfl
  clear hM1 G0_0 G4_0 G5_0 G6_0 G7_0
  go_wp2_with fail
  refine (markValS_m a5 c5 x.glob.length lo hi _ _ (Nat.le_trans HL.out.2.2.1 (by decide)) (by omega) (by omega) G5_1.out).mono ?_
  rintro e w2 ⟨rfl, hM2, _⟩
  have lb1 : x.glob.length ≤ 1048576 := HL.out.2.2.1
  obtain ⟨q1, hq1⟩ : ∃ q : Int, q = q0 + 2 * (x.glob.length : Int) := ⟨_, rfl⟩
  rw [← hq1]
  have u1 : q0 ≤ q1 ∧ q1 ≤ q0 + 2097152 := by omega
  clear hq1 lb1
  have BU2 := hide (BU1.out.trans hM2)
  have G0_2 := hide (G0_1.out.marks hM2)
  have G4_2 := hide (G4_1.out.marks hM2)
  have G5_2 := hide (G5_1.out.marks hM2)
  have G6_2 := hide (G6_1.out.marks hM2)
  have G7_2 := hide (G7_1.out.marks hM2)
  have R2 := hide (R1.out.marks hM2 (.inr HH.out))
  have r0_2 := R2.out.cell (o := 0) rfl
  have r1_2 := R2.out.cell (o := 1) rfl
  have r2_2 := R2.out.cell (o := 2) rfl
  have r3_2 := R2.out.cell (o := 3) rfl
  have r4_2 := R2.out.cell (o := 4) rfl
  have r5_2 := R2.out.cell (o := 5) rfl
  have r6_2 := R2.out.cell (o := 6) rfl
  have r7_2 := R2.out.cell (o := 7) rfl
  have r8_2 := R2.out.cell (o := 8) rfl
  have r9_2 := R2.out.cell (o := 9) rfl
  have r10_2 := R2.out.cell (o := 10) rfl
  clear r0_1 r1_1 r2_1 r3_1 r4_1 r5_1 r6_1 r7_1 r8_1 r9_1 r10_1
  clear hM2 G0_1 G4_1 G5_1 G6_1 G7_1
  go_wp2_with fail
  refine (markFrameS_m a6 c6 lo hi x.frames _ _ HL.out.2.2.2.1 (by omega) (by omega) G6_2.out).mono ?_
  rintro e w3 ⟨q2, rfl, t2, u2, hM3⟩
  have lb2 : x.frames.length ≤ 1048576 := (HL.out.2.2.2.1).1
  have BU3 := hide (BU2.out.trans hM3)
  have G0_3 := hide (G0_2.out.marks hM3)
  have G4_3 := hide (G4_2.out.marks hM3)
  have G5_3 := hide (G5_2.out.marks hM3)
  have G6_3 := hide (G6_2.out.marks hM3)
  have G7_3 := hide (G7_2.out.marks hM3)
  have R3 := hide (R2.out.marks hM3 (.inr HH.out))
  have r0_3 := R3.out.cell (o := 0) rfl
  have r1_3 := R3.out.cell (o := 1) rfl
  have r2_3 := R3.out.cell (o := 2) rfl
  have r3_3 := R3.out.cell (o := 3) rfl
  have r4_3 := R3.out.cell (o := 4) rfl
  have r5_3 := R3.out.cell (o := 5) rfl
  have r6_3 := R3.out.cell (o := 6) rfl
  have r7_3 := R3.out.cell (o := 7) rfl
  have r8_3 := R3.out.cell (o := 8) rfl
  have r9_3 := R3.out.cell (o := 9) rfl
  have r10_3 := R3.out.cell (o := 10) rfl
  clear r0_2 r1_2 r2_2 r3_2 r4_2 r5_2 r6_2 r7_2 r8_2 r9_2 r10_2
  clear hM3 G0_2 G4_2 G5_2 G6_2 G7_2
  go_wp2_with fail
  refine (markIntS_m a7 c7 x.outs.length lo hi _ _ (Nat.le_trans HL.out.2.2.2.2 (by decide)) (by omega) (by omega) G7_3.out).mono ?_
  rintro e w4 ⟨rfl, hM4, _⟩
  have lb3 : x.outs.length ≤ 1048576 := HL.out.2.2.2.2
  obtain ⟨q3, hq3⟩ : ∃ q : Int, q = q2 + (x.outs.length : Int) := ⟨_, rfl⟩
  rw [← hq3]
  have u3 : q2 ≤ q3 ∧ q3 ≤ q2 + 1048576 := by omega
  clear hq3 lb3
  have BU4 := hide (BU3.out.trans hM4)
  have G0_4 := hide (G0_3.out.marks hM4)
  have G4_4 := hide (G4_3.out.marks hM4)
  have G5_4 := hide (G5_3.out.marks hM4)
  have G6_4 := hide (G6_3.out.marks hM4)
  have G7_4 := hide (G7_3.out.marks hM4)
  have R4 := hide (R3.out.marks hM4 (.inr HH.out))
  have r0_4 := R4.out.cell (o := 0) rfl
  have r1_4 := R4.out.cell (o := 1) rfl
  have r2_4 := R4.out.cell (o := 2) rfl
  have r3_4 := R4.out.cell (o := 3) rfl
  have r4_4 := R4.out.cell (o := 4) rfl
  have r5_4 := R4.out.cell (o := 5) rfl
  have r6_4 := R4.out.cell (o := 6) rfl
  have r7_4 := R4.out.cell (o := 7) rfl
  have r8_4 := R4.out.cell (o := 8) rfl
  have r9_4 := R4.out.cell (o := 9) rfl
  have r10_4 := R4.out.cell (o := 10) rfl
  clear r0_3 r1_3 r2_3 r3_3 r4_3 r5_3 r6_3 r7_3 r8_3 r9_3 r10_3
  clear hM4 G0_3 G4_3 G5_3 G6_3 G7_3
  go_wp2_with fail
  go_ret
  exact ⟨q3, rfl, by omega, by omega, BU4.out⟩
end Go.Proofs.Ytbalfmlmgbmneaa
