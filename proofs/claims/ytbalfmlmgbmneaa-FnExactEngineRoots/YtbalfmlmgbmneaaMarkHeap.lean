/- markHeap of the laws. Written by tools/genmark.py. -/
import Derived.Test.YtbalfmlmgbmneaaGenHeap
import Derived.Test.YtbalfmlmgbmneaaMarkInt
namespace Go.Proofs.Ytbalfmlmgbmneaa
open Go.ChangeShapes Go.WideShapes Go.ChangeAt Go.RowKit Go.Joins Go.Deep
set_option linter.unusedVariables false
set_option maxHeartbeats 1600000 in
theorem markHeap_m (a0 : Option Addr) (c0 : Nat) (a4 : Option Addr) (c4 : Nat) (lo hi : Nat) (x : GHeap) (k : Int) (w : World) (hl : HeapB 1048576 x) (k0 : 0 ≤ k) (k1 : k ≤ 1125899906842624) (g0 : FlatSh 3 1 w lo hi a0 x.words.length) (g4 : FlatSh 3 1 w lo hi a4 x.log.length) (hh : hi ≤ w.heap.size) :
    Calls Try.prog 28 #[.agg #[.slice a0 x.words.length c0, .int .i64 x.old, .int .i64 x.oldAt, .int .i64 x.youngAt, .slice a4 x.log.length c4], .int .i64 k] w fun e w' => ∃ r : Int, e = .returned (.int .i64 r) ∧ k ≤ r ∧ r ≤ k + 2097152 ∧ MarksG lo hi w w' := by
  have HL := hide hl
  have HH := hide hh
  clear hl hh
  have HB : Hid (Below w.heap.size w (w.alloc (.cells #[.slice a0 x.words.length c0, .int .i64 x.old, .int .i64 x.oldAt, .int .i64 x.youngAt, .slice a4 x.log.length c4] 32))) := (Below.refl _ _).alloc (Nat.le_refl _) _
  have G0_0 := hide (g0.keep (HB.out.mono HH.out))
  have G4_0 := hide (g4.keep (HB.out.mono HH.out))
  have R0 : Hid (Rec (w.alloc (.cells #[.slice a0 x.words.length c0, .int .i64 x.old, .int .i64 x.oldAt, .int .i64 x.youngAt, .slice a4 x.log.length c4] 32)) w.heap.size 32 [.slice a0 x.words.length c0, .int .i64 x.old, .int .i64 x.oldAt, .int .i64 x.youngAt, .slice a4 x.log.length c4]) := Rec.new' _ _ _ _ rfl
  have BU0 : Hid (MarksG lo hi w (w.alloc (.cells #[.slice a0 x.words.length c0, .int .i64 x.old, .int .i64 x.oldAt, .int .i64 x.youngAt, .slice a4 x.log.length c4] 32))) := MarksG.of_below HB.out
  clear g0 g4
  go_enter Try.func28, Try.ntmps28
  go_wp2_with fail
  refine (markIntS_m a0 c0 x.words.length lo hi _ _ (Nat.le_trans HL.out.1 (by decide)) (by omega) (by omega) G0_0.out).mono ?_
  rintro e w1 ⟨rfl, hM1, _⟩
  have lb0 : x.words.length ≤ 1048576 := HL.out.1
  obtain ⟨q0, hq0⟩ : ∃ q : Int, q = k + (x.words.length : Int) := ⟨_, rfl⟩
  rw [← hq0]
  have u0 : k ≤ q0 ∧ q0 ≤ k + 1048576 := by omega
  clear hq0 lb0
  have BU1 := hide (BU0.out.trans hM1)
  have G0_1 := hide (G0_0.out.marks hM1)
  have G4_1 := hide (G4_0.out.marks hM1)
  have R1 := hide (R0.out.marks hM1 (.inr HH.out))
  have r0_1 := R1.out.cell (o := 0) rfl
  have r1_1 := R1.out.cell (o := 1) rfl
  have r2_1 := R1.out.cell (o := 2) rfl
  have r3_1 := R1.out.cell (o := 3) rfl
  have r4_1 := R1.out.cell (o := 4) rfl
  clear hM1 G0_0 G4_0
  go_wp2_with fail
  refine (markIntS_m a4 c4 x.log.length lo hi _ _ (Nat.le_trans HL.out.2 (by decide)) (by omega) (by omega) G4_1.out).mono ?_
  rintro e w2 ⟨rfl, hM2, _⟩
  have lb1 : x.log.length ≤ 1048576 := HL.out.2
  obtain ⟨q1, hq1⟩ : ∃ q : Int, q = q0 + (x.log.length : Int) := ⟨_, rfl⟩
  rw [← hq1]
  have u1 : q0 ≤ q1 ∧ q1 ≤ q0 + 1048576 := by omega
  clear hq1 lb1
  have BU2 := hide (BU1.out.trans hM2)
  have G0_2 := hide (G0_1.out.marks hM2)
  have G4_2 := hide (G4_1.out.marks hM2)
  have R2 := hide (R1.out.marks hM2 (.inr HH.out))
  have r0_2 := R2.out.cell (o := 0) rfl
  have r1_2 := R2.out.cell (o := 1) rfl
  have r2_2 := R2.out.cell (o := 2) rfl
  have r3_2 := R2.out.cell (o := 3) rfl
  have r4_2 := R2.out.cell (o := 4) rfl
  clear r0_1 r1_1 r2_1 r3_1 r4_1
  clear hM2 G0_1 G4_1
  go_wp2_with fail
  go_ret
  exact ⟨q1, rfl, by omega, by omega, BU2.out⟩
end Go.Proofs.Ytbalfmlmgbmneaa
