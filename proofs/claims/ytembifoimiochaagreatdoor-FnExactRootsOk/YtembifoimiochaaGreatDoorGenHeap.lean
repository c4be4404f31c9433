/- Heap: how it lies in memory, and what the laws' own to.., sz.. and eq.. of it do. Written by tools/gen.py. -/
import Derived.Test.YtembifoimiochaaGreatDoorGenNum
import Derived.Test.YtembifoimiochaaGreatDoorPhGen
namespace Go.Proofs.YtembifoimiochaaGreatDoor
open Go.ChangeShapes Go.WideShapes Go.ChangeAt Go.RowKit Go.Joins Go.Deep
set_option linter.unusedVariables false

set_option maxHeartbeats 1600000 in
theorem toHeap_any {md : Bool} (a0 : Option Addr) (c0 : Nat) (a4 : Option Addr) (c4 : Nat) (lo hi : Nat) (x : GHeap) (w : World) (hl : HeapB 1048576 x) (g0 : NumsM md w lo hi a0 x.words) (g4 : NumsM md w lo hi a4 x.log) (hh : hi ≤ w.heap.size) :
    Calls Tryz.prog 9 #[.agg #[.slice a0 x.words.length c0, .int .i64 x.old, .int .i64 x.oldAt, .int .i64 x.youngAt, .slice a4 x.log.length c4]] w fun e w' => ∃ n0 n4, e = .returned (.agg #[.slice n0 x.words.length x.words.length, .int .i64 x.old, .int .i64 x.oldAt, .int .i64 x.youngAt, .slice n4 x.log.length x.log.length]) ∧ NumsM true w' w.heap.size w'.heap.size n0 x.words ∧ NumsM true w' w.heap.size w'.heap.size n4 x.log ∧ Below w.heap.size w w' := by
  have HL := hide hl
  clear hl
  have G0 := hide g0
  have G4 := hide g4
  clear g0 g4
  go_enter Tryz.func9, Tryz.ntmps9
  go_wp2_with fail
  refine (toIntS_g a0 c0 lo hi x.words _ HL.out.1 (G0.out.keep (Below.mono (by (repeat (first | refine Below.al ?_ (Nat.le_refl _) _ | exact Below.refl _ _))) hh)) (by go_size)).mono ?_
  rintro e w0 ⟨n0, rfl, q0, hb0⟩
  have B0 : Hid (Below w.heap.size w w0) := by
    refine Below.trans ?_ (hb0.mono (by go_size))
    (repeat (first | refine Below.al ?_ (Nat.le_refl _) _ | exact Below.refl _ _))
  have sz0 : w.heap.size + 3 ≤ w0.heap.size := by
    have := hb0.size
    simp only [World.size_alloc] at this
    omega
  have P0 : Hid (Rec w0 w.heap.size 25 [.slice a0 x.words.length c0, .int .i64 x.old, .int .i64 x.oldAt, .int .i64 x.youngAt, .slice a4 x.log.length c4]) := ((((Rec.new' w _ _ _ rfl).alloc _).alloc _).below hb0 (by go_size))
  have R0 : Hid (Rec w0 (w.heap.size + 1) 33 [.slice none 0 0, .int .i64 0, .int .i64 0, .int .i64 0, .slice none 0 0]) := (((Rec.new' _ _ _ _ (by simp)).alloc _).below hb0 (by go_size))
  have O0 : Hid (Rec w0 (w.heap.size + 1 + 1) 33 [.slice none 0 0, .int .i64 0, .int .i64 0, .int .i64 0, .slice none 0 0]) := ((Rec.new' _ _ _ _ (by simp)).below hb0 (by go_size))
  have p0_0 := P0.out.cell (o := 0) rfl
  have o0_0 := O0.out.cell (o := 0) rfl
  have f0_0 := O0.out.frozen 0
  have r0_0 := R0.out.cell (o := 0) rfl
  have s0_0 := R0.out.frozen 0
  have p1_0 := P0.out.cell (o := 1) rfl
  have o1_0 := O0.out.cell (o := 1) rfl
  have f1_0 := O0.out.frozen 1
  have r1_0 := R0.out.cell (o := 1) rfl
  have s1_0 := R0.out.frozen 1
  have p2_0 := P0.out.cell (o := 2) rfl
  have o2_0 := O0.out.cell (o := 2) rfl
  have f2_0 := O0.out.frozen 2
  have r2_0 := R0.out.cell (o := 2) rfl
  have s2_0 := R0.out.frozen 2
  have p3_0 := P0.out.cell (o := 3) rfl
  have o3_0 := O0.out.cell (o := 3) rfl
  have f3_0 := O0.out.frozen 3
  have r3_0 := R0.out.cell (o := 3) rfl
  have s3_0 := R0.out.frozen 3
  have p4_0 := P0.out.cell (o := 4) rfl
  have o4_0 := O0.out.cell (o := 4) rfl
  have f4_0 := O0.out.frozen 4
  have r4_0 := R0.out.cell (o := 4) rfl
  have s4_0 := R0.out.frozen 4
  have Q0_0 := hide (q0.wide (lo' := w.heap.size + 3) (hi' := w0.heap.size) (by go_size) (Nat.le_refl _))
  clear q0 hb0
  go_wp2_with fail
  refine (toIntS_g a4 c4 lo hi x.log _ HL.out.2 (G4.out.keep (Below.mono (by (repeat (first | exact B0.out | refine Below.setCell ?_ (by simp <;> omega) _))) hh)) (by go_size)).mono ?_
  rintro e w1 ⟨n4, rfl, q4, hb1⟩
  have B1 : Hid (Below w.heap.size w w1) := by
    refine Below.trans ?_ (hb1.mono (by go_size))
    (repeat (first | exact B0.out | refine Below.setCell ?_ (by simp <;> omega) _))
  have sz1 : w.heap.size + 3 ≤ w1.heap.size ∧ w0.heap.size ≤ w1.heap.size := by
    have := hb1.size
    simp only [World.size_setCell] at this
    omega
  have P1 : Hid (Rec w1 w.heap.size 25 [.slice a0 x.words.length c0, .int .i64 x.old, .int .i64 x.oldAt, .int .i64 x.youngAt, .slice a4 x.log.length c4]) := by
    refine Rec.below ?_ hb1 (by go_size)
    (repeat (first | exact P0.out | refine Rec.other ?_ (by omega) _ _))
  have R1 : Hid (Rec w1 (w.heap.size + 1) 33 [.slice none 0 0, .int .i64 0, .int .i64 0, .int .i64 0, .slice none 0 0]) := by
    refine Rec.below ?_ hb1 (by go_size)
    (repeat (first | exact R0.out | refine Rec.other ?_ (by omega) _ _))
  have O1 : Hid (Rec w1 (w.heap.size + 1 + 1) 33 [.slice n0 x.words.length x.words.length, .int .i64 x.old, .int .i64 x.oldAt, .int .i64 x.youngAt, .slice none 0 0]) := Rec.below (((((O0.out).set _ _).set _ _).set _ _).set _ _) hb1 (by go_size)
  have SM1 : Same (w.heap.size + 3) w0.heap.size w0 w1 := by
    refine Same.trans ?_ (Same.of_below hb1 (by go_size))
    (repeat (first | refine Same.set ?_ (.inl (by omega)) _ _ | exact Same.refl _ _ _))
  have Q0_1 := hide (Q0_0.out.same SM1 (Nat.le_refl _) sz1.2)
  clear Q0_0 SM1
  clear p0_0 o0_0 f0_0 r0_0 s0_0 p1_0 o1_0 f1_0 r1_0 s1_0 p2_0 o2_0 f2_0 r2_0 s2_0 p3_0 o3_0 f3_0 r3_0 s3_0 p4_0 o4_0 f4_0 r4_0 s4_0
  have p0_1 := P1.out.cell (o := 0) rfl
  have o0_1 := O1.out.cell (o := 0) rfl
  have f0_1 := O1.out.frozen 0
  have r0_1 := R1.out.cell (o := 0) rfl
  have s0_1 := R1.out.frozen 0
  have p1_1 := P1.out.cell (o := 1) rfl
  have o1_1 := O1.out.cell (o := 1) rfl
  have f1_1 := O1.out.frozen 1
  have r1_1 := R1.out.cell (o := 1) rfl
  have s1_1 := R1.out.frozen 1
  have p2_1 := P1.out.cell (o := 2) rfl
  have o2_1 := O1.out.cell (o := 2) rfl
  have f2_1 := O1.out.frozen 2
  have r2_1 := R1.out.cell (o := 2) rfl
  have s2_1 := R1.out.frozen 2
  have p3_1 := P1.out.cell (o := 3) rfl
  have o3_1 := O1.out.cell (o := 3) rfl
  have f3_1 := O1.out.frozen 3
  have r3_1 := R1.out.cell (o := 3) rfl
  have s3_1 := R1.out.frozen 3
  have p4_1 := P1.out.cell (o := 4) rfl
  have o4_1 := O1.out.cell (o := 4) rfl
  have f4_1 := O1.out.frozen 4
  have r4_1 := R1.out.cell (o := 4) rfl
  have s4_1 := R1.out.frozen 4
  have Q4_1 := hide (q4.wide (lo' := w.heap.size + 3) (hi' := w1.heap.size) (by go_size) (Nat.le_refl _))
  clear q4 hb1
  go_wp2_with fail
  refine bodyPost_ret (v := .agg #[.slice n0 x.words.length x.words.length, .int .i64 x.old, .int .i64 x.oldAt, .int .i64 x.youngAt, .slice n4 x.log.length x.log.length]) (by simp [results, Tryz.results9, go_sem, r0_1, r1_1, r2_1, r3_1, r4_1]) rfl ⟨n0, n4, rfl, ?_, ?_, ?_⟩
  · refine Q0_1.out.same ?_ (by omega) (by go_size)
    (repeat (first | refine Same.set ?_ (.inl (by omega)) _ _ | exact Same.refl _ _ _))
  · refine Q4_1.out.same ?_ (by omega) (by go_size)
    (repeat (first | refine Same.set ?_ (.inl (by omega)) _ _ | exact Same.refl _ _ _))
  · (repeat (first | refine Below.setCell ?_ (by simp <;> omega) _ | exact B1.out))

set_option maxHeartbeats 800000 in
theorem szHeap_any {md : Bool} (a0 a4 : Option Addr) (c0 c4 lo hi : Nat) (x : GHeap) (left : Int) (w : World) (hl : HeapB 9223372036854775807 x) (g0 : NumsM md w lo hi a0 x.words) (g4 : NumsM md w lo hi a4 x.log) (hh : hi ≤ w.heap.size) (l0 : 0 ≤ left) (l1 : left ≤ 1048576) :
    Calls Tryz.prog 5 #[.agg #[.slice a0 x.words.length c0, .int .i64 x.old, .int .i64 x.oldAt, .int .i64 x.youngAt, .slice a4 x.log.length c4], .int .i64 left] w fun e w' => ∃ r : Int, e = .returned (.int .i64 r) ∧ -1 ≤ r ∧ r ≤ left ∧ (0 ≤ r → HeapB 1048576 x) ∧ Below w.heap.size w w' := by
  have HL := hide hl
  clear hl
  have G0 := hide g0
  have G4 := hide g4
  clear g0 g4
  go_enter Tryz.func5, Tryz.ntmps5
  go_wp2_with fail
  refine (szIntS_g a0 c0 lo hi x.words left _ HL.out.1 (G0.out.keep (Below.mono (by (repeat (first | refine Below.al ?_ (Nat.le_refl _) _ | exact Below.refl _ _))) hh)) (by simp only [World.size_alloc]; omega) (by omega) (by omega)).mono ?_
  rintro e w0 ⟨r0, rfl, s0, t0, u0, hb0⟩
  have U0 := hide u0
  have HB0 : Hid (Below w.heap.size w w0) := by
    refine Below.trans ?_ (hb0.mono ?_)
    · (repeat (first | refine Below.al ?_ (Nat.le_refl _) _ | exact Below.refl _ _))
    · simp
  have P0 : Hid (Rec w0 w.heap.size 25 [.slice a0 x.words.length c0, .int .i64 x.old, .int .i64 x.oldAt, .int .i64 x.youngAt, .slice a4 x.log.length c4]) := (Rec.new' w _ _ _ rfl).below hb0 (by go_size)
  clear u0 hb0
  have p0_0 := P0.out.cell (o := 0) rfl
  have p1_0 := P0.out.cell (o := 1) rfl
  have p2_0 := P0.out.cell (o := 2) rfl
  have p3_0 := P0.out.cell (o := 3) rfl
  have p4_0 := P0.out.cell (o := 4) rfl
  by_cases hr0 : r0 < 0
  · go_wp2_with fail
    go_ret
    exact ⟨-1, rfl, by omega, by omega, by omega, HB0.out⟩
  go_wp2_with fail
  refine (szIntS_g a4 c4 lo hi x.log r0 _ HL.out.2 (G4.out.keep (Below.mono (by exact HB0.out) hh)) (Nat.le_trans hh HB0.out.size) (by omega) (by omega)).mono ?_
  rintro e w1 ⟨r1, rfl, s1, t1, u1, hb1⟩
  have U1 := hide u1
  have HB1 : Hid (Below w.heap.size w w1) := by
    refine Below.trans ?_ (hb1.mono ?_)
    · exact HB0.out
    · exact HB0.out.size
  have P1 : Hid (Rec w1 w.heap.size 25 [.slice a0 x.words.length c0, .int .i64 x.old, .int .i64 x.oldAt, .int .i64 x.youngAt, .slice a4 x.log.length c4]) := P0.out.below hb1 P0.out.lt
  clear u1 hb1 p0_0 p1_0 p2_0 p3_0 p4_0
  have p0_1 := P1.out.cell (o := 0) rfl
  have p1_1 := P1.out.cell (o := 1) rfl
  have p2_1 := P1.out.cell (o := 2) rfl
  have p3_1 := P1.out.cell (o := 3) rfl
  have p4_1 := P1.out.cell (o := 4) rfl
  by_cases hr1 : r1 < 0
  · go_wp2_with fail
    go_ret
    exact ⟨-1, rfl, by omega, by omega, by omega, HB1.out⟩
  go_wp2_with fail
  go_ret
  exact ⟨r1, rfl, by omega, by omega, fun _ => ⟨U0.out (by omega), U1.out (by omega)⟩, HB1.out⟩

set_option maxHeartbeats 800000 in
theorem eqHeap_g {md md' : Bool} (a0 b0 a4 b4 : Option Addr) (c0 d0 c4 d4 lo hi lo' hi' : Nat) (x : GHeap) (w : World) (hl : HeapB 1048576 x) (g0 : NumsM md w lo hi a0 x.words) (g4 : NumsM md w lo hi a4 x.log) (k0 : NumsM md' w lo' hi' b0 x.words) (k4 : NumsM md' w lo' hi' b4 x.log) (hh : hi ≤ w.heap.size) (hh' : hi' ≤ w.heap.size) :
    Calls Tryz.prog 13 #[.agg #[.slice a0 x.words.length c0, .int .i64 x.old, .int .i64 x.oldAt, .int .i64 x.youngAt, .slice a4 x.log.length c4], .agg #[.slice b0 x.words.length d0, .int .i64 x.old, .int .i64 x.oldAt, .int .i64 x.youngAt, .slice b4 x.log.length d4]] w fun e w' => e = .returned (.bool true) ∧ Below w.heap.size w w' := by
  have HL := hide hl
  clear hl
  have G0 := hide g0
  have K0 := hide k0
  have G4 := hide g4
  have K4 := hide k4
  clear g0 k0 g4 k4
  go_enter Tryz.func13, Tryz.ntmps13
  go_wp2_with fail
  refine (eqIntS_g a0 b0 c0 d0 lo hi lo' hi' x.words _ HL.out.1 (G0.out.keep (Below.mono (by (repeat (first | refine Below.al ?_ (Nat.le_refl _) _ | exact Below.refl _ _))) hh)) (K0.out.keep (Below.mono (by (repeat (first | refine Below.al ?_ (Nat.le_refl _) _ | exact Below.refl _ _))) hh')) (by simp only [World.size_alloc]; omega) (by simp only [World.size_alloc]; omega)).mono ?_
  rintro e w0 ⟨rfl, hb0⟩
  have HB0 : Hid (Below w.heap.size w w0) := by
    refine Below.trans ?_ (hb0.mono ?_)
    · (repeat (first | refine Below.al ?_ (Nat.le_refl _) _ | exact Below.refl _ _))
    · simp <;> omega
  have P0 : Hid (Rec w0 w.heap.size 33 [.slice a0 x.words.length c0, .int .i64 x.old, .int .i64 x.oldAt, .int .i64 x.youngAt, .slice a4 x.log.length c4]) := ((Rec.new' w _ _ _ rfl).alloc _).below hb0 (by go_size)
  have R0 : Hid (Rec w0 (w.heap.size + 1) 33 [.slice b0 x.words.length d0, .int .i64 x.old, .int .i64 x.oldAt, .int .i64 x.youngAt, .slice b4 x.log.length d4]) := (Rec.new' _ _ _ _ (by simp)).below hb0 (by go_size)
  clear hb0
  have p0_0 := P0.out.cell (o := 0) rfl
  have r0_0 := R0.out.cell (o := 0) rfl
  have p1_0 := P0.out.cell (o := 1) rfl
  have r1_0 := R0.out.cell (o := 1) rfl
  have p2_0 := P0.out.cell (o := 2) rfl
  have r2_0 := R0.out.cell (o := 2) rfl
  have p3_0 := P0.out.cell (o := 3) rfl
  have r3_0 := R0.out.cell (o := 3) rfl
  have p4_0 := P0.out.cell (o := 4) rfl
  have r4_0 := R0.out.cell (o := 4) rfl
  go_wp2_with fail
  refine (eqIntS_g a4 b4 c4 d4 lo hi lo' hi' x.log _ HL.out.2 (G4.out.keep (Below.mono (by exact HB0.out) hh)) (K4.out.keep (Below.mono (by exact HB0.out) hh')) (Nat.le_trans hh HB0.out.size) (Nat.le_trans hh' HB0.out.size)).mono ?_
  rintro e w1 ⟨rfl, hb1⟩
  have HB1 : Hid (Below w.heap.size w w1) := by
    refine Below.trans ?_ (hb1.mono ?_)
    · exact HB0.out
    · exact HB0.out.size
  have P1 : Hid (Rec w1 w.heap.size 33 [.slice a0 x.words.length c0, .int .i64 x.old, .int .i64 x.oldAt, .int .i64 x.youngAt, .slice a4 x.log.length c4]) := P0.out.below hb1 P0.out.lt
  have R1 : Hid (Rec w1 (w.heap.size + 1) 33 [.slice b0 x.words.length d0, .int .i64 x.old, .int .i64 x.oldAt, .int .i64 x.youngAt, .slice b4 x.log.length d4]) := R0.out.below hb1 R0.out.lt
  clear hb1 p0_0 r0_0 p1_0 r1_0 p2_0 r2_0 p3_0 r3_0 p4_0 r4_0
  have p0_1 := P1.out.cell (o := 0) rfl
  have r0_1 := R1.out.cell (o := 0) rfl
  have p1_1 := P1.out.cell (o := 1) rfl
  have r1_1 := R1.out.cell (o := 1) rfl
  have p2_1 := P1.out.cell (o := 2) rfl
  have r2_1 := R1.out.cell (o := 2) rfl
  have p3_1 := P1.out.cell (o := 3) rfl
  have r3_1 := R1.out.cell (o := 3) rfl
  have p4_1 := P1.out.cell (o := 4) rfl
  have r4_1 := R1.out.cell (o := 4) rfl
  go_wp2_with fail
  go_ret
  exact ⟨rfl, HB1.out⟩
end Go.Proofs.YtembifoimiochaaGreatDoor
