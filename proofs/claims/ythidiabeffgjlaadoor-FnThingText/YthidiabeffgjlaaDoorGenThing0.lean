/- Thing: how it lies in memory, and what the laws' own to.., sz.. and eq.. of one do. Written by tools/gen.py. -/
import Derived.Test.YthidiabeffgjlaaDoorGenThingD
namespace Go.Proofs.YthidiabeffgjlaaDoor
open Go.ChangeShapes Go.WideShapes Go.ChangeAt Go.RowKit Go.Joins Go.Deep
set_option linter.unusedVariables false

set_option maxHeartbeats 1600000 in
theorem toThing_any {md : Bool} (a1 : Option Addr) (c1 : Nat) (lo hi : Nat) (x : GThing) (w : World) (hl : ThingB 1048576 x) (g1 : ValsM md w lo hi a1 x.vals) (hh : hi ≤ w.heap.size) :
    Calls Tryd.prog 9 #[.agg #[.int .i64 x.typ, .slice a1 x.vals.length c1]] w fun e w' => ∃ n1, e = .returned (.agg #[.int .i64 x.typ, .slice n1 x.vals.length x.vals.length]) ∧ ValsM true w' w.heap.size w'.heap.size n1 x.vals ∧ Below w.heap.size w w' := by
  have HL := hide hl
  clear hl
  have G1 := hide g1
  clear g1
  go_enter Tryd.func9, Tryd.ntmps9
  go_wp2_with fail
  refine (toValS_g a1 c1 lo hi x.vals _ HL.out (G1.out.keep (Below.mono (by (repeat (first | refine Below.al ?_ (Nat.le_refl _) _ | exact Below.refl _ _))) hh)) (by go_size)).mono ?_
  rintro e w0 ⟨n1, rfl, q1, hb0⟩
  have B0 : Hid (Below w.heap.size w w0) := by
    refine Below.trans ?_ (hb0.mono (by go_size))
    (repeat (first | refine Below.al ?_ (Nat.le_refl _) _ | exact Below.refl _ _))
  have sz0 : w.heap.size + 3 ≤ w0.heap.size := by
    have := hb0.size
    simp only [World.size_alloc] at this
    omega
  have P0 : Hid (Rec w0 w.heap.size 33 [.int .i64 x.typ, .slice a1 x.vals.length c1]) := ((((Rec.new' w _ _ _ rfl).alloc _).alloc _).below hb0 (by go_size))
  have R0 : Hid (Rec w0 (w.heap.size + 1) 25 [.int .i64 0, .slice none 0 0]) := (((Rec.new' _ _ _ _ (by simp)).alloc _).below hb0 (by go_size))
  have O0 : Hid (Rec w0 (w.heap.size + 1 + 1) 25 [.int .i64 x.typ, .slice none 0 0]) := ((Rec.new' _ _ _ _ (by simp)).below hb0 (by go_size))
  have p0_0 := P0.out.cell (o := 0) rfl
  have o0_0 := O0.out.cell (o := 0) rfl
  have f0_0 := O0.out.frozen 0
  have r0_0 := R0.out.cell (o := 0) rfl
  have s0_0 := R0.out.frozen 0
  have p1_0 := P0.out.cell (o := 1) rfl
  have o1_0 := O0.out.cell (o := 1) rfl
  have f1_0 := O0.out.frozen 1
  have r1_0 := R0.out.cell (o := 1) rfl
  have s1_0 := R0.out.frozen 1
  have Q1_0 := hide (q1.wide (lo' := w.heap.size + 3) (hi' := w0.heap.size) (by go_size) (Nat.le_refl _))
  clear q1 hb0
  go_wp2_with fail
  refine bodyPost_ret (v := .agg #[.int .i64 x.typ, .slice n1 x.vals.length x.vals.length]) (by simp [results, Tryd.results9, go_sem, r0_0, r1_0]) rfl ⟨n1, rfl, ?_, ?_⟩
  · refine Q1_0.out.same ?_ (by omega) (by go_size)
    (repeat (first | refine Same.set ?_ (.inl (by omega)) _ _ | exact Same.refl _ _ _))
  · (repeat (first | refine Below.setCell ?_ (by simp <;> omega) _ | exact B0.out))

set_option maxHeartbeats 800000 in
theorem szThing_any {md : Bool} (a1 : Option Addr) (c1 lo hi : Nat) (x : GThing) (left : Int) (w : World) (hl : ThingB 9223372036854775807 x) (g1 : ValsM md w lo hi a1 x.vals) (hh : hi ≤ w.heap.size) (l0 : 0 ≤ left) (l1 : left ≤ 1048576) :
    Calls Tryd.prog 8 #[.agg #[.int .i64 x.typ, .slice a1 x.vals.length c1], .int .i64 left] w fun e w' => ∃ r : Int, e = .returned (.int .i64 r) ∧ -1 ≤ r ∧ r ≤ left ∧ (0 ≤ r → ThingB 1048576 x) ∧ Below w.heap.size w w' := by
  have HL := hide hl
  clear hl
  have G1 := hide g1
  clear g1
  go_enter Tryd.func8, Tryd.ntmps8
  go_wp2_with fail
  refine (szValS_g a1 c1 lo hi x.vals left _ HL.out (G1.out.keep (Below.mono (by (repeat (first | refine Below.al ?_ (Nat.le_refl _) _ | exact Below.refl _ _))) hh)) (by simp only [World.size_alloc]; omega) (by omega) (by omega)).mono ?_
  rintro e w0 ⟨r0, rfl, s0, t0, u0, hb0⟩
  have U0 := hide u0
  have HB0 : Hid (Below w.heap.size w w0) := by
    refine Below.trans ?_ (hb0.mono ?_)
    · (repeat (first | refine Below.al ?_ (Nat.le_refl _) _ | exact Below.refl _ _))
    · simp
  have P0 : Hid (Rec w0 w.heap.size 33 [.int .i64 x.typ, .slice a1 x.vals.length c1]) := (Rec.new' w _ _ _ rfl).below hb0 (by go_size)
  clear u0 hb0
  have p0_0 := P0.out.cell (o := 0) rfl
  have p1_0 := P0.out.cell (o := 1) rfl
  by_cases hr0 : r0 < 0
  · go_wp2_with fail
    go_ret
    exact ⟨-1, rfl, by omega, by omega, by omega, HB0.out⟩
  go_wp2_with fail
  go_ret
  exact ⟨r0, rfl, by omega, by omega, fun _ => U0.out (by omega), HB0.out⟩

set_option maxHeartbeats 800000 in
theorem eqThing_g {md md' : Bool} (a1 b1 : Option Addr) (c1 d1 lo hi lo' hi' : Nat) (x : GThing) (w : World) (hl : ThingB 1048576 x) (g1 : ValsM md w lo hi a1 x.vals) (k1 : ValsM md' w lo' hi' b1 x.vals) (hh : hi ≤ w.heap.size) (hh' : hi' ≤ w.heap.size) :
    Calls Tryd.prog 10 #[.agg #[.int .i64 x.typ, .slice a1 x.vals.length c1], .agg #[.int .i64 x.typ, .slice b1 x.vals.length d1]] w fun e w' => e = .returned (.bool true) ∧ Below w.heap.size w w' := by
  have HL := hide hl
  clear hl
  have G1 := hide g1
  have K1 := hide k1
  clear g1 k1
  go_enter Tryd.func10, Tryd.ntmps10
  go_wp2_with fail
  refine (eqValS_g a1 b1 c1 d1 lo hi lo' hi' x.vals _ HL.out (G1.out.keep (Below.mono (by (repeat (first | refine Below.al ?_ (Nat.le_refl _) _ | exact Below.refl _ _))) hh)) (K1.out.keep (Below.mono (by (repeat (first | refine Below.al ?_ (Nat.le_refl _) _ | exact Below.refl _ _))) hh')) (by simp only [World.size_alloc]; omega) (by simp only [World.size_alloc]; omega)).mono ?_
  rintro e w0 ⟨rfl, hb0⟩
  have HB0 : Hid (Below w.heap.size w w0) := by
    refine Below.trans ?_ (hb0.mono ?_)
    · (repeat (first | refine Below.al ?_ (Nat.le_refl _) _ | exact Below.refl _ _))
    · simp <;> omega
  have P0 : Hid (Rec w0 w.heap.size 25 [.int .i64 x.typ, .slice a1 x.vals.length c1]) := ((Rec.new' w _ _ _ rfl).alloc _).below hb0 (by go_size)
  have R0 : Hid (Rec w0 (w.heap.size + 1) 25 [.int .i64 x.typ, .slice b1 x.vals.length d1]) := (Rec.new' _ _ _ _ (by simp)).below hb0 (by go_size)
  clear hb0
  have p0_0 := P0.out.cell (o := 0) rfl
  have r0_0 := R0.out.cell (o := 0) rfl
  have p1_0 := P0.out.cell (o := 1) rfl
  have r1_0 := R0.out.cell (o := 1) rfl
  go_wp2_with fail
  go_ret
  exact ⟨rfl, HB0.out⟩

end Go.Proofs.YthidiabeffgjlaaDoor
