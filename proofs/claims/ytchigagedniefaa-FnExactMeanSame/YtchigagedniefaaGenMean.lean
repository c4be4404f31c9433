/- Mean: how it lies in memory, and what the laws' own to.., sz.. and eq.. of it do. Written by tools/gen.py. -/
import Derived.Test.YtchigagedniefaaGenThing
import Derived.Test.YtchigagedniefaaGenVal
import Derived.Test.YtchigagedniefaaGenFrame
import Derived.Test.YtchigagedniefaaGenNum
namespace Go.Proofs.Ytchigagedniefaa
open Go.ChangeShapes Go.WideShapes Go.ChangeAt Go.RowKit Go.Joins Go.Deep
set_option linter.unusedVariables false

structure GMean where
  things : List GThing
  glob : List GVal
  frames : List GFrame
  outs : List Int
  asked : Int
  code : Int
def GMean.d : GMean := ⟨[], [], [], [], 0, 0⟩
/-- x lies at ⟨b, o⟩. -/
def MeanAt (md : Bool) (w : World) (lo hi b o : Nat) (x : GMean) : Prop :=
  ∃ a0 c0 a1 c1 a2 c2 a3 c3, w.cell? ⟨b, o, none⟩ = some (.slice a0 x.things.length c0) ∧ w.cell? ⟨b, o + 1, none⟩ = some (.slice a1 x.glob.length c1) ∧ w.cell? ⟨b, o + 2, none⟩ = some (.slice a2 x.frames.length c2) ∧ w.cell? ⟨b, o + 3, none⟩ = some (.slice a3 x.outs.length c3) ∧ w.cell? ⟨b, o + 4, none⟩ = some (.int .i64 x.asked) ∧ w.cell? ⟨b, o + 5, none⟩ = some (.int .i64 x.code) ∧ ThingsM md w lo hi a0 x.things ∧ ValsM md w lo hi a1 x.glob ∧ FramesM md w lo hi a2 x.frames ∧ NumsM md w lo hi a3 x.outs
theorem MeanAt.same {md : Bool} {lo hi lo' hi' b o : Nat} {w w' : World} {x : GMean} (h : MeanAt md w lo hi b o x) (hs : Same lo hi w w') (h1 : lo' ≤ lo) (h2 : hi ≤ hi') (h3 : lo ≤ b) (h4 : b < hi) : MeanAt md w' lo' hi' b o x := by
  obtain ⟨a0, c0, a1, c1, a2, c2, a3, c3, e0, e1, e2, e3, e4, e5, l0, l1, l2, l3⟩ := h
  exact ⟨a0, c0, a1, c1, a2, c2, a3, c3, (hs.cell h3 h4).trans e0, (hs.cell h3 h4).trans e1, (hs.cell h3 h4).trans e2, (hs.cell h3 h4).trans e3, (hs.cell h3 h4).trans e4, (hs.cell h3 h4).trans e5, l0.same hs h1 h2, l1.same hs h1 h2, l2.same hs h1 h2, l3.same hs h1 h2⟩
theorem MeanAt.plain {md : Bool} {lo hi b o : Nat} {w : World} {x : GMean} (h : MeanAt md w lo hi b o x) : MeanAt false w lo hi b o x := by
  obtain ⟨a0, c0, a1, c1, a2, c2, a3, c3, e0, e1, e2, e3, e4, e5, l0, l1, l2, l3⟩ := h
  exact ⟨a0, c0, a1, c1, a2, c2, a3, c3, e0, e1, e2, e3, e4, e5, l0.plain, l1.plain, l2.plain, l3.plain⟩
def MeanB (N : Nat) (x : GMean) : Prop := ThingsB N x.things ∧ ValsB N x.glob ∧ FramesB N x.frames ∧ NumsB N x.outs

set_option maxHeartbeats 1600000 in
theorem toMean_any {md : Bool} (a0 : Option Addr) (c0 : Nat) (a1 : Option Addr) (c1 : Nat) (a2 : Option Addr) (c2 : Nat) (a3 : Option Addr) (c3 : Nat) (lo hi : Nat) (x : GMean) (w : World) (hl : MeanB 1048576 x) (g0 : ThingsM md w lo hi a0 x.things) (g1 : ValsM md w lo hi a1 x.glob) (g2 : FramesM md w lo hi a2 x.frames) (g3 : NumsM md w lo hi a3 x.outs) (hh : hi ≤ w.heap.size) :
    Calls Try.prog 6 #[.agg #[.slice a0 x.things.length c0, .slice a1 x.glob.length c1, .slice a2 x.frames.length c2, .slice a3 x.outs.length c3, .int .i64 x.asked, .int .i64 x.code]] w fun e w' => ∃ n0 n1 n2 n3, e = .returned (.agg #[.slice n0 x.things.length x.things.length, .slice n1 x.glob.length x.glob.length, .slice n2 x.frames.length x.frames.length, .slice n3 x.outs.length x.outs.length, .int .i64 x.asked, .int .i64 x.code]) ∧ ThingsM true w' w.heap.size w'.heap.size n0 x.things ∧ ValsM true w' w.heap.size w'.heap.size n1 x.glob ∧ FramesM true w' w.heap.size w'.heap.size n2 x.frames ∧ NumsM true w' w.heap.size w'.heap.size n3 x.outs ∧ Below w.heap.size w w' := by
  have HL := hide hl
  clear hl
  have G0 := hide g0
  have G1 := hide g1
  have G2 := hide g2
  have G3 := hide g3
  clear g0 g1 g2 g3
  go_enter Try.func6, Try.ntmps6
  go_wp2_with fail
  refine (toThingS_g a0 c0 lo hi x.things _ HL.out.1 (G0.out.keep (Below.mono (by (repeat (first | refine Below.al ?_ (Nat.le_refl _) _ | exact Below.refl _ _))) hh)) (by go_size)).mono ?_
  rintro e w0 ⟨n0, rfl, q0, hb0⟩
  have B0 : Hid (Below w.heap.size w w0) := by
    refine Below.trans ?_ (hb0.mono (by go_size))
    (repeat (first | refine Below.al ?_ (Nat.le_refl _) _ | exact Below.refl _ _))
  have sz0 : w.heap.size + 3 ≤ w0.heap.size := by
    have := hb0.size
    simp only [World.size_alloc] at this
    omega
  have P0 : Hid (Rec w0 w.heap.size 27 [.slice a0 x.things.length c0, .slice a1 x.glob.length c1, .slice a2 x.frames.length c2, .slice a3 x.outs.length c3, .int .i64 x.asked, .int .i64 x.code]) := ((((Rec.new' w _ _ _ rfl).alloc _).alloc _).below hb0 (by go_size))
  have R0 : Hid (Rec w0 (w.heap.size + 1) 34 [.slice none 0 0, .slice none 0 0, .slice none 0 0, .slice none 0 0, .int .i64 0, .int .i64 0]) := (((Rec.new' _ _ _ _ (by simp)).alloc _).below hb0 (by go_size))
  have O0 : Hid (Rec w0 (w.heap.size + 1 + 1) 34 [.slice none 0 0, .slice none 0 0, .slice none 0 0, .slice none 0 0, .int .i64 0, .int .i64 0]) := ((Rec.new' _ _ _ _ (by simp)).below hb0 (by go_size))
  have p0_0 := P0.out.cell (o := 0) rfl
  have o0_0 := O0.out.cell (o := 0) rfl
  have f0_0 := O0.out.frozen 0
  have r0_0 := R0.out.cell (o := 0) rfl
  have s0_0 := R0.out.frozen 0
  have p1_0 := P0.out.cell (o := 1) rfl
  have o1_0 := O0.out.cell (o := 1) rfl
  have f1_0 := O0.out.frozen 1
  have r1_0 := R0.out.cell (o := 1) rfl
  have s1_0 := R0.out.frozen 1
  have p2_0 := P0.out.cell (o := 2) rfl
  have o2_0 := O0.out.cell (o := 2) rfl
  have f2_0 := O0.out.frozen 2
  have r2_0 := R0.out.cell (o := 2) rfl
  have s2_0 := R0.out.frozen 2
  have p3_0 := P0.out.cell (o := 3) rfl
  have o3_0 := O0.out.cell (o := 3) rfl
  have f3_0 := O0.out.frozen 3
  have r3_0 := R0.out.cell (o := 3) rfl
  have s3_0 := R0.out.frozen 3
  have p4_0 := P0.out.cell (o := 4) rfl
  have o4_0 := O0.out.cell (o := 4) rfl
  have f4_0 := O0.out.frozen 4
  have r4_0 := R0.out.cell (o := 4) rfl
  have s4_0 := R0.out.frozen 4
  have p5_0 := P0.out.cell (o := 5) rfl
  have o5_0 := O0.out.cell (o := 5) rfl
  have f5_0 := O0.out.frozen 5
  have r5_0 := R0.out.cell (o := 5) rfl
  have s5_0 := R0.out.frozen 5
  have Q0_0 := hide (q0.wide (lo' := w.heap.size + 3) (hi' := w0.heap.size) (by go_size) (Nat.le_refl _))
  clear q0 hb0
  go_wp2_with fail
  refine (toValS_g a1 c1 lo hi x.glob _ HL.out.2.1 (G1.out.keep (Below.mono (by (repeat (first | exact B0.out | refine Below.setCell ?_ (by simp <;> omega) _))) hh)) (by go_size)).mono ?_
  rintro e w1 ⟨n1, rfl, q1, hb1⟩
  have B1 : Hid (Below w.heap.size w w1) := by
    refine Below.trans ?_ (hb1.mono (by go_size))
    (repeat (first | exact B0.out | refine Below.setCell ?_ (by simp <;> omega) _))
  have sz1 : w.heap.size + 3 ≤ w1.heap.size ∧ w0.heap.size ≤ w1.heap.size := by
    have := hb1.size
    simp only [World.size_setCell] at this
    omega
  have P1 : Hid (Rec w1 w.heap.size 27 [.slice a0 x.things.length c0, .slice a1 x.glob.length c1, .slice a2 x.frames.length c2, .slice a3 x.outs.length c3, .int .i64 x.asked, .int .i64 x.code]) := by
    refine Rec.below ?_ hb1 (by go_size)
    (repeat (first | exact P0.out | refine Rec.other ?_ (by omega) _ _))
  have R1 : Hid (Rec w1 (w.heap.size + 1) 34 [.slice none 0 0, .slice none 0 0, .slice none 0 0, .slice none 0 0, .int .i64 0, .int .i64 0]) := by
    refine Rec.below ?_ hb1 (by go_size)
    (repeat (first | exact R0.out | refine Rec.other ?_ (by omega) _ _))
  have O1 : Hid (Rec w1 (w.heap.size + 1 + 1) 34 [.slice n0 x.things.length x.things.length, .slice none 0 0, .slice none 0 0, .slice none 0 0, .int .i64 0, .int .i64 0]) := Rec.below ((O0.out).set _ _) hb1 (by go_size)
  have SM1 : Same (w.heap.size + 3) w0.heap.size w0 w1 := by
    refine Same.trans ?_ (Same.of_below hb1 (by go_size))
    (repeat (first | refine Same.set ?_ (.inl (by omega)) _ _ | exact Same.refl _ _ _))
  have Q0_1 := hide (Q0_0.out.same SM1 (Nat.le_refl _) sz1.2)
  clear Q0_0 SM1
  clear p0_0 o0_0 f0_0 r0_0 s0_0 p1_0 o1_0 f1_0 r1_0 s1_0 p2_0 o2_0 f2_0 r2_0 s2_0 p3_0 o3_0 f3_0 r3_0 s3_0 p4_0 o4_0 f4_0 r4_0 s4_0 p5_0 o5_0 f5_0 r5_0 s5_0
  have p0_1 := P1.out.cell (o := 0) rfl
  have o0_1 := O1.out.cell (o := 0) rfl
  have f0_1 := O1.out.frozen 0
  have r0_1 := R1.out.cell (o := 0) rfl
  have s0_1 := R1.out.frozen 0
  have p1_1 := P1.out.cell (o := 1) rfl
  have o1_1 := O1.out.cell (o := 1) rfl
  have f1_1 := O1.out.frozen 1
  have r1_1 := R1.out.cell (o := 1) rfl
  have s1_1 := R1.out.frozen 1
  have p2_1 := P1.out.cell (o := 2) rfl
  have o2_1 := O1.out.cell (o := 2) rfl
  have f2_1 := O1.out.frozen 2
  have r2_1 := R1.out.cell (o := 2) rfl
  have s2_1 := R1.out.frozen 2
  have p3_1 := P1.out.cell (o := 3) rfl
  have o3_1 := O1.out.cell (o := 3) rfl
  have f3_1 := O1.out.frozen 3
  have r3_1 := R1.out.cell (o := 3) rfl
  have s3_1 := R1.out.frozen 3
  have p4_1 := P1.out.cell (o := 4) rfl
  have o4_1 := O1.out.cell (o := 4) rfl
  have f4_1 := O1.out.frozen 4
  have r4_1 := R1.out.cell (o := 4) rfl
  have s4_1 := R1.out.frozen 4
  have p5_1 := P1.out.cell (o := 5) rfl
  have o5_1 := O1.out.cell (o := 5) rfl
  have f5_1 := O1.out.frozen 5
  have r5_1 := R1.out.cell (o := 5) rfl
  have s5_1 := R1.out.frozen 5
  have Q1_1 := hide (q1.wide (lo' := w.heap.size + 3) (hi' := w1.heap.size) (by go_size) (Nat.le_refl _))
  clear q1 hb1
  go_wp2_with fail
  refine (toFrameS_g a2 c2 lo hi x.frames _ HL.out.2.2.1 (G2.out.keep (Below.mono (by (repeat (first | exact B1.out | refine Below.setCell ?_ (by simp <;> omega) _))) hh)) (by go_size)).mono ?_
  rintro e w2 ⟨n2, rfl, q2, hb2⟩
  have B2 : Hid (Below w.heap.size w w2) := by
    refine Below.trans ?_ (hb2.mono (by go_size))
    (repeat (first | exact B1.out | refine Below.setCell ?_ (by simp <;> omega) _))
  have sz2 : w.heap.size + 3 ≤ w2.heap.size ∧ w1.heap.size ≤ w2.heap.size := by
    have := hb2.size
    simp only [World.size_setCell] at this
    omega
  have P2 : Hid (Rec w2 w.heap.size 27 [.slice a0 x.things.length c0, .slice a1 x.glob.length c1, .slice a2 x.frames.length c2, .slice a3 x.outs.length c3, .int .i64 x.asked, .int .i64 x.code]) := by
    refine Rec.below ?_ hb2 (by go_size)
    (repeat (first | exact P1.out | refine Rec.other ?_ (by omega) _ _))
  have R2 : Hid (Rec w2 (w.heap.size + 1) 34 [.slice none 0 0, .slice none 0 0, .slice none 0 0, .slice none 0 0, .int .i64 0, .int .i64 0]) := by
    refine Rec.below ?_ hb2 (by go_size)
    (repeat (first | exact R1.out | refine Rec.other ?_ (by omega) _ _))
  have O2 : Hid (Rec w2 (w.heap.size + 1 + 1) 34 [.slice n0 x.things.length x.things.length, .slice n1 x.glob.length x.glob.length, .slice none 0 0, .slice none 0 0, .int .i64 0, .int .i64 0]) := Rec.below ((O1.out).set _ _) hb2 (by go_size)
  have SM2 : Same (w.heap.size + 3) w1.heap.size w1 w2 := by
    refine Same.trans ?_ (Same.of_below hb2 (by go_size))
    (repeat (first | refine Same.set ?_ (.inl (by omega)) _ _ | exact Same.refl _ _ _))
  have Q0_2 := hide (Q0_1.out.same SM2 (Nat.le_refl _) sz2.2)
  have Q1_2 := hide (Q1_1.out.same SM2 (Nat.le_refl _) sz2.2)
  clear Q0_1 Q1_1 SM2
  clear p0_1 o0_1 f0_1 r0_1 s0_1 p1_1 o1_1 f1_1 r1_1 s1_1 p2_1 o2_1 f2_1 r2_1 s2_1 p3_1 o3_1 f3_1 r3_1 s3_1 p4_1 o4_1 f4_1 r4_1 s4_1 p5_1 o5_1 f5_1 r5_1 s5_1
  have p0_2 := P2.out.cell (o := 0) rfl
  have o0_2 := O2.out.cell (o := 0) rfl
  have f0_2 := O2.out.frozen 0
  have r0_2 := R2.out.cell (o := 0) rfl
  have s0_2 := R2.out.frozen 0
  have p1_2 := P2.out.cell (o := 1) rfl
  have o1_2 := O2.out.cell (o := 1) rfl
  have f1_2 := O2.out.frozen 1
  have r1_2 := R2.out.cell (o := 1) rfl
  have s1_2 := R2.out.frozen 1
  have p2_2 := P2.out.cell (o := 2) rfl
  have o2_2 := O2.out.cell (o := 2) rfl
  have f2_2 := O2.out.frozen 2
  have r2_2 := R2.out.cell (o := 2) rfl
  have s2_2 := R2.out.frozen 2
  have p3_2 := P2.out.cell (o := 3) rfl
  have o3_2 := O2.out.cell (o := 3) rfl
  have f3_2 := O2.out.frozen 3
  have r3_2 := R2.out.cell (o := 3) rfl
  have s3_2 := R2.out.frozen 3
  have p4_2 := P2.out.cell (o := 4) rfl
  have o4_2 := O2.out.cell (o := 4) rfl
  have f4_2 := O2.out.frozen 4
  have r4_2 := R2.out.cell (o := 4) rfl
  have s4_2 := R2.out.frozen 4
  have p5_2 := P2.out.cell (o := 5) rfl
  have o5_2 := O2.out.cell (o := 5) rfl
  have f5_2 := O2.out.frozen 5
  have r5_2 := R2.out.cell (o := 5) rfl
  have s5_2 := R2.out.frozen 5
  have Q2_2 := hide (q2.wide (lo' := w.heap.size + 3) (hi' := w2.heap.size) (by go_size) (Nat.le_refl _))
  clear q2 hb2
  go_wp2_with fail
  refine (toIntS_g a3 c3 lo hi x.outs _ HL.out.2.2.2 (G3.out.keep (Below.mono (by (repeat (first | exact B2.out | refine Below.setCell ?_ (by simp <;> omega) _))) hh)) (by go_size)).mono ?_
  rintro e w3 ⟨n3, rfl, q3, hb3⟩
  have B3 : Hid (Below w.heap.size w w3) := by
    refine Below.trans ?_ (hb3.mono (by go_size))
    (repeat (first | exact B2.out | refine Below.setCell ?_ (by simp <;> omega) _))
  have sz3 : w.heap.size + 3 ≤ w3.heap.size ∧ w2.heap.size ≤ w3.heap.size := by
    have := hb3.size
    simp only [World.size_setCell] at this
    omega
  have P3 : Hid (Rec w3 w.heap.size 27 [.slice a0 x.things.length c0, .slice a1 x.glob.length c1, .slice a2 x.frames.length c2, .slice a3 x.outs.length c3, .int .i64 x.asked, .int .i64 x.code]) := by
    refine Rec.below ?_ hb3 (by go_size)
    (repeat (first | exact P2.out | refine Rec.other ?_ (by omega) _ _))
  have R3 : Hid (Rec w3 (w.heap.size + 1) 34 [.slice none 0 0, .slice none 0 0, .slice none 0 0, .slice none 0 0, .int .i64 0, .int .i64 0]) := by
    refine Rec.below ?_ hb3 (by go_size)
    (repeat (first | exact R2.out | refine Rec.other ?_ (by omega) _ _))
  have O3 : Hid (Rec w3 (w.heap.size + 1 + 1) 34 [.slice n0 x.things.length x.things.length, .slice n1 x.glob.length x.glob.length, .slice n2 x.frames.length x.frames.length, .slice none 0 0, .int .i64 0, .int .i64 0]) := Rec.below ((O2.out).set _ _) hb3 (by go_size)
  have SM3 : Same (w.heap.size + 3) w2.heap.size w2 w3 := by
    refine Same.trans ?_ (Same.of_below hb3 (by go_size))
    (repeat (first | refine Same.set ?_ (.inl (by omega)) _ _ | exact Same.refl _ _ _))
  have Q0_3 := hide (Q0_2.out.same SM3 (Nat.le_refl _) sz3.2)
  have Q1_3 := hide (Q1_2.out.same SM3 (Nat.le_refl _) sz3.2)
  have Q2_3 := hide (Q2_2.out.same SM3 (Nat.le_refl _) sz3.2)
  clear Q0_2 Q1_2 Q2_2 SM3
  clear p0_2 o0_2 f0_2 r0_2 s0_2 p1_2 o1_2 f1_2 r1_2 s1_2 p2_2 o2_2 f2_2 r2_2 s2_2 p3_2 o3_2 f3_2 r3_2 s3_2 p4_2 o4_2 f4_2 r4_2 s4_2 p5_2 o5_2 f5_2 r5_2 s5_2
  have p0_3 := P3.out.cell (o := 0) rfl
  have o0_3 := O3.out.cell (o := 0) rfl
  have f0_3 := O3.out.frozen 0
  have r0_3 := R3.out.cell (o := 0) rfl
  have s0_3 := R3.out.frozen 0
  have p1_3 := P3.out.cell (o := 1) rfl
  have o1_3 := O3.out.cell (o := 1) rfl
  have f1_3 := O3.out.frozen 1
  have r1_3 := R3.out.cell (o := 1) rfl
  have s1_3 := R3.out.frozen 1
  have p2_3 := P3.out.cell (o := 2) rfl
  have o2_3 := O3.out.cell (o := 2) rfl
  have f2_3 := O3.out.frozen 2
  have r2_3 := R3.out.cell (o := 2) rfl
  have s2_3 := R3.out.frozen 2
  have p3_3 := P3.out.cell (o := 3) rfl
  have o3_3 := O3.out.cell (o := 3) rfl
  have f3_3 := O3.out.frozen 3
  have r3_3 := R3.out.cell (o := 3) rfl
  have s3_3 := R3.out.frozen 3
  have p4_3 := P3.out.cell (o := 4) rfl
  have o4_3 := O3.out.cell (o := 4) rfl
  have f4_3 := O3.out.frozen 4
  have r4_3 := R3.out.cell (o := 4) rfl
  have s4_3 := R3.out.frozen 4
  have p5_3 := P3.out.cell (o := 5) rfl
  have o5_3 := O3.out.cell (o := 5) rfl
  have f5_3 := O3.out.frozen 5
  have r5_3 := R3.out.cell (o := 5) rfl
  have s5_3 := R3.out.frozen 5
  have Q3_3 := hide (q3.wide (lo' := w.heap.size + 3) (hi' := w3.heap.size) (by go_size) (Nat.le_refl _))
  clear q3 hb3
  go_wp2_with fail
  refine bodyPost_ret (v := .agg #[.slice n0 x.things.length x.things.length, .slice n1 x.glob.length x.glob.length, .slice n2 x.frames.length x.frames.length, .slice n3 x.outs.length x.outs.length, .int .i64 x.asked, .int .i64 x.code]) (by simp [results, Try.results6, go_sem, r0_3, r1_3, r2_3, r3_3, r4_3, r5_3]) rfl ⟨n0, n1, n2, n3, rfl, ?_, ?_, ?_, ?_, ?_⟩
  · refine Q0_3.out.same ?_ (by omega) (by go_size)
    (repeat (first | refine Same.set ?_ (.inl (by omega)) _ _ | exact Same.refl _ _ _))
  · refine Q1_3.out.same ?_ (by omega) (by go_size)
    (repeat (first | refine Same.set ?_ (.inl (by omega)) _ _ | exact Same.refl _ _ _))
  · refine Q2_3.out.same ?_ (by omega) (by go_size)
    (repeat (first | refine Same.set ?_ (.inl (by omega)) _ _ | exact Same.refl _ _ _))
  · refine Q3_3.out.same ?_ (by omega) (by go_size)
    (repeat (first | refine Same.set ?_ (.inl (by omega)) _ _ | exact Same.refl _ _ _))
  · (repeat (first | refine Below.setCell ?_ (by simp <;> omega) _ | exact B3.out))

set_option maxHeartbeats 800000 in
theorem szMean_any {md : Bool} (a0 a1 a2 a3 : Option Addr) (c0 c1 c2 c3 lo hi : Nat) (x : GMean) (left : Int) (w : World) (hl : MeanB 9223372036854775807 x) (g0 : ThingsM md w lo hi a0 x.things) (g1 : ValsM md w lo hi a1 x.glob) (g2 : FramesM md w lo hi a2 x.frames) (g3 : NumsM md w lo hi a3 x.outs) (hh : hi ≤ w.heap.size) (l0 : 0 ≤ left) (l1 : left ≤ 1048576) :
    Calls Try.prog 4 #[.agg #[.slice a0 x.things.length c0, .slice a1 x.glob.length c1, .slice a2 x.frames.length c2, .slice a3 x.outs.length c3, .int .i64 x.asked, .int .i64 x.code], .int .i64 left] w fun e w' => ∃ r : Int, e = .returned (.int .i64 r) ∧ -1 ≤ r ∧ r ≤ left ∧ (0 ≤ r → MeanB 1048576 x) ∧ Below w.heap.size w w' := by
  have HL := hide hl
  clear hl
  have G0 := hide g0
  have G1 := hide g1
  have G2 := hide g2
  have G3 := hide g3
  clear g0 g1 g2 g3
  go_enter Try.func4, Try.ntmps4
  go_wp2_with fail
  refine (szThingS_g a0 c0 lo hi x.things left _ HL.out.1 (G0.out.keep (Below.mono (by (repeat (first | refine Below.al ?_ (Nat.le_refl _) _ | exact Below.refl _ _))) hh)) (by simp only [World.size_alloc]; omega) (by omega) (by omega)).mono ?_
  rintro e w0 ⟨r0, rfl, s0, t0, u0, hb0⟩
  have U0 := hide u0
  have HB0 : Hid (Below w.heap.size w w0) := by
    refine Below.trans ?_ (hb0.mono ?_)
    · (repeat (first | refine Below.al ?_ (Nat.le_refl _) _ | exact Below.refl _ _))
    · simp
  have P0 : Hid (Rec w0 w.heap.size 27 [.slice a0 x.things.length c0, .slice a1 x.glob.length c1, .slice a2 x.frames.length c2, .slice a3 x.outs.length c3, .int .i64 x.asked, .int .i64 x.code]) := (Rec.new' w _ _ _ rfl).below hb0 (by go_size)
  clear u0 hb0
  have p0_0 := P0.out.cell (o := 0) rfl
  have p1_0 := P0.out.cell (o := 1) rfl
  have p2_0 := P0.out.cell (o := 2) rfl
  have p3_0 := P0.out.cell (o := 3) rfl
  have p4_0 := P0.out.cell (o := 4) rfl
  have p5_0 := P0.out.cell (o := 5) rfl
  by_cases hr0 : r0 < 0
  · go_wp2_with fail
    go_ret
    exact ⟨-1, rfl, by omega, by omega, by omega, HB0.out⟩
  go_wp2_with fail
  refine (szValS_g a1 c1 lo hi x.glob r0 _ HL.out.2.1 (G1.out.keep (Below.mono (by exact HB0.out) hh)) (Nat.le_trans hh HB0.out.size) (by omega) (by omega)).mono ?_
  rintro e w1 ⟨r1, rfl, s1, t1, u1, hb1⟩
  have U1 := hide u1
  have HB1 : Hid (Below w.heap.size w w1) := by
    refine Below.trans ?_ (hb1.mono ?_)
    · exact HB0.out
    · exact HB0.out.size
  have P1 : Hid (Rec w1 w.heap.size 27 [.slice a0 x.things.length c0, .slice a1 x.glob.length c1, .slice a2 x.frames.length c2, .slice a3 x.outs.length c3, .int .i64 x.asked, .int .i64 x.code]) := P0.out.below hb1 P0.out.lt
  clear u1 hb1 p0_0 p1_0 p2_0 p3_0 p4_0 p5_0
  have p0_1 := P1.out.cell (o := 0) rfl
  have p1_1 := P1.out.cell (o := 1) rfl
  have p2_1 := P1.out.cell (o := 2) rfl
  have p3_1 := P1.out.cell (o := 3) rfl
  have p4_1 := P1.out.cell (o := 4) rfl
  have p5_1 := P1.out.cell (o := 5) rfl
  by_cases hr1 : r1 < 0
  · go_wp2_with fail
    go_ret
    exact ⟨-1, rfl, by omega, by omega, by omega, HB1.out⟩
  go_wp2_with fail
  refine (szFrameS_g a2 c2 lo hi x.frames r1 _ HL.out.2.2.1 (G2.out.keep (Below.mono (by exact HB1.out) hh)) (Nat.le_trans hh HB1.out.size) (by omega) (by omega)).mono ?_
  rintro e w2 ⟨r2, rfl, s2, t2, u2, hb2⟩
  have U2 := hide u2
  have HB2 : Hid (Below w.heap.size w w2) := by
    refine Below.trans ?_ (hb2.mono ?_)
    · exact HB1.out
    · exact HB1.out.size
  have P2 : Hid (Rec w2 w.heap.size 27 [.slice a0 x.things.length c0, .slice a1 x.glob.length c1, .slice a2 x.frames.length c2, .slice a3 x.outs.length c3, .int .i64 x.asked, .int .i64 x.code]) := P1.out.below hb2 P1.out.lt
  clear u2 hb2 p0_1 p1_1 p2_1 p3_1 p4_1 p5_1
  have p0_2 := P2.out.cell (o := 0) rfl
  have p1_2 := P2.out.cell (o := 1) rfl
  have p2_2 := P2.out.cell (o := 2) rfl
  have p3_2 := P2.out.cell (o := 3) rfl
  have p4_2 := P2.out.cell (o := 4) rfl
  have p5_2 := P2.out.cell (o := 5) rfl
  by_cases hr2 : r2 < 0
  · go_wp2_with fail
    go_ret
    exact ⟨-1, rfl, by omega, by omega, by omega, HB2.out⟩
  go_wp2_with fail
  refine (szIntS_g a3 c3 lo hi x.outs r2 _ HL.out.2.2.2 (G3.out.keep (Below.mono (by exact HB2.out) hh)) (Nat.le_trans hh HB2.out.size) (by omega) (by omega)).mono ?_
  rintro e w3 ⟨r3, rfl, s3, t3, u3, hb3⟩
  have U3 := hide u3
  have HB3 : Hid (Below w.heap.size w w3) := by
    refine Below.trans ?_ (hb3.mono ?_)
    · exact HB2.out
    · exact HB2.out.size
  have P3 : Hid (Rec w3 w.heap.size 27 [.slice a0 x.things.length c0, .slice a1 x.glob.length c1, .slice a2 x.frames.length c2, .slice a3 x.outs.length c3, .int .i64 x.asked, .int .i64 x.code]) := P2.out.below hb3 P2.out.lt
  clear u3 hb3 p0_2 p1_2 p2_2 p3_2 p4_2 p5_2
  have p0_3 := P3.out.cell (o := 0) rfl
  have p1_3 := P3.out.cell (o := 1) rfl
  have p2_3 := P3.out.cell (o := 2) rfl
  have p3_3 := P3.out.cell (o := 3) rfl
  have p4_3 := P3.out.cell (o := 4) rfl
  have p5_3 := P3.out.cell (o := 5) rfl
  by_cases hr3 : r3 < 0
  · go_wp2_with fail
    go_ret
    exact ⟨-1, rfl, by omega, by omega, by omega, HB3.out⟩
  go_wp2_with fail
  go_ret
  exact ⟨r3, rfl, by omega, by omega, fun _ => ⟨U0.out (by omega), U1.out (by omega), U2.out (by omega), U3.out (by omega)⟩, HB3.out⟩

set_option maxHeartbeats 800000 in
theorem eqMean_g {md md' : Bool} (a0 b0 a1 b1 a2 b2 a3 b3 : Option Addr) (c0 d0 c1 d1 c2 d2 c3 d3 lo hi lo' hi' : Nat) (x : GMean) (w : World) (hl : MeanB 1048576 x) (g0 : ThingsM md w lo hi a0 x.things) (g1 : ValsM md w lo hi a1 x.glob) (g2 : FramesM md w lo hi a2 x.frames) (g3 : NumsM md w lo hi a3 x.outs) (k0 : ThingsM md' w lo' hi' b0 x.things) (k1 : ValsM md' w lo' hi' b1 x.glob) (k2 : FramesM md' w lo' hi' b2 x.frames) (k3 : NumsM md' w lo' hi' b3 x.outs) (hh : hi ≤ w.heap.size) (hh' : hi' ≤ w.heap.size) :
    Calls Try.prog 8 #[.agg #[.slice a0 x.things.length c0, .slice a1 x.glob.length c1, .slice a2 x.frames.length c2, .slice a3 x.outs.length c3, .int .i64 x.asked, .int .i64 x.code], .agg #[.slice b0 x.things.length d0, .slice b1 x.glob.length d1, .slice b2 x.frames.length d2, .slice b3 x.outs.length d3, .int .i64 x.asked, .int .i64 x.code]] w fun e w' => e = .returned (.bool true) ∧ Below w.heap.size w w' := by
  have HL := hide hl
  clear hl
  have G0 := hide g0
  have K0 := hide k0
  have G1 := hide g1
  have K1 := hide k1
  have G2 := hide g2
  have K2 := hide k2
  have G3 := hide g3
  have K3 := hide k3
  clear g0 k0 g1 k1 g2 k2 g3 k3
  go_enter Try.func8, Try.ntmps8
  go_wp2_with fail
  refine (eqThingS_g a0 b0 c0 d0 lo hi lo' hi' x.things _ HL.out.1 (G0.out.keep (Below.mono (by (repeat (first | refine Below.al ?_ (Nat.le_refl _) _ | exact Below.refl _ _))) hh)) (K0.out.keep (Below.mono (by (repeat (first | refine Below.al ?_ (Nat.le_refl _) _ | exact Below.refl _ _))) hh')) (by simp only [World.size_alloc]; omega) (by simp only [World.size_alloc]; omega)).mono ?_
  rintro e w0 ⟨rfl, hb0⟩
  have HB0 : Hid (Below w.heap.size w w0) := by
    refine Below.trans ?_ (hb0.mono ?_)
    · (repeat (first | refine Below.al ?_ (Nat.le_refl _) _ | exact Below.refl _ _))
    · simp <;> omega
  have P0 : Hid (Rec w0 w.heap.size 34 [.slice a0 x.things.length c0, .slice a1 x.glob.length c1, .slice a2 x.frames.length c2, .slice a3 x.outs.length c3, .int .i64 x.asked, .int .i64 x.code]) := ((Rec.new' w _ _ _ rfl).alloc _).below hb0 (by go_size)
  have R0 : Hid (Rec w0 (w.heap.size + 1) 34 [.slice b0 x.things.length d0, .slice b1 x.glob.length d1, .slice b2 x.frames.length d2, .slice b3 x.outs.length d3, .int .i64 x.asked, .int .i64 x.code]) := (Rec.new' _ _ _ _ (by simp)).below hb0 (by go_size)
  clear hb0
  have p0_0 := P0.out.cell (o := 0) rfl
  have r0_0 := R0.out.cell (o := 0) rfl
  have p1_0 := P0.out.cell (o := 1) rfl
  have r1_0 := R0.out.cell (o := 1) rfl
  have p2_0 := P0.out.cell (o := 2) rfl
  have r2_0 := R0.out.cell (o := 2) rfl
  have p3_0 := P0.out.cell (o := 3) rfl
  have r3_0 := R0.out.cell (o := 3) rfl
  have p4_0 := P0.out.cell (o := 4) rfl
  have r4_0 := R0.out.cell (o := 4) rfl
  have p5_0 := P0.out.cell (o := 5) rfl
  have r5_0 := R0.out.cell (o := 5) rfl
  go_wp2_with fail
  refine (eqValS_g a1 b1 c1 d1 lo hi lo' hi' x.glob _ HL.out.2.1 (G1.out.keep (Below.mono (by exact HB0.out) hh)) (K1.out.keep (Below.mono (by exact HB0.out) hh')) (Nat.le_trans hh HB0.out.size) (Nat.le_trans hh' HB0.out.size)).mono ?_
  rintro e w1 ⟨rfl, hb1⟩
  have HB1 : Hid (Below w.heap.size w w1) := by
    refine Below.trans ?_ (hb1.mono ?_)
    · exact HB0.out
    · exact HB0.out.size
  have P1 : Hid (Rec w1 w.heap.size 34 [.slice a0 x.things.length c0, .slice a1 x.glob.length c1, .slice a2 x.frames.length c2, .slice a3 x.outs.length c3, .int .i64 x.asked, .int .i64 x.code]) := P0.out.below hb1 P0.out.lt
  have R1 : Hid (Rec w1 (w.heap.size + 1) 34 [.slice b0 x.things.length d0, .slice b1 x.glob.length d1, .slice b2 x.frames.length d2, .slice b3 x.outs.length d3, .int .i64 x.asked, .int .i64 x.code]) := R0.out.below hb1 R0.out.lt
  clear hb1 p0_0 r0_0 p1_0 r1_0 p2_0 r2_0 p3_0 r3_0 p4_0 r4_0 p5_0 r5_0
  have p0_1 := P1.out.cell (o := 0) rfl
  have r0_1 := R1.out.cell (o := 0) rfl
  have p1_1 := P1.out.cell (o := 1) rfl
  have r1_1 := R1.out.cell (o := 1) rfl
  have p2_1 := P1.out.cell (o := 2) rfl
  have r2_1 := R1.out.cell (o := 2) rfl
  have p3_1 := P1.out.cell (o := 3) rfl
  have r3_1 := R1.out.cell (o := 3) rfl
  have p4_1 := P1.out.cell (o := 4) rfl
  have r4_1 := R1.out.cell (o := 4) rfl
  have p5_1 := P1.out.cell (o := 5) rfl
  have r5_1 := R1.out.cell (o := 5) rfl
  go_wp2_with fail
  refine (eqFrameS_g a2 b2 c2 d2 lo hi lo' hi' x.frames _ HL.out.2.2.1 (G2.out.keep (Below.mono (by exact HB1.out) hh)) (K2.out.keep (Below.mono (by exact HB1.out) hh')) (Nat.le_trans hh HB1.out.size) (Nat.le_trans hh' HB1.out.size)).mono ?_
  rintro e w2 ⟨rfl, hb2⟩
  have HB2 : Hid (Below w.heap.size w w2) := by
    refine Below.trans ?_ (hb2.mono ?_)
    · exact HB1.out
    · exact HB1.out.size
  have P2 : Hid (Rec w2 w.heap.size 34 [.slice a0 x.things.length c0, .slice a1 x.glob.length c1, .slice a2 x.frames.length c2, .slice a3 x.outs.length c3, .int .i64 x.asked, .int .i64 x.code]) := P1.out.below hb2 P1.out.lt
  have R2 : Hid (Rec w2 (w.heap.size + 1) 34 [.slice b0 x.things.length d0, .slice b1 x.glob.length d1, .slice b2 x.frames.length d2, .slice b3 x.outs.length d3, .int .i64 x.asked, .int .i64 x.code]) := R1.out.below hb2 R1.out.lt
  clear hb2 p0_1 r0_1 p1_1 r1_1 p2_1 r2_1 p3_1 r3_1 p4_1 r4_1 p5_1 r5_1
  have p0_2 := P2.out.cell (o := 0) rfl
  have r0_2 := R2.out.cell (o := 0) rfl
  have p1_2 := P2.out.cell (o := 1) rfl
  have r1_2 := R2.out.cell (o := 1) rfl
  have p2_2 := P2.out.cell (o := 2) rfl
  have r2_2 := R2.out.cell (o := 2) rfl
  have p3_2 := P2.out.cell (o := 3) rfl
  have r3_2 := R2.out.cell (o := 3) rfl
  have p4_2 := P2.out.cell (o := 4) rfl
  have r4_2 := R2.out.cell (o := 4) rfl
  have p5_2 := P2.out.cell (o := 5) rfl
  have r5_2 := R2.out.cell (o := 5) rfl
  go_wp2_with fail
  refine (eqIntS_g a3 b3 c3 d3 lo hi lo' hi' x.outs _ HL.out.2.2.2 (G3.out.keep (Below.mono (by exact HB2.out) hh)) (K3.out.keep (Below.mono (by exact HB2.out) hh')) (Nat.le_trans hh HB2.out.size) (Nat.le_trans hh' HB2.out.size)).mono ?_
  rintro e w3 ⟨rfl, hb3⟩
  have HB3 : Hid (Below w.heap.size w w3) := by
    refine Below.trans ?_ (hb3.mono ?_)
    · exact HB2.out
    · exact HB2.out.size
  have P3 : Hid (Rec w3 w.heap.size 34 [.slice a0 x.things.length c0, .slice a1 x.glob.length c1, .slice a2 x.frames.length c2, .slice a3 x.outs.length c3, .int .i64 x.asked, .int .i64 x.code]) := P2.out.below hb3 P2.out.lt
  have R3 : Hid (Rec w3 (w.heap.size + 1) 34 [.slice b0 x.things.length d0, .slice b1 x.glob.length d1, .slice b2 x.frames.length d2, .slice b3 x.outs.length d3, .int .i64 x.asked, .int .i64 x.code]) := R2.out.below hb3 R2.out.lt
  clear hb3 p0_2 r0_2 p1_2 r1_2 p2_2 r2_2 p3_2 r3_2 p4_2 r4_2 p5_2 r5_2
  have p0_3 := P3.out.cell (o := 0) rfl
  have r0_3 := R3.out.cell (o := 0) rfl
  have p1_3 := P3.out.cell (o := 1) rfl
  have r1_3 := R3.out.cell (o := 1) rfl
  have p2_3 := P3.out.cell (o := 2) rfl
  have r2_3 := R3.out.cell (o := 2) rfl
  have p3_3 := P3.out.cell (o := 3) rfl
  have r3_3 := R3.out.cell (o := 3) rfl
  have p4_3 := P3.out.cell (o := 4) rfl
  have r4_3 := R3.out.cell (o := 4) rfl
  have p5_3 := P3.out.cell (o := 5) rfl
  have r5_3 := R3.out.cell (o := 5) rfl
  go_wp2_with fail
  go_ret
  exact ⟨rfl, HB3.out⟩
end Go.Proofs.Ytchigagedniefaa
