/- Prog: how it lies in memory, and what the laws' own to.., sz.. and eq.. of it do. Written by tools/gen.py. -/
import Derived.Test.YtjfmiconmbpllaaDoorGenFun
namespace Go.Proofs.YtjfmiconmbpllaaDoor
open Go.ChangeShapes Go.WideShapes Go.ChangeAt Go.RowKit Go.Joins Go.Deep
set_option linter.unusedVariables false

structure GProg where
  types : List (List Ty)
  glob : List Fd
  funs : List GFun
def GProg.d : GProg := ⟨[], [], []⟩
/-- x lies at ⟨b, o⟩. -/
def ProgAt (md : Bool) (w : World) (lo hi b o : Nat) (x : GProg) : Prop :=
  ∃ a0 c0 a1 c1 a2 c2, w.cell? ⟨b, o, none⟩ = some (.slice a0 x.types.length c0) ∧ w.cell? ⟨b, o + 1, none⟩ = some (.slice a1 x.glob.length c1) ∧ w.cell? ⟨b, o + 2, none⟩ = some (.slice a2 x.funs.length c2) ∧ GroupsM md w lo hi a0 x.types ∧ FieldsM md w lo hi a1 x.glob ∧ FunsM md w lo hi a2 x.funs
theorem ProgAt.same {md : Bool} {lo hi lo' hi' b o : Nat} {w w' : World} {x : GProg} (h : ProgAt md w lo hi b o x) (hs : Same lo hi w w') (h1 : lo' ≤ lo) (h2 : hi ≤ hi') (h3 : lo ≤ b) (h4 : b < hi) : ProgAt md w' lo' hi' b o x := by
  obtain ⟨a0, c0, a1, c1, a2, c2, e0, e1, e2, l0, l1, l2⟩ := h
  exact ⟨a0, c0, a1, c1, a2, c2, (hs.cell h3 h4).trans e0, (hs.cell h3 h4).trans e1, (hs.cell h3 h4).trans e2, l0.same hs h1 h2, l1.same hs h1 h2, l2.same hs h1 h2⟩
theorem ProgAt.plain {md : Bool} {lo hi b o : Nat} {w : World} {x : GProg} (h : ProgAt md w lo hi b o x) : ProgAt false w lo hi b o x := by
  obtain ⟨a0, c0, a1, c1, a2, c2, e0, e1, e2, l0, l1, l2⟩ := h
  exact ⟨a0, c0, a1, c1, a2, c2, e0, e1, e2, l0.plain, l1.plain, l2.plain⟩
def ProgB (N : Nat) (x : GProg) : Prop := GroupsB N x.types ∧ FieldsB N x.glob ∧ FunsB N x.funs

set_option maxHeartbeats 1600000 in
theorem toProg_any {md : Bool} (a0 : Option Addr) (c0 : Nat) (a1 : Option Addr) (c1 : Nat) (a2 : Option Addr) (c2 : Nat) (lo hi : Nat) (x : GProg) (w : World) (hl : ProgB 1048576 x) (g0 : GroupsM md w lo hi a0 x.types) (g1 : FieldsM md w lo hi a1 x.glob) (g2 : FunsM md w lo hi a2 x.funs) (hh : hi ≤ w.heap.size) :
    Calls Tryd.prog 6 #[.agg #[.slice a0 x.types.length c0, .slice a1 x.glob.length c1, .slice a2 x.funs.length c2]] w fun e w' => ∃ n0 n1 n2, e = .returned (.agg #[.slice n0 x.types.length x.types.length, .slice n1 x.glob.length x.glob.length, .slice n2 x.funs.length x.funs.length]) ∧ GroupsM true w' w.heap.size w'.heap.size n0 x.types ∧ FieldsM true w' w.heap.size w'.heap.size n1 x.glob ∧ FunsM true w' w.heap.size w'.heap.size n2 x.funs ∧ Below w.heap.size w w' := by
  have HL := hide hl
  clear hl
  have G0 := hide g0
  have G1 := hide g1
  have G2 := hide g2
  clear g0 g1 g2
  go_enter Tryd.func6, Tryd.ntmps6
  go_wp2_with fail
  refine (toTypeSS_g a0 c0 lo hi x.types _ HL.out.1 (G0.out.keep (Below.mono (by (repeat (first | refine Below.al ?_ (Nat.le_refl _) _ | exact Below.refl _ _))) hh)) (by go_size)).mono ?_
  rintro e w0 ⟨n0, rfl, q0, hb0⟩
  have B0 : Hid (Below w.heap.size w w0) := by
    refine Below.trans ?_ (hb0.mono (by go_size))
    (repeat (first | refine Below.al ?_ (Nat.le_refl _) _ | exact Below.refl _ _))
  have sz0 : w.heap.size + 3 ≤ w0.heap.size := by
    have := hb0.size
    simp only [World.size_alloc] at this
    omega
  have P0 : Hid (Rec w0 w.heap.size 26 [.slice a0 x.types.length c0, .slice a1 x.glob.length c1, .slice a2 x.funs.length c2]) := ((((Rec.new' w _ _ _ rfl).alloc _).alloc _).below hb0 (by go_size))
  have R0 : Hid (Rec w0 (w.heap.size + 1) 33 [.slice none 0 0, .slice none 0 0, .slice none 0 0]) := (((Rec.new' _ _ _ _ (by simp)).alloc _).below hb0 (by go_size))
  have O0 : Hid (Rec w0 (w.heap.size + 1 + 1) 33 [.slice none 0 0, .slice none 0 0, .slice none 0 0]) := ((Rec.new' _ _ _ _ (by simp)).below hb0 (by go_size))
  have p0_0 := P0.out.cell (o := 0) rfl
  have o0_0 := O0.out.cell (o := 0) rfl
  have f0_0 := O0.out.frozen 0
  have r0_0 := R0.out.cell (o := 0) rfl
  have s0_0 := R0.out.frozen 0
  have p1_0 := P0.out.cell (o := 1) rfl
  have o1_0 := O0.out.cell (o := 1) rfl
  have f1_0 := O0.out.frozen 1
  have r1_0 := R0.out.cell (o := 1) rfl
  have s1_0 := R0.out.frozen 1
  have p2_0 := P0.out.cell (o := 2) rfl
  have o2_0 := O0.out.cell (o := 2) rfl
  have f2_0 := O0.out.frozen 2
  have r2_0 := R0.out.cell (o := 2) rfl
  have s2_0 := R0.out.frozen 2
  have Q0_0 := hide (q0.wide (lo' := w.heap.size + 3) (hi' := w0.heap.size) (by go_size) (Nat.le_refl _))
  clear q0 hb0
  go_wp2_with fail
  refine (toFieldS_g a1 c1 lo hi x.glob _ HL.out.2.1 (G1.out.keep (Below.mono (by (repeat (first | exact B0.out | refine Below.setCell ?_ (by simp <;> omega) _))) hh)) (by go_size)).mono ?_
  rintro e w1 ⟨n1, rfl, q1, hb1⟩
  have B1 : Hid (Below w.heap.size w w1) := by
    refine Below.trans ?_ (hb1.mono (by go_size))
    (repeat (first | exact B0.out | refine Below.setCell ?_ (by simp <;> omega) _))
  have sz1 : w.heap.size + 3 ≤ w1.heap.size ∧ w0.heap.size ≤ w1.heap.size := by
    have := hb1.size
    simp only [World.size_setCell] at this
    omega
  have P1 : Hid (Rec w1 w.heap.size 26 [.slice a0 x.types.length c0, .slice a1 x.glob.length c1, .slice a2 x.funs.length c2]) := by
    refine Rec.below ?_ hb1 (by go_size)
    (repeat (first | exact P0.out | refine Rec.other ?_ (by omega) _ _))
  have R1 : Hid (Rec w1 (w.heap.size + 1) 33 [.slice none 0 0, .slice none 0 0, .slice none 0 0]) := by
    refine Rec.below ?_ hb1 (by go_size)
    (repeat (first | exact R0.out | refine Rec.other ?_ (by omega) _ _))
  have O1 : Hid (Rec w1 (w.heap.size + 1 + 1) 33 [.slice n0 x.types.length x.types.length, .slice none 0 0, .slice none 0 0]) := Rec.below ((O0.out).set _ _) hb1 (by go_size)
  have SM1 : Same (w.heap.size + 3) w0.heap.size w0 w1 := by
    refine Same.trans ?_ (Same.of_below hb1 (by go_size))
    (repeat (first | refine Same.set ?_ (.inl (by omega)) _ _ | exact Same.refl _ _ _))
  have Q0_1 := hide (Q0_0.out.same SM1 (Nat.le_refl _) sz1.2)
  clear Q0_0 SM1
  clear p0_0 o0_0 f0_0 r0_0 s0_0 p1_0 o1_0 f1_0 r1_0 s1_0 p2_0 o2_0 f2_0 r2_0 s2_0
  have p0_1 := P1.out.cell (o := 0) rfl
  have o0_1 := O1.out.cell (o := 0) rfl
  have f0_1 := O1.out.frozen 0
  have r0_1 := R1.out.cell (o := 0) rfl
  have s0_1 := R1.out.frozen 0
  have p1_1 := P1.out.cell (o := 1) rfl
  have o1_1 := O1.out.cell (o := 1) rfl
  have f1_1 := O1.out.frozen 1
  have r1_1 := R1.out.cell (o := 1) rfl
  have s1_1 := R1.out.frozen 1
  have p2_1 := P1.out.cell (o := 2) rfl
  have o2_1 := O1.out.cell (o := 2) rfl
  have f2_1 := O1.out.frozen 2
  have r2_1 := R1.out.cell (o := 2) rfl
  have s2_1 := R1.out.frozen 2
  have Q1_1 := hide (q1.wide (lo' := w.heap.size + 3) (hi' := w1.heap.size) (by go_size) (Nat.le_refl _))
  clear q1 hb1
  go_wp2_with fail
  refine (toFunS_g a2 c2 lo hi x.funs _ HL.out.2.2 (G2.out.keep (Below.mono (by (repeat (first | exact B1.out | refine Below.setCell ?_ (by simp <;> omega) _))) hh)) (by go_size)).mono ?_
  rintro e w2 ⟨n2, rfl, q2, hb2⟩
  have B2 : Hid (Below w.heap.size w w2) := by
    refine Below.trans ?_ (hb2.mono (by go_size))
    (repeat (first | exact B1.out | refine Below.setCell ?_ (by simp <;> omega) _))
  have sz2 : w.heap.size + 3 ≤ w2.heap.size ∧ w1.heap.size ≤ w2.heap.size := by
    have := hb2.size
    simp only [World.size_setCell] at this
    omega
  have P2 : Hid (Rec w2 w.heap.size 26 [.slice a0 x.types.length c0, .slice a1 x.glob.length c1, .slice a2 x.funs.length c2]) := by
    refine Rec.below ?_ hb2 (by go_size)
    (repeat (first | exact P1.out | refine Rec.other ?_ (by omega) _ _))
  have R2 : Hid (Rec w2 (w.heap.size + 1) 33 [.slice none 0 0, .slice none 0 0, .slice none 0 0]) := by
    refine Rec.below ?_ hb2 (by go_size)
    (repeat (first | exact R1.out | refine Rec.other ?_ (by omega) _ _))
  have O2 : Hid (Rec w2 (w.heap.size + 1 + 1) 33 [.slice n0 x.types.length x.types.length, .slice n1 x.glob.length x.glob.length, .slice none 0 0]) := Rec.below ((O1.out).set _ _) hb2 (by go_size)
  have SM2 : Same (w.heap.size + 3) w1.heap.size w1 w2 := by
    refine Same.trans ?_ (Same.of_below hb2 (by go_size))
    (repeat (first | refine Same.set ?_ (.inl (by omega)) _ _ | exact Same.refl _ _ _))
  have Q0_2 := hide (Q0_1.out.same SM2 (Nat.le_refl _) sz2.2)
  have Q1_2 := hide (Q1_1.out.same SM2 (Nat.le_refl _) sz2.2)
  clear Q0_1 Q1_1 SM2
  clear p0_1 o0_1 f0_1 r0_1 s0_1 p1_1 o1_1 f1_1 r1_1 s1_1 p2_1 o2_1 f2_1 r2_1 s2_1
  have p0_2 := P2.out.cell (o := 0) rfl
  have o0_2 := O2.out.cell (o := 0) rfl
  have f0_2 := O2.out.frozen 0
  have r0_2 := R2.out.cell (o := 0) rfl
  have s0_2 := R2.out.frozen 0
  have p1_2 := P2.out.cell (o := 1) rfl
  have o1_2 := O2.out.cell (o := 1) rfl
  have f1_2 := O2.out.frozen 1
  have r1_2 := R2.out.cell (o := 1) rfl
  have s1_2 := R2.out.frozen 1
  have p2_2 := P2.out.cell (o := 2) rfl
  have o2_2 := O2.out.cell (o := 2) rfl
  have f2_2 := O2.out.frozen 2
  have r2_2 := R2.out.cell (o := 2) rfl
  have s2_2 := R2.out.frozen 2
  have Q2_2 := hide (q2.wide (lo' := w.heap.size + 3) (hi' := w2.heap.size) (by go_size) (Nat.le_refl _))
  clear q2 hb2
  go_wp2_with fail
  refine bodyPost_ret (v := .agg #[.slice n0 x.types.length x.types.length, .slice n1 x.glob.length x.glob.length, .slice n2 x.funs.length x.funs.length]) (by simp [results, Tryd.results6, go_sem, r0_2, r1_2, r2_2]) rfl ⟨n0, n1, n2, rfl, ?_, ?_, ?_, ?_⟩
  · refine Q0_2.out.same ?_ (by omega) (by go_size)
    (repeat (first | refine Same.set ?_ (.inl (by omega)) _ _ | exact Same.refl _ _ _))
  · refine Q1_2.out.same ?_ (by omega) (by go_size)
    (repeat (first | refine Same.set ?_ (.inl (by omega)) _ _ | exact Same.refl _ _ _))
  · refine Q2_2.out.same ?_ (by omega) (by go_size)
    (repeat (first | refine Same.set ?_ (.inl (by omega)) _ _ | exact Same.refl _ _ _))
  · (repeat (first | refine Below.setCell ?_ (by simp <;> omega) _ | exact B2.out))

set_option maxHeartbeats 800000 in
theorem szProg_any {md : Bool} (a0 a1 a2 : Option Addr) (c0 c1 c2 lo hi : Nat) (x : GProg) (left : Int) (w : World) (hl : ProgB 9223372036854775807 x) (g0 : GroupsM md w lo hi a0 x.types) (g1 : FieldsM md w lo hi a1 x.glob) (g2 : FunsM md w lo hi a2 x.funs) (hh : hi ≤ w.heap.size) (l0 : 0 ≤ left) (l1 : left ≤ 1048576) :
    Calls Tryd.prog 4 #[.agg #[.slice a0 x.types.length c0, .slice a1 x.glob.length c1, .slice a2 x.funs.length c2], .int .i64 left] w fun e w' => ∃ r : Int, e = .returned (.int .i64 r) ∧ -1 ≤ r ∧ r ≤ left ∧ (0 ≤ r → ProgB 1048576 x) ∧ Below w.heap.size w w' := by
  have HL := hide hl
  clear hl
  have G0 := hide g0
  have G1 := hide g1
  have G2 := hide g2
  clear g0 g1 g2
  go_enter Tryd.func4, Tryd.ntmps4
  go_wp2_with fail
  refine (szTypeSS_g a0 c0 lo hi x.types left _ HL.out.1 (G0.out.keep (Below.mono (by (repeat (first | refine Below.al ?_ (Nat.le_refl _) _ | exact Below.refl _ _))) hh)) (by simp only [World.size_alloc]; omega) (by omega) (by omega)).mono ?_
  rintro e w0 ⟨r0, rfl, s0, t0, u0, hb0⟩
  have U0 := hide u0
  have HB0 : Hid (Below w.heap.size w w0) := by
    refine Below.trans ?_ (hb0.mono ?_)
    · (repeat (first | refine Below.al ?_ (Nat.le_refl _) _ | exact Below.refl _ _))
    · simp
  have P0 : Hid (Rec w0 w.heap.size 26 [.slice a0 x.types.length c0, .slice a1 x.glob.length c1, .slice a2 x.funs.length c2]) := (Rec.new' w _ _ _ rfl).below hb0 (by go_size)
  clear u0 hb0
  have p0_0 := P0.out.cell (o := 0) rfl
  have p1_0 := P0.out.cell (o := 1) rfl
  have p2_0 := P0.out.cell (o := 2) rfl
  by_cases hr0 : r0 < 0
  · go_wp2_with fail
    go_ret
    exact ⟨-1, rfl, by omega, by omega, by omega, HB0.out⟩
  go_wp2_with fail
  refine (szFieldS_g a1 c1 lo hi x.glob r0 _ HL.out.2.1 (G1.out.keep (Below.mono (by exact HB0.out) hh)) (Nat.le_trans hh HB0.out.size) (by omega) (by omega)).mono ?_
  rintro e w1 ⟨r1, rfl, s1, t1, u1, hb1⟩
  have U1 := hide u1
  have HB1 : Hid (Below w.heap.size w w1) := by
    refine Below.trans ?_ (hb1.mono ?_)
    · exact HB0.out
    · exact HB0.out.size
  have P1 : Hid (Rec w1 w.heap.size 26 [.slice a0 x.types.length c0, .slice a1 x.glob.length c1, .slice a2 x.funs.length c2]) := P0.out.below hb1 P0.out.lt
  clear u1 hb1 p0_0 p1_0 p2_0
  have p0_1 := P1.out.cell (o := 0) rfl
  have p1_1 := P1.out.cell (o := 1) rfl
  have p2_1 := P1.out.cell (o := 2) rfl
  by_cases hr1 : r1 < 0
  · go_wp2_with fail
    go_ret
    exact ⟨-1, rfl, by omega, by omega, by omega, HB1.out⟩
  go_wp2_with fail
  refine (szFunS_g a2 c2 lo hi x.funs r1 _ HL.out.2.2 (G2.out.keep (Below.mono (by exact HB1.out) hh)) (Nat.le_trans hh HB1.out.size) (by omega) (by omega)).mono ?_
  rintro e w2 ⟨r2, rfl, s2, t2, u2, hb2⟩
  have U2 := hide u2
  have HB2 : Hid (Below w.heap.size w w2) := by
    refine Below.trans ?_ (hb2.mono ?_)
    · exact HB1.out
    · exact HB1.out.size
  have P2 : Hid (Rec w2 w.heap.size 26 [.slice a0 x.types.length c0, .slice a1 x.glob.length c1, .slice a2 x.funs.length c2]) := P1.out.below hb2 P1.out.lt
  clear u2 hb2 p0_1 p1_1 p2_1
  have p0_2 := P2.out.cell (o := 0) rfl
  have p1_2 := P2.out.cell (o := 1) rfl
  have p2_2 := P2.out.cell (o := 2) rfl
  by_cases hr2 : r2 < 0
  · go_wp2_with fail
    go_ret
    exact ⟨-1, rfl, by omega, by omega, by omega, HB2.out⟩
  go_wp2_with fail
  go_ret
  exact ⟨r2, rfl, by omega, by omega, fun _ => ⟨U0.out (by omega), U1.out (by omega), U2.out (by omega)⟩, HB2.out⟩

set_option maxHeartbeats 800000 in
theorem eqProg_g {md md' : Bool} (a0 b0 a1 b1 a2 b2 : Option Addr) (c0 d0 c1 d1 c2 d2 lo hi lo' hi' : Nat) (x : GProg) (w : World) (hl : ProgB 1048576 x) (g0 : GroupsM md w lo hi a0 x.types) (g1 : FieldsM md w lo hi a1 x.glob) (g2 : FunsM md w lo hi a2 x.funs) (k0 : GroupsM md' w lo' hi' b0 x.types) (k1 : FieldsM md' w lo' hi' b1 x.glob) (k2 : FunsM md' w lo' hi' b2 x.funs) (hh : hi ≤ w.heap.size) (hh' : hi' ≤ w.heap.size) :
    Calls Tryd.prog 8 #[.agg #[.slice a0 x.types.length c0, .slice a1 x.glob.length c1, .slice a2 x.funs.length c2], .agg #[.slice b0 x.types.length d0, .slice b1 x.glob.length d1, .slice b2 x.funs.length d2]] w fun e w' => e = .returned (.bool true) ∧ Below w.heap.size w w' := by
  have HL := hide hl
  clear hl
  have G0 := hide g0
  have K0 := hide k0
  have G1 := hide g1
  have K1 := hide k1
  have G2 := hide g2
  have K2 := hide k2
  clear g0 k0 g1 k1 g2 k2
  go_enter Tryd.func8, Tryd.ntmps8
  go_wp2_with fail
  refine (eqTypeSS_g a0 b0 c0 d0 lo hi lo' hi' x.types _ HL.out.1 (G0.out.keep (Below.mono (by (repeat (first | refine Below.al ?_ (Nat.le_refl _) _ | exact Below.refl _ _))) hh)) (K0.out.keep (Below.mono (by (repeat (first | refine Below.al ?_ (Nat.le_refl _) _ | exact Below.refl _ _))) hh')) (by simp only [World.size_alloc]; omega) (by simp only [World.size_alloc]; omega)).mono ?_
  rintro e w0 ⟨rfl, hb0⟩
  have HB0 : Hid (Below w.heap.size w w0) := by
    refine Below.trans ?_ (hb0.mono ?_)
    · (repeat (first | refine Below.al ?_ (Nat.le_refl _) _ | exact Below.refl _ _))
    · simp <;> omega
  have P0 : Hid (Rec w0 w.heap.size 33 [.slice a0 x.types.length c0, .slice a1 x.glob.length c1, .slice a2 x.funs.length c2]) := ((Rec.new' w _ _ _ rfl).alloc _).below hb0 (by go_size)
  have R0 : Hid (Rec w0 (w.heap.size + 1) 33 [.slice b0 x.types.length d0, .slice b1 x.glob.length d1, .slice b2 x.funs.length d2]) := (Rec.new' _ _ _ _ (by simp)).below hb0 (by go_size)
  clear hb0
  have p0_0 := P0.out.cell (o := 0) rfl
  have r0_0 := R0.out.cell (o := 0) rfl
  have p1_0 := P0.out.cell (o := 1) rfl
  have r1_0 := R0.out.cell (o := 1) rfl
  have p2_0 := P0.out.cell (o := 2) rfl
  have r2_0 := R0.out.cell (o := 2) rfl
  go_wp2_with fail
  refine (eqFieldS_g a1 b1 c1 d1 lo hi lo' hi' x.glob _ HL.out.2.1 (G1.out.keep (Below.mono (by exact HB0.out) hh)) (K1.out.keep (Below.mono (by exact HB0.out) hh')) (Nat.le_trans hh HB0.out.size) (Nat.le_trans hh' HB0.out.size)).mono ?_
  rintro e w1 ⟨rfl, hb1⟩
  have HB1 : Hid (Below w.heap.size w w1) := by
    refine Below.trans ?_ (hb1.mono ?_)
    · exact HB0.out
    · exact HB0.out.size
  have P1 : Hid (Rec w1 w.heap.size 33 [.slice a0 x.types.length c0, .slice a1 x.glob.length c1, .slice a2 x.funs.length c2]) := P0.out.below hb1 P0.out.lt
  have R1 : Hid (Rec w1 (w.heap.size + 1) 33 [.slice b0 x.types.length d0, .slice b1 x.glob.length d1, .slice b2 x.funs.length d2]) := R0.out.below hb1 R0.out.lt
  clear hb1 p0_0 r0_0 p1_0 r1_0 p2_0 r2_0
  have p0_1 := P1.out.cell (o := 0) rfl
  have r0_1 := R1.out.cell (o := 0) rfl
  have p1_1 := P1.out.cell (o := 1) rfl
  have r1_1 := R1.out.cell (o := 1) rfl
  have p2_1 := P1.out.cell (o := 2) rfl
  have r2_1 := R1.out.cell (o := 2) rfl
  go_wp2_with fail
  refine (eqFunS_g a2 b2 c2 d2 lo hi lo' hi' x.funs _ HL.out.2.2 (G2.out.keep (Below.mono (by exact HB1.out) hh)) (K2.out.keep (Below.mono (by exact HB1.out) hh')) (Nat.le_trans hh HB1.out.size) (Nat.le_trans hh' HB1.out.size)).mono ?_
  rintro e w2 ⟨rfl, hb2⟩
  have HB2 : Hid (Below w.heap.size w w2) := by
    refine Below.trans ?_ (hb2.mono ?_)
    · exact HB1.out
    · exact HB1.out.size
  have P2 : Hid (Rec w2 w.heap.size 33 [.slice a0 x.types.length c0, .slice a1 x.glob.length c1, .slice a2 x.funs.length c2]) := P1.out.below hb2 P1.out.lt
  have R2 : Hid (Rec w2 (w.heap.size + 1) 33 [.slice b0 x.types.length d0, .slice b1 x.glob.length d1, .slice b2 x.funs.length d2]) := R1.out.below hb2 R1.out.lt
  clear hb2 p0_1 r0_1 p1_1 r1_1 p2_1 r2_1
  have p0_2 := P2.out.cell (o := 0) rfl
  have r0_2 := R2.out.cell (o := 0) rfl
  have p1_2 := P2.out.cell (o := 1) rfl
  have r1_2 := R2.out.cell (o := 1) rfl
  have p2_2 := P2.out.cell (o := 2) rfl
  have r2_2 := R2.out.cell (o := 2) rfl
  go_wp2_with fail
  go_ret
  exact ⟨rfl, HB2.out⟩
end Go.Proofs.YtjfmiconmbpllaaDoor
