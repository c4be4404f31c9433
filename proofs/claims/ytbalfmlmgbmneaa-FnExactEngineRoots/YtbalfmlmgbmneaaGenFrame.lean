/- Frame: how it lies in memory, and what the laws' own to.., sz.. and eq.. of it do. Written by tools/gen.py. -/
import Derived.Test.YtbalfmlmgbmneaaGenVal
namespace Go.Proofs.Ytbalfmlmgbmneaa
open Go.ChangeShapes Go.WideShapes Go.ChangeAt Go.RowKit Go.Joins Go.Deep
set_option linter.unusedVariables false

structure GFrame where
  fn : Int
  pc : Int
  locals : List GVal
  stack : List GVal
def GFrame.d : GFrame := ⟨0, 0, [], []⟩
/-- x lies at ⟨b, o⟩. -/
def FrameAt (md : Bool) (w : World) (lo hi b o : Nat) (x : GFrame) : Prop :=
  ∃ a2 c2 a3 c3, w.cell? ⟨b, o, none⟩ = some (.int .i64 x.fn) ∧ w.cell? ⟨b, o + 1, none⟩ = some (.int .i64 x.pc) ∧ w.cell? ⟨b, o + 2, none⟩ = some (.slice a2 x.locals.length c2) ∧ w.cell? ⟨b, o + 3, none⟩ = some (.slice a3 x.stack.length c3) ∧ ValsM md w lo hi a2 x.locals ∧ ValsM md w lo hi a3 x.stack
theorem FrameAt.same {md : Bool} {lo hi lo' hi' b o : Nat} {w w' : World} {x : GFrame} (h : FrameAt md w lo hi b o x) (hs : Same lo hi w w') (h1 : lo' ≤ lo) (h2 : hi ≤ hi') (h3 : lo ≤ b) (h4 : b < hi) : FrameAt md w' lo' hi' b o x := by
  obtain ⟨a2, c2, a3, c3, e0, e1, e2, e3, l2, l3⟩ := h
  exact ⟨a2, c2, a3, c3, (hs.cell h3 h4).trans e0, (hs.cell h3 h4).trans e1, (hs.cell h3 h4).trans e2, (hs.cell h3 h4).trans e3, l2.same hs h1 h2, l3.same hs h1 h2⟩
theorem FrameAt.plain {md : Bool} {lo hi b o : Nat} {w : World} {x : GFrame} (h : FrameAt md w lo hi b o x) : FrameAt false w lo hi b o x := by
  obtain ⟨a2, c2, a3, c3, e0, e1, e2, e3, l2, l3⟩ := h
  exact ⟨a2, c2, a3, c3, e0, e1, e2, e3, l2.plain, l3.plain⟩
def FrameB (N : Nat) (x : GFrame) : Prop := ValsB N x.locals ∧ ValsB N x.stack
def frameAt' (l : List GFrame) (i : Nat) : GFrame := l.getD i GFrame.d
/-- xs lies at a; in a block of its own, if md. -/
def FramesM (md : Bool) (w : World) (lo hi : Nat) (a : Option Addr) (xs : List GFrame) : Prop :=
  xs = [] ∨ ∃ b off, a = some ⟨b, off, none⟩ ∧ lo ≤ b ∧ b < hi ∧ (md = true → off = 0 ∧ ∃ m, Own w b m 47 ∧ xs.length * 4 ≤ m) ∧ ∀ i, i < xs.length → FrameAt md w lo hi b (off + i * 4) (frameAt' xs i)
theorem FramesM.same {md : Bool} {lo hi lo' hi' : Nat} {w w' : World} {a : Option Addr} {xs : List GFrame} (h : FramesM md w lo hi a xs) (hs : Same lo hi w w') (h1 : lo' ≤ lo) (h2 : hi ≤ hi') : FramesM md w' lo' hi' a xs := by
  rcases h with rfl | ⟨b, off, rfl, h3, h4, h5, h6⟩
  · exact .inl rfl
  · exact .inr ⟨b, off, rfl, by omega, by omega, fun e => ⟨(h5 e).1, (h5 e).2.imp fun m hm => ⟨hm.1.of_block (hs b h3 h4), hm.2⟩⟩, fun i hi => (h6 i hi).same hs h1 h2 h3 h4⟩
theorem FramesM.plain {md : Bool} {lo hi : Nat} {w : World} {a : Option Addr} {xs : List GFrame} (h : FramesM md w lo hi a xs) : FramesM false w lo hi a xs := by
  rcases h with rfl | ⟨b, off, rfl, h3, h4, h5, h6⟩
  · exact .inl rfl
  · exact .inr ⟨b, off, rfl, h3, h4, fun e => (by cases e), fun i hi => (h6 i hi).plain⟩
theorem FramesM.keep {md : Bool} {lo hi : Nat} {w w' : World} {a : Option Addr} {xs : List GFrame} (h : FramesM md w lo hi a xs) (hb : Below hi w w') : FramesM md w' lo hi a xs := h.same (.of_below hb (Nat.le_refl _)) (Nat.le_refl _) (Nat.le_refl _)
theorem FramesM.wide {md : Bool} {lo hi lo' hi' : Nat} {w : World} {a : Option Addr} {xs : List GFrame} (h : FramesM md w lo hi a xs) (h1 : lo' ≤ lo) (h2 : hi ≤ hi') : FramesM md w lo' hi' a xs := h.same (Same.refl _ _ _) h1 h2
def FramesB (N : Nat) (xs : List GFrame) : Prop := xs.length ≤ N ∧ ∀ i, i < xs.length → FrameB N (frameAt' xs i)

set_option maxHeartbeats 1600000 in
theorem toFrame_any {md : Bool} (a2 : Option Addr) (c2 : Nat) (a3 : Option Addr) (c3 : Nat) (lo hi : Nat) (x : GFrame) (w : World) (hl : FrameB 1048576 x) (g2 : ValsM md w lo hi a2 x.locals) (g3 : ValsM md w lo hi a3 x.stack) (hh : hi ≤ w.heap.size) :
    Calls Try.prog 33 #[.agg #[.int .i64 x.fn, .int .i64 x.pc, .slice a2 x.locals.length c2, .slice a3 x.stack.length c3]] w fun e w' => ∃ n2 n3, e = .returned (.agg #[.int .i64 x.fn, .int .i64 x.pc, .slice n2 x.locals.length x.locals.length, .slice n3 x.stack.length x.stack.length]) ∧ ValsM true w' w.heap.size w'.heap.size n2 x.locals ∧ ValsM true w' w.heap.size w'.heap.size n3 x.stack ∧ Below w.heap.size w w' := by
  have HL := hide hl
  clear hl
  have G2 := hide g2
  have G3 := hide g3
  clear g2 g3
  go_enter Try.func33, Try.ntmps33
  go_wp2_with fail
  refine (toValS_g a2 c2 lo hi x.locals _ HL.out.1 (G2.out.keep (Below.mono (by (repeat (first | refine Below.al ?_ (Nat.le_refl _) _ | exact Below.refl _ _))) hh)) (by go_size)).mono ?_
  rintro e w0 ⟨n2, rfl, q2, hb0⟩
  have B0 : Hid (Below w.heap.size w w0) := by
    refine Below.trans ?_ (hb0.mono (by go_size))
    (repeat (first | refine Below.al ?_ (Nat.le_refl _) _ | exact Below.refl _ _))
  have sz0 : w.heap.size + 3 ≤ w0.heap.size := by
    have := hb0.size
    simp only [World.size_alloc] at this
    omega
  have P0 : Hid (Rec w0 w.heap.size 70 [.int .i64 x.fn, .int .i64 x.pc, .slice a2 x.locals.length c2, .slice a3 x.stack.length c3]) := ((((Rec.new' w _ _ _ rfl).alloc _).alloc _).below hb0 (by go_size))
  have R0 : Hid (Rec w0 (w.heap.size + 1) 47 [.int .i64 0, .int .i64 0, .slice none 0 0, .slice none 0 0]) := (((Rec.new' _ _ _ _ (by simp)).alloc _).below hb0 (by go_size))
  have O0 : Hid (Rec w0 (w.heap.size + 1 + 1) 47 [.int .i64 x.fn, .int .i64 x.pc, .slice none 0 0, .slice none 0 0]) := ((Rec.new' _ _ _ _ (by simp)).below hb0 (by go_size))
  have p0_0 := P0.out.cell (o := 0) rfl
  have o0_0 := O0.out.cell (o := 0) rfl
  have f0_0 := O0.out.frozen 0
  have r0_0 := R0.out.cell (o := 0) rfl
  have s0_0 := R0.out.frozen 0
  have p1_0 := P0.out.cell (o := 1) rfl
  have o1_0 := O0.out.cell (o := 1) rfl
  have f1_0 := O0.out.frozen 1
  have r1_0 := R0.out.cell (o := 1) rfl
  have s1_0 := R0.out.frozen 1
  have p2_0 := P0.out.cell (o := 2) rfl
  have o2_0 := O0.out.cell (o := 2) rfl
  have f2_0 := O0.out.frozen 2
  have r2_0 := R0.out.cell (o := 2) rfl
  have s2_0 := R0.out.frozen 2
  have p3_0 := P0.out.cell (o := 3) rfl
  have o3_0 := O0.out.cell (o := 3) rfl
  have f3_0 := O0.out.frozen 3
  have r3_0 := R0.out.cell (o := 3) rfl
  have s3_0 := R0.out.frozen 3
  have Q2_0 := hide (q2.wide (lo' := w.heap.size + 3) (hi' := w0.heap.size) (by go_size) (Nat.le_refl _))
  clear q2 hb0
  go_wp2_with fail
  refine (toValS_g a3 c3 lo hi x.stack _ HL.out.2 (G3.out.keep (Below.mono (by (repeat (first | exact B0.out | refine Below.setCell ?_ (by simp <;> omega) _))) hh)) (by go_size)).mono ?_
  rintro e w1 ⟨n3, rfl, q3, hb1⟩
  have B1 : Hid (Below w.heap.size w w1) := by
    refine Below.trans ?_ (hb1.mono (by go_size))
    (repeat (first | exact B0.out | refine Below.setCell ?_ (by simp <;> omega) _))
  have sz1 : w.heap.size + 3 ≤ w1.heap.size ∧ w0.heap.size ≤ w1.heap.size := by
    have := hb1.size
    simp only [World.size_setCell] at this
    omega
  have P1 : Hid (Rec w1 w.heap.size 70 [.int .i64 x.fn, .int .i64 x.pc, .slice a2 x.locals.length c2, .slice a3 x.stack.length c3]) := by
    refine Rec.below ?_ hb1 (by go_size)
    (repeat (first | exact P0.out | refine Rec.other ?_ (by omega) _ _))
  have R1 : Hid (Rec w1 (w.heap.size + 1) 47 [.int .i64 0, .int .i64 0, .slice none 0 0, .slice none 0 0]) := by
    refine Rec.below ?_ hb1 (by go_size)
    (repeat (first | exact R0.out | refine Rec.other ?_ (by omega) _ _))
  have O1 : Hid (Rec w1 (w.heap.size + 1 + 1) 47 [.int .i64 x.fn, .int .i64 x.pc, .slice n2 x.locals.length x.locals.length, .slice none 0 0]) := Rec.below ((O0.out).set _ _) hb1 (by go_size)
  have SM1 : Same (w.heap.size + 3) w0.heap.size w0 w1 := by
    refine Same.trans ?_ (Same.of_below hb1 (by go_size))
    (repeat (first | refine Same.set ?_ (.inl (by omega)) _ _ | exact Same.refl _ _ _))
  have Q2_1 := hide (Q2_0.out.same SM1 (Nat.le_refl _) sz1.2)
  clear Q2_0 SM1
  clear p0_0 o0_0 f0_0 r0_0 s0_0 p1_0 o1_0 f1_0 r1_0 s1_0 p2_0 o2_0 f2_0 r2_0 s2_0 p3_0 o3_0 f3_0 r3_0 s3_0
  have p0_1 := P1.out.cell (o := 0) rfl
  have o0_1 := O1.out.cell (o := 0) rfl
  have f0_1 := O1.out.frozen 0
  have r0_1 := R1.out.cell (o := 0) rfl
  have s0_1 := R1.out.frozen 0
  have p1_1 := P1.out.cell (o := 1) rfl
  have o1_1 := O1.out.cell (o := 1) rfl
  have f1_1 := O1.out.frozen 1
  have r1_1 := R1.out.cell (o := 1) rfl
  have s1_1 := R1.out.frozen 1
  have p2_1 := P1.out.cell (o := 2) rfl
  have o2_1 := O1.out.cell (o := 2) rfl
  have f2_1 := O1.out.frozen 2
  have r2_1 := R1.out.cell (o := 2) rfl
  have s2_1 := R1.out.frozen 2
  have p3_1 := P1.out.cell (o := 3) rfl
  have o3_1 := O1.out.cell (o := 3) rfl
  have f3_1 := O1.out.frozen 3
  have r3_1 := R1.out.cell (o := 3) rfl
  have s3_1 := R1.out.frozen 3
  have Q3_1 := hide (q3.wide (lo' := w.heap.size + 3) (hi' := w1.heap.size) (by go_size) (Nat.le_refl _))
  clear q3 hb1
  go_wp2_with fail
  refine bodyPost_ret (v := .agg #[.int .i64 x.fn, .int .i64 x.pc, .slice n2 x.locals.length x.locals.length, .slice n3 x.stack.length x.stack.length]) (by simp [results, Try.results33, go_sem, r0_1, r1_1, r2_1, r3_1]) rfl ⟨n2, n3, rfl, ?_, ?_, ?_⟩
  · refine Q2_1.out.same ?_ (by omega) (by go_size)
    (repeat (first | refine Same.set ?_ (.inl (by omega)) _ _ | exact Same.refl _ _ _))
  · refine Q3_1.out.same ?_ (by omega) (by go_size)
    (repeat (first | refine Same.set ?_ (.inl (by omega)) _ _ | exact Same.refl _ _ _))
  · (repeat (first | refine Below.setCell ?_ (by simp <;> omega) _ | exact B1.out))

theorem Try.infoFrame : (Try.prog.info? 47).map (fun i => (i.zero, i.size, i.bytes)) = some (some (.agg #[.int .i64 0, .int .i64 0, .slice none 0 0, .slice none 0 0]), 4, 64) := by kernel_rfl
/-- One laid at its place. -/
theorem frame_set {w : World} {b n lo hi m2 m3 : Nat} {T' : TypeId} {n2 : Option Addr} {n3 : Option Addr} (h : Own w b n T') (F : Nat → GFrame) (k : Nat) (hk : k * 4 + 3 < n) (hlo : b < lo) (hF : ∀ j, j < k → FrameAt true w lo hi b (j * 4) (F j)) (q2 : ValsM true w lo hi n2 (F k).locals) (q3 : ValsM true w lo hi n3 (F k).stack) :
    ∀ j, j < k + 1 → FrameAt true (((((w).setCell ⟨b, k * 4, none⟩ (.int .i64 (F k).fn)).setCell ⟨b, k * 4 + 1, none⟩ (.int .i64 (F k).pc)).setCell ⟨b, k * 4 + 2, none⟩ (.slice n2 (F k).locals.length m2)).setCell ⟨b, k * 4 + 3, none⟩ (.slice n3 (F k).stack.length m3)) lo hi b (j * 4) (F j) := by
  intro j hj
  have h1 := h.set b (k * 4) (.int .i64 (F k).fn)
  have h2 := h1.set b (k * 4 + 1) (.int .i64 (F k).pc)
  have h3 := h2.set b (k * 4 + 2) (.slice n2 (F k).locals.length m2)
  have hs : Same lo hi w (((((w).setCell ⟨b, k * 4, none⟩ (.int .i64 (F k).fn)).setCell ⟨b, k * 4 + 1, none⟩ (.int .i64 (F k).pc)).setCell ⟨b, k * 4 + 2, none⟩ (.slice n2 (F k).locals.length m2)).setCell ⟨b, k * 4 + 3, none⟩ (.slice n3 (F k).stack.length m3)) := ((((Same.refl _ _ _).set (.inl hlo) _ _).set (.inl hlo) _ _).set (.inl hlo) _ _).set (.inl hlo) _ _
  unfold FrameAt
  simp only [h3.cell_set (o := k * 4 + 3) (by omega : k * 4 + 3 < n), h2.cell_set (o := k * 4 + 2) (by omega : k * 4 + 2 < n), h1.cell_set (o := k * 4 + 1) (by omega : k * 4 + 1 < n), h.cell_set (o := k * 4) (by omega : k * 4 < n)]
  by_cases e : j = k
  · subst e
    exact ⟨n2, m2, n3, m3, by simp, by simp, by simp, by simp, q2.same hs (Nat.le_refl _) (Nat.le_refl _), q3.same hs (Nat.le_refl _) (Nat.le_refl _)⟩
  · obtain ⟨a2, c2, a3, c3, e0, e1, e2, e3, l2, l3⟩ := hF j (by omega)
    refine ⟨a2, c2, a3, c3, ?_, ?_, ?_, ?_, l2.same hs (Nat.le_refl _) (Nat.le_refl _), l3.same hs (Nat.le_refl _) (Nat.le_refl _)⟩
    all_goals rw [if_neg (by omega), if_neg (by omega), if_neg (by omega), if_neg (by omega)]; assumption

set_option maxHeartbeats 800000 in
theorem toFrameS_core (a : Option Addr) (cap n lo hi : Nat) (F : Nat → GFrame) (w : World) (hn : n ≤ 1048576) (hm : ∀ i, i < n → FrameB 1048576 (F i)) (hh : hi ≤ w.heap.size)
    (hx : n ≤ 0 ∨ ∃ b off, a = some ⟨b, off, none⟩ ∧ lo ≤ b ∧ b < hi ∧ ∀ i, i < n → FrameAt false w lo hi b (off + i * 4) (F i)) :
    Calls Try.prog 19 #[.slice a n cap] w fun e w' => e = .returned (.slice (some ⟨w.heap.size, 0, none⟩) n n) ∧ Own w' w.heap.size (n * 4) 47 ∧ (∀ j, j < n → FrameAt true w' (w.heap.size + 1) w'.heap.size w.heap.size (j * 4) (F j)) ∧ Below w.heap.size w w' := by
  have hmk := run_make_any (P := Try.prog) 33 47 _ 4 64 Try.underlying33 Try.infoFrame n (by omega) (by omega)
  have HM := hide hm
  clear hm
  rcases hx with h0 | ⟨b, off, rfl, h1, h2, h3⟩
  all_goals
    go_enter Try.func19, Try.ntmps19
    go_wp2_with fail
    go_loopw [4] (fun i wr => ∃ k : Nat, k ≤ n ∧ i = .int .i64 k ∧ Own wr w.heap.size (n * 4) 47 ∧ (∀ j, j < k → FrameAt true wr (w.heap.size + 1) wr.heap.size w.heap.size (j * 4) (F j)) ∧ Below w.heap.size w wr) (fun i wr => n - (intOf i).toNat)
    case atStart => exact ⟨0, Nat.zero_le _, rfl, Own.made _ _ _ _, fun j hj => absurd hj (Nat.not_lt_zero _), (Below.refl _ _).alloc (Nat.le_refl _) _⟩
    case round =>
      obtain ⟨k, hk, rfl, ho, hF, hb⟩ := hrel
      have HF := hide hF
      have HO := hide ho
      clear hF ho
      by_cases hlt : k < n
      · first
        | (exfalso; omega)
        | (have sb := hb.size
           have hx := (h3 k hlt).same (.of_below (hb.mono hh) (Nat.le_refl _)) (Nat.le_refl _) (Nat.le_refl _) h1 h2
           obtain ⟨a2, c2, a3, c3, e0, e1, e2, e3, l2, l3⟩ := hx
           have L2 := hide l2
           have L3 := hide l3
           clear h3 l2 l3
           go_wp2_with fail
           refine (toFrame_any a2 c2 a3 c3 lo hi (F k) _ (HM.out k hlt) L2.out L3.out ?_).mono ?_
           · omega
           rintro e w1 ⟨n2, n3, rfl, q2, q3, hb1⟩
           have Q2 := hide q2
           have Q3 := hide q3
           clear q2 q3
           have HO1 := hide (HO.out.below hb1 HO.out.lt)
           have f0 := HO1.out.frozen (k * 4)
           have f1 := HO1.out.frozen (k * 4 + 1)
           have f2 := HO1.out.frozen (k * 4 + 2)
           have f3 := HO1.out.frozen (k * 4 + 3)
           obtain ⟨v0, d0⟩ := HO1.out.cell (o := k * 4) (by omega)
           obtain ⟨v1, d1⟩ := HO1.out.cell (o := k * 4 + 1) (by omega)
           obtain ⟨v2, d2⟩ := HO1.out.cell (o := k * 4 + 2) (by omega)
           obtain ⟨v3, d3⟩ := HO1.out.cell (o := k * 4 + 3) (by omega)
           have hs1 := Own.lt HO.out
           go_wp2_with fail
           have hF1 : ∀ j, j < k → FrameAt true w1 (w.heap.size + 1) w1.heap.size w.heap.size (j * 4) (F j) := fun j hj => by
             obtain ⟨a2, c2, a3, c3, e0, e1, e2, e3, l2, l3⟩ := HF.out j hj
             exact ⟨a2, c2, a3, c3, (hb1.cell (by exact hs1)).trans e0, (hb1.cell (by exact hs1)).trans e1, (hb1.cell (by exact hs1)).trans e2, (hb1.cell (by exact hs1)).trans e3, l2.same (.of_below hb1 (Nat.le_refl _)) (Nat.le_refl _) hb1.size, l3.same (.of_below hb1 (Nat.le_refl _)) (Nat.le_refl _) hb1.size⟩
           refine ⟨⟨k + 1, by omega, by go_num, ((((HO1.out).set _ _ _).set _ _ _).set _ _ _).set _ _ _, ?_, ((((hb.trans (hb1.mono hb.size)).setCell (Nat.le_refl _) _).setCell (Nat.le_refl _) _).setCell (Nat.le_refl _) _).setCell (Nat.le_refl _) _⟩, by simp [intOf]; omega⟩
           have := frame_set (m2 := (F k).locals.length) (m3 := (F k).stack.length) HO1.out F k (by omega) (Nat.lt_succ_self _) hF1 (Q2.out.wide (by omega) (Nat.le_refl _)) (Q3.out.wide (by omega) (Nat.le_refl _))
           simpa using this)
      · have hkn : Hid (k = n) := Nat.le_antisymm hk (Nat.le_of_not_lt hlt)
        go_wp2_with fail
        go_ret
        exact ⟨rfl, HO.out, hkn.out ▸ HF.out, hb⟩

theorem toFrameS_g {md : Bool} (a : Option Addr) (cap lo hi : Nat) (xs : List GFrame) (w : World) (hn : FramesB 1048576 xs) (hx : FramesM md w lo hi a xs) (hh : hi ≤ w.heap.size) :
    Calls Try.prog 19 #[.slice a xs.length cap] w fun e w' => ∃ na, e = .returned (.slice na xs.length xs.length) ∧ FramesM true w' w.heap.size w'.heap.size na xs ∧ Below w.heap.size w w' := by
  refine (toFrameS_core a cap xs.length lo hi (frameAt' xs) w hn.1 hn.2 hh ?_).mono ?_
  · rcases hx.plain with rfl | ⟨b, off, rfl, h1, h2, _, h3⟩
    · exact .inl (Nat.le_refl _)
    · exact .inr ⟨b, off, rfl, h1, h2, h3⟩
  · rintro e w' ⟨rfl, ho, hF, hb⟩
    refine ⟨_, rfl, .inr ⟨_, 0, rfl, Nat.le_refl _, ho.lt, fun _ => ⟨rfl, _, ho, Nat.le_refl _⟩, fun i hi => ?_⟩, hb⟩
    obtain ⟨a2, c2, a3, c3, e0, e1, e2, e3, l2, l3⟩ := hF i hi
    rw [Nat.zero_add]
    exact ⟨a2, c2, a3, c3, e0, e1, e2, e3, l2.wide (by omega) (Nat.le_refl _), l3.wide (by omega) (Nat.le_refl _)⟩

set_option maxHeartbeats 800000 in
theorem szFrame_any {md : Bool} (a2 a3 : Option Addr) (c2 c3 lo hi : Nat) (x : GFrame) (left : Int) (w : World) (hl : FrameB 9223372036854775807 x) (g2 : ValsM md w lo hi a2 x.locals) (g3 : ValsM md w lo hi a3 x.stack) (hh : hi ≤ w.heap.size) (l0 : 0 ≤ left) (l1 : left ≤ 1048576) :
    Calls Try.prog 31 #[.agg #[.int .i64 x.fn, .int .i64 x.pc, .slice a2 x.locals.length c2, .slice a3 x.stack.length c3], .int .i64 left] w fun e w' => ∃ r : Int, e = .returned (.int .i64 r) ∧ -1 ≤ r ∧ r ≤ left ∧ (0 ≤ r → FrameB 1048576 x) ∧ Below w.heap.size w w' := by
  have HL := hide hl
  clear hl
  have G2 := hide g2
  have G3 := hide g3
  clear g2 g3
  go_enter Try.func31, Try.ntmps31
  go_wp2_with fail
  refine (szValS_g a2 c2 lo hi x.locals left _ HL.out.1 (G2.out.keep (Below.mono (by (repeat (first | refine Below.al ?_ (Nat.le_refl _) _ | exact Below.refl _ _))) hh)) (by simp only [World.size_alloc]; omega) (by omega) (by omega)).mono ?_
  rintro e w0 ⟨r0, rfl, s0, t0, u0, hb0⟩
  have U0 := hide u0
  have HB0 : Hid (Below w.heap.size w w0) := by
    refine Below.trans ?_ (hb0.mono ?_)
    · (repeat (first | refine Below.al ?_ (Nat.le_refl _) _ | exact Below.refl _ _))
    · simp
  have P0 : Hid (Rec w0 w.heap.size 70 [.int .i64 x.fn, .int .i64 x.pc, .slice a2 x.locals.length c2, .slice a3 x.stack.length c3]) := (Rec.new' w _ _ _ rfl).below hb0 (by go_size)
  clear u0 hb0
  have p0_0 := P0.out.cell (o := 0) rfl
  have p1_0 := P0.out.cell (o := 1) rfl
  have p2_0 := P0.out.cell (o := 2) rfl
  have p3_0 := P0.out.cell (o := 3) rfl
  by_cases hr0 : r0 < 0
  · go_wp2_with fail
    go_ret
    exact ⟨-1, rfl, by omega, by omega, by omega, HB0.out⟩
  go_wp2_with fail
  refine (szValS_g a3 c3 lo hi x.stack r0 _ HL.out.2 (G3.out.keep (Below.mono (by exact HB0.out) hh)) (Nat.le_trans hh HB0.out.size) (by omega) (by omega)).mono ?_
  rintro e w1 ⟨r1, rfl, s1, t1, u1, hb1⟩
  have U1 := hide u1
  have HB1 : Hid (Below w.heap.size w w1) := by
    refine Below.trans ?_ (hb1.mono ?_)
    · exact HB0.out
    · exact HB0.out.size
  have P1 : Hid (Rec w1 w.heap.size 70 [.int .i64 x.fn, .int .i64 x.pc, .slice a2 x.locals.length c2, .slice a3 x.stack.length c3]) := P0.out.below hb1 P0.out.lt
  clear u1 hb1 p0_0 p1_0 p2_0 p3_0
  have p0_1 := P1.out.cell (o := 0) rfl
  have p1_1 := P1.out.cell (o := 1) rfl
  have p2_1 := P1.out.cell (o := 2) rfl
  have p3_1 := P1.out.cell (o := 3) rfl
  by_cases hr1 : r1 < 0
  · go_wp2_with fail
    go_ret
    exact ⟨-1, rfl, by omega, by omega, by omega, HB1.out⟩
  go_wp2_with fail
  go_ret
  exact ⟨r1, rfl, by omega, by omega, fun _ => ⟨U0.out (by omega), U1.out (by omega)⟩, HB1.out⟩

set_option maxHeartbeats 800000 in
theorem szFrameS_core (a : Option Addr) (cap n lo hi : Nat) (F : Nat → GFrame) (left : Int) (w : World) (hn : n ≤ 9223372036854775807) (hm : ∀ i, i < n → FrameB 9223372036854775807 (F i)) (hh : hi ≤ w.heap.size) (l0 : 0 ≤ left) (l1 : left ≤ 1048576)
    (hx : n ≤ 0 ∨ ∃ b off, a = some ⟨b, off, none⟩ ∧ lo ≤ b ∧ b < hi ∧ ∀ i, i < n → FrameAt false w lo hi b (off + i * 4) (F i)) :
    Calls Try.prog 15 #[.slice a n cap, .int .i64 left] w fun e w' => ∃ r : Int, e = .returned (.int .i64 r) ∧ -1 ≤ r ∧ r ≤ left ∧ (0 ≤ r → n ≤ 1048576 ∧ ∀ i, i < n → FrameB 1048576 (F i)) ∧ Below w.heap.size w w' := by
  have HM := hide hm
  clear hm
  by_cases hlt : left - (n : Int) < 0
  · go_enter Try.func15, Try.ntmps15
    go_wp2_with fail
    go_ret
    exact ⟨-1, rfl, by omega, by omega, by omega, Below.refl _ _⟩
  rcases hx with h0 | ⟨b, off, rfl, h1, h2, h3⟩
  all_goals
    go_enter Try.func15, Try.ntmps15
    go_wp2_with fail
    go_loopw [1, 5] (fun l i wr => ∃ (k : Nat) (r : Int), k ≤ n ∧ i = .int .i64 k ∧ l = .int .i64 r ∧ 0 ≤ r ∧ r ≤ left ∧ (∀ j, j < k → FrameB 1048576 (F j)) ∧ Below w.heap.size w wr) (fun l i wr => n - (intOf i).toNat)
    case atStart => exact ⟨0, left - n, Nat.zero_le _, rfl, rfl, by omega, by omega, fun j hj => absurd hj (Nat.not_lt_zero _), Below.refl _ _⟩
    case round =>
      obtain ⟨k, r, hk, rfl, rfl, r0, r1, hF, hb⟩ := hrel
      have HF := hide hF
      clear hF
      by_cases hkn : k < n
      · first
        | (exfalso; omega)
        | (have sb := hb.size
           have hx := (h3 k hkn).same (.of_below (hb.mono hh) (Nat.le_refl _)) (Nat.le_refl _) (Nat.le_refl _) h1 h2
           obtain ⟨a2, c2, a3, c3, e0, e1, e2, e3, g2, g3⟩ := hx
           have G2 := hide g2
           have G3 := hide g3
           clear h3 g2 g3
           go_wp2_with fail
           refine (szFrame_any a2 a3 c2 c3 lo hi (F k) r _ (HM.out k hkn) G2.out G3.out (by omega) r0 (by omega)).mono ?_
           rintro e w1 ⟨r', rfl, s0, s1, s2, hb1⟩
           have S2 := hide s2
           clear s2
           by_cases hr : r' < 0
           · go_wp2_with fail
             go_ret
             exact ⟨-1, rfl, by omega, by omega, by omega, hb.trans (hb1.mono hb.size)⟩
           · go_wp2_with fail
             refine ⟨⟨k + 1, r', by omega, by go_num, rfl, by omega, by omega, fun j hj => ?_, hb.trans (hb1.mono hb.size)⟩, by simp [intOf]; omega⟩
             by_cases e : j = k
             · subst e; exact S2.out (by omega)
             · exact HF.out j (by omega))
      · have hkn' : Hid (k = n) := Nat.le_antisymm hk (Nat.le_of_not_lt hkn)
        go_wp2_with fail
        go_ret
        exact ⟨r, rfl, by omega, by omega, fun _ => ⟨by omega, hkn'.out ▸ HF.out⟩, hb⟩

theorem szFrameS_g {md : Bool} (a : Option Addr) (cap lo hi : Nat) (xs : List GFrame) (left : Int) (w : World) (hl : FramesB 9223372036854775807 xs) (hx : FramesM md w lo hi a xs) (hh : hi ≤ w.heap.size) (l0 : 0 ≤ left) (l1 : left ≤ 1048576) :
    Calls Try.prog 15 #[.slice a xs.length cap, .int .i64 left] w fun e w' => ∃ r : Int, e = .returned (.int .i64 r) ∧ -1 ≤ r ∧ r ≤ left ∧ (0 ≤ r → FramesB 1048576 xs) ∧ Below w.heap.size w w' := by
  refine szFrameS_core a cap xs.length lo hi (frameAt' xs) left w hl.1 hl.2 hh l0 l1 ?_
  rcases hx.plain with rfl | ⟨b, off, rfl, h1, h2, _, h3⟩
  · exact .inl (Nat.le_refl _)
  · exact .inr ⟨b, off, rfl, h1, h2, h3⟩

set_option maxHeartbeats 800000 in
theorem eqFrame_g {md md' : Bool} (a2 b2 a3 b3 : Option Addr) (c2 d2 c3 d3 lo hi lo' hi' : Nat) (x : GFrame) (w : World) (hl : FrameB 1048576 x) (g2 : ValsM md w lo hi a2 x.locals) (g3 : ValsM md w lo hi a3 x.stack) (k2 : ValsM md' w lo' hi' b2 x.locals) (k3 : ValsM md' w lo' hi' b3 x.stack) (hh : hi ≤ w.heap.size) (hh' : hi' ≤ w.heap.size) :
    Calls Try.prog 35 #[.agg #[.int .i64 x.fn, .int .i64 x.pc, .slice a2 x.locals.length c2, .slice a3 x.stack.length c3], .agg #[.int .i64 x.fn, .int .i64 x.pc, .slice b2 x.locals.length d2, .slice b3 x.stack.length d3]] w fun e w' => e = .returned (.bool true) ∧ Below w.heap.size w w' := by
  have HL := hide hl
  clear hl
  have G2 := hide g2
  have K2 := hide k2
  have G3 := hide g3
  have K3 := hide k3
  clear g2 k2 g3 k3
  go_enter Try.func35, Try.ntmps35
  go_wp2_with fail
  refine (eqValS_g a2 b2 c2 d2 lo hi lo' hi' x.locals _ HL.out.1 (G2.out.keep (Below.mono (by (repeat (first | refine Below.al ?_ (Nat.le_refl _) _ | exact Below.refl _ _))) hh)) (K2.out.keep (Below.mono (by (repeat (first | refine Below.al ?_ (Nat.le_refl _) _ | exact Below.refl _ _))) hh')) (by simp only [World.size_alloc]; omega) (by simp only [World.size_alloc]; omega)).mono ?_
  rintro e w0 ⟨rfl, hb0⟩
  have HB0 : Hid (Below w.heap.size w w0) := by
    refine Below.trans ?_ (hb0.mono ?_)
    · (repeat (first | refine Below.al ?_ (Nat.le_refl _) _ | exact Below.refl _ _))
    · simp <;> omega
  have P0 : Hid (Rec w0 w.heap.size 47 [.int .i64 x.fn, .int .i64 x.pc, .slice a2 x.locals.length c2, .slice a3 x.stack.length c3]) := ((Rec.new' w _ _ _ rfl).alloc _).below hb0 (by go_size)
  have R0 : Hid (Rec w0 (w.heap.size + 1) 47 [.int .i64 x.fn, .int .i64 x.pc, .slice b2 x.locals.length d2, .slice b3 x.stack.length d3]) := (Rec.new' _ _ _ _ (by simp)).below hb0 (by go_size)
  clear hb0
  have p0_0 := P0.out.cell (o := 0) rfl
  have r0_0 := R0.out.cell (o := 0) rfl
  have p1_0 := P0.out.cell (o := 1) rfl
  have r1_0 := R0.out.cell (o := 1) rfl
  have p2_0 := P0.out.cell (o := 2) rfl
  have r2_0 := R0.out.cell (o := 2) rfl
  have p3_0 := P0.out.cell (o := 3) rfl
  have r3_0 := R0.out.cell (o := 3) rfl
  go_wp2_with fail
  refine (eqValS_g a3 b3 c3 d3 lo hi lo' hi' x.stack _ HL.out.2 (G3.out.keep (Below.mono (by exact HB0.out) hh)) (K3.out.keep (Below.mono (by exact HB0.out) hh')) (Nat.le_trans hh HB0.out.size) (Nat.le_trans hh' HB0.out.size)).mono ?_
  rintro e w1 ⟨rfl, hb1⟩
  have HB1 : Hid (Below w.heap.size w w1) := by
    refine Below.trans ?_ (hb1.mono ?_)
    · exact HB0.out
    · exact HB0.out.size
  have P1 : Hid (Rec w1 w.heap.size 47 [.int .i64 x.fn, .int .i64 x.pc, .slice a2 x.locals.length c2, .slice a3 x.stack.length c3]) := P0.out.below hb1 P0.out.lt
  have R1 : Hid (Rec w1 (w.heap.size + 1) 47 [.int .i64 x.fn, .int .i64 x.pc, .slice b2 x.locals.length d2, .slice b3 x.stack.length d3]) := R0.out.below hb1 R0.out.lt
  clear hb1 p0_0 r0_0 p1_0 r1_0 p2_0 r2_0 p3_0 r3_0
  have p0_1 := P1.out.cell (o := 0) rfl
  have r0_1 := R1.out.cell (o := 0) rfl
  have p1_1 := P1.out.cell (o := 1) rfl
  have r1_1 := R1.out.cell (o := 1) rfl
  have p2_1 := P1.out.cell (o := 2) rfl
  have r2_1 := R1.out.cell (o := 2) rfl
  have p3_1 := P1.out.cell (o := 3) rfl
  have r3_1 := R1.out.cell (o := 3) rfl
  go_wp2_with fail
  go_ret
  exact ⟨rfl, HB1.out⟩

set_option maxHeartbeats 800000 in
theorem eqFrameS_core (a a' : Option Addr) (cap cap' n lo hi lo' hi' : Nat) (F : Nat → GFrame) (w : World) (hm : ∀ i, i < n → FrameB 1048576 (F i)) (hh : hi ≤ w.heap.size) (hh' : hi' ≤ w.heap.size)
    (hx : n ≤ 0 ∨ ∃ b off b' off', a = some ⟨b, off, none⟩ ∧ a' = some ⟨b', off', none⟩ ∧ lo ≤ b ∧ b < hi ∧ lo' ≤ b' ∧ b' < hi' ∧ (∀ i, i < n → FrameAt false w lo hi b (off + i * 4) (F i)) ∧ (∀ i, i < n → FrameAt false w lo' hi' b' (off' + i * 4) (F i))) (hn : n ≤ 1048576) :
    Calls Try.prog 26 #[.slice a n cap, .slice a' n cap'] w fun e w' => e = .returned (.bool true) ∧ Below w.heap.size w w' := by
  have HM := hide hm
  clear hm
  rcases hx with h0 | ⟨b, off, b', off', rfl, rfl, g1, g2, g3, g4, h3, h4⟩
  all_goals
    go_enter Try.func26, Try.ntmps26
    go_wp2_with fail
    go_loopw [5] (fun i wr => ∃ k : Nat, k ≤ n ∧ i = .int .i64 k ∧ Below w.heap.size w wr) (fun i wr => n - (intOf i).toNat)
    case atStart => exact ⟨0, Nat.zero_le _, rfl, Below.refl _ _⟩
    case round =>
      obtain ⟨k, hk, rfl, hb⟩ := hrel
      by_cases hlt : k < n
      · first
        | (exfalso; omega)
        | (have x1 := (h3 k hlt).same (.of_below (hb.mono hh) (Nat.le_refl _)) (Nat.le_refl _) (Nat.le_refl _) g1 g2
           have x2 := (h4 k hlt).same (.of_below (hb.mono hh') (Nat.le_refl _)) (Nat.le_refl _) (Nat.le_refl _) g3 g4
           obtain ⟨a2, c2, a3, c3, e0, e1, e2, e3, l2, l3⟩ := x1
           obtain ⟨b2, d2, b3, d3, f0, f1, f2, f3, m2, m3⟩ := x2
           have L2 := hide l2
           have M2 := hide m2
           have L3 := hide l3
           have M3 := hide m3
           clear h3 h4 l2 m2 l3 m3
           have k1 : (0 : Int) ≤ (k : Int) := by omega
           have k2 : (k : Int) < (n : Int) := by omega
           have s1 := hb.size
           go_wp2_with fail
           go_region_held3 (fun w' => (w'.cell? ⟨b, off + k * 4, none⟩ = some (.int .i64 (F k).fn) ∧ w'.cell? ⟨b, off + k * 4 + 1, none⟩ = some (.int .i64 (F k).pc) ∧ w'.cell? ⟨b, off + k * 4 + 2, none⟩ = some (.slice a2 (F k).locals.length c2) ∧ w'.cell? ⟨b, off + k * 4 + 3, none⟩ = some (.slice a3 (F k).stack.length c3)) ∧ (w'.cell? ⟨b', off' + k * 4, none⟩ = some (.int .i64 (F k).fn) ∧ w'.cell? ⟨b', off' + k * 4 + 1, none⟩ = some (.int .i64 (F k).pc) ∧ w'.cell? ⟨b', off' + k * 4 + 2, none⟩ = some (.slice b2 (F k).locals.length d2) ∧ w'.cell? ⟨b', off' + k * 4 + 3, none⟩ = some (.slice b3 (F k).stack.length d3))) (go_keep)
             ((go_at_call 35; refine (eqFrame_g a2 b2 a3 b3 c2 d2 c3 d3 lo hi lo' hi' (F k) wr.drew (HM.out k hlt) L2.out L3.out M2.out M3.out (Nat.le_trans hh s1) (Nat.le_trans hh' s1)).mono ?_; rintro e w1 ⟨rfl, hb1⟩; have y1 : ∀ o, w1.cell? ⟨b, o, none⟩ = wr.cell? ⟨b, o, none⟩ := fun o => hb1.cell (Nat.lt_of_lt_of_le g2 (Nat.le_trans hh s1)); have y2 : ∀ o, w1.cell? ⟨b', o, none⟩ = wr.cell? ⟨b', o, none⟩ := fun o => hb1.cell (Nat.lt_of_lt_of_le g4 (Nat.le_trans hh' s1))))
           go_wp2_with fail
           exact ⟨⟨k + 1, by omega, by go_num, hb.drew.trans (hb1.mono s1)⟩, by simp [intOf]; omega⟩)
      · go_wp2_with fail
        go_ret
        exact ⟨rfl, hb⟩

theorem eqFrameS_g {md md' : Bool} (a a' : Option Addr) (cap cap' lo hi lo' hi' : Nat) (xs : List GFrame) (w : World) (hn : FramesB 1048576 xs) (hx : FramesM md w lo hi a xs) (hy : FramesM md' w lo' hi' a' xs) (hh : hi ≤ w.heap.size) (hh' : hi' ≤ w.heap.size) :
    Calls Try.prog 26 #[.slice a xs.length cap, .slice a' xs.length cap'] w fun e w' => e = .returned (.bool true) ∧ Below w.heap.size w w' := by
  refine eqFrameS_core a a' cap cap' xs.length lo hi lo' hi' (frameAt' xs) w hn.2 hh hh' ?_ hn.1
  rcases hx.plain with rfl | ⟨b, off, rfl, h1, h2, _, h3⟩
  · exact .inl (Nat.le_refl _)
  · rcases hy.plain with rfl | ⟨b', off', rfl, h1', h2', _, h3'⟩
    · exact .inl (Nat.le_refl _)
    · exact .inr ⟨b, off, b', off', rfl, rfl, h1, h2, h1', h2', h3, h3'⟩
end Go.Proofs.Ytbalfmlmgbmneaa
