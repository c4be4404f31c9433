/- DrawProgSame of the model: two programs, one or nearly. Written by tools/made/drawsame.py. -/
import Derived.Test.YtblliefejffhoaaGreatDoorSameA
import Derived.Test.YtblliefejffhoaaGreatDoorPbS
import Derived.Deep.CutRange
namespace Go.Proofs.YtblliefejffhoaaGreatDoor
open Go.ChangeShapes Go.WideShapes Go.ChangeAt Go.RowKit Go.Deep
set_option linter.unusedVariables false

theorem qfin_drew {lo qb : Nat} {w : World} (h : QFin lo qb w) : QFin lo qb w.drew := h
theorem only_drew9 {g : Nat} {a w : World} (h : Only g a w) : Only g a w.drew := h.drewN 1
theorem rec_drew9 {w : World} {b : Nat} {T : TypeId} {vs : List Value} (h : Rec w b T vs) : Rec w.drew b T vs := h
theorem same_drew9 {lo hi : Nat} {w w' : World} (h : Same lo hi w w') : Same lo hi w w'.drew := h
/-- What the last region reads: both variables. -/
structure S19 (pb qb : Nat) (pv qv : List Value) (w' : World) : Prop where
  p : Rec w' pb 27 pv
  q : Rec w' qb 27 qv

/-- Both results' blocks, written. -/
theorem six9 {w W : World} {T : TypeId} {z0 z1 z2 u0 u1 u2 : Value} (x0 x1 x2 y0 y1 y2 : Value) (ZA : Rec W w.heap.size T [z0, z1, z2]) (ZB : Rec W (w.heap.size + 1) T [u0, u1, u2]) (hb : Below w.heap.size w W) :
    ((((((W.setCell ⟨w.heap.size, 0, none⟩ x0).setCell ⟨w.heap.size, 1, none⟩ x1).setCell ⟨w.heap.size, 2, none⟩ x2).setCell ⟨w.heap.size + 1, 0, none⟩ y0).setCell ⟨w.heap.size + 1, 1, none⟩ y1).setCell ⟨w.heap.size + 1, 2, none⟩ y2).drew.cell? ⟨w.heap.size, 0, none⟩ = some x0 ∧
    ((((((W.setCell ⟨w.heap.size, 0, none⟩ x0).setCell ⟨w.heap.size, 1, none⟩ x1).setCell ⟨w.heap.size, 2, none⟩ x2).setCell ⟨w.heap.size + 1, 0, none⟩ y0).setCell ⟨w.heap.size + 1, 1, none⟩ y1).setCell ⟨w.heap.size + 1, 2, none⟩ y2).drew.cell? ⟨w.heap.size, 1, none⟩ = some x1 ∧
    ((((((W.setCell ⟨w.heap.size, 0, none⟩ x0).setCell ⟨w.heap.size, 1, none⟩ x1).setCell ⟨w.heap.size, 2, none⟩ x2).setCell ⟨w.heap.size + 1, 0, none⟩ y0).setCell ⟨w.heap.size + 1, 1, none⟩ y1).setCell ⟨w.heap.size + 1, 2, none⟩ y2).drew.cell? ⟨w.heap.size, 2, none⟩ = some x2 ∧
    ((((((W.setCell ⟨w.heap.size, 0, none⟩ x0).setCell ⟨w.heap.size, 1, none⟩ x1).setCell ⟨w.heap.size, 2, none⟩ x2).setCell ⟨w.heap.size + 1, 0, none⟩ y0).setCell ⟨w.heap.size + 1, 1, none⟩ y1).setCell ⟨w.heap.size + 1, 2, none⟩ y2).drew.cell? ⟨w.heap.size + 1, 0, none⟩ = some y0 ∧
    ((((((W.setCell ⟨w.heap.size, 0, none⟩ x0).setCell ⟨w.heap.size, 1, none⟩ x1).setCell ⟨w.heap.size, 2, none⟩ x2).setCell ⟨w.heap.size + 1, 0, none⟩ y0).setCell ⟨w.heap.size + 1, 1, none⟩ y1).setCell ⟨w.heap.size + 1, 2, none⟩ y2).drew.cell? ⟨w.heap.size + 1, 1, none⟩ = some y1 ∧
    ((((((W.setCell ⟨w.heap.size, 0, none⟩ x0).setCell ⟨w.heap.size, 1, none⟩ x1).setCell ⟨w.heap.size, 2, none⟩ x2).setCell ⟨w.heap.size + 1, 0, none⟩ y0).setCell ⟨w.heap.size + 1, 1, none⟩ y1).setCell ⟨w.heap.size + 1, 2, none⟩ y2).drew.cell? ⟨w.heap.size + 1, 2, none⟩ = some y2 ∧
    Same (w.heap.size + 1 + 1) W.heap.size W ((((((W.setCell ⟨w.heap.size, 0, none⟩ x0).setCell ⟨w.heap.size, 1, none⟩ x1).setCell ⟨w.heap.size, 2, none⟩ x2).setCell ⟨w.heap.size + 1, 0, none⟩ y0).setCell ⟨w.heap.size + 1, 1, none⟩ y1).setCell ⟨w.heap.size + 1, 2, none⟩ y2).drew ∧
    Below w.heap.size w ((((((W.setCell ⟨w.heap.size, 0, none⟩ x0).setCell ⟨w.heap.size, 1, none⟩ x1).setCell ⟨w.heap.size, 2, none⟩ x2).setCell ⟨w.heap.size + 1, 0, none⟩ y0).setCell ⟨w.heap.size + 1, 1, none⟩ y1).setCell ⟨w.heap.size + 1, 2, none⟩ y2).drew ∧
    ((((((W.setCell ⟨w.heap.size, 0, none⟩ x0).setCell ⟨w.heap.size, 1, none⟩ x1).setCell ⟨w.heap.size, 2, none⟩ x2).setCell ⟨w.heap.size + 1, 0, none⟩ y0).setCell ⟨w.heap.size + 1, 1, none⟩ y1).setCell ⟨w.heap.size + 1, 2, none⟩ y2).drew.heap.size = W.heap.size := by
  have ZA1 := (((((ZA.set 0 x0).set 1 x1).set 2 x2).other (b' := w.heap.size + 1) (by omega) 0 y0).other (b' := w.heap.size + 1) (by omega) 1 y1).other (b' := w.heap.size + 1) (by omega) 2 y2
  have ZB1 := (((((ZB.other (b' := w.heap.size) (by omega) 0 x0).other (b' := w.heap.size) (by omega) 1 x1).other (b' := w.heap.size) (by omega) 2 x2).set 0 y0).set 1 y1).set 2 y2
  exact ⟨(rec_drew9 ZA1).cell (o := 0) rfl, (rec_drew9 ZA1).cell (o := 1) rfl, (rec_drew9 ZA1).cell (o := 2) rfl, (rec_drew9 ZB1).cell (o := 0) rfl, (rec_drew9 ZB1).cell (o := 1) rfl, (rec_drew9 ZB1).cell (o := 2) rfl,
    same_drew9 (((((((Same.refl (w.heap.size + 1 + 1) W.heap.size W).set (.inl (by omega)) _ _).set (.inl (by omega)) _ _).set (.inl (by omega)) _ _).set (.inl (by omega)) _ _).set (.inl (by omega)) _ _).set (.inl (by omega)) _ _),
    Below.drew ((((((hb.setCell (p := ⟨w.heap.size, 0, none⟩) (Nat.le_refl _) _).setCell (p := ⟨w.heap.size, 1, none⟩) (Nat.le_refl _) _).setCell (p := ⟨w.heap.size, 2, none⟩) (Nat.le_refl _) _).setCell (p := ⟨w.heap.size + 1, 0, none⟩) (by show w.heap.size ≤ w.heap.size + 1; omega) _).setCell (p := ⟨w.heap.size + 1, 1, none⟩) (by show w.heap.size ≤ w.heap.size + 1; omega) _).setCell (p := ⟨w.heap.size + 1, 2, none⟩) (by show w.heap.size ≤ w.heap.size + 1; omega) _), by simp⟩
theorem ps_parts {w W W' : World} {lo hi : Nat} {a0 a1 a2 : Option Addr} {c0 c2 : Nat} {P : GProg} (h0 : GroupsIn W lo hi a0 P.types) (h1 : FieldsIn W lo hi a1 P.glob) (h2 : FunsM false W lo hi a2 P.funs) (sm : Same (w.heap.size + 1 + 1) W.heap.size W W') (fz : W'.heap.size = W.heap.size) (bl : Below w.heap.size w W') (l1 : w.heap.size + 1 + 1 ≤ lo) (l2 : hi ≤ W.heap.size) (hq : QB P) (hc : P.types.length ≤ c0) (hf : P.funs.length ≤ c2) : PS w W' a0 a1 a2 c0 c2 P :=
  ⟨⟨⟨h0.same (sm.sub (by omega) (by omega)) (by omega) (by omega), fun e => (by cases e)⟩, ⟨h1.same (sm.sub (by omega) (by omega)) (by omega) (by omega), fun e => (by cases e)⟩, h2.same (sm.sub (by omega) (by omega)) (by omega) (by omega)⟩, progB_of hq, hc, hf, bl⟩
theorem ps_src {w W W' : World} {lo hi : Nat} {a0 a1 a2 : Option Addr} {c0 c2 : Nat} {P : GProg} (h : Src3 W lo hi a0 a1 a2 P) (sm : Same (w.heap.size + 1 + 1) W.heap.size W W') (fz : W'.heap.size = W.heap.size) (bl : Below w.heap.size w W') (l1 : w.heap.size + 1 + 1 ≤ lo) (l2 : hi ≤ W.heap.size) (hq : QB P) (hc : P.types.length ≤ c0) (hf : P.funs.length ≤ c2) : PS w W' a0 a1 a2 c0 c2 P :=
  ps_parts h.g0 h.g1 h.g2 sm fz bl l1 l2 hq hc hf

set_option maxHeartbeats 32000000 in
set_option maxRecDepth 100000 in
theorem drawProgSame_any (a : Option Addr) (cap n : Nat) (w : World) (hc : n ≤ cap) (h : BytesIn w w.heap.size a n) :
    Calls Tryz.prog 11 #[.slice a n cap] w fun e w' => ∃ (P Q : GProg) (a0 a1 a2 : Option Addr) (c0 c1 c2 : Nat) (b0 b1 b2 : Option Addr) (d0 d1 d2 : Nat), e = .returned (.tuple #[.agg #[.slice a0 P.types.length c0, .slice a1 P.glob.length c1, .slice a2 P.funs.length c2], .agg #[.slice b0 Q.types.length d0, .slice b1 Q.glob.length d1, .slice b2 Q.funs.length d2]]) ∧ PS w w' a0 a1 a2 c0 c2 P ∧ PS w w' b0 b1 b2 d0 d2 Q ∧ QB P := by
  have ZA0 : Hid (Rec ((w.alloc (.cells #[.slice none 0 0, .slice none 0 0, .slice none 0 0] 27)).alloc (.cells #[.slice none 0 0, .slice none 0 0, .slice none 0 0] 27)) w.heap.size 27 [.slice none 0 0, .slice none 0 0, .slice none 0 0]) := (Rec.new w 27 [.slice none 0 0, .slice none 0 0, .slice none 0 0]).alloc _
  have ZB0 : Hid (Rec ((w.alloc (.cells #[.slice none 0 0, .slice none 0 0, .slice none 0 0] 27)).alloc (.cells #[.slice none 0 0, .slice none 0 0, .slice none 0 0] 27)) (w.heap.size + 1) 27 [.slice none 0 0, .slice none 0 0, .slice none 0 0]) := Rec.new' _ _ _ _ (by simp)
  have BB0 : Hid (Below w.heap.size w ((w.alloc (.cells #[.slice none 0 0, .slice none 0 0, .slice none 0 0] 27)).alloc (.cells #[.slice none 0 0, .slice none 0 0, .slice none 0 0] 27))) := ((Below.refl _ _).alloc (Nat.le_refl _) _).alloc (by simp) _
  go_enter Tryz.func11, Tryz.ntmps11
  go_wp2_with fail
  refine (open_any a cap n _ hc ((h.keep BB0.out).wider (by simp; omega))).mono ?_
  rintro e w1 ⟨rfl, r1, b1', s1⟩
  have ZA1 := hide (ZA0.out.below b1' (by simp; omega))
  have ZB1 := hide (ZB0.out.below b1' (by simp))
  have BB1 := hide (BB0.out.trans (b1'.mono (by simp; omega)))
  simp only [World.size_alloc] at r1 s1
  clear b1' h ZA0 ZB0 BB0
  go_wp2_with fail
  refine (l3Prog_any (w.heap.size + 1 + 1) 0 w1 (by omega) r1).mono ?_
  rintro e w2 ⟨⟨ts, gl, fs⟩, a0, a1, a2, c0, c1, c2, rfl, g0, g1, g2, hk, hFew, hc0, hc2, gl3, f1, f3, hsm, ⟨p2, hp2, r2⟩, o2⟩
  simp only at hc0 hc2 gl3 f1 f3 g0 g1 g2 hk hFew hsm
  have t4 : ts.length ≤ 4 := kin_len4 hk
  have hs2 : Hid (Src3 w2 w1.heap.size w2.heap.size a0 a1 a2 ⟨ts, gl, fs⟩) := ⟨g0, g1, g2, Nat.le_refl _, by show ts.length ≤ 1000; omega, by show gl.length ≤ 1000; omega, by show fs.length ≤ 1000; omega, small_of_kin hk, fun i hi => by have q := hsm i hi; exact ⟨Nat.le_trans q.1 (by omega), Nat.le_trans q.2.1 (by omega), Nat.le_trans q.2.2.2 (by omega)⟩⟩
  have HQB : Hid (QB ⟨ts, gl, fs⟩) := ⟨⟨by show ts.length ≤ 1000; omega, hFew⟩, by show gl.length ≤ 1000; omega, by show fs.length ≤ 1000; omega, fun i hi => by have q := hsm i hi; exact ⟨Nat.le_trans q.1 (by omega), Nat.le_trans q.2.1 (by omega), Nat.le_trans q.2.2.2 (by omega)⟩⟩
  have HSm := hide hsm
  have HKin : Hid (ts = [] ∨ kinOkF ts = true) := hk
  have ZA2 := hide (ZA1.out.only o2 (by omega))
  have ZB2 := hide (ZB1.out.only o2 (by omega))
  have O2 := hide o2
  have so2 := o2.size
  have b2w : w.heap.size + 1 + 1 + 1 ≤ w1.heap.size := by omega
  clear g0 g1 g2 hk hFew hsm o2 ZA1 ZB1 r1
  have PR3 := hide (Rec.new w2 27 [.slice a0 ts.length c0, .slice a1 gl.length c1, .slice a2 fs.length c2])
  have S3 := hide (hs2.out.only (g := (w.heap.size + 1 + 1)) ((Only.refl _ w2).alloc (.cells #[.slice a0 ts.length c0, .slice a1 gl.length c1, .slice a2 fs.length c2] 27)) (by omega))
  have ZA3 := hide (ZA2.out.alloc (.cells #[.slice a0 ts.length c0, .slice a1 gl.length c1, .slice a2 fs.length c2] 27))
  have ZB3 := hide (ZB2.out.alloc (.cells #[.slice a0 ts.length c0, .slice a1 gl.length c1, .slice a2 fs.length c2] 27))
  have O3 := hide (O2.out.alloc (.cells #[.slice a0 ts.length c0, .slice a1 gl.length c1, .slice a2 fs.length c2] 27))
  have R3 := hide (r2.alloc (.cells #[.slice a0 ts.length c0, .slice a1 gl.length c1, .slice a2 fs.length c2] 27))
  have pw3 : (w2.alloc (.cells #[.slice a0 ts.length c0, .slice a1 gl.length c1, .slice a2 fs.length c2] 27)).heap.size = w2.heap.size + 1 := by simp
  go_wp2_with fail
  generalize hw3 : w2.alloc (.cells #[.slice a0 ts.length c0, .slice a1 gl.length c1, .slice a2 fs.length c2] 27) = w3 at *
  have pb3 : w2.heap.size < w3.heap.size := by omega
  clear hw3 pw3 hs2 ZA2 ZB2 O2 r2
  refine (l3Copy_any a0 a1 a2 c0 c1 c2 w1.heap.size w2.heap.size ⟨ts, gl, fs⟩ w3 S3.out).mono ?_
  rintro e w4 ⟨b0, b1, b2, d0, d1, d2, h1, h2, rfl, y1, y2, y3, hgl, hgr, hgi, hfu, hb2⟩
  have s4 := hb2.size
  have bb : Below w4.heap.size w4 (w4.alloc (.cells #[.slice b0 ts.length d0, .slice b1 gl.length d1, .slice b2 fs.length d2] 27)) := (Below.refl _ _).alloc (Nat.le_refl _) _
  have Q4 : Hid (QSt w3.heap.size h1 h2 w4.heap.size ⟨ts, gl, fs⟩ b0 b1 b2 d0 d1 d2 (w4.alloc (.cells #[.slice b0 ts.length d0, .slice b1 gl.length d1, .slice b2 fs.length d2] 27))) :=
    ⟨Rec.new _ _ _, hgl.below bb, hgr.below bb, hgi.keep (bb.mono y3), hfu.below bb, y1, y2, y3⟩
  have ON4 : Hid (Only (w.heap.size + 1 + 1) w3 (w4.alloc (.cells #[.slice b0 ts.length d0, .slice b1 gl.length d1, .slice b2 fs.length d2] 27))) := (Only.of_below hb2).alloc _
  have R4 := hide ((R3.out.keep hb2).alloc (.cells #[.slice b0 ts.length d0, .slice b1 gl.length d1, .slice b2 fs.length d2] 27))
  clear hgl hgr hgi hfu bb hb2 R3
  go_wp2_with fail
  refine (pick_only (w.heap.size + 1 + 1) p2 _ _ (by omega) R4.out).mono ?_
  rintro e w6 ⟨x', rfl, _, lx, ux, r6, o6, s6⟩
  have ux' := ux (by omega)
  obtain ⟨x, rfl⟩ : ∃ m : Nat, x' = m := ⟨x'.toNat, by omega⟩
  have xn : x < fs.length := by omega
  have Q6 := hide (Q4.out.only o6 (by omega))
  have ON6 := hide (ON4.out.trans o6)
  generalize hqb : w4.heap.size = qb at *
  clear hqb Q4 ON4 R4 o6 ux lx s6
  go_wp2_with fail
  refine (pick_only (w.heap.size + 1 + 1) (p2 + 1) _ _ (by omega) r6).mono ?_
  rintro e w5 ⟨k, rfl, _, lk, uk, r5, o5, s5⟩
  have uk' := uk (by omega)
  have Q5 := hide (Q6.out.only o5 (by omega))
  have ON5 := hide (ON6.out.trans o5)
  obtain ⟨rb, xs, B, hb2e, hRow, hrbl⟩ := Row5.of Q5.out.fu f1
  subst hb2e
  try simp only at hRow
  have RW5 := hide hRow
  clear Q6 ON6 r6 r5 o5 uk s5 hRow
  generalize hL1 : w3.heap.size = L1 at *
  generalize hpb : w2.heap.size = pb at *
  have q0 := Q5.out.q.cell (o := 0) rfl
  have q1 := Q5.out.q.cell (o := 1) rfl
  have q2 := Q5.out.q.cell (o := 2) rfl
  have qf0 := Q5.out.q.frozen 0
  have qf1 := Q5.out.q.frozen 1
  have qf2 := Q5.out.q.frozen 2
  have qlt := Q5.out.q.lt
  have k3 := Q5.out.l3
  have k2 := Q5.out.l2
  have k1 := Q5.out.l1
  have hkk : k = 0 ∨ k = 1 ∨ k = 2 ∨ k = 3 ∨ k = 4 ∨ k = 5 ∨ k = 6 ∨ k = 7 := by omega
  clear uk' lk
  rcases hkk with rfl | rfl | rfl | rfl | rfl | rfl | rfl | rfl
  · obtain ⟨x0, x4, x5, y0, y4, y5, hX⟩ := FunX.of (RW5.out.hfv x xn)
    have sm3 := HSm.out x xn
    generalize funAt' fs x = fx at hX sm3
    obtain ⟨tk, ⟨gk, go, gm⟩, ow, bd⟩ := fx
    obtain ⟨tl3, ol3, bl1, bl6⟩ := sm3
    simp only at tl3 ol3 bl1 bl6
    have HX := hide hX
    clear hX
    have xi0 : (0 : Int) ≤ (x : Int) := by omega
    have xi1 : (x : Int) < (fs.length : Int) := by omega
    have rb2 : h2 ≤ rb := owns_base RW5.out.ho rb rfl
    have rlt : rb < w5.heap.size := owns_lt RW5.out.ho rb rfl
    have hBx : Hid (h2 ≤ B x) := Nat.le_trans RW5.out.hS (mono_le' RW5.out.hB (Nat.zero_le _))
    have hqr : qb ≠ rb := by
      obtain ⟨c, h5⟩ := owns_kind RW5.out.ho (k := rb) rfl
      exact kind_ne Q5.out.q h5 (by decide)
    obtain ⟨i0, br, rfl⟩ : ∃ i0 br, bd = i0 :: br := by
      cases bd with
      | nil => simp at bl1
      | cons i br => exact ⟨i, br, rfl⟩
    obtain ⟨bb, hx5, hbl, hblt⟩ : ∃ bb, x5 = some ⟨bb, 0, none⟩ ∧ h2 ≤ bb ∧ bb < w5.heap.size := by
      rcases owns_cells HX.out.r5.1 with h0 | ⟨g, h0, h5, h6, _⟩
      · simp at h0
      · exact ⟨g, h0, Nat.le_trans hBx.out h5, h6⟩
    subst hx5
    have s2 : w5.drew.cell? ⟨qb, 2, none⟩ = some (.slice (some ⟨rb, 0, none⟩) fs.length d2) := q2
    have s5 : w5.drew.cell? ⟨rb, x * 6 + 5, none⟩ = some (.slice (some ⟨bb, 0, none⟩) (br.length + 1) y5) := (RW5.out.ho.cellAt (x * 6 + 5) (by omega)).trans HX.out.e5
    have sa : w5.drew.cell? ⟨bb, 1, none⟩ = some (.int .i64 i0.a) := (World.ownsRow.cellAt (n := (i0 :: br).length) HX.out.r5.1 1 (by simp; omega)).trans rfl
    have saf : w5.drew.frozen? ⟨bb, 1, none⟩ = false := World.ownsRow.frozenAt (n := (i0 :: br).length) HX.out.r5.1 1
    have bi0 : (0 : Int) < (br.length : Int) + 1 := by omega
    go_wp2_with fail
    refine beginA (S := fun w' => w' = w5.drew) 18 (by kernel_rfl) rfl (fun hHeld => ?_)
    refine takeA (i := 0) (v := ?v0n19) rfl (by kernel_rfl) (by kernel_rfl) (by kernel_rfl) (fun _ _ _ h => h) (by kernel_rfl) (by kernel_rfl) (by assumption) ?y0n19 ?r0n19
    case y0n19 => (intro w hSw; (try subst hSw); go_simp; try with_reducible rfl)
    (try simp only [Act.put, List.setIfInBounds_toArray, List.set_cons_zero, List.set_cons_succ])
    refine takeA (i := 1) (v := ?v1n20) rfl (by kernel_rfl) (by kernel_rfl) (by kernel_rfl) (fun _ _ _ h => h) (by kernel_rfl) (by kernel_rfl) (by assumption) ?y1n20 ?r1n20
    case y1n20 => (intro w hSw; (try subst hSw); go_simp; try with_reducible rfl)
    (try simp only [Act.put, List.setIfInBounds_toArray, List.set_cons_zero, List.set_cons_succ])
    refine takeA (i := 2) (v := ?v2n21) rfl (by kernel_rfl) (by kernel_rfl) (by kernel_rfl) (fun _ _ _ h => h) (by kernel_rfl) (by kernel_rfl) (by assumption) ?y2n21 ?r2n21
    case y2n21 => (intro w hSw; (try subst hSw); go_simp; try with_reducible rfl)
    (try simp only [Act.put, List.setIfInBounds_toArray, List.set_cons_zero, List.set_cons_succ])
    refine takeA (i := 3) (v := ?v3n22) rfl (by kernel_rfl) (by kernel_rfl) (by kernel_rfl) (fun _ _ _ h => h) (by kernel_rfl) (by kernel_rfl) (by assumption) ?y3n22 ?r3n22
    case y3n22 => (intro w hSw; (try subst hSw); go_simp; try with_reducible rfl)
    (try simp only [Act.put, List.setIfInBounds_toArray, List.set_cons_zero, List.set_cons_succ])
    refine takeA (i := 4) (v := ?v4n23) rfl (by kernel_rfl) (by kernel_rfl) (by kernel_rfl) (fun _ _ _ h => h) (by kernel_rfl) (by kernel_rfl) (by assumption) ?y4n23 ?r4n23
    case y4n23 => (intro w hSw; (try subst hSw); go_simp; try with_reducible rfl)
    (try simp only [Act.put, List.setIfInBounds_toArray, List.set_cons_zero, List.set_cons_succ])
    refine takeA (i := 5) (v := ?v5n24) rfl (by kernel_rfl) (by kernel_rfl) (by kernel_rfl) (fun _ _ _ h => h) (by kernel_rfl) (by kernel_rfl) (by assumption) ?y5n24 ?r5n24
    case y5n24 => (intro w hSw; (try subst hSw); go_simp; try with_reducible rfl)
    (try simp only [Act.put, List.setIfInBounds_toArray, List.set_cons_zero, List.set_cons_succ])
    refine takeA (i := 6) (v := ?v6n25) rfl (by kernel_rfl) (by kernel_rfl) (by kernel_rfl) (fun _ _ _ h => h) (by kernel_rfl) (by kernel_rfl) (by assumption) ?y6n25 ?r6n25
    case y6n25 => (intro w hSw; (try subst hSw); go_simp; try with_reducible rfl)
    (try simp only [Act.put, List.setIfInBounds_toArray, List.set_cons_zero, List.set_cons_succ])
    refine takeA (i := 7) (v := ?v7n26) rfl (by kernel_rfl) (by kernel_rfl) (by kernel_rfl) (fun _ _ _ h => h) (by kernel_rfl) (by kernel_rfl) (by assumption) ?y7n26 ?r7n26
    case y7n26 => (intro w hSw; (try subst hSw); go_simp; try with_reducible rfl)
    (try simp only [Act.put, List.setIfInBounds_toArray, List.set_cons_zero, List.set_cons_succ])
    refine takeA (i := 8) (v := ?v8n27) rfl (by kernel_rfl) (by kernel_rfl) (by kernel_rfl) (fun _ _ _ h => h) (by kernel_rfl) (by kernel_rfl) (by assumption) ?y8n27 ?r8n27
    case y8n27 => (intro w hSw; (try subst hSw); go_simp; try with_reducible rfl)
    (try simp only [Act.put, List.setIfInBounds_toArray, List.set_cons_zero, List.set_cons_succ])
    refine takeA (i := 9) (v := ?v9n28) rfl (by kernel_rfl) (by kernel_rfl) (by kernel_rfl) (fun _ _ _ h => h) (by kernel_rfl) (by kernel_rfl) (by assumption) ?y9n28 ?r9n28
    case y9n28 => (intro w hSw; (try subst hSw); go_simp; try with_reducible rfl)
    (try simp only [Act.put, List.setIfInBounds_toArray, List.set_cons_zero, List.set_cons_succ])
    refine takeA (i := 10) (v := ?v10n29) rfl (by kernel_rfl) (by kernel_rfl) (by kernel_rfl) (fun _ _ _ h => h) (by kernel_rfl) (by kernel_rfl) (by assumption) ?y10n29 ?r10n29
    case y10n29 => (intro w hSw; (try subst hSw); go_simp; try with_reducible rfl)
    (try simp only [Act.put, List.setIfInBounds_toArray, List.set_cons_zero, List.set_cons_succ])
    refine takeA (i := 11) (v := ?v11n30) rfl (by kernel_rfl) (by kernel_rfl) (by kernel_rfl) (fun _ _ _ h => h) (by kernel_rfl) (by kernel_rfl) (by assumption) ?y11n30 ?r11n30
    case y11n30 => (intro w hSw; (try subst hSw); go_simp; try with_reducible rfl)
    (try simp only [Act.put, List.setIfInBounds_toArray, List.set_cons_zero, List.set_cons_succ])
    refine takeA (i := 12) (v := ?v12n31) rfl (by kernel_rfl) (by kernel_rfl) (by kernel_rfl) (fun _ _ _ h => h) (by kernel_rfl) (by kernel_rfl) (by assumption) ?y12n31 ?r12n31
    case y12n31 => (intro w hSw; (try subst hSw); go_simp; try with_reducible rfl)
    (try simp only [Act.put, List.setIfInBounds_toArray, List.set_cons_zero, List.set_cons_succ])
    refine takeA (i := 13) (v := ?v13n32) rfl (by kernel_rfl) (by kernel_rfl) (by kernel_rfl) (fun _ _ _ h => h) (by kernel_rfl) (by kernel_rfl) (by assumption) ?y13n32 ?r13n32
    case y13n32 => (intro w hSw; (try subst hSw); go_simp; try with_reducible rfl)
    (try simp only [Act.put, List.setIfInBounds_toArray, List.set_cons_zero, List.set_cons_succ])
    refine takeA (i := 14) (v := ?v14n33) rfl (by kernel_rfl) (by kernel_rfl) (by kernel_rfl) (fun _ _ _ h => h) (by kernel_rfl) (by kernel_rfl) (by assumption) ?y14n33 ?r14n33
    case y14n33 => (intro w hSw; (try subst hSw); go_simp; try with_reducible rfl)
    (try simp only [Act.put, List.setIfInBounds_toArray, List.set_cons_zero, List.set_cons_succ])
    refine takeA (i := 15) (v := ?v15n34) rfl (by kernel_rfl) (by kernel_rfl) (by kernel_rfl) (fun _ _ _ h => h) (by kernel_rfl) (by kernel_rfl) (by assumption) ?y15n34 ?r15n34
    case y15n34 => (intro w hSw; (try subst hSw); go_simp; try with_reducible rfl)
    (try simp only [Act.put, List.setIfInBounds_toArray, List.set_cons_zero, List.set_cons_succ])
    refine readyA (rs := [16]) (by kernel_rfl) (by simp) ?_
    refine AllL.cons rfl (fun K hK => ?_) ?_
    · have hSw := hHeld
      (try subst hSw)
      go_simp
      refine hK.out _ _ hHeld (fun hHeld => ?_)
      clear hK K
      (try simp only [Act.put, List.setIfInBounds_toArray, List.set_cons_zero, List.set_cons_succ])
      refine takeA (i := 17) (v := ?v17n35) rfl (by kernel_rfl) (by kernel_rfl) (by kernel_rfl) (fun _ _ _ h => h) (by kernel_rfl) (by kernel_rfl) (by assumption) ?y17n35 ?r17n35
      case y17n35 => (intro w hSw; (try subst hSw); go_simp; try with_reducible rfl)
      (try simp only [Act.put, List.setIfInBounds_toArray, List.set_cons_zero, List.set_cons_succ])
      refine readyA (rs := [18]) (by kernel_rfl) (by simp) ?_
      refine AllL.last rfl (fun K hK => ?_)
      skip
      go_simp
      refine hK.out _ _ ?_
      clear hK K
      (try simp only [Act.put, List.setIfInBounds_toArray, List.set_cons_zero, List.set_cons_succ])
      refine doneA (by kernel_rfl) ?_ _
      have QFIN0 : QFin L1 qb (w5.setCell ⟨bb, 1, none⟩ (.int .i64 (IntKind.i64.wrap (i0.a + 1)))) := QSt.bodyA Q5.out HQB.out RW5.out HX.out xn (by refine ⟨?_, ?_, ?_⟩ <;> simp [FieldsB, InssB] at * <;> omega) _
      have QFIN := qfin_drew QFIN0
      clear QFIN0
      clear s2 s5 sa saf
      obtain ⟨QQ, e0, e1, e2, g0, g1, g2, hq9, hG9, hF9, hU9, hQB9, hle9, hlf9⟩ := QFIN
      have ON9 := hide (only_drew9 (ON5.out.set (b := bb) (by omega) 1 (.int .i64 (IntKind.i64.wrap (i0.a + 1)))))
      have HQ9 := hide hq9
      have HG9 := hide hG9
      have HF9 := hide hF9
      have HU9 := hide hU9
      have HQB9 := hide hQB9
      clear hq9 hG9 hF9 hU9 hQB9 q0 q1 q2 qf0 qf1 qf2
      generalize hW9 : (w5.setCell ⟨bb, 1, none⟩ (.int .i64 (IntKind.i64.wrap (i0.a + 1)))).drew = W9 at *
      clear hW9
      have PR9 := hide (PR3.out.only ON9.out (by omega))
      have ZA9 := hide (ZA3.out.only ON9.out (by omega))
      have ZB9 := hide (ZB3.out.only ON9.out (by omega))
      have S9 := hide (S3.out.only ON9.out (by omega))
      have l9 := HQ9.out.lt
      have lp9 := PR9.out.lt
      have OW9 := hide (O3.out.trans ON9.out)
      have sz9 : L1 ≤ W9.heap.size := by have := ON9.out.size; omega
      go_wp2_with fail
      refine beginA (S := S19 pb qb [.slice a0 ts.length c0, .slice a1 gl.length c1, .slice a2 fs.length c2] [.slice e0 QQ.types.length g0, .slice e1 QQ.glob.length g1, .slice e2 QQ.funs.length g2]) 3 (by kernel_rfl) ⟨PR9.out, HQ9.out⟩ (fun hHeld => ?_)
      refine takeA (i := 0) (v := ?v0n36) rfl (by kernel_rfl) (by kernel_rfl) (by kernel_rfl) (fun _ _ _ h => h) (by kernel_rfl) (by kernel_rfl) (by assumption) ?y0n36 ?r0n36
      case y0n36 => (intro w hSw; have u0 := hSw.p.cell (o := 0) rfl; have u1 := hSw.p.cell (o := 1) rfl; have u2 := hSw.p.cell (o := 2) rfl; have v0 := hSw.q.cell (o := 0) rfl; have v1 := hSw.q.cell (o := 1) rfl; have v2 := hSw.q.cell (o := 2) rfl; clear hSw; go_simp; try with_reducible rfl)
      (try simp only [Act.put, List.setIfInBounds_toArray, List.set_cons_zero, List.set_cons_succ])
      refine takeA (i := 1) (v := ?v1n37) rfl (by kernel_rfl) (by kernel_rfl) (by kernel_rfl) (fun _ _ _ h => h) (by kernel_rfl) (by kernel_rfl) (by assumption) ?y1n37 ?r1n37
      case y1n37 => (intro w hSw; have u0 := hSw.p.cell (o := 0) rfl; have u1 := hSw.p.cell (o := 1) rfl; have u2 := hSw.p.cell (o := 2) rfl; have v0 := hSw.q.cell (o := 0) rfl; have v1 := hSw.q.cell (o := 1) rfl; have v2 := hSw.q.cell (o := 2) rfl; clear hSw; go_simp; try with_reducible rfl)
      (try simp only [Act.put, List.setIfInBounds_toArray, List.set_cons_zero, List.set_cons_succ])
      refine readyA (rs := [2]) (by kernel_rfl) (by simp) ?_
      refine AllL.cons rfl (fun K hK => ?_) ?_
      · have za0 := ZA9.out.cell (o := 0) rfl
        have za1 := ZA9.out.cell (o := 1) rfl
        have za2 := ZA9.out.cell (o := 2) rfl
        have zf0 := ZA9.out.frozen 0
        have zf1 := ZA9.out.frozen 1
        have zf2 := ZA9.out.frozen 2
        go_simp
        refine hK.out _ _ ⟨((hHeld.p.other (show pb ≠ w.heap.size by omega) _ _).other (show pb ≠ w.heap.size by omega) _ _).other (show pb ≠ w.heap.size by omega) _ _, ((hHeld.q.other (show qb ≠ w.heap.size by omega) _ _).other (show qb ≠ w.heap.size by omega) _ _).other (show qb ≠ w.heap.size by omega) _ _⟩ (fun hHeld => ?_)
        clear hK K za0 za1 za2 zf0 zf1 zf2
        (try simp only [Act.put, List.setIfInBounds_toArray, List.set_cons_zero, List.set_cons_succ])
        refine readyA (rs := [3]) (by kernel_rfl) (by simp) ?_
        refine AllL.last rfl (fun K hK => ?_)
        have zb0 := ZB9.out.cell (o := 0) rfl
        have zb1 := ZB9.out.cell (o := 1) rfl
        have zb2 := ZB9.out.cell (o := 2) rfl
        have zg0 := ZB9.out.frozen 0
        have zg1 := ZB9.out.frozen 1
        have zg2 := ZB9.out.frozen 2
        go_simp
        refine hK.out _ _ ?_
        clear hK K zb0 zb1 zb2 zg0 zg1 zg2
        (try simp only [Act.put, List.setIfInBounds_toArray, List.set_cons_zero, List.set_cons_succ])
        refine doneA (by kernel_rfl) ?_ _
        obtain ⟨ra0, ra1, ra2, rc0, rc1, rc2, sm9, hBL, fz⟩ := six9 (.slice a0 ts.length c0) (.slice a1 gl.length c1) (.slice a2 fs.length c2) (.slice e0 QQ.types.length g0) (.slice e1 QQ.glob.length g1) (.slice e2 QQ.funs.length g2) ZA9.out ZB9.out (BB1.out.trans (OW9.out.below (B := w.heap.size) (by omega) (by omega)))
        have HSM := hide sm9
        have HBL := hide hBL
        have HFZ := hide fz
        clear sm9 hBL fz hHeld
        go_wp2_with fail
        refine bodyPost_ret (v := .tuple #[.agg #[.slice a0 ts.length c0, .slice a1 gl.length c1, .slice a2 fs.length c2], .agg #[.slice e0 QQ.types.length g0, .slice e1 QQ.glob.length g1, .slice e2 QQ.funs.length g2]]) (by simp [results, Tryz.results11, go_sem, *]) rfl ⟨⟨ts, gl, fs⟩, QQ, a0, a1, a2, c0, c1, c2, e0, e1, e2, g0, g1, g2, rfl, ps_src S9.out HSM.out HFZ.out HBL.out (by omega) (by omega) HQB.out hc0 hc2, ps_parts HG9.out HF9.out HU9.out HSM.out HFZ.out HBL.out (by omega) (Nat.le_refl _) HQB9.out hle9 hlf9, HQB.out⟩
      exact AllL.nil
    exact AllL.nil
  · obtain ⟨x0, x4, x5, y0, y4, y5, hX⟩ := FunX.of (RW5.out.hfv x xn)
    have sm3 := HSm.out x xn
    generalize funAt' fs x = fx at hX sm3
    obtain ⟨tk, ⟨gk, go, gm⟩, ow, bd⟩ := fx
    obtain ⟨tl3, ol3, bl1, bl6⟩ := sm3
    simp only at tl3 ol3 bl1 bl6
    have HX := hide hX
    clear hX
    have xi0 : (0 : Int) ≤ (x : Int) := by omega
    have xi1 : (x : Int) < (fs.length : Int) := by omega
    have rb2 : h2 ≤ rb := owns_base RW5.out.ho rb rfl
    have rlt : rb < w5.heap.size := owns_lt RW5.out.ho rb rfl
    have hBx : Hid (h2 ≤ B x) := Nat.le_trans RW5.out.hS (mono_le' RW5.out.hB (Nat.zero_le _))
    have hqr : qb ≠ rb := by
      obtain ⟨c, h5⟩ := owns_kind RW5.out.ho (k := rb) rfl
      exact kind_ne Q5.out.q h5 (by decide)
    have s2 : w5.drew.cell? ⟨qb, 2, none⟩ = some (.slice (some ⟨rb, 0, none⟩) fs.length d2) := q2
    have s1 : w5.drew.cell? ⟨rb, x * 6 + 1, none⟩ = some (.int .i64 gk) := (RW5.out.ho.cellAt (x * 6 + 1) (by omega)).trans HX.out.e1
    have s1f : w5.drew.frozen? ⟨rb, x * 6 + 1, none⟩ = false := RW5.out.ho.frozenAt (x * 6 + 1)
    go_wp2_with fail
    refine beginA (S := fun w' => w' = w5.drew) 14 (by kernel_rfl) rfl (fun hHeld => ?_)
    refine takeA (i := 0) (v := ?v0n5) rfl (by kernel_rfl) (by kernel_rfl) (by kernel_rfl) (fun _ _ _ h => h) (by kernel_rfl) (by kernel_rfl) (by assumption) ?y0n5 ?r0n5
    case y0n5 => (intro w hSw; (try subst hSw); go_simp; try with_reducible rfl)
    (try simp only [Act.put, List.setIfInBounds_toArray, List.set_cons_zero, List.set_cons_succ])
    refine takeA (i := 1) (v := ?v1n6) rfl (by kernel_rfl) (by kernel_rfl) (by kernel_rfl) (fun _ _ _ h => h) (by kernel_rfl) (by kernel_rfl) (by assumption) ?y1n6 ?r1n6
    case y1n6 => (intro w hSw; (try subst hSw); go_simp; try with_reducible rfl)
    (try simp only [Act.put, List.setIfInBounds_toArray, List.set_cons_zero, List.set_cons_succ])
    refine takeA (i := 2) (v := ?v2n7) rfl (by kernel_rfl) (by kernel_rfl) (by kernel_rfl) (fun _ _ _ h => h) (by kernel_rfl) (by kernel_rfl) (by assumption) ?y2n7 ?r2n7
    case y2n7 => (intro w hSw; (try subst hSw); go_simp; try with_reducible rfl)
    (try simp only [Act.put, List.setIfInBounds_toArray, List.set_cons_zero, List.set_cons_succ])
    refine takeA (i := 3) (v := ?v3n8) rfl (by kernel_rfl) (by kernel_rfl) (by kernel_rfl) (fun _ _ _ h => h) (by kernel_rfl) (by kernel_rfl) (by assumption) ?y3n8 ?r3n8
    case y3n8 => (intro w hSw; (try subst hSw); go_simp; try with_reducible rfl)
    (try simp only [Act.put, List.setIfInBounds_toArray, List.set_cons_zero, List.set_cons_succ])
    refine takeA (i := 4) (v := ?v4n9) rfl (by kernel_rfl) (by kernel_rfl) (by kernel_rfl) (fun _ _ _ h => h) (by kernel_rfl) (by kernel_rfl) (by assumption) ?y4n9 ?r4n9
    case y4n9 => (intro w hSw; (try subst hSw); go_simp; try with_reducible rfl)
    (try simp only [Act.put, List.setIfInBounds_toArray, List.set_cons_zero, List.set_cons_succ])
    refine takeA (i := 5) (v := ?v5n10) rfl (by kernel_rfl) (by kernel_rfl) (by kernel_rfl) (fun _ _ _ h => h) (by kernel_rfl) (by kernel_rfl) (by assumption) ?y5n10 ?r5n10
    case y5n10 => (intro w hSw; (try subst hSw); go_simp; try with_reducible rfl)
    (try simp only [Act.put, List.setIfInBounds_toArray, List.set_cons_zero, List.set_cons_succ])
    refine takeA (i := 6) (v := ?v6n11) rfl (by kernel_rfl) (by kernel_rfl) (by kernel_rfl) (fun _ _ _ h => h) (by kernel_rfl) (by kernel_rfl) (by assumption) ?y6n11 ?r6n11
    case y6n11 => (intro w hSw; (try subst hSw); go_simp; try with_reducible rfl)
    (try simp only [Act.put, List.setIfInBounds_toArray, List.set_cons_zero, List.set_cons_succ])
    refine takeA (i := 7) (v := ?v7n12) rfl (by kernel_rfl) (by kernel_rfl) (by kernel_rfl) (fun _ _ _ h => h) (by kernel_rfl) (by kernel_rfl) (by assumption) ?y7n12 ?r7n12
    case y7n12 => (intro w hSw; (try subst hSw); go_simp; try with_reducible rfl)
    (try simp only [Act.put, List.setIfInBounds_toArray, List.set_cons_zero, List.set_cons_succ])
    refine takeA (i := 8) (v := ?v8n13) rfl (by kernel_rfl) (by kernel_rfl) (by kernel_rfl) (fun _ _ _ h => h) (by kernel_rfl) (by kernel_rfl) (by assumption) ?y8n13 ?r8n13
    case y8n13 => (intro w hSw; (try subst hSw); go_simp; try with_reducible rfl)
    (try simp only [Act.put, List.setIfInBounds_toArray, List.set_cons_zero, List.set_cons_succ])
    refine takeA (i := 9) (v := ?v9n14) rfl (by kernel_rfl) (by kernel_rfl) (by kernel_rfl) (fun _ _ _ h => h) (by kernel_rfl) (by kernel_rfl) (by assumption) ?y9n14 ?r9n14
    case y9n14 => (intro w hSw; (try subst hSw); go_simp; try with_reducible rfl)
    (try simp only [Act.put, List.setIfInBounds_toArray, List.set_cons_zero, List.set_cons_succ])
    refine takeA (i := 10) (v := ?v10n15) rfl (by kernel_rfl) (by kernel_rfl) (by kernel_rfl) (fun _ _ _ h => h) (by kernel_rfl) (by kernel_rfl) (by assumption) ?y10n15 ?r10n15
    case y10n15 => (intro w hSw; (try subst hSw); go_simp; try with_reducible rfl)
    (try simp only [Act.put, List.setIfInBounds_toArray, List.set_cons_zero, List.set_cons_succ])
    refine readyA (rs := [11]) (by kernel_rfl) (by simp) ?_
    refine AllL.cons rfl (fun K hK => ?_) ?_
    · have hSw := hHeld
      (try subst hSw)
      go_simp
      refine hK.out _ _ hHeld (fun hHeld => ?_)
      clear hK K
      (try simp only [Act.put, List.setIfInBounds_toArray, List.set_cons_zero, List.set_cons_succ])
      refine readyA (rs := [12]) (by kernel_rfl) (by simp) ?_
      refine AllL.cons rfl (fun K hK => ?_) ?_
      · have hSw := hHeld
        (try subst hSw)
        go_simp
        refine hK.out _ _ hHeld (fun hHeld => ?_)
        clear hK K
        (try simp only [Act.put, List.setIfInBounds_toArray, List.set_cons_zero, List.set_cons_succ])
        refine takeA (i := 13) (v := ?v13n16) rfl (by kernel_rfl) (by kernel_rfl) (by kernel_rfl) (fun _ _ _ h => h) (by kernel_rfl) (by kernel_rfl) (by assumption) ?y13n16 ?r13n16
        case y13n16 => (intro w hSw; (try subst hSw); go_simp; try with_reducible rfl)
        (try simp only [Act.put, List.setIfInBounds_toArray, List.set_cons_zero, List.set_cons_succ])
        refine readyA (rs := [14]) (by kernel_rfl) (by simp) ?_
        refine AllL.last rfl (fun K hK => ?_)
        skip
        go_simp
        refine hK.out _ _ ?_
        clear hK K
        (try simp only [Act.put, List.setIfInBounds_toArray, List.set_cons_zero, List.set_cons_succ])
        refine doneA (by kernel_rfl) ?_ _
        have QFIN0 : QFin L1 qb (w5.setCell ⟨rb, x * 6 + 1, none⟩ (.int .i64 (IntKind.i64.wrap (gk + 1)))) := QSt.giveKind Q5.out HQB.out RW5.out HX.out xn hBx.out (by refine ⟨?_, ?_, ?_⟩ <;> simp [FieldsB, InssB] <;> omega) _
        have QFIN := qfin_drew QFIN0
        clear QFIN0
        clear s1 s1f s2
        obtain ⟨QQ, e0, e1, e2, g0, g1, g2, hq9, hG9, hF9, hU9, hQB9, hle9, hlf9⟩ := QFIN
        have ON9 := hide (only_drew9 (ON5.out.set (b := rb) (by omega) (x * 6 + 1) (.int .i64 (IntKind.i64.wrap (gk + 1)))))
        have HQ9 := hide hq9
        have HG9 := hide hG9
        have HF9 := hide hF9
        have HU9 := hide hU9
        have HQB9 := hide hQB9
        clear hq9 hG9 hF9 hU9 hQB9 q0 q1 q2 qf0 qf1 qf2
        generalize hW9 : (w5.setCell ⟨rb, x * 6 + 1, none⟩ (.int .i64 (IntKind.i64.wrap (gk + 1)))).drew = W9 at *
        clear hW9
        have PR9 := hide (PR3.out.only ON9.out (by omega))
        have ZA9 := hide (ZA3.out.only ON9.out (by omega))
        have ZB9 := hide (ZB3.out.only ON9.out (by omega))
        have S9 := hide (S3.out.only ON9.out (by omega))
        have l9 := HQ9.out.lt
        have lp9 := PR9.out.lt
        have OW9 := hide (O3.out.trans ON9.out)
        have sz9 : L1 ≤ W9.heap.size := by have := ON9.out.size; omega
        go_wp2_with fail
        refine beginA (S := S19 pb qb [.slice a0 ts.length c0, .slice a1 gl.length c1, .slice a2 fs.length c2] [.slice e0 QQ.types.length g0, .slice e1 QQ.glob.length g1, .slice e2 QQ.funs.length g2]) 3 (by kernel_rfl) ⟨PR9.out, HQ9.out⟩ (fun hHeld => ?_)
        refine takeA (i := 0) (v := ?v0n17) rfl (by kernel_rfl) (by kernel_rfl) (by kernel_rfl) (fun _ _ _ h => h) (by kernel_rfl) (by kernel_rfl) (by assumption) ?y0n17 ?r0n17
        case y0n17 => (intro w hSw; have u0 := hSw.p.cell (o := 0) rfl; have u1 := hSw.p.cell (o := 1) rfl; have u2 := hSw.p.cell (o := 2) rfl; have v0 := hSw.q.cell (o := 0) rfl; have v1 := hSw.q.cell (o := 1) rfl; have v2 := hSw.q.cell (o := 2) rfl; clear hSw; go_simp; try with_reducible rfl)
        (try simp only [Act.put, List.setIfInBounds_toArray, List.set_cons_zero, List.set_cons_succ])
        refine takeA (i := 1) (v := ?v1n18) rfl (by kernel_rfl) (by kernel_rfl) (by kernel_rfl) (fun _ _ _ h => h) (by kernel_rfl) (by kernel_rfl) (by assumption) ?y1n18 ?r1n18
        case y1n18 => (intro w hSw; have u0 := hSw.p.cell (o := 0) rfl; have u1 := hSw.p.cell (o := 1) rfl; have u2 := hSw.p.cell (o := 2) rfl; have v0 := hSw.q.cell (o := 0) rfl; have v1 := hSw.q.cell (o := 1) rfl; have v2 := hSw.q.cell (o := 2) rfl; clear hSw; go_simp; try with_reducible rfl)
        (try simp only [Act.put, List.setIfInBounds_toArray, List.set_cons_zero, List.set_cons_succ])
        refine readyA (rs := [2]) (by kernel_rfl) (by simp) ?_
        refine AllL.cons rfl (fun K hK => ?_) ?_
        · have za0 := ZA9.out.cell (o := 0) rfl
          have za1 := ZA9.out.cell (o := 1) rfl
          have za2 := ZA9.out.cell (o := 2) rfl
          have zf0 := ZA9.out.frozen 0
          have zf1 := ZA9.out.frozen 1
          have zf2 := ZA9.out.frozen 2
          go_simp
          refine hK.out _ _ ⟨((hHeld.p.other (show pb ≠ w.heap.size by omega) _ _).other (show pb ≠ w.heap.size by omega) _ _).other (show pb ≠ w.heap.size by omega) _ _, ((hHeld.q.other (show qb ≠ w.heap.size by omega) _ _).other (show qb ≠ w.heap.size by omega) _ _).other (show qb ≠ w.heap.size by omega) _ _⟩ (fun hHeld => ?_)
          clear hK K za0 za1 za2 zf0 zf1 zf2
          (try simp only [Act.put, List.setIfInBounds_toArray, List.set_cons_zero, List.set_cons_succ])
          refine readyA (rs := [3]) (by kernel_rfl) (by simp) ?_
          refine AllL.last rfl (fun K hK => ?_)
          have zb0 := ZB9.out.cell (o := 0) rfl
          have zb1 := ZB9.out.cell (o := 1) rfl
          have zb2 := ZB9.out.cell (o := 2) rfl
          have zg0 := ZB9.out.frozen 0
          have zg1 := ZB9.out.frozen 1
          have zg2 := ZB9.out.frozen 2
          go_simp
          refine hK.out _ _ ?_
          clear hK K zb0 zb1 zb2 zg0 zg1 zg2
          (try simp only [Act.put, List.setIfInBounds_toArray, List.set_cons_zero, List.set_cons_succ])
          refine doneA (by kernel_rfl) ?_ _
          obtain ⟨ra0, ra1, ra2, rc0, rc1, rc2, sm9, hBL, fz⟩ := six9 (.slice a0 ts.length c0) (.slice a1 gl.length c1) (.slice a2 fs.length c2) (.slice e0 QQ.types.length g0) (.slice e1 QQ.glob.length g1) (.slice e2 QQ.funs.length g2) ZA9.out ZB9.out (BB1.out.trans (OW9.out.below (B := w.heap.size) (by omega) (by omega)))
          have HSM := hide sm9
          have HBL := hide hBL
          have HFZ := hide fz
          clear sm9 hBL fz hHeld
          go_wp2_with fail
          refine bodyPost_ret (v := .tuple #[.agg #[.slice a0 ts.length c0, .slice a1 gl.length c1, .slice a2 fs.length c2], .agg #[.slice e0 QQ.types.length g0, .slice e1 QQ.glob.length g1, .slice e2 QQ.funs.length g2]]) (by simp [results, Tryz.results11, go_sem, *]) rfl ⟨⟨ts, gl, fs⟩, QQ, a0, a1, a2, c0, c1, c2, e0, e1, e2, g0, g1, g2, rfl, ps_src S9.out HSM.out HFZ.out HBL.out (by omega) (by omega) HQB.out hc0 hc2, ps_parts HG9.out HF9.out HU9.out HSM.out HFZ.out HBL.out (by omega) (Nat.le_refl _) HQB9.out hle9 hlf9, HQB.out⟩
        exact AllL.nil
      exact AllL.nil
    exact AllL.nil
  · obtain ⟨x0, x4, x5, y0, y4, y5, hX⟩ := FunX.of (RW5.out.hfv x xn)
    have sm3 := HSm.out x xn
    generalize funAt' fs x = fx at hX sm3
    obtain ⟨tk, ⟨gk, go, gm⟩, ow, bd⟩ := fx
    obtain ⟨tl3, ol3, bl1, bl6⟩ := sm3
    simp only at tl3 ol3 bl1 bl6
    have HX := hide hX
    clear hX
    have xi0 : (0 : Int) ≤ (x : Int) := by omega
    have xi1 : (x : Int) < (fs.length : Int) := by omega
    have rb2 : h2 ≤ rb := owns_base RW5.out.ho rb rfl
    have rlt : rb < w5.heap.size := owns_lt RW5.out.ho rb rfl
    have hBx : Hid (h2 ≤ B x) := Nat.le_trans RW5.out.hS (mono_le' RW5.out.hB (Nat.zero_le _))
    have hqr : qb ≠ rb := by
      obtain ⟨c, h5⟩ := owns_kind RW5.out.ho (k := rb) rfl
      exact kind_ne Q5.out.q h5 (by decide)
    obtain ⟨i2, hi2, hzz⟩ := Option.map_eq_some_iff.1 Tryz.infoFun
    simp only [Prod.mk.injEq] at hzz
    obtain ⟨hz2, hs2, hb2⟩ := hzz
    have KI := hide hi2
    have KZ := hide hz2
    have KS := hide hs2
    have KB := hide hb2
    clear hi2 hz2 hs2 hb2
    have f0 : w5.cell? ⟨rb, x * 6, none⟩ = some (.slice x0 tk.length y0) := (RW5.out.ho.cellAt _ (by omega)).trans HX.out.e0
    have f1' : w5.cell? ⟨rb, x * 6 + 1, none⟩ = some (.int .i64 gk) := (RW5.out.ho.cellAt _ (by omega)).trans HX.out.e1
    have f2 : w5.cell? ⟨rb, x * 6 + 2, none⟩ = some (.int .i64 go) := (RW5.out.ho.cellAt _ (by omega)).trans HX.out.e2
    have f3' : w5.cell? ⟨rb, x * 6 + 3, none⟩ = some (.bool gm) := (RW5.out.ho.cellAt _ (by omega)).trans HX.out.e3
    have f4 : w5.cell? ⟨rb, x * 6 + 4, none⟩ = some (.slice x4 ow.length y4) := (RW5.out.ho.cellAt _ (by omega)).trans HX.out.e4
    have f5 : w5.cell? ⟨rb, x * 6 + 5, none⟩ = some (.slice x5 bd.length y5) := (RW5.out.ho.cellAt _ (by omega)).trans HX.out.e5
    have RA : Hid ((w5.drew.alloc (.cells #[.slice x0 tk.length y0, .int .i64 gk, .int .i64 go, .bool gm, .slice x4 ow.length y4, .slice x5 bd.length y5] 36)).ownsRow h2 36 6 (.slice (some ⟨rb, 0, none⟩) fs.length d2) fs.length xs) := World.ownsRow.alloc (w := w5.drew) RW5.out.ho _
    have QA := hide ((show Rec w5.drew _ _ _ from Q5.out.q).alloc (.cells #[.slice x0 tk.length y0, .int .i64 gk, .int .i64 go, .bool gm, .slice x4 ow.length y4, .slice x5 bd.length y5] 36))
    have LA := hide (((RSt.init (lo := L1) (qb := qb) (x := x) RW5.out.ho).only ((Only.refl (w.heap.size + 1 + 1) w5).drewN 1) (by omega) (by omega)).only ((Only.refl (w.heap.size + 1 + 1) w5.drew).alloc (.cells #[.slice x0 tk.length y0, .int .i64 gk, .int .i64 go, .bool gm, .slice x4 ow.length y4, .slice x5 bd.length y5] 36)) (by omega) (by omega))
    go_wp2_with fail
    go_region_law ((first
      | (refine step_append_lies _ (by rfl) _ _ 25 (by rfl) h2 36 i2 _ 6 96 Tryz.underlying25 KI.out KZ.out KS.out KB.out (by rfl) (by decide) (.slice (some ⟨rb, 0, none⟩) fs.length d2) fs.length xs (by rfl) RA.out ⟨w5.heap.size, 0, none⟩ 1 1 [.slice x0 tk.length y0, .int .i64 gk, .int .i64 go, .bool gm, .slice x4 ow.length y4, .slice x5 bd.length y5] (by rfl) rfl (World.news_of_block (Deep.blk_alloc_new _ _)) (by intro u hu; simp at hu; rcases hu with rfl | rfl | rfl | rfl | rfl | rfl <;> rfl) (by decide) (by unfold maxLen; omega) (by omega) (by simp; omega) _ rfl ?_; intro gB cap6 w6 hown6 hgr6 hat6 hlt6; have Q6' := hide (QA.out.grown hgr6 (fun e => prog_type_ne QA.out RA.out e)); have e2' := Q6'.out.cell (o := 2) rfl; have e2f := Q6'.out.frozen 2)))
    · have LP : RSt w5 L1 h2 qb rb fs.length x xs (.slice (some ⟨gB, 0, none⟩) (fs.length + 1) cap6) 1 (xs ++ [.slice x0 tk.length y0, .int .i64 gk, .int .i64 go, .bool gm, .slice x4 ow.length y4, .slice x5 bd.length y5]) (w6.setCell ⟨qb, 2, none⟩ (.slice (some ⟨gB, 0, none⟩) (fs.length + 1) cap6)) := LA.out.push xn QA.out hown6 hgr6 hat6 (fun t ht => by
        have ht' : t = 0 ∨ t = 1 ∨ t = 2 ∨ t = 3 ∨ t = 4 ∨ t = 5 := by omega
        rcases ht' with rfl | rfl | rfl | rfl | rfl | rfl
        · exact HX.out.e0.symm
        · exact HX.out.e1.symm
        · exact HX.out.e2.symm
        · exact HX.out.e3.symm
        · exact HX.out.e4.symm
        · exact HX.out.e5.symm)
      have QFIN : QFin L1 qb (w6.setCell ⟨qb, 2, none⟩ (.slice (some ⟨gB, 0, none⟩) (fs.length + 1) cap6)) := RSt.fin Q5.out HQB.out RW5.out LP xn (by show fs.length + 1 ≤ 1000; omega) (Q6'.out.set 2 _)
      clear LP e2' e2f f0 f1' f2 f3' f4 f5
      obtain ⟨QQ, e0, e1, e2, g0, g1, g2, hq9, hG9, hF9, hU9, hQB9, hle9, hlf9⟩ := QFIN
      have ON9 := hide ((((ON5.out.drewN 1).alloc (.cells #[.slice x0 tk.length y0, .int .i64 gk, .int .i64 go, .bool gm, .slice x4 ow.length y4, .slice x5 bd.length y5] 36)).grown hgr6 (fun q hq => by have := owns_base RA.out q hq; omega)).set (b := qb) (by omega) 2 (.slice (some ⟨gB, 0, none⟩) (fs.length + 1) cap6))
      have HQ9 := hide hq9
      have HG9 := hide hG9
      have HF9 := hide hF9
      have HU9 := hide hU9
      have HQB9 := hide hQB9
      clear hq9 hG9 hF9 hU9 hQB9 q0 q1 q2 qf0 qf1 qf2
      generalize hW9 : (w6.setCell ⟨qb, 2, none⟩ (.slice (some ⟨gB, 0, none⟩) (fs.length + 1) cap6)) = W9 at *
      clear hW9
      have PR9 := hide (PR3.out.only ON9.out (by omega))
      have ZA9 := hide (ZA3.out.only ON9.out (by omega))
      have ZB9 := hide (ZB3.out.only ON9.out (by omega))
      have S9 := hide (S3.out.only ON9.out (by omega))
      have l9 := HQ9.out.lt
      have lp9 := PR9.out.lt
      have OW9 := hide (O3.out.trans ON9.out)
      have sz9 : L1 ≤ W9.heap.size := by have := ON9.out.size; omega
      go_wp2_with fail
      refine beginA (S := S19 pb qb [.slice a0 ts.length c0, .slice a1 gl.length c1, .slice a2 fs.length c2] [.slice e0 QQ.types.length g0, .slice e1 QQ.glob.length g1, .slice e2 QQ.funs.length g2]) 3 (by kernel_rfl) ⟨PR9.out, HQ9.out⟩ (fun hHeld => ?_)
      refine takeA (i := 0) (v := ?v0n42) rfl (by kernel_rfl) (by kernel_rfl) (by kernel_rfl) (fun _ _ _ h => h) (by kernel_rfl) (by kernel_rfl) (by assumption) ?y0n42 ?r0n42
      case y0n42 => (intro w hSw; have u0 := hSw.p.cell (o := 0) rfl; have u1 := hSw.p.cell (o := 1) rfl; have u2 := hSw.p.cell (o := 2) rfl; have v0 := hSw.q.cell (o := 0) rfl; have v1 := hSw.q.cell (o := 1) rfl; have v2 := hSw.q.cell (o := 2) rfl; clear hSw; go_simp; try with_reducible rfl)
      (try simp only [Act.put, List.setIfInBounds_toArray, List.set_cons_zero, List.set_cons_succ])
      refine takeA (i := 1) (v := ?v1n43) rfl (by kernel_rfl) (by kernel_rfl) (by kernel_rfl) (fun _ _ _ h => h) (by kernel_rfl) (by kernel_rfl) (by assumption) ?y1n43 ?r1n43
      case y1n43 => (intro w hSw; have u0 := hSw.p.cell (o := 0) rfl; have u1 := hSw.p.cell (o := 1) rfl; have u2 := hSw.p.cell (o := 2) rfl; have v0 := hSw.q.cell (o := 0) rfl; have v1 := hSw.q.cell (o := 1) rfl; have v2 := hSw.q.cell (o := 2) rfl; clear hSw; go_simp; try with_reducible rfl)
      (try simp only [Act.put, List.setIfInBounds_toArray, List.set_cons_zero, List.set_cons_succ])
      refine readyA (rs := [2]) (by kernel_rfl) (by simp) ?_
      refine AllL.cons rfl (fun K hK => ?_) ?_
      · have za0 := ZA9.out.cell (o := 0) rfl
        have za1 := ZA9.out.cell (o := 1) rfl
        have za2 := ZA9.out.cell (o := 2) rfl
        have zf0 := ZA9.out.frozen 0
        have zf1 := ZA9.out.frozen 1
        have zf2 := ZA9.out.frozen 2
        go_simp
        refine hK.out _ _ ⟨((hHeld.p.other (show pb ≠ w.heap.size by omega) _ _).other (show pb ≠ w.heap.size by omega) _ _).other (show pb ≠ w.heap.size by omega) _ _, ((hHeld.q.other (show qb ≠ w.heap.size by omega) _ _).other (show qb ≠ w.heap.size by omega) _ _).other (show qb ≠ w.heap.size by omega) _ _⟩ (fun hHeld => ?_)
        clear hK K za0 za1 za2 zf0 zf1 zf2
        (try simp only [Act.put, List.setIfInBounds_toArray, List.set_cons_zero, List.set_cons_succ])
        refine readyA (rs := [3]) (by kernel_rfl) (by simp) ?_
        refine AllL.last rfl (fun K hK => ?_)
        have zb0 := ZB9.out.cell (o := 0) rfl
        have zb1 := ZB9.out.cell (o := 1) rfl
        have zb2 := ZB9.out.cell (o := 2) rfl
        have zg0 := ZB9.out.frozen 0
        have zg1 := ZB9.out.frozen 1
        have zg2 := ZB9.out.frozen 2
        go_simp
        refine hK.out _ _ ?_
        clear hK K zb0 zb1 zb2 zg0 zg1 zg2
        (try simp only [Act.put, List.setIfInBounds_toArray, List.set_cons_zero, List.set_cons_succ])
        refine doneA (by kernel_rfl) ?_ _
        obtain ⟨ra0, ra1, ra2, rc0, rc1, rc2, sm9, hBL, fz⟩ := six9 (.slice a0 ts.length c0) (.slice a1 gl.length c1) (.slice a2 fs.length c2) (.slice e0 QQ.types.length g0) (.slice e1 QQ.glob.length g1) (.slice e2 QQ.funs.length g2) ZA9.out ZB9.out (BB1.out.trans (OW9.out.below (B := w.heap.size) (by omega) (by omega)))
        have HSM := hide sm9
        have HBL := hide hBL
        have HFZ := hide fz
        clear sm9 hBL fz hHeld
        go_wp2_with fail
        refine bodyPost_ret (v := .tuple #[.agg #[.slice a0 ts.length c0, .slice a1 gl.length c1, .slice a2 fs.length c2], .agg #[.slice e0 QQ.types.length g0, .slice e1 QQ.glob.length g1, .slice e2 QQ.funs.length g2]]) (by simp [results, Tryz.results11, go_sem, *]) rfl ⟨⟨ts, gl, fs⟩, QQ, a0, a1, a2, c0, c1, c2, e0, e1, e2, g0, g1, g2, rfl, ps_src S9.out HSM.out HFZ.out HBL.out (by omega) (by omega) HQB.out hc0 hc2, ps_parts HG9.out HF9.out HU9.out HSM.out HFZ.out HBL.out (by omega) (Nat.le_refl _) HQB9.out hle9 hlf9, HQB.out⟩
      exact AllL.nil
    · have LP : RSt w5 L1 h2 qb rb fs.length x xs (.slice (some ⟨gB, 0, none⟩) (fs.length + 1) cap6) 1 (xs ++ [.slice x0 tk.length y0, .int .i64 gk, .int .i64 go, .bool gm, .slice x4 ow.length y4, .slice x5 bd.length y5]) (w6.setCell ⟨qb, 2, none⟩ (.slice (some ⟨gB, 0, none⟩) (fs.length + 1) cap6)) := LA.out.push xn QA.out hown6 hgr6 hat6 (fun t ht => by
        have ht' : t = 0 ∨ t = 1 ∨ t = 2 ∨ t = 3 ∨ t = 4 ∨ t = 5 := by omega
        rcases ht' with rfl | rfl | rfl | rfl | rfl | rfl
        · exact HX.out.e0.symm
        · exact HX.out.e1.symm
        · exact HX.out.e2.symm
        · exact HX.out.e3.symm
        · exact HX.out.e4.symm
        · exact HX.out.e5.symm)
      have QFIN : QFin L1 qb (w6.setCell ⟨qb, 2, none⟩ (.slice (some ⟨gB, 0, none⟩) (fs.length + 1) cap6)) := RSt.fin Q5.out HQB.out RW5.out LP xn (by show fs.length + 1 ≤ 1000; omega) (Q6'.out.set 2 _)
      clear LP e2' e2f f0 f1' f2 f3' f4 f5
      obtain ⟨QQ, e0, e1, e2, g0, g1, g2, hq9, hG9, hF9, hU9, hQB9, hle9, hlf9⟩ := QFIN
      have ON9 := hide ((((ON5.out.drewN 1).alloc (.cells #[.slice x0 tk.length y0, .int .i64 gk, .int .i64 go, .bool gm, .slice x4 ow.length y4, .slice x5 bd.length y5] 36)).grown hgr6 (fun q hq => by have := owns_base RA.out q hq; omega)).set (b := qb) (by omega) 2 (.slice (some ⟨gB, 0, none⟩) (fs.length + 1) cap6))
      have HQ9 := hide hq9
      have HG9 := hide hG9
      have HF9 := hide hF9
      have HU9 := hide hU9
      have HQB9 := hide hQB9
      clear hq9 hG9 hF9 hU9 hQB9 q0 q1 q2 qf0 qf1 qf2
      generalize hW9 : (w6.setCell ⟨qb, 2, none⟩ (.slice (some ⟨gB, 0, none⟩) (fs.length + 1) cap6)) = W9 at *
      clear hW9
      have PR9 := hide (PR3.out.only ON9.out (by omega))
      have ZA9 := hide (ZA3.out.only ON9.out (by omega))
      have ZB9 := hide (ZB3.out.only ON9.out (by omega))
      have S9 := hide (S3.out.only ON9.out (by omega))
      have l9 := HQ9.out.lt
      have lp9 := PR9.out.lt
      have OW9 := hide (O3.out.trans ON9.out)
      have sz9 : L1 ≤ W9.heap.size := by have := ON9.out.size; omega
      go_wp2_with fail
      refine beginA (S := S19 pb qb [.slice a0 ts.length c0, .slice a1 gl.length c1, .slice a2 fs.length c2] [.slice e0 QQ.types.length g0, .slice e1 QQ.glob.length g1, .slice e2 QQ.funs.length g2]) 3 (by kernel_rfl) ⟨PR9.out, HQ9.out⟩ (fun hHeld => ?_)
      refine takeA (i := 0) (v := ?v0n44) rfl (by kernel_rfl) (by kernel_rfl) (by kernel_rfl) (fun _ _ _ h => h) (by kernel_rfl) (by kernel_rfl) (by assumption) ?y0n44 ?r0n44
      case y0n44 => (intro w hSw; have u0 := hSw.p.cell (o := 0) rfl; have u1 := hSw.p.cell (o := 1) rfl; have u2 := hSw.p.cell (o := 2) rfl; have v0 := hSw.q.cell (o := 0) rfl; have v1 := hSw.q.cell (o := 1) rfl; have v2 := hSw.q.cell (o := 2) rfl; clear hSw; go_simp; try with_reducible rfl)
      (try simp only [Act.put, List.setIfInBounds_toArray, List.set_cons_zero, List.set_cons_succ])
      refine takeA (i := 1) (v := ?v1n45) rfl (by kernel_rfl) (by kernel_rfl) (by kernel_rfl) (fun _ _ _ h => h) (by kernel_rfl) (by kernel_rfl) (by assumption) ?y1n45 ?r1n45
      case y1n45 => (intro w hSw; have u0 := hSw.p.cell (o := 0) rfl; have u1 := hSw.p.cell (o := 1) rfl; have u2 := hSw.p.cell (o := 2) rfl; have v0 := hSw.q.cell (o := 0) rfl; have v1 := hSw.q.cell (o := 1) rfl; have v2 := hSw.q.cell (o := 2) rfl; clear hSw; go_simp; try with_reducible rfl)
      (try simp only [Act.put, List.setIfInBounds_toArray, List.set_cons_zero, List.set_cons_succ])
      refine readyA (rs := [2]) (by kernel_rfl) (by simp) ?_
      refine AllL.cons rfl (fun K hK => ?_) ?_
      · have za0 := ZA9.out.cell (o := 0) rfl
        have za1 := ZA9.out.cell (o := 1) rfl
        have za2 := ZA9.out.cell (o := 2) rfl
        have zf0 := ZA9.out.frozen 0
        have zf1 := ZA9.out.frozen 1
        have zf2 := ZA9.out.frozen 2
        go_simp
        refine hK.out _ _ ⟨((hHeld.p.other (show pb ≠ w.heap.size by omega) _ _).other (show pb ≠ w.heap.size by omega) _ _).other (show pb ≠ w.heap.size by omega) _ _, ((hHeld.q.other (show qb ≠ w.heap.size by omega) _ _).other (show qb ≠ w.heap.size by omega) _ _).other (show qb ≠ w.heap.size by omega) _ _⟩ (fun hHeld => ?_)
        clear hK K za0 za1 za2 zf0 zf1 zf2
        (try simp only [Act.put, List.setIfInBounds_toArray, List.set_cons_zero, List.set_cons_succ])
        refine readyA (rs := [3]) (by kernel_rfl) (by simp) ?_
        refine AllL.last rfl (fun K hK => ?_)
        have zb0 := ZB9.out.cell (o := 0) rfl
        have zb1 := ZB9.out.cell (o := 1) rfl
        have zb2 := ZB9.out.cell (o := 2) rfl
        have zg0 := ZB9.out.frozen 0
        have zg1 := ZB9.out.frozen 1
        have zg2 := ZB9.out.frozen 2
        go_simp
        refine hK.out _ _ ?_
        clear hK K zb0 zb1 zb2 zg0 zg1 zg2
        (try simp only [Act.put, List.setIfInBounds_toArray, List.set_cons_zero, List.set_cons_succ])
        refine doneA (by kernel_rfl) ?_ _
        obtain ⟨ra0, ra1, ra2, rc0, rc1, rc2, sm9, hBL, fz⟩ := six9 (.slice a0 ts.length c0) (.slice a1 gl.length c1) (.slice a2 fs.length c2) (.slice e0 QQ.types.length g0) (.slice e1 QQ.glob.length g1) (.slice e2 QQ.funs.length g2) ZA9.out ZB9.out (BB1.out.trans (OW9.out.below (B := w.heap.size) (by omega) (by omega)))
        have HSM := hide sm9
        have HBL := hide hBL
        have HFZ := hide fz
        clear sm9 hBL fz hHeld
        go_wp2_with fail
        refine bodyPost_ret (v := .tuple #[.agg #[.slice a0 ts.length c0, .slice a1 gl.length c1, .slice a2 fs.length c2], .agg #[.slice e0 QQ.types.length g0, .slice e1 QQ.glob.length g1, .slice e2 QQ.funs.length g2]]) (by simp [results, Tryz.results11, go_sem, *]) rfl ⟨⟨ts, gl, fs⟩, QQ, a0, a1, a2, c0, c1, c2, e0, e1, e2, g0, g1, g2, rfl, ps_src S9.out HSM.out HFZ.out HBL.out (by omega) (by omega) HQB.out hc0 hc2, ps_parts HG9.out HF9.out HU9.out HSM.out HFZ.out HBL.out (by omega) (Nat.le_refl _) HQB9.out hle9 hlf9, HQB.out⟩
      exact AllL.nil
    · have LP : RSt w5 L1 h2 qb rb fs.length x xs (.slice (some ⟨gB, 0, none⟩) (fs.length + 1) cap6) 1 (xs ++ [.slice x0 tk.length y0, .int .i64 gk, .int .i64 go, .bool gm, .slice x4 ow.length y4, .slice x5 bd.length y5]) (w6.setCell ⟨qb, 2, none⟩ (.slice (some ⟨gB, 0, none⟩) (fs.length + 1) cap6)) := LA.out.push xn QA.out hown6 hgr6 hat6 (fun t ht => by
        have ht' : t = 0 ∨ t = 1 ∨ t = 2 ∨ t = 3 ∨ t = 4 ∨ t = 5 := by omega
        rcases ht' with rfl | rfl | rfl | rfl | rfl | rfl
        · exact HX.out.e0.symm
        · exact HX.out.e1.symm
        · exact HX.out.e2.symm
        · exact HX.out.e3.symm
        · exact HX.out.e4.symm
        · exact HX.out.e5.symm)
      have QFIN : QFin L1 qb (w6.setCell ⟨qb, 2, none⟩ (.slice (some ⟨gB, 0, none⟩) (fs.length + 1) cap6)) := RSt.fin Q5.out HQB.out RW5.out LP xn (by show fs.length + 1 ≤ 1000; omega) (Q6'.out.set 2 _)
      clear LP e2' e2f f0 f1' f2 f3' f4 f5
      obtain ⟨QQ, e0, e1, e2, g0, g1, g2, hq9, hG9, hF9, hU9, hQB9, hle9, hlf9⟩ := QFIN
      have ON9 := hide ((((ON5.out.drewN 1).alloc (.cells #[.slice x0 tk.length y0, .int .i64 gk, .int .i64 go, .bool gm, .slice x4 ow.length y4, .slice x5 bd.length y5] 36)).grown hgr6 (fun q hq => by have := owns_base RA.out q hq; omega)).set (b := qb) (by omega) 2 (.slice (some ⟨gB, 0, none⟩) (fs.length + 1) cap6))
      have HQ9 := hide hq9
      have HG9 := hide hG9
      have HF9 := hide hF9
      have HU9 := hide hU9
      have HQB9 := hide hQB9
      clear hq9 hG9 hF9 hU9 hQB9 q0 q1 q2 qf0 qf1 qf2
      generalize hW9 : (w6.setCell ⟨qb, 2, none⟩ (.slice (some ⟨gB, 0, none⟩) (fs.length + 1) cap6)) = W9 at *
      clear hW9
      have PR9 := hide (PR3.out.only ON9.out (by omega))
      have ZA9 := hide (ZA3.out.only ON9.out (by omega))
      have ZB9 := hide (ZB3.out.only ON9.out (by omega))
      have S9 := hide (S3.out.only ON9.out (by omega))
      have l9 := HQ9.out.lt
      have lp9 := PR9.out.lt
      have OW9 := hide (O3.out.trans ON9.out)
      have sz9 : L1 ≤ W9.heap.size := by have := ON9.out.size; omega
      go_wp2_with fail
      refine beginA (S := S19 pb qb [.slice a0 ts.length c0, .slice a1 gl.length c1, .slice a2 fs.length c2] [.slice e0 QQ.types.length g0, .slice e1 QQ.glob.length g1, .slice e2 QQ.funs.length g2]) 3 (by kernel_rfl) ⟨PR9.out, HQ9.out⟩ (fun hHeld => ?_)
      refine takeA (i := 0) (v := ?v0n46) rfl (by kernel_rfl) (by kernel_rfl) (by kernel_rfl) (fun _ _ _ h => h) (by kernel_rfl) (by kernel_rfl) (by assumption) ?y0n46 ?r0n46
      case y0n46 => (intro w hSw; have u0 := hSw.p.cell (o := 0) rfl; have u1 := hSw.p.cell (o := 1) rfl; have u2 := hSw.p.cell (o := 2) rfl; have v0 := hSw.q.cell (o := 0) rfl; have v1 := hSw.q.cell (o := 1) rfl; have v2 := hSw.q.cell (o := 2) rfl; clear hSw; go_simp; try with_reducible rfl)
      (try simp only [Act.put, List.setIfInBounds_toArray, List.set_cons_zero, List.set_cons_succ])
      refine takeA (i := 1) (v := ?v1n47) rfl (by kernel_rfl) (by kernel_rfl) (by kernel_rfl) (fun _ _ _ h => h) (by kernel_rfl) (by kernel_rfl) (by assumption) ?y1n47 ?r1n47
      case y1n47 => (intro w hSw; have u0 := hSw.p.cell (o := 0) rfl; have u1 := hSw.p.cell (o := 1) rfl; have u2 := hSw.p.cell (o := 2) rfl; have v0 := hSw.q.cell (o := 0) rfl; have v1 := hSw.q.cell (o := 1) rfl; have v2 := hSw.q.cell (o := 2) rfl; clear hSw; go_simp; try with_reducible rfl)
      (try simp only [Act.put, List.setIfInBounds_toArray, List.set_cons_zero, List.set_cons_succ])
      refine readyA (rs := [2]) (by kernel_rfl) (by simp) ?_
      refine AllL.cons rfl (fun K hK => ?_) ?_
      · have za0 := ZA9.out.cell (o := 0) rfl
        have za1 := ZA9.out.cell (o := 1) rfl
        have za2 := ZA9.out.cell (o := 2) rfl
        have zf0 := ZA9.out.frozen 0
        have zf1 := ZA9.out.frozen 1
        have zf2 := ZA9.out.frozen 2
        go_simp
        refine hK.out _ _ ⟨((hHeld.p.other (show pb ≠ w.heap.size by omega) _ _).other (show pb ≠ w.heap.size by omega) _ _).other (show pb ≠ w.heap.size by omega) _ _, ((hHeld.q.other (show qb ≠ w.heap.size by omega) _ _).other (show qb ≠ w.heap.size by omega) _ _).other (show qb ≠ w.heap.size by omega) _ _⟩ (fun hHeld => ?_)
        clear hK K za0 za1 za2 zf0 zf1 zf2
        (try simp only [Act.put, List.setIfInBounds_toArray, List.set_cons_zero, List.set_cons_succ])
        refine readyA (rs := [3]) (by kernel_rfl) (by simp) ?_
        refine AllL.last rfl (fun K hK => ?_)
        have zb0 := ZB9.out.cell (o := 0) rfl
        have zb1 := ZB9.out.cell (o := 1) rfl
        have zb2 := ZB9.out.cell (o := 2) rfl
        have zg0 := ZB9.out.frozen 0
        have zg1 := ZB9.out.frozen 1
        have zg2 := ZB9.out.frozen 2
        go_simp
        refine hK.out _ _ ?_
        clear hK K zb0 zb1 zb2 zg0 zg1 zg2
        (try simp only [Act.put, List.setIfInBounds_toArray, List.set_cons_zero, List.set_cons_succ])
        refine doneA (by kernel_rfl) ?_ _
        obtain ⟨ra0, ra1, ra2, rc0, rc1, rc2, sm9, hBL, fz⟩ := six9 (.slice a0 ts.length c0) (.slice a1 gl.length c1) (.slice a2 fs.length c2) (.slice e0 QQ.types.length g0) (.slice e1 QQ.glob.length g1) (.slice e2 QQ.funs.length g2) ZA9.out ZB9.out (BB1.out.trans (OW9.out.below (B := w.heap.size) (by omega) (by omega)))
        have HSM := hide sm9
        have HBL := hide hBL
        have HFZ := hide fz
        clear sm9 hBL fz hHeld
        go_wp2_with fail
        refine bodyPost_ret (v := .tuple #[.agg #[.slice a0 ts.length c0, .slice a1 gl.length c1, .slice a2 fs.length c2], .agg #[.slice e0 QQ.types.length g0, .slice e1 QQ.glob.length g1, .slice e2 QQ.funs.length g2]]) (by simp [results, Tryz.results11, go_sem, *]) rfl ⟨⟨ts, gl, fs⟩, QQ, a0, a1, a2, c0, c1, c2, e0, e1, e2, g0, g1, g2, rfl, ps_src S9.out HSM.out HFZ.out HBL.out (by omega) (by omega) HQB.out hc0 hc2, ps_parts HG9.out HF9.out HU9.out HSM.out HFZ.out HBL.out (by omega) (Nat.le_refl _) HQB9.out hle9 hlf9, HQB.out⟩
      exact AllL.nil
    · have LP : RSt w5 L1 h2 qb rb fs.length x xs (.slice (some ⟨gB, 0, none⟩) (fs.length + 1) cap6) 1 (xs ++ [.slice x0 tk.length y0, .int .i64 gk, .int .i64 go, .bool gm, .slice x4 ow.length y4, .slice x5 bd.length y5]) (w6.setCell ⟨qb, 2, none⟩ (.slice (some ⟨gB, 0, none⟩) (fs.length + 1) cap6)) := LA.out.push xn QA.out hown6 hgr6 hat6 (fun t ht => by
        have ht' : t = 0 ∨ t = 1 ∨ t = 2 ∨ t = 3 ∨ t = 4 ∨ t = 5 := by omega
        rcases ht' with rfl | rfl | rfl | rfl | rfl | rfl
        · exact HX.out.e0.symm
        · exact HX.out.e1.symm
        · exact HX.out.e2.symm
        · exact HX.out.e3.symm
        · exact HX.out.e4.symm
        · exact HX.out.e5.symm)
      have QFIN : QFin L1 qb (w6.setCell ⟨qb, 2, none⟩ (.slice (some ⟨gB, 0, none⟩) (fs.length + 1) cap6)) := RSt.fin Q5.out HQB.out RW5.out LP xn (by show fs.length + 1 ≤ 1000; omega) (Q6'.out.set 2 _)
      clear LP e2' e2f f0 f1' f2 f3' f4 f5
      obtain ⟨QQ, e0, e1, e2, g0, g1, g2, hq9, hG9, hF9, hU9, hQB9, hle9, hlf9⟩ := QFIN
      have ON9 := hide ((((ON5.out.drewN 1).alloc (.cells #[.slice x0 tk.length y0, .int .i64 gk, .int .i64 go, .bool gm, .slice x4 ow.length y4, .slice x5 bd.length y5] 36)).grown hgr6 (fun q hq => by have := owns_base RA.out q hq; omega)).set (b := qb) (by omega) 2 (.slice (some ⟨gB, 0, none⟩) (fs.length + 1) cap6))
      have HQ9 := hide hq9
      have HG9 := hide hG9
      have HF9 := hide hF9
      have HU9 := hide hU9
      have HQB9 := hide hQB9
      clear hq9 hG9 hF9 hU9 hQB9 q0 q1 q2 qf0 qf1 qf2
      generalize hW9 : (w6.setCell ⟨qb, 2, none⟩ (.slice (some ⟨gB, 0, none⟩) (fs.length + 1) cap6)) = W9 at *
      clear hW9
      have PR9 := hide (PR3.out.only ON9.out (by omega))
      have ZA9 := hide (ZA3.out.only ON9.out (by omega))
      have ZB9 := hide (ZB3.out.only ON9.out (by omega))
      have S9 := hide (S3.out.only ON9.out (by omega))
      have l9 := HQ9.out.lt
      have lp9 := PR9.out.lt
      have OW9 := hide (O3.out.trans ON9.out)
      have sz9 : L1 ≤ W9.heap.size := by have := ON9.out.size; omega
      go_wp2_with fail
      refine beginA (S := S19 pb qb [.slice a0 ts.length c0, .slice a1 gl.length c1, .slice a2 fs.length c2] [.slice e0 QQ.types.length g0, .slice e1 QQ.glob.length g1, .slice e2 QQ.funs.length g2]) 3 (by kernel_rfl) ⟨PR9.out, HQ9.out⟩ (fun hHeld => ?_)
      refine takeA (i := 0) (v := ?v0n48) rfl (by kernel_rfl) (by kernel_rfl) (by kernel_rfl) (fun _ _ _ h => h) (by kernel_rfl) (by kernel_rfl) (by assumption) ?y0n48 ?r0n48
      case y0n48 => (intro w hSw; have u0 := hSw.p.cell (o := 0) rfl; have u1 := hSw.p.cell (o := 1) rfl; have u2 := hSw.p.cell (o := 2) rfl; have v0 := hSw.q.cell (o := 0) rfl; have v1 := hSw.q.cell (o := 1) rfl; have v2 := hSw.q.cell (o := 2) rfl; clear hSw; go_simp; try with_reducible rfl)
      (try simp only [Act.put, List.setIfInBounds_toArray, List.set_cons_zero, List.set_cons_succ])
      refine takeA (i := 1) (v := ?v1n49) rfl (by kernel_rfl) (by kernel_rfl) (by kernel_rfl) (fun _ _ _ h => h) (by kernel_rfl) (by kernel_rfl) (by assumption) ?y1n49 ?r1n49
      case y1n49 => (intro w hSw; have u0 := hSw.p.cell (o := 0) rfl; have u1 := hSw.p.cell (o := 1) rfl; have u2 := hSw.p.cell (o := 2) rfl; have v0 := hSw.q.cell (o := 0) rfl; have v1 := hSw.q.cell (o := 1) rfl; have v2 := hSw.q.cell (o := 2) rfl; clear hSw; go_simp; try with_reducible rfl)
      (try simp only [Act.put, List.setIfInBounds_toArray, List.set_cons_zero, List.set_cons_succ])
      refine readyA (rs := [2]) (by kernel_rfl) (by simp) ?_
      refine AllL.cons rfl (fun K hK => ?_) ?_
      · have za0 := ZA9.out.cell (o := 0) rfl
        have za1 := ZA9.out.cell (o := 1) rfl
        have za2 := ZA9.out.cell (o := 2) rfl
        have zf0 := ZA9.out.frozen 0
        have zf1 := ZA9.out.frozen 1
        have zf2 := ZA9.out.frozen 2
        go_simp
        refine hK.out _ _ ⟨((hHeld.p.other (show pb ≠ w.heap.size by omega) _ _).other (show pb ≠ w.heap.size by omega) _ _).other (show pb ≠ w.heap.size by omega) _ _, ((hHeld.q.other (show qb ≠ w.heap.size by omega) _ _).other (show qb ≠ w.heap.size by omega) _ _).other (show qb ≠ w.heap.size by omega) _ _⟩ (fun hHeld => ?_)
        clear hK K za0 za1 za2 zf0 zf1 zf2
        (try simp only [Act.put, List.setIfInBounds_toArray, List.set_cons_zero, List.set_cons_succ])
        refine readyA (rs := [3]) (by kernel_rfl) (by simp) ?_
        refine AllL.last rfl (fun K hK => ?_)
        have zb0 := ZB9.out.cell (o := 0) rfl
        have zb1 := ZB9.out.cell (o := 1) rfl
        have zb2 := ZB9.out.cell (o := 2) rfl
        have zg0 := ZB9.out.frozen 0
        have zg1 := ZB9.out.frozen 1
        have zg2 := ZB9.out.frozen 2
        go_simp
        refine hK.out _ _ ?_
        clear hK K zb0 zb1 zb2 zg0 zg1 zg2
        (try simp only [Act.put, List.setIfInBounds_toArray, List.set_cons_zero, List.set_cons_succ])
        refine doneA (by kernel_rfl) ?_ _
        obtain ⟨ra0, ra1, ra2, rc0, rc1, rc2, sm9, hBL, fz⟩ := six9 (.slice a0 ts.length c0) (.slice a1 gl.length c1) (.slice a2 fs.length c2) (.slice e0 QQ.types.length g0) (.slice e1 QQ.glob.length g1) (.slice e2 QQ.funs.length g2) ZA9.out ZB9.out (BB1.out.trans (OW9.out.below (B := w.heap.size) (by omega) (by omega)))
        have HSM := hide sm9
        have HBL := hide hBL
        have HFZ := hide fz
        clear sm9 hBL fz hHeld
        go_wp2_with fail
        refine bodyPost_ret (v := .tuple #[.agg #[.slice a0 ts.length c0, .slice a1 gl.length c1, .slice a2 fs.length c2], .agg #[.slice e0 QQ.types.length g0, .slice e1 QQ.glob.length g1, .slice e2 QQ.funs.length g2]]) (by simp [results, Tryz.results11, go_sem, *]) rfl ⟨⟨ts, gl, fs⟩, QQ, a0, a1, a2, c0, c1, c2, e0, e1, e2, g0, g1, g2, rfl, ps_src S9.out HSM.out HFZ.out HBL.out (by omega) (by omega) HQB.out hc0 hc2, ps_parts HG9.out HF9.out HU9.out HSM.out HFZ.out HBL.out (by omega) (Nat.le_refl _) HQB9.out hle9 hlf9, HQB.out⟩
      exact AllL.nil
  · obtain ⟨i2, hi2, hzz⟩ := Option.map_eq_some_iff.1 Tryz.infoField
    simp only [Prod.mk.injEq] at hzz
    obtain ⟨hz2, hs2, hb2⟩ := hzz
    have KI := hide hi2
    have KZ := hide hz2
    have KS := hide hs2
    have KB := hide hb2
    clear hi2 hz2 hs2 hb2
    have QA := hide (Q5.out.only ((Only.refl (w.heap.size + 1 + 1) w5).alloc (.cells #[.int .i64 0, .int .i64 0, .bool false] 33)) (by omega))
    have GLA := hide (QA.out.gl.1)
    go_wp2_with (first | (at_builtin; refine wpList_append_lies _ rfl _ _ 24 rfl L1 33 i2 _ 3 24 Tryz.underlying24 KI.out KZ.out KS.out KB.out rfl (by decide) (.slice b1 gl.length d1) gl.length (fcells gl) rfl GLA.out ⟨w5.heap.size, 0, none⟩ 1 1 [.int .i64 0, .int .i64 0, .bool false] rfl rfl (World.news_of_block (Deep.blk_alloc_new _ _)) (by intro u hu; simp at hu; rcases hu with rfl | rfl | rfl <;> rfl) (by decide) (by unfold maxLen; omega) (by omega) (by simp; omega) _ rfl ?_))
    intro gB cap6 w6 hown6 hgr6 hat6 hlt6
    have QFIN : QFin L1 qb (w6.setCell ⟨qb, 1, none⟩ (.slice (some ⟨gB, 0, none⟩) (gl.length + 1) cap6)) := QA.out.moreGlob (f := ⟨0, 0, false⟩) HQB.out (by show gl.length < 1000; omega) (by unfold FdRow; rw [fcells_snoc]; simpa using hown6) hgr6 QA.out.gl.2 (by
      rcases hat6 with h | h
      · exact .inl (QA.out.gl.2 gB h)
      · exact .inr (by rw [h]; simp))
    have V6 := QA.out.q.grown hgr6 (fun e => by have := QA.out.gl.2 _ e.symm; omega)
    have e1' := V6.cell (o := 1) rfl
    have e1f := V6.frozen 1
    clear V6
    go_upto_region 19 with fail
    clear e1' e1f
    obtain ⟨QQ, e0, e1, e2, g0, g1, g2, hq9, hG9, hF9, hU9, hQB9, hle9, hlf9⟩ := QFIN
    have ON9 := hide (((ON5.out.alloc (.cells #[.int .i64 0, .int .i64 0, .bool false] 33)).grown hgr6 (fun q hq => by have := owns_base GLA.out q hq; omega)).set (b := qb) (by omega) 1 (.slice (some ⟨gB, 0, none⟩) (gl.length + 1) cap6))
    have HQ9 := hide hq9
    have HG9 := hide hG9
    have HF9 := hide hF9
    have HU9 := hide hU9
    have HQB9 := hide hQB9
    clear hq9 hG9 hF9 hU9 hQB9 q0 q1 q2 qf0 qf1 qf2
    generalize hW9 : (w6.setCell ⟨qb, 1, none⟩ (.slice (some ⟨gB, 0, none⟩) (gl.length + 1) cap6)) = W9 at *
    clear hW9
    have PR9 := hide (PR3.out.only ON9.out (by omega))
    have ZA9 := hide (ZA3.out.only ON9.out (by omega))
    have ZB9 := hide (ZB3.out.only ON9.out (by omega))
    have S9 := hide (S3.out.only ON9.out (by omega))
    have l9 := HQ9.out.lt
    have lp9 := PR9.out.lt
    have OW9 := hide (O3.out.trans ON9.out)
    have sz9 : L1 ≤ W9.heap.size := by have := ON9.out.size; omega
    go_wp2_with fail
    refine beginA (S := S19 pb qb [.slice a0 ts.length c0, .slice a1 gl.length c1, .slice a2 fs.length c2] [.slice e0 QQ.types.length g0, .slice e1 QQ.glob.length g1, .slice e2 QQ.funs.length g2]) 3 (by kernel_rfl) ⟨PR9.out, HQ9.out⟩ (fun hHeld => ?_)
    refine takeA (i := 0) (v := ?v0n38) rfl (by kernel_rfl) (by kernel_rfl) (by kernel_rfl) (fun _ _ _ h => h) (by kernel_rfl) (by kernel_rfl) (by assumption) ?y0n38 ?r0n38
    case y0n38 => (intro w hSw; have u0 := hSw.p.cell (o := 0) rfl; have u1 := hSw.p.cell (o := 1) rfl; have u2 := hSw.p.cell (o := 2) rfl; have v0 := hSw.q.cell (o := 0) rfl; have v1 := hSw.q.cell (o := 1) rfl; have v2 := hSw.q.cell (o := 2) rfl; clear hSw; go_simp; try with_reducible rfl)
    (try simp only [Act.put, List.setIfInBounds_toArray, List.set_cons_zero, List.set_cons_succ])
    refine takeA (i := 1) (v := ?v1n39) rfl (by kernel_rfl) (by kernel_rfl) (by kernel_rfl) (fun _ _ _ h => h) (by kernel_rfl) (by kernel_rfl) (by assumption) ?y1n39 ?r1n39
    case y1n39 => (intro w hSw; have u0 := hSw.p.cell (o := 0) rfl; have u1 := hSw.p.cell (o := 1) rfl; have u2 := hSw.p.cell (o := 2) rfl; have v0 := hSw.q.cell (o := 0) rfl; have v1 := hSw.q.cell (o := 1) rfl; have v2 := hSw.q.cell (o := 2) rfl; clear hSw; go_simp; try with_reducible rfl)
    (try simp only [Act.put, List.setIfInBounds_toArray, List.set_cons_zero, List.set_cons_succ])
    refine readyA (rs := [2]) (by kernel_rfl) (by simp) ?_
    refine AllL.cons rfl (fun K hK => ?_) ?_
    · have za0 := ZA9.out.cell (o := 0) rfl
      have za1 := ZA9.out.cell (o := 1) rfl
      have za2 := ZA9.out.cell (o := 2) rfl
      have zf0 := ZA9.out.frozen 0
      have zf1 := ZA9.out.frozen 1
      have zf2 := ZA9.out.frozen 2
      go_simp
      refine hK.out _ _ ⟨((hHeld.p.other (show pb ≠ w.heap.size by omega) _ _).other (show pb ≠ w.heap.size by omega) _ _).other (show pb ≠ w.heap.size by omega) _ _, ((hHeld.q.other (show qb ≠ w.heap.size by omega) _ _).other (show qb ≠ w.heap.size by omega) _ _).other (show qb ≠ w.heap.size by omega) _ _⟩ (fun hHeld => ?_)
      clear hK K za0 za1 za2 zf0 zf1 zf2
      (try simp only [Act.put, List.setIfInBounds_toArray, List.set_cons_zero, List.set_cons_succ])
      refine readyA (rs := [3]) (by kernel_rfl) (by simp) ?_
      refine AllL.last rfl (fun K hK => ?_)
      have zb0 := ZB9.out.cell (o := 0) rfl
      have zb1 := ZB9.out.cell (o := 1) rfl
      have zb2 := ZB9.out.cell (o := 2) rfl
      have zg0 := ZB9.out.frozen 0
      have zg1 := ZB9.out.frozen 1
      have zg2 := ZB9.out.frozen 2
      go_simp
      refine hK.out _ _ ?_
      clear hK K zb0 zb1 zb2 zg0 zg1 zg2
      (try simp only [Act.put, List.setIfInBounds_toArray, List.set_cons_zero, List.set_cons_succ])
      refine doneA (by kernel_rfl) ?_ _
      obtain ⟨ra0, ra1, ra2, rc0, rc1, rc2, sm9, hBL, fz⟩ := six9 (.slice a0 ts.length c0) (.slice a1 gl.length c1) (.slice a2 fs.length c2) (.slice e0 QQ.types.length g0) (.slice e1 QQ.glob.length g1) (.slice e2 QQ.funs.length g2) ZA9.out ZB9.out (BB1.out.trans (OW9.out.below (B := w.heap.size) (by omega) (by omega)))
      have HSM := hide sm9
      have HBL := hide hBL
      have HFZ := hide fz
      clear sm9 hBL fz hHeld
      go_wp2_with fail
      refine bodyPost_ret (v := .tuple #[.agg #[.slice a0 ts.length c0, .slice a1 gl.length c1, .slice a2 fs.length c2], .agg #[.slice e0 QQ.types.length g0, .slice e1 QQ.glob.length g1, .slice e2 QQ.funs.length g2]]) (by simp [results, Tryz.results11, go_sem, *]) rfl ⟨⟨ts, gl, fs⟩, QQ, a0, a1, a2, c0, c1, c2, e0, e1, e2, g0, g1, g2, rfl, ps_src S9.out HSM.out HFZ.out HBL.out (by omega) (by omega) HQB.out hc0 hc2, ps_parts HG9.out HF9.out HU9.out HSM.out HFZ.out HBL.out (by omega) (Nat.le_refl _) HQB9.out hle9 hlf9, HQB.out⟩
    exact AllL.nil
  · obtain ⟨i2, hi2, hzz⟩ := Option.map_eq_some_iff.1 Tryz.infoTypeS
    simp only [Prod.mk.injEq] at hzz
    obtain ⟨hz2, hs2, hb2⟩ := hzz
    have KI := hide hi2
    have KZ := hide hz2
    have KS := hide hs2
    have KB := hide hb2
    clear hi2 hz2 hs2 hb2
    have QA := hide (Q5.out.only (((Only.refl (w.heap.size + 1 + 1) w5).alloc (.cells #[] 44)).alloc (.cells #[.slice (some ⟨w5.heap.size, 0, none⟩) 0 0] 42)) (by omega))
    have EA : Hid (EmpAt ((w5.alloc (.cells #[] 44)).alloc (.cells #[.slice (some ⟨w5.heap.size, 0, none⟩) 0 0] 42)) w5.heap.size 44) := (EmpAt.new _ _ _ rfl).alloc _
    obtain ⟨xs', hro, hT⟩ := QA.out.gr
    have GRA := hide hro
    have HT := hide hT
    clear hro hT
    simp only at GRA HT
    go_wp2_with (first | (at_builtin; refine wpList_append_lies _ rfl _ _ 23 rfl h1 42 i2 _ 1 24 Tryz.underlying23 KI.out KZ.out KS.out KB.out rfl (by decide) (.slice b0 ts.length d0) ts.length xs' rfl GRA.out ⟨w5.heap.size + 1, 0, none⟩ 1 1 [.slice (some ⟨w5.heap.size, 0, none⟩) 0 0] rfl rfl (by have := World.news_of_block (Deep.blk_alloc_new (w5.alloc (.cells #[] 44)) (.cells #[.slice (some ⟨w5.heap.size, 0, none⟩) 0 0] 42)); simpa using this) (by intro u hu; simp at hu; subst hu; rfl) (by decide) (by unfold maxLen; omega) (by omega) (by simp; omega) _ rfl ?_))
    intro gB cap6 w6 hown6 hgr6 hat6 hlt6
    have QFIN : QFin L1 qb (w6.setCell ⟨qb, 0, none⟩ (.slice (some ⟨gB, 0, none⟩) (ts.length + 1) cap6)) := QA.out.moreTypes HQB.out (by show ts.length < 1000; omega) GRA.out HT.out EA.out (by omega) hown6 hgr6
    have V6 := QA.out.q.grown hgr6 (fun e => by exact prog_type_ne QA.out.q GRA.out e)
    have e1' := V6.cell (o := 0) rfl
    have e1f := V6.frozen 0
    clear V6
    go_upto_region 19 with fail
    clear e1' e1f
    obtain ⟨QQ, e0, e1, e2, g0, g1, g2, hq9, hG9, hF9, hU9, hQB9, hle9, hlf9⟩ := QFIN
    have ON9 := hide ((((ON5.out.alloc (.cells #[] 44)).alloc (.cells #[.slice (some ⟨w5.heap.size, 0, none⟩) 0 0] 42)).grown hgr6 (fun q hq => by have := owns_base GRA.out q hq; omega)).set (b := qb) (by omega) 0 (.slice (some ⟨gB, 0, none⟩) (ts.length + 1) cap6))
    have HQ9 := hide hq9
    have HG9 := hide hG9
    have HF9 := hide hF9
    have HU9 := hide hU9
    have HQB9 := hide hQB9
    clear hq9 hG9 hF9 hU9 hQB9 q0 q1 q2 qf0 qf1 qf2
    generalize hW9 : (w6.setCell ⟨qb, 0, none⟩ (.slice (some ⟨gB, 0, none⟩) (ts.length + 1) cap6)) = W9 at *
    clear hW9
    have PR9 := hide (PR3.out.only ON9.out (by omega))
    have ZA9 := hide (ZA3.out.only ON9.out (by omega))
    have ZB9 := hide (ZB3.out.only ON9.out (by omega))
    have S9 := hide (S3.out.only ON9.out (by omega))
    have l9 := HQ9.out.lt
    have lp9 := PR9.out.lt
    have OW9 := hide (O3.out.trans ON9.out)
    have sz9 : L1 ≤ W9.heap.size := by have := ON9.out.size; omega
    go_wp2_with fail
    refine beginA (S := S19 pb qb [.slice a0 ts.length c0, .slice a1 gl.length c1, .slice a2 fs.length c2] [.slice e0 QQ.types.length g0, .slice e1 QQ.glob.length g1, .slice e2 QQ.funs.length g2]) 3 (by kernel_rfl) ⟨PR9.out, HQ9.out⟩ (fun hHeld => ?_)
    refine takeA (i := 0) (v := ?v0n40) rfl (by kernel_rfl) (by kernel_rfl) (by kernel_rfl) (fun _ _ _ h => h) (by kernel_rfl) (by kernel_rfl) (by assumption) ?y0n40 ?r0n40
    case y0n40 => (intro w hSw; have u0 := hSw.p.cell (o := 0) rfl; have u1 := hSw.p.cell (o := 1) rfl; have u2 := hSw.p.cell (o := 2) rfl; have v0 := hSw.q.cell (o := 0) rfl; have v1 := hSw.q.cell (o := 1) rfl; have v2 := hSw.q.cell (o := 2) rfl; clear hSw; go_simp; try with_reducible rfl)
    (try simp only [Act.put, List.setIfInBounds_toArray, List.set_cons_zero, List.set_cons_succ])
    refine takeA (i := 1) (v := ?v1n41) rfl (by kernel_rfl) (by kernel_rfl) (by kernel_rfl) (fun _ _ _ h => h) (by kernel_rfl) (by kernel_rfl) (by assumption) ?y1n41 ?r1n41
    case y1n41 => (intro w hSw; have u0 := hSw.p.cell (o := 0) rfl; have u1 := hSw.p.cell (o := 1) rfl; have u2 := hSw.p.cell (o := 2) rfl; have v0 := hSw.q.cell (o := 0) rfl; have v1 := hSw.q.cell (o := 1) rfl; have v2 := hSw.q.cell (o := 2) rfl; clear hSw; go_simp; try with_reducible rfl)
    (try simp only [Act.put, List.setIfInBounds_toArray, List.set_cons_zero, List.set_cons_succ])
    refine readyA (rs := [2]) (by kernel_rfl) (by simp) ?_
    refine AllL.cons rfl (fun K hK => ?_) ?_
    · have za0 := ZA9.out.cell (o := 0) rfl
      have za1 := ZA9.out.cell (o := 1) rfl
      have za2 := ZA9.out.cell (o := 2) rfl
      have zf0 := ZA9.out.frozen 0
      have zf1 := ZA9.out.frozen 1
      have zf2 := ZA9.out.frozen 2
      go_simp
      refine hK.out _ _ ⟨((hHeld.p.other (show pb ≠ w.heap.size by omega) _ _).other (show pb ≠ w.heap.size by omega) _ _).other (show pb ≠ w.heap.size by omega) _ _, ((hHeld.q.other (show qb ≠ w.heap.size by omega) _ _).other (show qb ≠ w.heap.size by omega) _ _).other (show qb ≠ w.heap.size by omega) _ _⟩ (fun hHeld => ?_)
      clear hK K za0 za1 za2 zf0 zf1 zf2
      (try simp only [Act.put, List.setIfInBounds_toArray, List.set_cons_zero, List.set_cons_succ])
      refine readyA (rs := [3]) (by kernel_rfl) (by simp) ?_
      refine AllL.last rfl (fun K hK => ?_)
      have zb0 := ZB9.out.cell (o := 0) rfl
      have zb1 := ZB9.out.cell (o := 1) rfl
      have zb2 := ZB9.out.cell (o := 2) rfl
      have zg0 := ZB9.out.frozen 0
      have zg1 := ZB9.out.frozen 1
      have zg2 := ZB9.out.frozen 2
      go_simp
      refine hK.out _ _ ?_
      clear hK K zb0 zb1 zb2 zg0 zg1 zg2
      (try simp only [Act.put, List.setIfInBounds_toArray, List.set_cons_zero, List.set_cons_succ])
      refine doneA (by kernel_rfl) ?_ _
      obtain ⟨ra0, ra1, ra2, rc0, rc1, rc2, sm9, hBL, fz⟩ := six9 (.slice a0 ts.length c0) (.slice a1 gl.length c1) (.slice a2 fs.length c2) (.slice e0 QQ.types.length g0) (.slice e1 QQ.glob.length g1) (.slice e2 QQ.funs.length g2) ZA9.out ZB9.out (BB1.out.trans (OW9.out.below (B := w.heap.size) (by omega) (by omega)))
      have HSM := hide sm9
      have HBL := hide hBL
      have HFZ := hide fz
      clear sm9 hBL fz hHeld
      go_wp2_with fail
      refine bodyPost_ret (v := .tuple #[.agg #[.slice a0 ts.length c0, .slice a1 gl.length c1, .slice a2 fs.length c2], .agg #[.slice e0 QQ.types.length g0, .slice e1 QQ.glob.length g1, .slice e2 QQ.funs.length g2]]) (by simp [results, Tryz.results11, go_sem, *]) rfl ⟨⟨ts, gl, fs⟩, QQ, a0, a1, a2, c0, c1, c2, e0, e1, e2, g0, g1, g2, rfl, ps_src S9.out HSM.out HFZ.out HBL.out (by omega) (by omega) HQB.out hc0 hc2, ps_parts HG9.out HF9.out HU9.out HSM.out HFZ.out HBL.out (by omega) (Nat.le_refl _) HQB9.out hle9 hlf9, HQB.out⟩
    exact AllL.nil
  · by_cases hts : ts.length = 0
    · have hts0 : decide (0 < ts.length) = false := decide_eq_false (by omega)
      have hts1 : ¬ 0 < ts.length := by omega
      have HTS := hide hts
      clear hts
      go_upto_region 19 with fail
      clear hts0 hts1
      have QFIN : QFin L1 qb w5 := Q5.out.fin HQB.out
      obtain ⟨QQ, e0, e1, e2, g0, g1, g2, hq9, hG9, hF9, hU9, hQB9, hle9, hlf9⟩ := QFIN
      have ON9 := hide ON5.out
      have HQ9 := hide hq9
      have HG9 := hide hG9
      have HF9 := hide hF9
      have HU9 := hide hU9
      have HQB9 := hide hQB9
      clear hq9 hG9 hF9 hU9 hQB9 q0 q1 q2 qf0 qf1 qf2
      have w5e : w5 = w5 := rfl
      clear w5e
      have PR9 := hide (PR3.out.only ON9.out (by omega))
      have ZA9 := hide (ZA3.out.only ON9.out (by omega))
      have ZB9 := hide (ZB3.out.only ON9.out (by omega))
      have S9 := hide (S3.out.only ON9.out (by omega))
      have l9 := HQ9.out.lt
      have lp9 := PR9.out.lt
      have Ow5 := hide (O3.out.trans ON9.out)
      have sz9 : L1 ≤ w5.heap.size := by have := ON9.out.size; omega
      go_wp2_with fail
      refine beginA (S := S19 pb qb [.slice a0 ts.length c0, .slice a1 gl.length c1, .slice a2 fs.length c2] [.slice e0 QQ.types.length g0, .slice e1 QQ.glob.length g1, .slice e2 QQ.funs.length g2]) 3 (by kernel_rfl) ⟨PR9.out, HQ9.out⟩ (fun hHeld => ?_)
      refine takeA (i := 0) (v := ?v0n65) rfl (by kernel_rfl) (by kernel_rfl) (by kernel_rfl) (fun _ _ _ h => h) (by kernel_rfl) (by kernel_rfl) (by assumption) ?y0n65 ?r0n65
      case y0n65 => (intro w hSw; have u0 := hSw.p.cell (o := 0) rfl; have u1 := hSw.p.cell (o := 1) rfl; have u2 := hSw.p.cell (o := 2) rfl; have v0 := hSw.q.cell (o := 0) rfl; have v1 := hSw.q.cell (o := 1) rfl; have v2 := hSw.q.cell (o := 2) rfl; clear hSw; go_simp; try with_reducible rfl)
      (try simp only [Act.put, List.setIfInBounds_toArray, List.set_cons_zero, List.set_cons_succ])
      refine takeA (i := 1) (v := ?v1n66) rfl (by kernel_rfl) (by kernel_rfl) (by kernel_rfl) (fun _ _ _ h => h) (by kernel_rfl) (by kernel_rfl) (by assumption) ?y1n66 ?r1n66
      case y1n66 => (intro w hSw; have u0 := hSw.p.cell (o := 0) rfl; have u1 := hSw.p.cell (o := 1) rfl; have u2 := hSw.p.cell (o := 2) rfl; have v0 := hSw.q.cell (o := 0) rfl; have v1 := hSw.q.cell (o := 1) rfl; have v2 := hSw.q.cell (o := 2) rfl; clear hSw; go_simp; try with_reducible rfl)
      (try simp only [Act.put, List.setIfInBounds_toArray, List.set_cons_zero, List.set_cons_succ])
      refine readyA (rs := [2]) (by kernel_rfl) (by simp) ?_
      refine AllL.cons rfl (fun K hK => ?_) ?_
      · have za0 := ZA9.out.cell (o := 0) rfl
        have za1 := ZA9.out.cell (o := 1) rfl
        have za2 := ZA9.out.cell (o := 2) rfl
        have zf0 := ZA9.out.frozen 0
        have zf1 := ZA9.out.frozen 1
        have zf2 := ZA9.out.frozen 2
        go_simp
        refine hK.out _ _ ⟨((hHeld.p.other (show pb ≠ w.heap.size by omega) _ _).other (show pb ≠ w.heap.size by omega) _ _).other (show pb ≠ w.heap.size by omega) _ _, ((hHeld.q.other (show qb ≠ w.heap.size by omega) _ _).other (show qb ≠ w.heap.size by omega) _ _).other (show qb ≠ w.heap.size by omega) _ _⟩ (fun hHeld => ?_)
        clear hK K za0 za1 za2 zf0 zf1 zf2
        (try simp only [Act.put, List.setIfInBounds_toArray, List.set_cons_zero, List.set_cons_succ])
        refine readyA (rs := [3]) (by kernel_rfl) (by simp) ?_
        refine AllL.last rfl (fun K hK => ?_)
        have zb0 := ZB9.out.cell (o := 0) rfl
        have zb1 := ZB9.out.cell (o := 1) rfl
        have zb2 := ZB9.out.cell (o := 2) rfl
        have zg0 := ZB9.out.frozen 0
        have zg1 := ZB9.out.frozen 1
        have zg2 := ZB9.out.frozen 2
        go_simp
        refine hK.out _ _ ?_
        clear hK K zb0 zb1 zb2 zg0 zg1 zg2
        (try simp only [Act.put, List.setIfInBounds_toArray, List.set_cons_zero, List.set_cons_succ])
        refine doneA (by kernel_rfl) ?_ _
        obtain ⟨ra0, ra1, ra2, rc0, rc1, rc2, sm9, hBL, fz⟩ := six9 (.slice a0 ts.length c0) (.slice a1 gl.length c1) (.slice a2 fs.length c2) (.slice e0 QQ.types.length g0) (.slice e1 QQ.glob.length g1) (.slice e2 QQ.funs.length g2) ZA9.out ZB9.out (BB1.out.trans (Ow5.out.below (B := w.heap.size) (by omega) (by omega)))
        have HSM := hide sm9
        have HBL := hide hBL
        have HFZ := hide fz
        clear sm9 hBL fz hHeld
        go_wp2_with fail
        refine bodyPost_ret (v := .tuple #[.agg #[.slice a0 ts.length c0, .slice a1 gl.length c1, .slice a2 fs.length c2], .agg #[.slice e0 QQ.types.length g0, .slice e1 QQ.glob.length g1, .slice e2 QQ.funs.length g2]]) (by simp [results, Tryz.results11, go_sem, *]) rfl ⟨⟨ts, gl, fs⟩, QQ, a0, a1, a2, c0, c1, c2, e0, e1, e2, g0, g1, g2, rfl, ps_src S9.out HSM.out HFZ.out HBL.out (by omega) (by omega) HQB.out hc0 hc2, ps_parts HG9.out HF9.out HU9.out HSM.out HFZ.out HBL.out (by omega) (Nat.le_refl _) HQB9.out hle9 hlf9, HQB.out⟩
      exact AllL.nil
    · have hts0 : (0 : Int) < (ts.length : Int) := by omega
      have hts1 : 0 < ts.length := by omega
      obtain ⟨xs', hro, hT⟩ := Q5.out.gr
      have GRA := hide hro
      have HT := hide hT
      obtain ⟨ta, tc, hx0, xt, hto, htt⟩ := hT 0 (by show 0 < ts.length; omega)
      have hg0 : 0 < (grAt ts 0).length := by
        rcases HKin.out with h | h
        · rw [h] at hts; simp at hts
        · exact ((kinOk_parts h).2.2 0 (by omega)).1
      simp only at hx0 hto htt GRA HT hro
      obtain ⟨bb, hta, hbl, hblt, _⟩ : ∃ bb, ta = some ⟨bb, 0, none⟩ ∧ h1 ≤ bb ∧ bb < w5.heap.size ∧ True := by
        rcases owns_cells hto with h0 | ⟨g, h0, h5, h6, _⟩
        · omega
        · exact ⟨g, h0, h5, h6, trivial⟩
      subst hta
      obtain ⟨cb, hbk⟩ := owns_kind hto (k := bb) rfl
      obtain ⟨gb0, hb0e, hgbl⟩ : ∃ gb0, b0 = some ⟨gb0, 0, none⟩ ∧ gb0 < w5.heap.size := by
        rcases owns_cells hro with h0 | ⟨g, h0, h5, h6, _⟩
        · omega
        · exact ⟨g, h0, h6⟩
      subst hb0e
      obtain ⟨_, _, htl, _⟩ := htt 0 hg0
      generalize (tyAt (grAt ts 0) 0).last = tl at htl
      have s0 : w5.drew.cell? ⟨qb, 0, none⟩ = some (.slice (some ⟨gb0, 0, none⟩) ts.length d0) := q0
      have sg : w5.drew.cell? ⟨gb0, 0, none⟩ = some (.slice (some ⟨bb, 0, none⟩) (grAt ts 0).length tc) := (hro.cellAt 0 (by omega)).trans hx0
      have st : w5.drew.cell? ⟨bb, 2, none⟩ = some (.bool tl) := (hto.cellAt 2 (by omega)).trans htl
      have stf : w5.drew.frozen? ⟨bb, 2, none⟩ = false := hto.frozenAt 2
      generalize hgn : (grAt ts 0).length = gn at *
      have gni : (0 : Int) < (gn : Int) := by omega
      clear hgn hto hro hT htt htl hx0
      go_wp2_with fail
      refine beginA (S := fun w' => w' = w5.drew) 14 (by kernel_rfl) rfl (fun hHeld => ?_)
      refine takeA (i := 0) (v := ?v0n50) rfl (by kernel_rfl) (by kernel_rfl) (by kernel_rfl) (fun _ _ _ h => h) (by kernel_rfl) (by kernel_rfl) (by assumption) ?y0n50 ?r0n50
      case y0n50 => (intro w hSw; (try subst hSw); go_simp; try with_reducible rfl)
      (try simp only [Act.put, List.setIfInBounds_toArray, List.set_cons_zero, List.set_cons_succ])
      refine takeA (i := 1) (v := ?v1n51) rfl (by kernel_rfl) (by kernel_rfl) (by kernel_rfl) (fun _ _ _ h => h) (by kernel_rfl) (by kernel_rfl) (by assumption) ?y1n51 ?r1n51
      case y1n51 => (intro w hSw; (try subst hSw); go_simp; try with_reducible rfl)
      (try simp only [Act.put, List.setIfInBounds_toArray, List.set_cons_zero, List.set_cons_succ])
      refine takeA (i := 2) (v := ?v2n52) rfl (by kernel_rfl) (by kernel_rfl) (by kernel_rfl) (fun _ _ _ h => h) (by kernel_rfl) (by kernel_rfl) (by assumption) ?y2n52 ?r2n52
      case y2n52 => (intro w hSw; (try subst hSw); go_simp; try with_reducible rfl)
      (try simp only [Act.put, List.setIfInBounds_toArray, List.set_cons_zero, List.set_cons_succ])
      refine takeA (i := 3) (v := ?v3n53) rfl (by kernel_rfl) (by kernel_rfl) (by kernel_rfl) (fun _ _ _ h => h) (by kernel_rfl) (by kernel_rfl) (by assumption) ?y3n53 ?r3n53
      case y3n53 => (intro w hSw; (try subst hSw); go_simp; try with_reducible rfl)
      (try simp only [Act.put, List.setIfInBounds_toArray, List.set_cons_zero, List.set_cons_succ])
      refine takeA (i := 4) (v := ?v4n54) rfl (by kernel_rfl) (by kernel_rfl) (by kernel_rfl) (fun _ _ _ h => h) (by kernel_rfl) (by kernel_rfl) (by assumption) ?y4n54 ?r4n54
      case y4n54 => (intro w hSw; (try subst hSw); go_simp; try with_reducible rfl)
      (try simp only [Act.put, List.setIfInBounds_toArray, List.set_cons_zero, List.set_cons_succ])
      refine takeA (i := 5) (v := ?v5n55) rfl (by kernel_rfl) (by kernel_rfl) (by kernel_rfl) (fun _ _ _ h => h) (by kernel_rfl) (by kernel_rfl) (by assumption) ?y5n55 ?r5n55
      case y5n55 => (intro w hSw; (try subst hSw); go_simp; try with_reducible rfl)
      (try simp only [Act.put, List.setIfInBounds_toArray, List.set_cons_zero, List.set_cons_succ])
      refine takeA (i := 6) (v := ?v6n56) rfl (by kernel_rfl) (by kernel_rfl) (by kernel_rfl) (fun _ _ _ h => h) (by kernel_rfl) (by kernel_rfl) (by assumption) ?y6n56 ?r6n56
      case y6n56 => (intro w hSw; (try subst hSw); go_simp; try with_reducible rfl)
      (try simp only [Act.put, List.setIfInBounds_toArray, List.set_cons_zero, List.set_cons_succ])
      refine takeA (i := 7) (v := ?v7n57) rfl (by kernel_rfl) (by kernel_rfl) (by kernel_rfl) (fun _ _ _ h => h) (by kernel_rfl) (by kernel_rfl) (by assumption) ?y7n57 ?r7n57
      case y7n57 => (intro w hSw; (try subst hSw); go_simp; try with_reducible rfl)
      (try simp only [Act.put, List.setIfInBounds_toArray, List.set_cons_zero, List.set_cons_succ])
      refine takeA (i := 8) (v := ?v8n58) rfl (by kernel_rfl) (by kernel_rfl) (by kernel_rfl) (fun _ _ _ h => h) (by kernel_rfl) (by kernel_rfl) (by assumption) ?y8n58 ?r8n58
      case y8n58 => (intro w hSw; (try subst hSw); go_simp; try with_reducible rfl)
      (try simp only [Act.put, List.setIfInBounds_toArray, List.set_cons_zero, List.set_cons_succ])
      refine takeA (i := 9) (v := ?v9n59) rfl (by kernel_rfl) (by kernel_rfl) (by kernel_rfl) (fun _ _ _ h => h) (by kernel_rfl) (by kernel_rfl) (by assumption) ?y9n59 ?r9n59
      case y9n59 => (intro w hSw; (try subst hSw); go_simp; try with_reducible rfl)
      (try simp only [Act.put, List.setIfInBounds_toArray, List.set_cons_zero, List.set_cons_succ])
      refine takeA (i := 10) (v := ?v10n60) rfl (by kernel_rfl) (by kernel_rfl) (by kernel_rfl) (fun _ _ _ h => h) (by kernel_rfl) (by kernel_rfl) (by assumption) ?y10n60 ?r10n60
      case y10n60 => (intro w hSw; (try subst hSw); go_simp; try with_reducible rfl)
      (try simp only [Act.put, List.setIfInBounds_toArray, List.set_cons_zero, List.set_cons_succ])
      refine takeA (i := 11) (v := ?v11n61) rfl (by kernel_rfl) (by kernel_rfl) (by kernel_rfl) (fun _ _ _ h => h) (by kernel_rfl) (by kernel_rfl) (by assumption) ?y11n61 ?r11n61
      case y11n61 => (intro w hSw; (try subst hSw); go_simp; try with_reducible rfl)
      (try simp only [Act.put, List.setIfInBounds_toArray, List.set_cons_zero, List.set_cons_succ])
      refine readyA (rs := [12]) (by kernel_rfl) (by simp) ?_
      refine AllL.cons rfl (fun K hK => ?_) ?_
      · have hSw := hHeld
        (try subst hSw)
        go_simp
        refine hK.out _ _ hHeld (fun hHeld => ?_)
        clear hK K
        (try simp only [Act.put, List.setIfInBounds_toArray, List.set_cons_zero, List.set_cons_succ])
        refine takeA (i := 13) (v := ?v13n62) rfl (by kernel_rfl) (by kernel_rfl) (by kernel_rfl) (fun _ _ _ h => h) (by kernel_rfl) (by kernel_rfl) (by assumption) ?y13n62 ?r13n62
        case y13n62 => (intro w hSw; (try subst hSw); go_simp; try with_reducible rfl)
        (try simp only [Act.put, List.setIfInBounds_toArray, List.set_cons_zero, List.set_cons_succ])
        refine readyA (rs := [14]) (by kernel_rfl) (by simp) ?_
        refine AllL.last rfl (fun K hK => ?_)
        skip
        go_simp
        refine hK.out _ _ ?_
        clear hK K
        (try simp only [Act.put, List.setIfInBounds_toArray, List.set_cons_zero, List.set_cons_succ])
        refine doneA (by kernel_rfl) ?_ _
        have QFIN0 : QFin L1 qb (w5.setCell ⟨bb, 2, none⟩ (.bool (!tl))) := QSt.typeLast Q5.out HQB.out GRA.out HT.out hbk (!tl)
        have QFIN := qfin_drew QFIN0
        clear QFIN0
        clear s0 sg st stf
        obtain ⟨QQ, e0, e1, e2, g0, g1, g2, hq9, hG9, hF9, hU9, hQB9, hle9, hlf9⟩ := QFIN
        have ON9 := hide (only_drew9 (ON5.out.set (b := bb) (by omega) 2 (.bool (!tl))))
        have HQ9 := hide hq9
        have HG9 := hide hG9
        have HF9 := hide hF9
        have HU9 := hide hU9
        have HQB9 := hide hQB9
        clear hq9 hG9 hF9 hU9 hQB9 q0 q1 q2 qf0 qf1 qf2
        generalize hW9 : (w5.setCell ⟨bb, 2, none⟩ (.bool (!tl))).drew = W9 at *
        clear hW9
        have PR9 := hide (PR3.out.only ON9.out (by omega))
        have ZA9 := hide (ZA3.out.only ON9.out (by omega))
        have ZB9 := hide (ZB3.out.only ON9.out (by omega))
        have S9 := hide (S3.out.only ON9.out (by omega))
        have l9 := HQ9.out.lt
        have lp9 := PR9.out.lt
        have OW9 := hide (O3.out.trans ON9.out)
        have sz9 : L1 ≤ W9.heap.size := by have := ON9.out.size; omega
        go_wp2_with fail
        refine beginA (S := S19 pb qb [.slice a0 ts.length c0, .slice a1 gl.length c1, .slice a2 fs.length c2] [.slice e0 QQ.types.length g0, .slice e1 QQ.glob.length g1, .slice e2 QQ.funs.length g2]) 3 (by kernel_rfl) ⟨PR9.out, HQ9.out⟩ (fun hHeld => ?_)
        refine takeA (i := 0) (v := ?v0n63) rfl (by kernel_rfl) (by kernel_rfl) (by kernel_rfl) (fun _ _ _ h => h) (by kernel_rfl) (by kernel_rfl) (by assumption) ?y0n63 ?r0n63
        case y0n63 => (intro w hSw; have u0 := hSw.p.cell (o := 0) rfl; have u1 := hSw.p.cell (o := 1) rfl; have u2 := hSw.p.cell (o := 2) rfl; have v0 := hSw.q.cell (o := 0) rfl; have v1 := hSw.q.cell (o := 1) rfl; have v2 := hSw.q.cell (o := 2) rfl; clear hSw; go_simp; try with_reducible rfl)
        (try simp only [Act.put, List.setIfInBounds_toArray, List.set_cons_zero, List.set_cons_succ])
        refine takeA (i := 1) (v := ?v1n64) rfl (by kernel_rfl) (by kernel_rfl) (by kernel_rfl) (fun _ _ _ h => h) (by kernel_rfl) (by kernel_rfl) (by assumption) ?y1n64 ?r1n64
        case y1n64 => (intro w hSw; have u0 := hSw.p.cell (o := 0) rfl; have u1 := hSw.p.cell (o := 1) rfl; have u2 := hSw.p.cell (o := 2) rfl; have v0 := hSw.q.cell (o := 0) rfl; have v1 := hSw.q.cell (o := 1) rfl; have v2 := hSw.q.cell (o := 2) rfl; clear hSw; go_simp; try with_reducible rfl)
        (try simp only [Act.put, List.setIfInBounds_toArray, List.set_cons_zero, List.set_cons_succ])
        refine readyA (rs := [2]) (by kernel_rfl) (by simp) ?_
        refine AllL.cons rfl (fun K hK => ?_) ?_
        · have za0 := ZA9.out.cell (o := 0) rfl
          have za1 := ZA9.out.cell (o := 1) rfl
          have za2 := ZA9.out.cell (o := 2) rfl
          have zf0 := ZA9.out.frozen 0
          have zf1 := ZA9.out.frozen 1
          have zf2 := ZA9.out.frozen 2
          go_simp
          refine hK.out _ _ ⟨((hHeld.p.other (show pb ≠ w.heap.size by omega) _ _).other (show pb ≠ w.heap.size by omega) _ _).other (show pb ≠ w.heap.size by omega) _ _, ((hHeld.q.other (show qb ≠ w.heap.size by omega) _ _).other (show qb ≠ w.heap.size by omega) _ _).other (show qb ≠ w.heap.size by omega) _ _⟩ (fun hHeld => ?_)
          clear hK K za0 za1 za2 zf0 zf1 zf2
          (try simp only [Act.put, List.setIfInBounds_toArray, List.set_cons_zero, List.set_cons_succ])
          refine readyA (rs := [3]) (by kernel_rfl) (by simp) ?_
          refine AllL.last rfl (fun K hK => ?_)
          have zb0 := ZB9.out.cell (o := 0) rfl
          have zb1 := ZB9.out.cell (o := 1) rfl
          have zb2 := ZB9.out.cell (o := 2) rfl
          have zg0 := ZB9.out.frozen 0
          have zg1 := ZB9.out.frozen 1
          have zg2 := ZB9.out.frozen 2
          go_simp
          refine hK.out _ _ ?_
          clear hK K zb0 zb1 zb2 zg0 zg1 zg2
          (try simp only [Act.put, List.setIfInBounds_toArray, List.set_cons_zero, List.set_cons_succ])
          refine doneA (by kernel_rfl) ?_ _
          obtain ⟨ra0, ra1, ra2, rc0, rc1, rc2, sm9, hBL, fz⟩ := six9 (.slice a0 ts.length c0) (.slice a1 gl.length c1) (.slice a2 fs.length c2) (.slice e0 QQ.types.length g0) (.slice e1 QQ.glob.length g1) (.slice e2 QQ.funs.length g2) ZA9.out ZB9.out (BB1.out.trans (OW9.out.below (B := w.heap.size) (by omega) (by omega)))
          have HSM := hide sm9
          have HBL := hide hBL
          have HFZ := hide fz
          clear sm9 hBL fz hHeld
          go_wp2_with fail
          refine bodyPost_ret (v := .tuple #[.agg #[.slice a0 ts.length c0, .slice a1 gl.length c1, .slice a2 fs.length c2], .agg #[.slice e0 QQ.types.length g0, .slice e1 QQ.glob.length g1, .slice e2 QQ.funs.length g2]]) (by simp [results, Tryz.results11, go_sem, *]) rfl ⟨⟨ts, gl, fs⟩, QQ, a0, a1, a2, c0, c1, c2, e0, e1, e2, g0, g1, g2, rfl, ps_src S9.out HSM.out HFZ.out HBL.out (by omega) (by omega) HQB.out hc0 hc2, ps_parts HG9.out HF9.out HU9.out HSM.out HFZ.out HBL.out (by omega) (Nat.le_refl _) HQB9.out hle9 hlf9, HQB.out⟩
        exact AllL.nil
      exact AllL.nil
  · have QFIN : QFin L1 qb w5 := Q5.out.fin HQB.out
    obtain ⟨QQ, e0, e1, e2, g0, g1, g2, hq9, hG9, hF9, hU9, hQB9, hle9, hlf9⟩ := QFIN
    have ON9 := hide ON5.out
    have HQ9 := hide hq9
    have HG9 := hide hG9
    have HF9 := hide hF9
    have HU9 := hide hU9
    have HQB9 := hide hQB9
    clear hq9 hG9 hF9 hU9 hQB9 q0 q1 q2 qf0 qf1 qf2
    have w5e : w5 = w5 := rfl
    clear w5e
    have PR9 := hide (PR3.out.only ON9.out (by omega))
    have ZA9 := hide (ZA3.out.only ON9.out (by omega))
    have ZB9 := hide (ZB3.out.only ON9.out (by omega))
    have S9 := hide (S3.out.only ON9.out (by omega))
    have l9 := HQ9.out.lt
    have lp9 := PR9.out.lt
    have Ow5 := hide (O3.out.trans ON9.out)
    have sz9 : L1 ≤ w5.heap.size := by have := ON9.out.size; omega
    go_wp2_with fail
    refine beginA (S := S19 pb qb [.slice a0 ts.length c0, .slice a1 gl.length c1, .slice a2 fs.length c2] [.slice e0 QQ.types.length g0, .slice e1 QQ.glob.length g1, .slice e2 QQ.funs.length g2]) 3 (by kernel_rfl) ⟨PR9.out, HQ9.out⟩ (fun hHeld => ?_)
    refine takeA (i := 0) (v := ?v0n1) rfl (by kernel_rfl) (by kernel_rfl) (by kernel_rfl) (fun _ _ _ h => h) (by kernel_rfl) (by kernel_rfl) (by assumption) ?y0n1 ?r0n1
    case y0n1 => (intro w hSw; have u0 := hSw.p.cell (o := 0) rfl; have u1 := hSw.p.cell (o := 1) rfl; have u2 := hSw.p.cell (o := 2) rfl; have v0 := hSw.q.cell (o := 0) rfl; have v1 := hSw.q.cell (o := 1) rfl; have v2 := hSw.q.cell (o := 2) rfl; clear hSw; go_simp; try with_reducible rfl)
    (try simp only [Act.put, List.setIfInBounds_toArray, List.set_cons_zero, List.set_cons_succ])
    refine takeA (i := 1) (v := ?v1n2) rfl (by kernel_rfl) (by kernel_rfl) (by kernel_rfl) (fun _ _ _ h => h) (by kernel_rfl) (by kernel_rfl) (by assumption) ?y1n2 ?r1n2
    case y1n2 => (intro w hSw; have u0 := hSw.p.cell (o := 0) rfl; have u1 := hSw.p.cell (o := 1) rfl; have u2 := hSw.p.cell (o := 2) rfl; have v0 := hSw.q.cell (o := 0) rfl; have v1 := hSw.q.cell (o := 1) rfl; have v2 := hSw.q.cell (o := 2) rfl; clear hSw; go_simp; try with_reducible rfl)
    (try simp only [Act.put, List.setIfInBounds_toArray, List.set_cons_zero, List.set_cons_succ])
    refine readyA (rs := [2]) (by kernel_rfl) (by simp) ?_
    refine AllL.cons rfl (fun K hK => ?_) ?_
    · have za0 := ZA9.out.cell (o := 0) rfl
      have za1 := ZA9.out.cell (o := 1) rfl
      have za2 := ZA9.out.cell (o := 2) rfl
      have zf0 := ZA9.out.frozen 0
      have zf1 := ZA9.out.frozen 1
      have zf2 := ZA9.out.frozen 2
      go_simp
      refine hK.out _ _ ⟨((hHeld.p.other (show pb ≠ w.heap.size by omega) _ _).other (show pb ≠ w.heap.size by omega) _ _).other (show pb ≠ w.heap.size by omega) _ _, ((hHeld.q.other (show qb ≠ w.heap.size by omega) _ _).other (show qb ≠ w.heap.size by omega) _ _).other (show qb ≠ w.heap.size by omega) _ _⟩ (fun hHeld => ?_)
      clear hK K za0 za1 za2 zf0 zf1 zf2
      (try simp only [Act.put, List.setIfInBounds_toArray, List.set_cons_zero, List.set_cons_succ])
      refine readyA (rs := [3]) (by kernel_rfl) (by simp) ?_
      refine AllL.last rfl (fun K hK => ?_)
      have zb0 := ZB9.out.cell (o := 0) rfl
      have zb1 := ZB9.out.cell (o := 1) rfl
      have zb2 := ZB9.out.cell (o := 2) rfl
      have zg0 := ZB9.out.frozen 0
      have zg1 := ZB9.out.frozen 1
      have zg2 := ZB9.out.frozen 2
      go_simp
      refine hK.out _ _ ?_
      clear hK K zb0 zb1 zb2 zg0 zg1 zg2
      (try simp only [Act.put, List.setIfInBounds_toArray, List.set_cons_zero, List.set_cons_succ])
      refine doneA (by kernel_rfl) ?_ _
      obtain ⟨ra0, ra1, ra2, rc0, rc1, rc2, sm9, hBL, fz⟩ := six9 (.slice a0 ts.length c0) (.slice a1 gl.length c1) (.slice a2 fs.length c2) (.slice e0 QQ.types.length g0) (.slice e1 QQ.glob.length g1) (.slice e2 QQ.funs.length g2) ZA9.out ZB9.out (BB1.out.trans (Ow5.out.below (B := w.heap.size) (by omega) (by omega)))
      have HSM := hide sm9
      have HBL := hide hBL
      have HFZ := hide fz
      clear sm9 hBL fz hHeld
      go_wp2_with fail
      refine bodyPost_ret (v := .tuple #[.agg #[.slice a0 ts.length c0, .slice a1 gl.length c1, .slice a2 fs.length c2], .agg #[.slice e0 QQ.types.length g0, .slice e1 QQ.glob.length g1, .slice e2 QQ.funs.length g2]]) (by simp [results, Tryz.results11, go_sem, *]) rfl ⟨⟨ts, gl, fs⟩, QQ, a0, a1, a2, c0, c1, c2, e0, e1, e2, g0, g1, g2, rfl, ps_src S9.out HSM.out HFZ.out HBL.out (by omega) (by omega) HQB.out hc0 hc2, ps_parts HG9.out HF9.out HU9.out HSM.out HFZ.out HBL.out (by omega) (Nat.le_refl _) HQB9.out hle9 hlf9, HQB.out⟩
    exact AllL.nil
  · have QFIN : QFin L1 qb w5 := Q5.out.fin HQB.out
    obtain ⟨QQ, e0, e1, e2, g0, g1, g2, hq9, hG9, hF9, hU9, hQB9, hle9, hlf9⟩ := QFIN
    have ON9 := hide ON5.out
    have HQ9 := hide hq9
    have HG9 := hide hG9
    have HF9 := hide hF9
    have HU9 := hide hU9
    have HQB9 := hide hQB9
    clear hq9 hG9 hF9 hU9 hQB9 q0 q1 q2 qf0 qf1 qf2
    have w5e : w5 = w5 := rfl
    clear w5e
    have PR9 := hide (PR3.out.only ON9.out (by omega))
    have ZA9 := hide (ZA3.out.only ON9.out (by omega))
    have ZB9 := hide (ZB3.out.only ON9.out (by omega))
    have S9 := hide (S3.out.only ON9.out (by omega))
    have l9 := HQ9.out.lt
    have lp9 := PR9.out.lt
    have Ow5 := hide (O3.out.trans ON9.out)
    have sz9 : L1 ≤ w5.heap.size := by have := ON9.out.size; omega
    go_wp2_with fail
    refine beginA (S := S19 pb qb [.slice a0 ts.length c0, .slice a1 gl.length c1, .slice a2 fs.length c2] [.slice e0 QQ.types.length g0, .slice e1 QQ.glob.length g1, .slice e2 QQ.funs.length g2]) 3 (by kernel_rfl) ⟨PR9.out, HQ9.out⟩ (fun hHeld => ?_)
    refine takeA (i := 0) (v := ?v0n3) rfl (by kernel_rfl) (by kernel_rfl) (by kernel_rfl) (fun _ _ _ h => h) (by kernel_rfl) (by kernel_rfl) (by assumption) ?y0n3 ?r0n3
    case y0n3 => (intro w hSw; have u0 := hSw.p.cell (o := 0) rfl; have u1 := hSw.p.cell (o := 1) rfl; have u2 := hSw.p.cell (o := 2) rfl; have v0 := hSw.q.cell (o := 0) rfl; have v1 := hSw.q.cell (o := 1) rfl; have v2 := hSw.q.cell (o := 2) rfl; clear hSw; go_simp; try with_reducible rfl)
    (try simp only [Act.put, List.setIfInBounds_toArray, List.set_cons_zero, List.set_cons_succ])
    refine takeA (i := 1) (v := ?v1n4) rfl (by kernel_rfl) (by kernel_rfl) (by kernel_rfl) (fun _ _ _ h => h) (by kernel_rfl) (by kernel_rfl) (by assumption) ?y1n4 ?r1n4
    case y1n4 => (intro w hSw; have u0 := hSw.p.cell (o := 0) rfl; have u1 := hSw.p.cell (o := 1) rfl; have u2 := hSw.p.cell (o := 2) rfl; have v0 := hSw.q.cell (o := 0) rfl; have v1 := hSw.q.cell (o := 1) rfl; have v2 := hSw.q.cell (o := 2) rfl; clear hSw; go_simp; try with_reducible rfl)
    (try simp only [Act.put, List.setIfInBounds_toArray, List.set_cons_zero, List.set_cons_succ])
    refine readyA (rs := [2]) (by kernel_rfl) (by simp) ?_
    refine AllL.cons rfl (fun K hK => ?_) ?_
    · have za0 := ZA9.out.cell (o := 0) rfl
      have za1 := ZA9.out.cell (o := 1) rfl
      have za2 := ZA9.out.cell (o := 2) rfl
      have zf0 := ZA9.out.frozen 0
      have zf1 := ZA9.out.frozen 1
      have zf2 := ZA9.out.frozen 2
      go_simp
      refine hK.out _ _ ⟨((hHeld.p.other (show pb ≠ w.heap.size by omega) _ _).other (show pb ≠ w.heap.size by omega) _ _).other (show pb ≠ w.heap.size by omega) _ _, ((hHeld.q.other (show qb ≠ w.heap.size by omega) _ _).other (show qb ≠ w.heap.size by omega) _ _).other (show qb ≠ w.heap.size by omega) _ _⟩ (fun hHeld => ?_)
      clear hK K za0 za1 za2 zf0 zf1 zf2
      (try simp only [Act.put, List.setIfInBounds_toArray, List.set_cons_zero, List.set_cons_succ])
      refine readyA (rs := [3]) (by kernel_rfl) (by simp) ?_
      refine AllL.last rfl (fun K hK => ?_)
      have zb0 := ZB9.out.cell (o := 0) rfl
      have zb1 := ZB9.out.cell (o := 1) rfl
      have zb2 := ZB9.out.cell (o := 2) rfl
      have zg0 := ZB9.out.frozen 0
      have zg1 := ZB9.out.frozen 1
      have zg2 := ZB9.out.frozen 2
      go_simp
      refine hK.out _ _ ?_
      clear hK K zb0 zb1 zb2 zg0 zg1 zg2
      (try simp only [Act.put, List.setIfInBounds_toArray, List.set_cons_zero, List.set_cons_succ])
      refine doneA (by kernel_rfl) ?_ _
      obtain ⟨ra0, ra1, ra2, rc0, rc1, rc2, sm9, hBL, fz⟩ := six9 (.slice a0 ts.length c0) (.slice a1 gl.length c1) (.slice a2 fs.length c2) (.slice e0 QQ.types.length g0) (.slice e1 QQ.glob.length g1) (.slice e2 QQ.funs.length g2) ZA9.out ZB9.out (BB1.out.trans (Ow5.out.below (B := w.heap.size) (by omega) (by omega)))
      have HSM := hide sm9
      have HBL := hide hBL
      have HFZ := hide fz
      clear sm9 hBL fz hHeld
      go_wp2_with fail
      refine bodyPost_ret (v := .tuple #[.agg #[.slice a0 ts.length c0, .slice a1 gl.length c1, .slice a2 fs.length c2], .agg #[.slice e0 QQ.types.length g0, .slice e1 QQ.glob.length g1, .slice e2 QQ.funs.length g2]]) (by simp [results, Tryz.results11, go_sem, *]) rfl ⟨⟨ts, gl, fs⟩, QQ, a0, a1, a2, c0, c1, c2, e0, e1, e2, g0, g1, g2, rfl, ps_src S9.out HSM.out HFZ.out HBL.out (by omega) (by omega) HQB.out hc0 hc2, ps_parts HG9.out HF9.out HU9.out HSM.out HFZ.out HBL.out (by omega) (Nat.le_refl _) HQB9.out hle9 hlf9, HQB.out⟩
    exact AllL.nil
end Go.Proofs.YtblliefejffhoaaGreatDoor
