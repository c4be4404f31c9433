/- l3Copy of the model: a program in new memory; its parts lie apart. -/
import Derived.Test.YtblliefejffhoaaGreatDoorPbRow
import Derived.Test.YtblliefejffhoaaGreatDoorPbProg
import Derived.Test.YtblliefejffhoaaGreatDoorPbShift
namespace Go.Proofs.YtblliefejffhoaaGreatDoor
open Go.ChangeShapes Go.WideShapes Go.ChangeAt Go.RowKit Go.Deep
set_option linter.unusedVariables false

theorem shiftTy_zero (t : Ty) : shiftTy 0 0 t = t := by
  obtain ⟨k, u, l, fs⟩ := t
  simp only [shiftTy]
  have h1 : (if (0 : Int) ≤ u then u + 0 else u) = u := by split <;> omega
  have h2 : fs.map (shiftFd 0 0) = fs := by
    have : shiftFd 0 0 = id := by
      funext f
      obtain ⟨a, b, c⟩ := f
      simp [shiftFd]
    rw [this, List.map_id]
  rw [h1, h2]
theorem shift_zero (ts : List Ty) : ts.map (shiftTy 0 0) = ts := by
  have : shiftTy 0 0 = id := by funext t; exact shiftTy_zero t
  rw [this, List.map_id]

/-- An empty block. -/
def EmpAt (w : World) (b : Nat) (T : TypeId) : Prop := w.heap[b]? = some (.cells #[] T (0, 0))
theorem EmpAt.new (w : World) (T : TypeId) (b : Nat) (hb : b = w.heap.size) : EmpAt (w.alloc (.cells #[] T)) b T := hb ▸ Deep.blk_alloc_new _ _
theorem EmpAt.lt {w : World} {b : Nat} {T : TypeId} (h : EmpAt w b T) : b < w.heap.size := (Array.getElem?_eq_some_iff.1 h).1
theorem EmpAt.below {w w' : World} {b : Nat} {T : TypeId} (h : EmpAt w b T) (hb : Below w.heap.size w w') : EmpAt w' b T := (hb.block b h.lt).trans h
theorem EmpAt.alloc {w : World} {b : Nat} {T : TypeId} (h : EmpAt w b T) (o : Obj) : EmpAt (w.alloc o) b T := h.below ((Below.refl _ _).alloc (Nat.le_refl _) o)
theorem EmpAt.owns {w : World} {b : Nat} {T : TypeId} (h : EmpAt w b T) {S size : Nat} (hS : S ≤ b) : w.ownsRow S T size (.slice (some ⟨b, 0, none⟩) 0 0) 0 [] :=
  ⟨by simp, .inr ⟨b, 0, #[], rfl, hS, h, Nat.le_refl _, by unfold maxLen; omega, by simp, by simp⟩⟩

/-- What is copied: the program P lies in w; its parts are small. -/
structure Src3 (w : World) (lo hi : Nat) (a0 a1 a2 : Option Addr) (P : GProg) : Prop where
  g0 : GroupsIn w lo hi a0 P.types
  g1 : FieldsIn w lo hi a1 P.glob
  g2 : FunsM false w lo hi a2 P.funs
  hh : hi ≤ w.heap.size
  s0 : P.types.length ≤ 1000
  s1 : P.glob.length ≤ 1000
  s2 : P.funs.length ≤ 1000
  s3 : ∀ i, i < P.types.length → Small (grAt P.types i)
  s4 : ∀ i, i < P.funs.length → (funAt' P.funs i).takes.length ≤ 1000 ∧ (funAt' P.funs i).own.length ≤ 1000 ∧ (funAt' P.funs i).body.length ≤ 1000

/-- The copy's state: its variable in qb. -/
structure CopSt (w : World) (qb : Nat) (pv qv : List Value) (g1 : Option Addr) (gc1 : Nat) (glob : List Fd) (wr : World) : Prop where
  p : Rec wr w.heap.size 27 pv
  z : Rec wr (w.heap.size + 1) 27 [.slice none 0 0, .slice none 0 0, .slice none 0 0]
  q : Rec wr qb 27 qv
  gl : FdI wr (w.heap.size + 2) qb (.slice g1 glob.length gc1) glob
  be : Below w.heap.size w wr
  hq : w.heap.size + 2 < qb

theorem FdI.below {w w' : World} {lo hi : Nat} {v : Value} {xs : List Fd} (h : FdI w lo hi v xs) (hb : Below w.heap.size w w') : FdI w' lo hi v xs := ⟨h.1.below hb, h.2⟩
theorem FdI.belowH {w w' : World} {lo hi B : Nat} {v : Value} {xs : List Fd} (h : FdI w lo hi v xs) (hb : Below B w w') (hB : hi ≤ B) : FdI w' lo hi v xs := ⟨owns_of_block h.1 fun k hk => hb.block k (by have := h.2 k hk; omega), h.2⟩
theorem CopSt.below {w : World} {qb : Nat} {pv qv : List Value} {g1 : Option Addr} {gc1 : Nat} {glob : List Fd} {wr w' : World} (h : CopSt w qb pv qv g1 gc1 glob wr) (hb : Below (qb + 1) wr w') : CopSt w qb pv qv g1 gc1 glob w' :=
  ⟨h.p.below hb (by have := h.hq; omega), h.z.below hb (by have := h.hq; omega), h.q.below hb (Nat.lt_succ_self _), h.gl.belowH hb (by omega), h.be.trans (hb.mono (by have := h.hq; omega)), h.hq⟩
theorem CopSt.set {w : World} {qb : Nat} {pv qv : List Value} {g1 : Option Addr} {gc1 : Nat} {glob : List Fd} {wr : World} (h : CopSt w qb pv qv g1 gc1 glob wr) (o : Nat) (v : Value) : CopSt w qb pv (qv.set o v) g1 gc1 glob (wr.setCell ⟨qb, o, none⟩ v) :=
  ⟨h.p.other (by have := h.hq; omega) _ _, h.z.other (by have := h.hq; omega) _ _, h.q.set o v, ⟨owns_of_block h.gl.1 fun k hk => Below.heap_setCell _ _ _ _ (by have := h.gl.2 k hk; simp; omega), h.gl.2⟩, h.be.setCell (by show w.heap.size ≤ qb; have := h.hq; omega) _, h.hq⟩

/-- What l3Copy answers. -/
def CopyPost (w : World) (P : GProg) (e : Ending) (w' : World) : Prop :=
  ∃ (a0 a1 a2 : Option Addr) (c0 c1 c2 h1 h2 : Nat), e = .returned (.agg #[.slice a0 P.types.length c0, .slice a1 P.glob.length c1, .slice a2 P.funs.length c2]) ∧
    w.heap.size ≤ h1 ∧ h1 ≤ h2 ∧ h2 ≤ w'.heap.size ∧ FdI w' w.heap.size h1 (.slice a1 P.glob.length c1) P.glob ∧ GRow w' h1 a0 c0 P.types ∧ GroupsIn w' h1 h2 a0 P.types ∧ FunRow w' h2 (.slice a2 P.funs.length c2) P.funs ∧ Below w.heap.size w w'

theorem take_next {gs : List (List Ty)} {j : Nat} (h : j < gs.length) : gs.take j ++ [grAt gs j] = gs.take (j + 1) := by
  rw [List.take_succ_eq_append_getElem h]
  simp [grAt, List.getD, h]
theorem takeF_next {gs : List GFun} {j : Nat} (h : j < gs.length) : gs.take j ++ [funAt' gs j] = gs.take (j + 1) := by
  rw [List.take_succ_eq_append_getElem h]
  simp [funAt', List.getD, h]

/-- What holds while a function is copied: its variable, the copy's variable; all that was there below S2. -/
structure CS (w0 : World) (S2 fb qb : Nat) (fv qv : List Value) (w' : World) : Prop where
  f : Rec w' fb 36 fv
  q : Rec w' qb 27 qv
  sz : w0.heap.size ≤ w'.heap.size
  hS : S2 ≤ w0.heap.size
  hq : qb < S2
theorem CS.below {w0 : World} {S2 fb qb : Nat} {fv qv : List Value} {w w' : World} (h : CS w0 S2 fb qb fv qv w) (hb : Below w.heap.size w w') : CS w0 S2 fb qb fv qv w' :=
  ⟨h.f.below hb h.f.lt, h.q.below hb h.q.lt, Nat.le_trans h.sz hb.size, h.hS, h.hq⟩
theorem CS.grown {w0 : World} {S2 fb qb : Nat} {fv qv : List Value} {w w' : World} {row : Option Nat} (h : CS w0 S2 fb qb fv qv w) (hg : w.grownBy w' row) (h1 : ∀ q, row = some q → S2 ≤ q) (h2 : ∀ q, row = some q → q < fb) : CS w0 S2 fb qb fv qv w' :=
  ⟨h.f.grown hg (fun e => by have := h2 fb e.symm; omega), h.q.grown hg (fun e => by have := h1 qb e.symm; have := h.hq; omega), Nat.le_trans h.sz hg.size, h.hS, h.hq⟩
theorem apart_two {x y : Option Addr} {n m c d b1 b2 b3 b4 s5 s11 : Nat} (h1 : x = some ⟨b1, 0, none⟩ ∨ x = some ⟨b2, 0, none⟩ ∧ b2 < s5) (h2 : y = some ⟨b3, 0, none⟩ ∨ y = some ⟨b4, 0, none⟩ ∧ b4 < s11) (q1 : b1 ≠ b3) (q2 : b1 ≠ b4) (q3 : b2 < s5 → b2 ≠ b3) (q4 : b2 < s5 → b2 ≠ b4) : Apart2 (.slice x n c) (.slice y m d) := by
  intro k e1 e2
  rcases h1 with rfl | ⟨rfl, l1⟩ <;> rcases h2 with rfl | ⟨rfl, l2⟩ <;> simp [Value.ownBlock] at e1 e2
  · omega
  · omega
  · exact q3 l1 (by omega)
  · exact q4 l1 (by omega)
/-- A function was copied, and appended to the copy's. -/
theorem copy_fin {w w0 w15 w18 : World} {qb S2 : Nat} {pv : List Value} {ta g1 : Option Addr} {tc gc1 : Nat} {ts : List (List Ty)} {gl : List Fd} {v : Value} {fsk : List GFun} {f : GFun} {xs : List Value} {B : Nat → Nat} {n5 n11 n15 : Option Addr} {c5 c11 c15 gB cap : Nat}
    (C0 : CopSt w qb pv [.slice ta ts.length tc, .slice g1 gl.length gc1, v] g1 gc1 gl w0) (G0 : GRow w0 (qb + 1) ta tc ts) (GI0 : GroupsIn w0 (qb + 1) S2 ta ts) (HR : w0.ownsRow S2 36 6 v fsk.length xs) (hS0 : S2 ≤ B 0) (hB : ∀ i, B i ≤ B (i + 1)) (hBl : B fsk.length ≤ w0.heap.size)
    (hfv : ∀ i, i < fsk.length → FunV w0 (B i) (B (i + 1)) xs (i * 6) (funAt' fsk i)) (hq : qb < S2) (hS2 : S2 ≤ w0.heap.size) (BE : Below w0.heap.size w0 w15)
    (T5 : w15.ownsRow w0.heap.size 33 3 (.slice n5 f.takes.length c5) f.takes.length (fcells f.takes)) (T11 : w15.ownsRow w0.heap.size 33 3 (.slice n11 f.own.length c11) f.own.length (fcells f.own)) (T15 : w15.ownsRow w0.heap.size 59 3 (.slice n15 f.body.length c15) f.body.length (icells f.body))
    (XA : Apart2 (.slice n5 f.takes.length c5) (.slice n11 f.own.length c11))
    (ho : w18.ownsRow S2 36 6 (.slice (some ⟨gB, 0, none⟩) (fsk.length + 1) cap) (fsk.length + 1) (xs ++ [.slice n5 f.takes.length c5, .int .i64 f.gives.kind, .int .i64 f.gives.of, .bool f.gives.mt, .slice n11 f.own.length c11, .slice n15 f.body.length c15]))
    (hg : (w15.alloc (.cells #[.slice n5 f.takes.length c5, .int .i64 f.gives.kind, .int .i64 f.gives.of, .bool f.gives.mt, .slice n11 f.own.length c11, .slice n15 f.body.length c15] 36)).grownBy w18 v.ownBlock) :
    CopSt w qb pv [.slice ta ts.length tc, .slice g1 gl.length gc1, .slice (some ⟨gB, 0, none⟩) (fsk.length + 1) cap] g1 gc1 gl (w18.setCell ⟨qb, 2, none⟩ (.slice (some ⟨gB, 0, none⟩) (fsk.length + 1) cap)) ∧
    GRow (w18.setCell ⟨qb, 2, none⟩ (.slice (some ⟨gB, 0, none⟩) (fsk.length + 1) cap)) (qb + 1) ta tc ts ∧ GroupsIn (w18.setCell ⟨qb, 2, none⟩ (.slice (some ⟨gB, 0, none⟩) (fsk.length + 1) cap)) (qb + 1) S2 ta ts ∧
    FunRow (w18.setCell ⟨qb, 2, none⟩ (.slice (some ⟨gB, 0, none⟩) (fsk.length + 1) cap)) S2 (.slice (some ⟨gB, 0, none⟩) (fsk.length + 1) cap) (fsk ++ [f]) ∧ S2 ≤ (w18.setCell ⟨qb, 2, none⟩ (.slice (some ⟨gB, 0, none⟩) (fsk.length + 1) cap)).heap.size := by
  generalize hL : Obj.cells #[.slice n5 f.takes.length c5, .int .i64 f.gives.kind, .int .i64 f.gives.of, .bool f.gives.mt, .slice n11 f.own.length c11, .slice n15 f.body.length c15] 36 = lit at hg
  have b1 : Below w15.heap.size w15 (w15.alloc lit) := (Below.refl _ _).alloc (Nat.le_refl _) _
  have BEa : Below w0.heap.size w0 (w15.alloc lit) := BE.trans (b1.mono BE.size)
  have OWa : (w15.alloc lit).ownsRow S2 36 6 v fsk.length xs := owns_below HR BEa
  have sa := BEa.size
  have hb18 : Below S2 (w15.alloc lit) w18 := (Below.refl _ _).grown hg (by omega) (owns_base OWa)
  have s18 := hb18.size
  have C1 := (C0.below (BEa.mono (by omega))).below (hb18.mono (by omega))
  have K1 : ∀ {e : TypeId}, e ≠ 36 → e ≠ 27 → ∀ S, KeepE S e (w15.alloc lit) (w18.setCell ⟨qb, 2, none⟩ (.slice (some ⟨gB, 0, none⟩) (fsk.length + 1) cap)) := fun h1 h2 S => (KeepE.grown OWa hg h1).trans (KeepE.set _ C1.q h2)
  refine ⟨C1.set 2 _, ?_, ?_, ?_, by simp; omega⟩
  · exact (G0.below BEa).keep (K1 (by decide) (by decide) _) ⟨K1 (by decide) (by decide) _, K1 (by decide) (by decide) _⟩
  · exact GI0.same (((Same.of_below BEa (by omega)).trans (Same.of_below hb18 (Nat.le_refl _))).set (.inl (Nat.lt_succ_self _)) _ _) (Nat.le_refl _) (Nat.le_refl _)
  · have hsz : (w18.setCell ⟨qb, 2, none⟩ (.slice (some ⟨gB, 0, none⟩) (fsk.length + 1) cap)).heap.size = w18.heap.size := by simp
    refine FunRow.snoc (w := w15.alloc lit) (b3 := (w15.alloc lit).heap.size) hS0 hB HR.1 (fun i hi => (hfv i hi).keep (KeepF.below (S := S2) BEa) (Nat.le_trans hS0 (mono_le' hB (Nat.zero_le _)))) ?_ ?_ ?_ XA (by omega) (by rw [hsz]; exact s18) ⟨K1 (by decide) (by decide) _, K1 (by decide) (by decide) _⟩ (owns_of_block ho fun q hqq => Below.heap_setCell _ _ _ _ (by have := owns_base ho q hqq; simp; omega))
    · exact FdI.of (owns_below T5 b1) hBl
    · exact FdI.of (owns_below T11 b1) hBl
    · exact InI.of (owns_below T15 b1) hBl

set_option maxHeartbeats 16000000 in
set_option maxRecDepth 100000 in
theorem l3Copy_any (a0 a1 a2 : Option Addr) (c0 c1 c2 lo hi : Nat) (P : GProg) (w : World) (h : Src3 w lo hi a0 a1 a2 P) :
    Calls Tryz.prog 31 #[.agg #[.slice a0 P.types.length c0, .slice a1 P.glob.length c1, .slice a2 P.funs.length c2]] w (CopyPost w P) := by
  have HSrc := hide h
  have n0 := h.s0
  have n1 := h.s1
  have n2 := h.s2
  have hh := h.hh
  clear h
  obtain ⟨ts, gl, fs⟩ := P
  simp only at n0 n1 n2
  obtain ⟨i0, hi0, hzz⟩ := Option.map_eq_some_iff.1 Tryz.infoIns
  simp only [Prod.mk.injEq] at hzz
  obtain ⟨hz0, hs0, hb0⟩ := hzz
  have IZ := hide hz0
  have IS := hide hs0
  have IB := hide hb0
  have II := hide hi0
  clear hz0 hs0 hb0 hi0
  obtain ⟨j0, hj0, hzz⟩ := Option.map_eq_some_iff.1 Tryz.infoFun
  simp only [Prod.mk.injEq] at hzz
  obtain ⟨hz0, hs0, hb0⟩ := hzz
  have JZ := hide hz0
  have JS := hide hs0
  have JB := hide hb0
  have JI := hide hj0
  clear hz0 hs0 hb0 hj0
  obtain ⟨k0, hk0, hzz⟩ := Option.map_eq_some_iff.1 Tryz.infoField
  simp only [Prod.mk.injEq] at hzz
  obtain ⟨hz0, hs0, hb0⟩ := hzz
  have KZ := hide hz0
  have KS := hide hs0
  have KB := hide hb0
  have KI := hide hk0
  clear hz0 hs0 hb0 hk0
  obtain ⟨l0, hl0, hzz⟩ := Option.map_eq_some_iff.1 Tryz.infoTypeS
  simp only [Prod.mk.injEq] at hzz
  obtain ⟨hz0, hs0, hb0⟩ := hzz
  have LZ := hide hz0
  have LS := hide hs0
  have LB := hide hb0
  have LI := hide hl0
  clear hz0 hs0 hb0 hl0
  have b3 : Below w.heap.size w (((w.alloc (.cells #[.slice a0 ts.length c0, .slice a1 gl.length c1, .slice a2 fs.length c2] 27)).alloc (.cells #[.slice none 0 0, .slice none 0 0, .slice none 0 0] 27)).alloc (.cells #[] 33)) := (((Below.refl _ _).alloc (Nat.le_refl _) _).alloc (by simp) _).alloc (by simp; omega) _
  have E3 : Hid (EmpAt (((w.alloc (.cells #[.slice a0 ts.length c0, .slice a1 gl.length c1, .slice a2 fs.length c2] 27)).alloc (.cells #[.slice none 0 0, .slice none 0 0, .slice none 0 0] 27)).alloc (.cells #[] 33)) (w.heap.size + 2) 33) := EmpAt.new _ _ _ (by simp)
  have C3 : Hid (CellsAt (((w.alloc (.cells #[.slice a0 ts.length c0, .slice a1 gl.length c1, .slice a2 fs.length c2] 27)).alloc (.cells #[.slice none 0 0, .slice none 0 0, .slice none 0 0] 27)).alloc (.cells #[] 33)) a1 gl.length (fcells gl)) := (CellsAt.fields HSrc.out.g1 hh).below b3
  have P3 : Hid (Rec (((w.alloc (.cells #[.slice a0 ts.length c0, .slice a1 gl.length c1, .slice a2 fs.length c2] 27)).alloc (.cells #[.slice none 0 0, .slice none 0 0, .slice none 0 0] 27)).alloc (.cells #[] 33)) w.heap.size 27 [.slice a0 ts.length c0, .slice a1 gl.length c1, .slice a2 fs.length c2]) := ((Rec.new _ _ _).alloc _).alloc _
  have Z3 : Hid (Rec (((w.alloc (.cells #[.slice a0 ts.length c0, .slice a1 gl.length c1, .slice a2 fs.length c2] 27)).alloc (.cells #[.slice none 0 0, .slice none 0 0, .slice none 0 0] 27)).alloc (.cells #[] 33)) (w.heap.size + 1) 27 [.slice none 0 0, .slice none 0 0, .slice none 0 0]) := (Rec.new' _ _ _ _ (by simp)).alloc _
  have B3 := hide b3
  clear b3
  go_enter Tryz.func31, Tryz.ntmps31
  go_wp2_with (first | (at_builtin; refine wpList_copy_row _ rfl _ _ 24 33 rfl k0 _ 3 24 Tryz.underlying24 KI.out KZ.out KS.out KB.out rfl (by decide) (by decide) (w.heap.size + 2) (some ⟨w.heap.size + 2, 0, none⟩) a1 c1 gl.length (fcells gl) rfl rfl (E3.out.owns (Nat.le_refl _)) (fcells_length gl) C3.out (fcells_one gl) (by omega) (by simp) ?_))
  intro g1 gc1 w4 hr4 hb4 _
  have s3 := hb4.size
  simp only [World.size_alloc] at s3
  have CS5 : Hid (CopSt w w4.heap.size [.slice a0 ts.length c0, .slice a1 gl.length c1, .slice a2 fs.length c2] [.slice none 0 0, .slice g1 gl.length gc1, .slice none 0 0] g1 gc1 gl (w4.alloc (.cells #[.slice none 0 0, .slice g1 gl.length gc1, .slice none 0 0] 27))) :=
    ⟨((P3.out.below hb4 (by omega))).alloc _, (Z3.out.below hb4 (by omega)).alloc _, Rec.new _ _ _, (FdI.of hr4 (Nat.le_refl _)).below ((Below.refl _ _).alloc (Nat.le_refl _) _), (B3.out.trans (hb4.mono (by omega))).alloc (by omega) _, by omega⟩
  have sq : w.heap.size + 2 < w4.heap.size := by omega
  clear hr4 hb4 s3 E3 C3 P3 Z3 B3
  go_wp2_with fail
  go_loopw [4] (fun i wr => ∃ (j : Nat) (ta : Option Addr) (tc : Nat), i = .int .i64 j ∧ j ≤ ts.length ∧ Hid (CopSt w w4.heap.size [.slice a0 ts.length c0, .slice a1 gl.length c1, .slice a2 fs.length c2] [.slice ta j tc, .slice g1 gl.length gc1, .slice none 0 0] g1 gc1 gl wr) ∧ Hid (GRow wr (w4.heap.size + 1) ta tc (ts.take j))) (fun i wr => ts.length - (intOf i).toNat)
  case atStart => exact ⟨0, none, 0, rfl, Nat.zero_le _, CS5, ⟨[], ⟨rfl, .inl ⟨rfl, rfl⟩⟩, fun i hi => absurd hi (by simp)⟩⟩
  case round =>
    clear CS5
    obtain ⟨j, ta, tc, rfl, hj, HC, HG⟩ := hrel
    have p0 := HC.out.p.cell (o := 0) rfl
    have p1 := HC.out.p.cell (o := 1) rfl
    have p2 := HC.out.p.cell (o := 2) rfl
    have q0 := HC.out.q.cell (o := 0) rfl
    have qf := HC.out.q.frozen 0
    have sB := HC.out.be.size
    have qlt := HC.out.q.lt
    generalize hqb : w4.heap.size = qb at *
    clear hqb
    have hlen : (ts.take j).length = j := by simp; omega
    by_cases hjn : j < ts.length
    · have hjn' : (j : Int) < (ts.length : Int) := by omega
      have j1 : (0 : Int) ≤ (j : Int) := by omega
      rcases HSrc.out.g0.keep (HC.out.be.mono hh) with h0 | ⟨b, off, h0, lo1, hi1, hg3⟩
      · exfalso
        have h0 : ts = [] := h0
        rw [h0] at hjn
        exact absurd hjn (Nat.not_lt_zero _)
      subst h0
      obtain ⟨sa, sc, hcell, hT⟩ := hg3 j hjn
      simp only at hcell hT
      have HT := hide hT
      have HSm := hide (HSrc.out.s3 j hjn)
      have HNx := hide (take_next hjn)
      obtain ⟨xs, ho, hTR⟩ := HG.out
      rw [hlen] at ho hTR
      have HO := hide ho
      have HTR := hide hTR
      have hbw : hi ≤ wr.heap.size := by omega
      have jl : j ≤ 1000 := by omega
      have HL := hide hlen
      clear hg3 hT ho hTR HG hlen
      simp only at HSm
      generalize hgj : grAt ts j = gj at *
      clear hgj
      go_wp2_with fail
      go_region_law ((first
        | (refine step_append_lies _ (by rfl) _ _ 23 (by rfl) (qb + 1) 42 l0 _ 1 24 Tryz.underlying23 LI.out LZ.out LS.out LB.out (by rfl) (by decide) (.slice ta j tc) j xs (by rfl) (O5.out.alloc _) ⟨w5.heap.size, 0, none⟩ 1 1 [.slice na gj.length nc] (by rfl) rfl (World.news_of_block (Deep.blk_alloc_new _ _)) (by intro u hu; simp at hu; subst hu; rfl) (by decide) (by unfold maxLen; omega) (by omega) (by simp; omega) _ rfl ?_; intro gB cap6 w6 hown6 hgr6 hat6 hlt6; have Q6 := hide ((Q5.out.alloc _).grown hgr6 (row_ne O5.out (by omega))); have d0 := Q6.out.cell (o := 0) rfl; have d0f := Q6.out.frozen 0)
        | (go_simp; go_at_call 69; refine (l1Shift_any sa sc lo hi gj 0 0 _ HSm.out (by omega) (by omega) (by exact HT.out) (by exact hbw)).mono ?_; rintro e w5 ⟨na, nc, rfl, ht5, hb5⟩; have T5 := hide ht5; have B5 : Hid (Below wr.heap.size wr w5) := (Below.refl _ _).drew.trans hb5; have Q5 := hide (HC.out.q.below B5.out qlt); have O5 : Hid (w5.ownsRow (qb + 1) 42 1 (.slice ta j tc) j xs) := owns_below HO.out B5.out; have s5 := B5.out.size; have sq5 := Q5.out.lt; have d0 := Q5.out.cell (o := 0) rfl; clear ht5 hb5)))
      all_goals
        have hl6 : (ts.take j).length = j := HL.out
        have T6 : Hid (TRow (w5.alloc (.cells #[.slice na gj.length nc] 42)) (qb + 1) na nc gj) := by
          have := T5.out
          rw [shift_zero] at this
          exact (this.lower (S' := qb + 1) (by show qb + 1 ≤ wr.heap.size; omega)).below ((Below.refl _ _).alloc (Nat.le_refl _) _)
        have hk6 : KeepT (qb + 1) (w5.alloc (.cells #[.slice na gj.length nc] 42)) (w6.setCell ⟨qb, 0, none⟩ (.slice (some ⟨gB, 0, none⟩) (j + 1) cap6)) := (KeepT.grown (O5.out.alloc _) hgr6).trans ⟨KeepE.set _ Q6.out (by decide), KeepE.set _ Q6.out (by decide)⟩
        have hb6 : Below (qb + 1) (w5.alloc (.cells #[.slice na gj.length nc] 42)) w6 := (Below.refl _ _).grown hgr6 (by simp; omega) (owns_base O5.out)
        have C7 := hide (((HC.out.below (B5.out.mono (by omega))).below ((((Below.refl _ _).alloc (by omega) _).trans hb6))).set 0 (.slice (some ⟨gB, 0, none⟩) (j + 1) cap6))
        have G7 : Hid (GRow (w6.setCell ⟨qb, 0, none⟩ (.slice (some ⟨gB, 0, none⟩) (j + 1) cap6)) (qb + 1) (some ⟨gB, 0, none⟩) cap6 (ts.take (j + 1))) := by
          show GRow _ _ _ _ _
          rw [← HNx.out]
          refine GRow.snoc (ta := na) (tc := nc) (xs := xs) (fun i hi => ?_) (by rw [hl6]; have := O5.out.1; omega) (T6.out.keep hk6.1 hk6.2) (by rw [hl6]; exact owns_of_block hown6 fun q hq => Below.heap_setCell _ _ _ _ (by have := owns_base hown6 q hq; simp; omega))
          rw [hl6] at hi
          obtain ⟨ta', tc', hx', ht'⟩ := HTR.out i hi
          exact ⟨ta', tc', hx', ((ht'.below B5.out).below ((Below.refl _ _).alloc (Nat.le_refl _) _)).keep hk6.1 hk6.2⟩
        clear hown6 hgr6 hat6 hlt6 hk6 hb6 T6 Q6 Q5 T5 B5 O5 d0 d0f hl6
        go_wp2_with fail
        exact ⟨⟨j + 1, some ⟨gB, 0, none⟩, cap6, by go_num, by omega, C7, G7⟩, by simp [intOf]; omega⟩
    · have hje : Hid (j = ts.length) := Nat.le_antisymm hj (Nat.le_of_not_lt hjn)
      have HG2 : Hid (GRow wr (qb + 1) ta tc ts) := by
        have := HG.out
        rwa [hje.out, List.take_of_length_le (Nat.le_refl _)] at this
      have hje2 : ¬ (j : Int) < (ts.length : Int) := by omega
      clear HG hlen
      have C2 : Hid (CopSt w qb [.slice a0 ts.length c0, .slice a1 gl.length c1, .slice a2 fs.length c2] [.slice ta ts.length tc, .slice g1 gl.length gc1, .slice none 0 0] g1 gc1 gl wr) := hje.out ▸ HC.out
      clear HC p0 p1 p2 q0 qf
      have p0 := C2.out.p.cell (o := 0) rfl
      have p1 := C2.out.p.cell (o := 1) rfl
      have p2 := C2.out.p.cell (o := 2) rfl
      -- LOOP2
      have GI2 : Hid (GroupsIn wr (qb + 1) wr.heap.size ta ts) := HG2.out.groups
      obtain ⟨S2, hS2⟩ : ∃ x, x = wr.heap.size := ⟨_, rfl⟩
      rw [← hS2] at GI2
      have HF2 : Hid (FunRow wr S2 (.slice none 0 0) (fs.take 0)) := FunRow.nil _ _ (by omega)
      have qS2 : qb < S2 := by omega
      have S2r : S2 ≤ wr.heap.size := by omega
      clear hS2
      go_wp2_with fail
      go_loopw [5] (fun i wq => ∃ (k : Nat) (v : Value), i = .int .i64 k ∧ k ≤ fs.length ∧ Hid (CopSt w qb [.slice a0 ts.length c0, .slice a1 gl.length c1, .slice a2 fs.length c2] [.slice ta ts.length tc, .slice g1 gl.length gc1, v] g1 gc1 gl wq) ∧ Hid (GRow wq (qb + 1) ta tc ts) ∧ Hid (GroupsIn wq (qb + 1) S2 ta ts) ∧ Hid (FunRow wq S2 v (fs.take k)) ∧ S2 ≤ wq.heap.size) (fun i wq => fs.length - (intOf i).toNat)
      case atStart => exact ⟨0, .slice none 0 0, rfl, Nat.zero_le _, C2, HG2, GI2, HF2, S2r⟩
      case round =>
        clear C2 HG2 GI2 HF2 S2r p0 p1 p2 sB qlt
        rename World => wq
        obtain ⟨k, v, rfl, hk, HC, HG, HGI, HF, hS2q⟩ := hrel
        have p0 := HC.out.p.cell (o := 0) rfl
        have p1 := HC.out.p.cell (o := 1) rfl
        have p2 := HC.out.p.cell (o := 2) rfl
        have sB := HC.out.be.size
        have hlk : (fs.take k).length = k := by simp; omega
        by_cases hkn : k < fs.length
        · have hkn' : (k : Int) < (fs.length : Int) := by omega
          have k1 : (0 : Int) ≤ (k : Int) := by omega
          rcases HSrc.out.g2.keep (HC.out.be.mono hh) with h0 | ⟨b, off, h0, lo1, hi1, _, hg3⟩
          · exfalso
            have h0 : fs = [] := h0
            rw [h0] at hkn
            exact absurd hkn (Nat.not_lt_zero _)
          subst h0
          obtain ⟨ra, rc, oa, oc, ba, bc, e0, e1, e2, e3, e4, e5, l0', l4, l5⟩ := hg3 k hkn
          obtain ⟨tkl, owl, bdl⟩ := HSrc.out.s4 k hkn
          have HTk0 := hide (CellsAt.fields l0'.1 (by omega))
          have HOw0 := hide (CellsAt.fields l4.1 (by omega))
          have HBd0 := hide (CellsAt.inss l5 (by omega))
          have HNx := hide (takeF_next hkn)
          obtain ⟨xs, B, ho, hS0, hB, hBl, hfv⟩ := HF.out
          rw [hlk] at ho hBl
          have HOr := hide ho
          have HB0 := hide hS0
          have HBm := hide hB
          have HBl := hide hBl
          have HFv := hide hfv
          have HLk := hide hlk
          clear ho hS0 hB hBl hfv hg3 l0' l4 l5 HF hlk
          simp only at e0 e1 e2 e3 e4 e5 tkl owl bdl HTk0 HOw0 HBd0 HNx
          generalize hgf : funAt' fs k = F at *
          clear hgf
          obtain ⟨tk, ⟨gk, go, gm⟩, ow, bd⟩ := F
          simp only at e0 e1 e2 e3 e4 e5 tkl owl bdl HTk0 HOw0 HBd0
          have e0' : wq.cell? ⟨b, off + k * 6 + 0, none⟩ = some (.slice ra tk.length rc) := e0
          go_wp2_with fail
          have b0 : Below wq.heap.size wq (wq.alloc (.cells #[.slice ra tk.length rc, .int .i64 gk, .int .i64 go, .bool gm, .slice oa ow.length oc, .slice ba bd.length bc] 36)) := (Below.refl _ _).alloc (Nat.le_refl _) _
          have Fb0 := hide (Rec.new wq 36 [.slice ra tk.length rc, .int .i64 gk, .int .i64 go, .bool gm, .slice oa ow.length oc, .slice ba bd.length bc])
          have C0 := hide (HC.out.below (b0.mono (by omega)))
          have G0 := hide (HG.out.below b0)
          have GI0 := hide (HGI.out.keep (b0.mono hS2q))
          have HR0 := hide (owns_below HOr.out b0)
          have HFv0 : Hid (∀ i, i < (fs.take k).length → FunV (wq.alloc (.cells #[.slice ra tk.length rc, .int .i64 gk, .int .i64 go, .bool gm, .slice oa ow.length oc, .slice ba bd.length bc] 36)) (B i) (B (i + 1)) xs (i * 6) (funAt' (fs.take k) i)) := fun i hi => (HFv.out i hi).keep (KeepF.below (S := S2) b0) (Nat.le_trans HB0.out (mono_le' HBm.out (Nat.zero_le _)))
          have HTk := hide (HTk0.out.below b0)
          have HOw := hide (HOw0.out.below b0)
          have HBd := hide (HBd0.out.below b0)
          have HVlt : Hid (∀ q, v.ownBlock = some q → q < wq.heap.size) := owns_lt HOr.out
          have sw0 : wq.heap.size < (wq.alloc (.cells #[.slice ra tk.length rc, .int .i64 gk, .int .i64 go, .bool gm, .slice oa ow.length oc, .slice ba bd.length bc] 36)).heap.size := by simp
          generalize hfb : wq.heap.size = fb at *
          generalize hw0 : wq.alloc (.cells #[.slice ra tk.length rc, .int .i64 gk, .int .i64 go, .bool gm, .slice oa ow.length oc, .slice ba bd.length bc] 36) = w0 at *
          clear hw0 hfb e0 e1 e2 e3 e4 e5 e0' p0 p1 p2 b0 HTk0 HOw0 HBd0 HOr HC HG HGI HFv
          have BE := hide ((Below.refl w0.heap.size w0).drew)
          have k1000 : k ≤ 1000 := by omega
          refine beginA (S := CS w0 S2 fb qb [.slice ra tk.length rc, .int .i64 gk, .int .i64 go, .bool gm, .slice oa ow.length oc, .slice ba bd.length bc] [.slice ta ts.length tc, .slice g1 gl.length gc1, v]) 20 (by kernel_rfl) ⟨Fb0.out, C0.out.q, Nat.le_refl _, by omega, qS2⟩ (fun hHeld => ?_)
          refine takeA (i := 0) (v := ?v0n1) rfl (by kernel_rfl) (by kernel_rfl) (by kernel_rfl) (fun _ _ _ h => h) (by kernel_rfl) (by kernel_rfl) (by assumption) ?y0n1 ?r0n1
          case y0n1 => (intro w hSw; have s0 := hSw.f.cell (o := 0) rfl; have s1 := hSw.f.cell (o := 1) rfl; have s2 := hSw.f.cell (o := 2) rfl; have s3 := hSw.f.cell (o := 3) rfl; have s4 := hSw.f.cell (o := 4) rfl; have s5 := hSw.f.cell (o := 5) rfl; have sq := hSw.q.cell (o := 2) rfl; clear hSw; go_simp; try with_reducible rfl)
          (try simp only [Act.put, List.setIfInBounds_toArray, List.set_cons_zero, List.set_cons_succ])
          refine takeA (i := 1) (v := ?v1n2) rfl (by kernel_rfl) (by kernel_rfl) (by kernel_rfl) (fun _ _ _ h => h) (by kernel_rfl) (by kernel_rfl) (by assumption) ?y1n2 ?r1n2
          case y1n2 => (intro w hSw; have s0 := hSw.f.cell (o := 0) rfl; have s1 := hSw.f.cell (o := 1) rfl; have s2 := hSw.f.cell (o := 2) rfl; have s3 := hSw.f.cell (o := 3) rfl; have s4 := hSw.f.cell (o := 4) rfl; have s5 := hSw.f.cell (o := 5) rfl; have sq := hSw.q.cell (o := 2) rfl; clear hSw; go_simp; try with_reducible rfl)
          (try simp only [Act.put, List.setIfInBounds_toArray, List.set_cons_zero, List.set_cons_succ])
          refine takeA (i := 3) (v := ?v3n3) rfl (by kernel_rfl) (by kernel_rfl) (by kernel_rfl) (fun _ _ _ h => h) (by kernel_rfl) (by kernel_rfl) (by assumption) ?y3n3 ?r3n3
          case y3n3 => (intro w hSw; have s0 := hSw.f.cell (o := 0) rfl; have s1 := hSw.f.cell (o := 1) rfl; have s2 := hSw.f.cell (o := 2) rfl; have s3 := hSw.f.cell (o := 3) rfl; have s4 := hSw.f.cell (o := 4) rfl; have s5 := hSw.f.cell (o := 5) rfl; have sq := hSw.q.cell (o := 2) rfl; clear hSw; go_simp; try with_reducible rfl)
          (try simp only [Act.put, List.setIfInBounds_toArray, List.set_cons_zero, List.set_cons_succ])
          refine takeA (i := 4) (v := ?v4n4) rfl (by kernel_rfl) (by kernel_rfl) (by kernel_rfl) (fun _ _ _ h => h) (by kernel_rfl) (by kernel_rfl) (by assumption) ?y4n4 ?r4n4
          case y4n4 => (intro w hSw; have s0 := hSw.f.cell (o := 0) rfl; have s1 := hSw.f.cell (o := 1) rfl; have s2 := hSw.f.cell (o := 2) rfl; have s3 := hSw.f.cell (o := 3) rfl; have s4 := hSw.f.cell (o := 4) rfl; have s5 := hSw.f.cell (o := 5) rfl; have sq := hSw.q.cell (o := 2) rfl; clear hSw; go_simp; try with_reducible rfl)
          (try simp only [Act.put, List.setIfInBounds_toArray, List.set_cons_zero, List.set_cons_succ])
          refine takeA (i := 6) (v := ?v6n5) rfl (by kernel_rfl) (by kernel_rfl) (by kernel_rfl) (fun _ _ _ h => h) (by kernel_rfl) (by kernel_rfl) (by assumption) ?y6n5 ?r6n5
          case y6n5 => (intro w hSw; have s0 := hSw.f.cell (o := 0) rfl; have s1 := hSw.f.cell (o := 1) rfl; have s2 := hSw.f.cell (o := 2) rfl; have s3 := hSw.f.cell (o := 3) rfl; have s4 := hSw.f.cell (o := 4) rfl; have s5 := hSw.f.cell (o := 5) rfl; have sq := hSw.q.cell (o := 2) rfl; clear hSw; go_simp; try with_reducible rfl)
          (try simp only [Act.put, List.setIfInBounds_toArray, List.set_cons_zero, List.set_cons_succ])
          refine takeA (i := 7) (v := ?v7n6) rfl (by kernel_rfl) (by kernel_rfl) (by kernel_rfl) (fun _ _ _ h => h) (by kernel_rfl) (by kernel_rfl) (by assumption) ?y7n6 ?r7n6
          case y7n6 => (intro w hSw; have s0 := hSw.f.cell (o := 0) rfl; have s1 := hSw.f.cell (o := 1) rfl; have s2 := hSw.f.cell (o := 2) rfl; have s3 := hSw.f.cell (o := 3) rfl; have s4 := hSw.f.cell (o := 4) rfl; have s5 := hSw.f.cell (o := 5) rfl; have sq := hSw.q.cell (o := 2) rfl; clear hSw; go_simp; try with_reducible rfl)
          (try simp only [Act.put, List.setIfInBounds_toArray, List.set_cons_zero, List.set_cons_succ])
          refine takeA (i := 9) (v := ?v9n7) rfl (by kernel_rfl) (by kernel_rfl) (by kernel_rfl) (fun _ _ _ h => h) (by kernel_rfl) (by kernel_rfl) (by assumption) ?y9n7 ?r9n7
          case y9n7 => (intro w hSw; have s0 := hSw.f.cell (o := 0) rfl; have s1 := hSw.f.cell (o := 1) rfl; have s2 := hSw.f.cell (o := 2) rfl; have s3 := hSw.f.cell (o := 3) rfl; have s4 := hSw.f.cell (o := 4) rfl; have s5 := hSw.f.cell (o := 5) rfl; have sq := hSw.q.cell (o := 2) rfl; clear hSw; go_simp; try with_reducible rfl)
          (try simp only [Act.put, List.setIfInBounds_toArray, List.set_cons_zero, List.set_cons_succ])
          refine takeA (i := 10) (v := ?v10n8) rfl (by kernel_rfl) (by kernel_rfl) (by kernel_rfl) (fun _ _ _ h => h) (by kernel_rfl) (by kernel_rfl) (by assumption) ?y10n8 ?r10n8
          case y10n8 => (intro w hSw; have s0 := hSw.f.cell (o := 0) rfl; have s1 := hSw.f.cell (o := 1) rfl; have s2 := hSw.f.cell (o := 2) rfl; have s3 := hSw.f.cell (o := 3) rfl; have s4 := hSw.f.cell (o := 4) rfl; have s5 := hSw.f.cell (o := 5) rfl; have sq := hSw.q.cell (o := 2) rfl; clear hSw; go_simp; try with_reducible rfl)
          (try simp only [Act.put, List.setIfInBounds_toArray, List.set_cons_zero, List.set_cons_succ])
          refine takeA (i := 13) (v := ?v13n9) rfl (by kernel_rfl) (by kernel_rfl) (by kernel_rfl) (fun _ _ _ h => h) (by kernel_rfl) (by kernel_rfl) (by assumption) ?y13n9 ?r13n9
          case y13n9 => (intro w hSw; have s0 := hSw.f.cell (o := 0) rfl; have s1 := hSw.f.cell (o := 1) rfl; have s2 := hSw.f.cell (o := 2) rfl; have s3 := hSw.f.cell (o := 3) rfl; have s4 := hSw.f.cell (o := 4) rfl; have s5 := hSw.f.cell (o := 5) rfl; have sq := hSw.q.cell (o := 2) rfl; clear hSw; go_simp; try with_reducible rfl)
          (try simp only [Act.put, List.setIfInBounds_toArray, List.set_cons_zero, List.set_cons_succ])
          refine takeA (i := 14) (v := ?v14n10) rfl (by kernel_rfl) (by kernel_rfl) (by kernel_rfl) (fun _ _ _ h => h) (by kernel_rfl) (by kernel_rfl) (by assumption) ?y14n10 ?r14n10
          case y14n10 => (intro w hSw; have s0 := hSw.f.cell (o := 0) rfl; have s1 := hSw.f.cell (o := 1) rfl; have s2 := hSw.f.cell (o := 2) rfl; have s3 := hSw.f.cell (o := 3) rfl; have s4 := hSw.f.cell (o := 4) rfl; have s5 := hSw.f.cell (o := 5) rfl; have sq := hSw.q.cell (o := 2) rfl; clear hSw; go_simp; try with_reducible rfl)
          (try simp only [Act.put, List.setIfInBounds_toArray, List.set_cons_zero, List.set_cons_succ])
          refine readyA (rs := [2, 8, 12]) (by kernel_rfl) (by simp) ?_
          refine AllL.cons rfl (fun K hK => ?_) ?_
          · go_simp
            refine hK.out _ _ (hHeld.below ((Below.refl _ _).alloc (Nat.le_refl _) _)) (fun hHeld => ?_)
            clear hK K
            (try simp only [Act.put, List.setIfInBounds_toArray, List.set_cons_zero, List.set_cons_succ])
            replace BE := hide (BE.out.alloc BE.out.size (.cells #[] 33))
            have E2 : Hid (EmpAt (w0.drew.alloc (.cells #[] 33)) (w0.heap.size) 33) := EmpAt.new _ _ _ (by simp)
            refine readyA (rs := [5, 8, 12]) (by kernel_rfl) (by simp) ?_
            refine AllL.cons rfl (fun K hK => ?_) ?_
            · refine step_copy_row _ (by rfl) _ _ 24 33 (by rfl) k0 _ 3 24 Tryz.underlying24 KI.out KZ.out KS.out KB.out (by rfl) (by decide) (by decide) w0.heap.size (some ⟨w0.heap.size, 0, none⟩) ra rc tk.length (fcells tk) (by rfl) (by rfl) (E2.out.owns (by omega)) (fcells_length tk) (HTk.out.below BE.out) (fcells_one tk) (by omega) hHeld.sz ?_
              intro na5 nc5 w5 h5 hb5 hx5
              refine hK.out _ _ (hHeld.below hb5) (fun hHeld => ?_)
              clear hK K
              (try simp only [Act.put, List.setIfInBounds_toArray, List.set_cons_zero, List.set_cons_succ])
              have z5 : w0.heap.size + 1 ≤ w5.heap.size := by have := hb5.size; simpa using this
              have HX5 : Hid (na5 = some ⟨w0.heap.size, 0, none⟩ ∨ na5 = some ⟨w0.heap.size + 1, 0, none⟩ ∧ w0.heap.size + 1 < w5.heap.size) := by simpa [Hid] using hx5
              replace BE := hide (BE.out.trans (hb5.mono BE.out.size))
              replace E2 := hide (E2.out.below hb5)
              have T5 := hide h5
              clear h5 hb5 hx5
              clear E2
              refine readyA (rs := [8, 12]) (by kernel_rfl) (by simp) ?_
              refine AllL.cons rfl (fun K hK => ?_) ?_
              · go_simp
                refine hK.out _ _ (hHeld.below ((Below.refl _ _).alloc (Nat.le_refl _) _)) (fun hHeld => ?_)
                clear hK K
                (try simp only [Act.put, List.setIfInBounds_toArray, List.set_cons_zero, List.set_cons_succ])
                replace BE := hide (BE.out.alloc BE.out.size (.cells #[] 33))
                replace T5 := hide (World.ownsRow.alloc T5.out (.cells #[] 33))
                have E8 : Hid (EmpAt (w5.alloc (.cells #[] 33)) (w5.heap.size) 33) := EmpAt.new _ _ _ (by simp)
                refine readyA (rs := [11, 12]) (by kernel_rfl) (by simp) ?_
                refine AllL.cons rfl (fun K hK => ?_) ?_
                · refine step_copy_row _ (by rfl) _ _ 24 33 (by rfl) k0 _ 3 24 Tryz.underlying24 KI.out KZ.out KS.out KB.out (by rfl) (by decide) (by decide) w0.heap.size (some ⟨w5.heap.size, 0, none⟩) oa oc ow.length (fcells ow) (by rfl) (by rfl) (E8.out.owns (by omega)) (fcells_length ow) (HOw.out.below BE.out) (fcells_one ow) (by omega) hHeld.sz ?_
                  intro na11 nc11 w11 h11 hb11 hx11
                  refine hK.out _ _ (hHeld.below hb11) (fun hHeld => ?_)
                  clear hK K
                  (try simp only [Act.put, List.setIfInBounds_toArray, List.set_cons_zero, List.set_cons_succ])
                  have z11 : w5.heap.size + 1 ≤ w11.heap.size := by have := hb11.size; simpa using this
                  have XA : Hid (Apart2 (.slice na5 tk.length nc5) (.slice na11 ow.length nc11)) := apart_two HX5.out (show na11 = some ⟨w5.heap.size, 0, none⟩ ∨ na11 = some ⟨w5.heap.size + 1, 0, none⟩ ∧ w5.heap.size + 1 < w11.heap.size by simpa using hx11) (by omega) (by omega) (by omega) (by omega)
                  replace BE := hide (BE.out.trans (hb11.mono BE.out.size))
                  replace E8 := hide (E8.out.below hb11)
                  replace T5 := hide (owns_below T5.out hb11)
                  have T11 := hide h11
                  clear h11 hb11 hx11
                  clear E8
                  refine readyA (rs := [12]) (by kernel_rfl) (by simp) ?_
                  refine AllL.cons rfl (fun K hK => ?_) ?_
                  · go_simp
                    refine hK.out _ _ (hHeld.below ((Below.refl _ _).alloc (Nat.le_refl _) _)) (fun hHeld => ?_)
                    clear hK K
                    (try simp only [Act.put, List.setIfInBounds_toArray, List.set_cons_zero, List.set_cons_succ])
                    replace BE := hide (BE.out.alloc BE.out.size (.cells #[] 59))
                    replace T5 := hide (World.ownsRow.alloc T5.out (.cells #[] 59))
                    replace T11 := hide (World.ownsRow.alloc T11.out (.cells #[] 59))
                    have E12 : Hid (EmpAt (w11.alloc (.cells #[] 59)) (w11.heap.size) 59) := EmpAt.new _ _ _ (by simp)
                    refine readyA (rs := [15]) (by kernel_rfl) (by simp) ?_
                    refine AllL.cons rfl (fun K hK => ?_) ?_
                    · refine step_copy_row _ (by rfl) _ _ 34 59 (by rfl) i0 _ 3 24 Tryz.underlying34 II.out IZ.out IS.out IB.out (by rfl) (by decide) (by decide) w0.heap.size (some ⟨w11.heap.size, 0, none⟩) ba bc bd.length (icells bd) (by rfl) (by rfl) (E12.out.owns (by omega)) (icells_length bd) (HBd.out.below BE.out) (icells_one bd) (by omega) hHeld.sz ?_
                      intro na15 nc15 w15 h15 hb15 hx15
                      refine hK.out _ _ (hHeld.below hb15) (fun hHeld => ?_)
                      clear hK K
                      (try simp only [Act.put, List.setIfInBounds_toArray, List.set_cons_zero, List.set_cons_succ])
                      have z15 : w11.heap.size + 1 ≤ w15.heap.size := by have := hb15.size; simpa using this
                      replace BE := hide (BE.out.trans (hb15.mono BE.out.size))
                      replace E12 := hide (E12.out.below hb15)
                      replace T5 := hide (owns_below T5.out hb15)
                      replace T11 := hide (owns_below T11.out hb15)
                      have T15 := hide h15
                      clear h15 hb15 hx15
                      clear E12
                      refine takeA (i := 16) (v := ?v16n11) rfl (by kernel_rfl) (by kernel_rfl) (by kernel_rfl) (fun _ _ _ h => h) (by kernel_rfl) (by kernel_rfl) (by assumption) ?y16n11 ?r16n11
                      case y16n11 => (intro w hSw; have s0 := hSw.f.cell (o := 0) rfl; have s1 := hSw.f.cell (o := 1) rfl; have s2 := hSw.f.cell (o := 2) rfl; have s3 := hSw.f.cell (o := 3) rfl; have s4 := hSw.f.cell (o := 4) rfl; have s5 := hSw.f.cell (o := 5) rfl; have sq := hSw.q.cell (o := 2) rfl; clear hSw; go_simp; try with_reducible rfl)
                      (try simp only [Act.put, List.setIfInBounds_toArray, List.set_cons_zero, List.set_cons_succ])
                      refine readyA (rs := [17]) (by kernel_rfl) (by simp) ?_
                      refine AllL.cons rfl (fun K hK => ?_) ?_
                      · go_simp
                        refine hK.out _ _ (hHeld.below ((Below.refl _ _).alloc (Nat.le_refl _) _)) (fun hHeld => ?_)
                        clear hK K
                        (try simp only [Act.put, List.setIfInBounds_toArray, List.set_cons_zero, List.set_cons_succ])
                        have BA := hide (BE.out.alloc BE.out.size (.cells #[.slice na5 tk.length nc5, .int .i64 gk, .int .i64 go, .bool gm, .slice na11 ow.length nc11, .slice na15 bd.length nc15] 36))
                        refine readyA (rs := [18]) (by kernel_rfl) (by simp) ?_
                        refine AllL.cons rfl (fun K hK => ?_) ?_
                        · have OW := hide (owns_below HR0.out BA.out)
                          refine step_append_lies _ (by rfl) _ _ 25 (by rfl) S2 36 j0 _ 6 96 Tryz.underlying25 JI.out JZ.out JS.out JB.out (by rfl) (by decide) v k xs (by rfl) OW.out ⟨w15.heap.size, 0, none⟩ 1 1 [.slice na5 tk.length nc5, .int .i64 gk, .int .i64 go, .bool gm, .slice na11 ow.length nc11, .slice na15 bd.length nc15] (by rfl) rfl (World.news_of_block (Deep.blk_alloc_new _ _)) (by intro u hu; simp at hu; rcases hu with rfl | rfl | rfl | rfl | rfl | rfl <;> rfl) (by decide) (by unfold maxLen; omega) (by omega) (by have := hHeld.sz; have := hHeld.hS; omega) _ rfl ?_
                          intro gB cap18 w18 hown18 hgr18 hat18 hlt18
                          refine hK.out _ _ (hHeld.grown hgr18 (owns_base OW.out) (fun q hq => HVlt.out q hq)) (fun hHeld => ?_)
                          clear hK K
                          (try simp only [Act.put, List.setIfInBounds_toArray, List.set_cons_zero, List.set_cons_succ])
                          refine takeA (i := 19) (v := ?v19n12) rfl (by kernel_rfl) (by kernel_rfl) (by kernel_rfl) (fun _ _ _ h => h) (by kernel_rfl) (by kernel_rfl) (by assumption) ?y19n12 ?r19n12
                          case y19n12 => (intro w hSw; have s0 := hSw.f.cell (o := 0) rfl; have s1 := hSw.f.cell (o := 1) rfl; have s2 := hSw.f.cell (o := 2) rfl; have s3 := hSw.f.cell (o := 3) rfl; have s4 := hSw.f.cell (o := 4) rfl; have s5 := hSw.f.cell (o := 5) rfl; have sq := hSw.q.cell (o := 2) rfl; clear hSw; go_simp; try with_reducible rfl)
                          (try simp only [Act.put, List.setIfInBounds_toArray, List.set_cons_zero, List.set_cons_succ])
                          refine readyA (rs := [20]) (by kernel_rfl) (by simp) ?_
                          refine AllL.last rfl (fun K hK => ?_)
                          have d2 := hHeld.q.cell (o := 2) rfl
                          have d2f := hHeld.q.frozen 2
                          go_simp
                          refine hK.out _ _ ?_
                          clear hK K
                          (try simp only [Act.put, List.setIfInBounds_toArray, List.set_cons_zero, List.set_cons_succ])
                          refine doneA (by kernel_rfl) ?_ _
                          have FIN := hide (copy_fin (fsk := fs.take k) (f := ⟨tk, ⟨gk, go, gm⟩, ow, bd⟩) C0.out G0.out GI0.out (by rw [HLk.out]; exact HR0.out) HB0.out HBm.out (by rw [HLk.out]; exact Nat.le_trans HBl.out (Nat.le_of_lt sw0)) HFv0.out qS2 (Nat.le_trans hS2q (Nat.le_of_lt sw0)) BE.out T5.out T11.out T15.out XA.out (by rw [HLk.out]; exact hown18) hgr18)
                          simp only [HLk.out, HNx.out] at FIN
                          clear T5 T11 T15 XA hown18 hgr18 hat18 hlt18 OW d2 d2f BA BE hHeld
                          go_wp2_with fail
                          exact ⟨⟨k + 1, .slice (some ⟨gB, 0, none⟩) (k + 1) cap18, by go_num, by omega, FIN.out.1, FIN.out.2.1, FIN.out.2.2.1, FIN.out.2.2.2.1, FIN.out.2.2.2.2⟩, by simp [intOf]; omega⟩
                        exact AllL.nil
                      exact AllL.nil
                    exact AllL.nil
                  exact AllL.nil
                refine AllL.cons rfl (fun K hK => ?_) ?_
                · go_simp
                  refine hK.out _ _ (hHeld.below ((Below.refl _ _).alloc (Nat.le_refl _) _)) (fun hHeld => ?_)
                  clear hK K
                  (try simp only [Act.put, List.setIfInBounds_toArray, List.set_cons_zero, List.set_cons_succ])
                  replace BE := hide (BE.out.alloc BE.out.size (.cells #[] 59))
                  replace E8 := hide (E8.out.alloc (.cells #[] 59))
                  replace T5 := hide (World.ownsRow.alloc T5.out (.cells #[] 59))
                  have E12 : Hid (EmpAt ((w5.alloc (.cells #[] 33)).alloc (.cells #[] 59)) (w5.heap.size + 1) 59) := EmpAt.new _ _ _ (by simp)
                  refine readyA (rs := [11]) (by kernel_rfl) (by simp) ?_
                  refine AllL.cons rfl (fun K hK => ?_) ?_
                  · refine step_copy_row _ (by rfl) _ _ 24 33 (by rfl) k0 _ 3 24 Tryz.underlying24 KI.out KZ.out KS.out KB.out (by rfl) (by decide) (by decide) w0.heap.size (some ⟨w5.heap.size, 0, none⟩) oa oc ow.length (fcells ow) (by rfl) (by rfl) (E8.out.owns (by omega)) (fcells_length ow) (HOw.out.below BE.out) (fcells_one ow) (by omega) hHeld.sz ?_
                    intro na11 nc11 w11 h11 hb11 hx11
                    refine hK.out _ _ (hHeld.below hb11) (fun hHeld => ?_)
                    clear hK K
                    (try simp only [Act.put, List.setIfInBounds_toArray, List.set_cons_zero, List.set_cons_succ])
                    have z11 : w5.heap.size + 1 + 1 ≤ w11.heap.size := by have := hb11.size; simpa using this
                    have XA : Hid (Apart2 (.slice na5 tk.length nc5) (.slice na11 ow.length nc11)) := apart_two HX5.out (show na11 = some ⟨w5.heap.size, 0, none⟩ ∨ na11 = some ⟨w5.heap.size + 1 + 1, 0, none⟩ ∧ w5.heap.size + 1 + 1 < w11.heap.size by simpa using hx11) (by omega) (by omega) (by omega) (by omega)
                    replace BE := hide (BE.out.trans (hb11.mono BE.out.size))
                    replace E8 := hide (E8.out.below hb11)
                    replace E12 := hide (E12.out.below hb11)
                    replace T5 := hide (owns_below T5.out hb11)
                    have T11 := hide h11
                    clear h11 hb11 hx11
                    clear E8
                    refine readyA (rs := [15]) (by kernel_rfl) (by simp) ?_
                    refine AllL.cons rfl (fun K hK => ?_) ?_
                    · refine step_copy_row _ (by rfl) _ _ 34 59 (by rfl) i0 _ 3 24 Tryz.underlying34 II.out IZ.out IS.out IB.out (by rfl) (by decide) (by decide) w0.heap.size (some ⟨w5.heap.size + 1, 0, none⟩) ba bc bd.length (icells bd) (by rfl) (by rfl) (E12.out.owns (by omega)) (icells_length bd) (HBd.out.below BE.out) (icells_one bd) (by omega) hHeld.sz ?_
                      intro na15 nc15 w15 h15 hb15 hx15
                      refine hK.out _ _ (hHeld.below hb15) (fun hHeld => ?_)
                      clear hK K
                      (try simp only [Act.put, List.setIfInBounds_toArray, List.set_cons_zero, List.set_cons_succ])
                      have z15 : w11.heap.size ≤ w15.heap.size := by have := hb15.size; simpa using this
                      replace BE := hide (BE.out.trans (hb15.mono BE.out.size))
                      replace E12 := hide (E12.out.below hb15)
                      replace T5 := hide (owns_below T5.out hb15)
                      replace T11 := hide (owns_below T11.out hb15)
                      have T15 := hide h15
                      clear h15 hb15 hx15
                      clear E12
                      refine takeA (i := 16) (v := ?v16n13) rfl (by kernel_rfl) (by kernel_rfl) (by kernel_rfl) (fun _ _ _ h => h) (by kernel_rfl) (by kernel_rfl) (by assumption) ?y16n13 ?r16n13
                      case y16n13 => (intro w hSw; have s0 := hSw.f.cell (o := 0) rfl; have s1 := hSw.f.cell (o := 1) rfl; have s2 := hSw.f.cell (o := 2) rfl; have s3 := hSw.f.cell (o := 3) rfl; have s4 := hSw.f.cell (o := 4) rfl; have s5 := hSw.f.cell (o := 5) rfl; have sq := hSw.q.cell (o := 2) rfl; clear hSw; go_simp; try with_reducible rfl)
                      (try simp only [Act.put, List.setIfInBounds_toArray, List.set_cons_zero, List.set_cons_succ])
                      refine readyA (rs := [17]) (by kernel_rfl) (by simp) ?_
                      refine AllL.cons rfl (fun K hK => ?_) ?_
                      · go_simp
                        refine hK.out _ _ (hHeld.below ((Below.refl _ _).alloc (Nat.le_refl _) _)) (fun hHeld => ?_)
                        clear hK K
                        (try simp only [Act.put, List.setIfInBounds_toArray, List.set_cons_zero, List.set_cons_succ])
                        have BA := hide (BE.out.alloc BE.out.size (.cells #[.slice na5 tk.length nc5, .int .i64 gk, .int .i64 go, .bool gm, .slice na11 ow.length nc11, .slice na15 bd.length nc15] 36))
                        refine readyA (rs := [18]) (by kernel_rfl) (by simp) ?_
                        refine AllL.cons rfl (fun K hK => ?_) ?_
                        · have OW := hide (owns_below HR0.out BA.out)
                          refine step_append_lies _ (by rfl) _ _ 25 (by rfl) S2 36 j0 _ 6 96 Tryz.underlying25 JI.out JZ.out JS.out JB.out (by rfl) (by decide) v k xs (by rfl) OW.out ⟨w15.heap.size, 0, none⟩ 1 1 [.slice na5 tk.length nc5, .int .i64 gk, .int .i64 go, .bool gm, .slice na11 ow.length nc11, .slice na15 bd.length nc15] (by rfl) rfl (World.news_of_block (Deep.blk_alloc_new _ _)) (by intro u hu; simp at hu; rcases hu with rfl | rfl | rfl | rfl | rfl | rfl <;> rfl) (by decide) (by unfold maxLen; omega) (by omega) (by have := hHeld.sz; have := hHeld.hS; omega) _ rfl ?_
                          intro gB cap18 w18 hown18 hgr18 hat18 hlt18
                          refine hK.out _ _ (hHeld.grown hgr18 (owns_base OW.out) (fun q hq => HVlt.out q hq)) (fun hHeld => ?_)
                          clear hK K
                          (try simp only [Act.put, List.setIfInBounds_toArray, List.set_cons_zero, List.set_cons_succ])
                          refine takeA (i := 19) (v := ?v19n14) rfl (by kernel_rfl) (by kernel_rfl) (by kernel_rfl) (fun _ _ _ h => h) (by kernel_rfl) (by kernel_rfl) (by assumption) ?y19n14 ?r19n14
                          case y19n14 => (intro w hSw; have s0 := hSw.f.cell (o := 0) rfl; have s1 := hSw.f.cell (o := 1) rfl; have s2 := hSw.f.cell (o := 2) rfl; have s3 := hSw.f.cell (o := 3) rfl; have s4 := hSw.f.cell (o := 4) rfl; have s5 := hSw.f.cell (o := 5) rfl; have sq := hSw.q.cell (o := 2) rfl; clear hSw; go_simp; try with_reducible rfl)
                          (try simp only [Act.put, List.setIfInBounds_toArray, List.set_cons_zero, List.set_cons_succ])
                          refine readyA (rs := [20]) (by kernel_rfl) (by simp) ?_
                          refine AllL.last rfl (fun K hK => ?_)
                          have d2 := hHeld.q.cell (o := 2) rfl
                          have d2f := hHeld.q.frozen 2
                          go_simp
                          refine hK.out _ _ ?_
                          clear hK K
                          (try simp only [Act.put, List.setIfInBounds_toArray, List.set_cons_zero, List.set_cons_succ])
                          refine doneA (by kernel_rfl) ?_ _
                          have FIN := hide (copy_fin (fsk := fs.take k) (f := ⟨tk, ⟨gk, go, gm⟩, ow, bd⟩) C0.out G0.out GI0.out (by rw [HLk.out]; exact HR0.out) HB0.out HBm.out (by rw [HLk.out]; exact Nat.le_trans HBl.out (Nat.le_of_lt sw0)) HFv0.out qS2 (Nat.le_trans hS2q (Nat.le_of_lt sw0)) BE.out T5.out T11.out T15.out XA.out (by rw [HLk.out]; exact hown18) hgr18)
                          simp only [HLk.out, HNx.out] at FIN
                          clear T5 T11 T15 XA hown18 hgr18 hat18 hlt18 OW d2 d2f BA BE hHeld
                          go_wp2_with fail
                          exact ⟨⟨k + 1, .slice (some ⟨gB, 0, none⟩) (k + 1) cap18, by go_num, by omega, FIN.out.1, FIN.out.2.1, FIN.out.2.2.1, FIN.out.2.2.2.1, FIN.out.2.2.2.2⟩, by simp [intOf]; omega⟩
                        exact AllL.nil
                      exact AllL.nil
                    exact AllL.nil
                  exact AllL.nil
                exact AllL.nil
              refine AllL.cons rfl (fun K hK => ?_) ?_
              · go_simp
                refine hK.out _ _ (hHeld.below ((Below.refl _ _).alloc (Nat.le_refl _) _)) (fun hHeld => ?_)
                clear hK K
                (try simp only [Act.put, List.setIfInBounds_toArray, List.set_cons_zero, List.set_cons_succ])
                replace BE := hide (BE.out.alloc BE.out.size (.cells #[] 59))
                replace T5 := hide (World.ownsRow.alloc T5.out (.cells #[] 59))
                have E12 : Hid (EmpAt (w5.alloc (.cells #[] 59)) (w5.heap.size) 59) := EmpAt.new _ _ _ (by simp)
                refine readyA (rs := [8]) (by kernel_rfl) (by simp) ?_
                refine AllL.cons rfl (fun K hK => ?_) ?_
                · go_simp
                  refine hK.out _ _ (hHeld.below ((Below.refl _ _).alloc (Nat.le_refl _) _)) (fun hHeld => ?_)
                  clear hK K
                  (try simp only [Act.put, List.setIfInBounds_toArray, List.set_cons_zero, List.set_cons_succ])
                  replace BE := hide (BE.out.alloc BE.out.size (.cells #[] 33))
                  replace E12 := hide (E12.out.alloc (.cells #[] 33))
                  replace T5 := hide (World.ownsRow.alloc T5.out (.cells #[] 33))
                  have E8 : Hid (EmpAt ((w5.alloc (.cells #[] 59)).alloc (.cells #[] 33)) (w5.heap.size + 1) 33) := EmpAt.new _ _ _ (by simp)
                  refine readyA (rs := [11]) (by kernel_rfl) (by simp) ?_
                  refine AllL.cons rfl (fun K hK => ?_) ?_
                  · refine step_copy_row _ (by rfl) _ _ 24 33 (by rfl) k0 _ 3 24 Tryz.underlying24 KI.out KZ.out KS.out KB.out (by rfl) (by decide) (by decide) w0.heap.size (some ⟨w5.heap.size + 1, 0, none⟩) oa oc ow.length (fcells ow) (by rfl) (by rfl) (E8.out.owns (by omega)) (fcells_length ow) (HOw.out.below BE.out) (fcells_one ow) (by omega) hHeld.sz ?_
                    intro na11 nc11 w11 h11 hb11 hx11
                    refine hK.out _ _ (hHeld.below hb11) (fun hHeld => ?_)
                    clear hK K
                    (try simp only [Act.put, List.setIfInBounds_toArray, List.set_cons_zero, List.set_cons_succ])
                    have z11 : w5.heap.size + 1 + 1 ≤ w11.heap.size := by have := hb11.size; simpa using this
                    have XA : Hid (Apart2 (.slice na5 tk.length nc5) (.slice na11 ow.length nc11)) := apart_two HX5.out (show na11 = some ⟨w5.heap.size + 1, 0, none⟩ ∨ na11 = some ⟨w5.heap.size + 1 + 1, 0, none⟩ ∧ w5.heap.size + 1 + 1 < w11.heap.size by simpa using hx11) (by omega) (by omega) (by omega) (by omega)
                    replace BE := hide (BE.out.trans (hb11.mono BE.out.size))
                    replace E12 := hide (E12.out.below hb11)
                    replace E8 := hide (E8.out.below hb11)
                    replace T5 := hide (owns_below T5.out hb11)
                    have T11 := hide h11
                    clear h11 hb11 hx11
                    clear E8
                    refine readyA (rs := [15]) (by kernel_rfl) (by simp) ?_
                    refine AllL.cons rfl (fun K hK => ?_) ?_
                    · refine step_copy_row _ (by rfl) _ _ 34 59 (by rfl) i0 _ 3 24 Tryz.underlying34 II.out IZ.out IS.out IB.out (by rfl) (by decide) (by decide) w0.heap.size (some ⟨w5.heap.size, 0, none⟩) ba bc bd.length (icells bd) (by rfl) (by rfl) (E12.out.owns (by omega)) (icells_length bd) (HBd.out.below BE.out) (icells_one bd) (by omega) hHeld.sz ?_
                      intro na15 nc15 w15 h15 hb15 hx15
                      refine hK.out _ _ (hHeld.below hb15) (fun hHeld => ?_)
                      clear hK K
                      (try simp only [Act.put, List.setIfInBounds_toArray, List.set_cons_zero, List.set_cons_succ])
                      have z15 : w11.heap.size ≤ w15.heap.size := by have := hb15.size; simpa using this
                      replace BE := hide (BE.out.trans (hb15.mono BE.out.size))
                      replace E12 := hide (E12.out.below hb15)
                      replace T5 := hide (owns_below T5.out hb15)
                      replace T11 := hide (owns_below T11.out hb15)
                      have T15 := hide h15
                      clear h15 hb15 hx15
                      clear E12
                      refine takeA (i := 16) (v := ?v16n15) rfl (by kernel_rfl) (by kernel_rfl) (by kernel_rfl) (fun _ _ _ h => h) (by kernel_rfl) (by kernel_rfl) (by assumption) ?y16n15 ?r16n15
                      case y16n15 => (intro w hSw; have s0 := hSw.f.cell (o := 0) rfl; have s1 := hSw.f.cell (o := 1) rfl; have s2 := hSw.f.cell (o := 2) rfl; have s3 := hSw.f.cell (o := 3) rfl; have s4 := hSw.f.cell (o := 4) rfl; have s5 := hSw.f.cell (o := 5) rfl; have sq := hSw.q.cell (o := 2) rfl; clear hSw; go_simp; try with_reducible rfl)
                      (try simp only [Act.put, List.setIfInBounds_toArray, List.set_cons_zero, List.set_cons_succ])
                      refine readyA (rs := [17]) (by kernel_rfl) (by simp) ?_
                      refine AllL.cons rfl (fun K hK => ?_) ?_
                      · go_simp
                        refine hK.out _ _ (hHeld.below ((Below.refl _ _).alloc (Nat.le_refl _) _)) (fun hHeld => ?_)
                        clear hK K
                        (try simp only [Act.put, List.setIfInBounds_toArray, List.set_cons_zero, List.set_cons_succ])
                        have BA := hide (BE.out.alloc BE.out.size (.cells #[.slice na5 tk.length nc5, .int .i64 gk, .int .i64 go, .bool gm, .slice na11 ow.length nc11, .slice na15 bd.length nc15] 36))
                        refine readyA (rs := [18]) (by kernel_rfl) (by simp) ?_
                        refine AllL.cons rfl (fun K hK => ?_) ?_
                        · have OW := hide (owns_below HR0.out BA.out)
                          refine step_append_lies _ (by rfl) _ _ 25 (by rfl) S2 36 j0 _ 6 96 Tryz.underlying25 JI.out JZ.out JS.out JB.out (by rfl) (by decide) v k xs (by rfl) OW.out ⟨w15.heap.size, 0, none⟩ 1 1 [.slice na5 tk.length nc5, .int .i64 gk, .int .i64 go, .bool gm, .slice na11 ow.length nc11, .slice na15 bd.length nc15] (by rfl) rfl (World.news_of_block (Deep.blk_alloc_new _ _)) (by intro u hu; simp at hu; rcases hu with rfl | rfl | rfl | rfl | rfl | rfl <;> rfl) (by decide) (by unfold maxLen; omega) (by omega) (by have := hHeld.sz; have := hHeld.hS; omega) _ rfl ?_
                          intro gB cap18 w18 hown18 hgr18 hat18 hlt18
                          refine hK.out _ _ (hHeld.grown hgr18 (owns_base OW.out) (fun q hq => HVlt.out q hq)) (fun hHeld => ?_)
                          clear hK K
                          (try simp only [Act.put, List.setIfInBounds_toArray, List.set_cons_zero, List.set_cons_succ])
                          refine takeA (i := 19) (v := ?v19n16) rfl (by kernel_rfl) (by kernel_rfl) (by kernel_rfl) (fun _ _ _ h => h) (by kernel_rfl) (by kernel_rfl) (by assumption) ?y19n16 ?r19n16
                          case y19n16 => (intro w hSw; have s0 := hSw.f.cell (o := 0) rfl; have s1 := hSw.f.cell (o := 1) rfl; have s2 := hSw.f.cell (o := 2) rfl; have s3 := hSw.f.cell (o := 3) rfl; have s4 := hSw.f.cell (o := 4) rfl; have s5 := hSw.f.cell (o := 5) rfl; have sq := hSw.q.cell (o := 2) rfl; clear hSw; go_simp; try with_reducible rfl)
                          (try simp only [Act.put, List.setIfInBounds_toArray, List.set_cons_zero, List.set_cons_succ])
                          refine readyA (rs := [20]) (by kernel_rfl) (by simp) ?_
                          refine AllL.last rfl (fun K hK => ?_)
                          have d2 := hHeld.q.cell (o := 2) rfl
                          have d2f := hHeld.q.frozen 2
                          go_simp
                          refine hK.out _ _ ?_
                          clear hK K
                          (try simp only [Act.put, List.setIfInBounds_toArray, List.set_cons_zero, List.set_cons_succ])
                          refine doneA (by kernel_rfl) ?_ _
                          have FIN := hide (copy_fin (fsk := fs.take k) (f := ⟨tk, ⟨gk, go, gm⟩, ow, bd⟩) C0.out G0.out GI0.out (by rw [HLk.out]; exact HR0.out) HB0.out HBm.out (by rw [HLk.out]; exact Nat.le_trans HBl.out (Nat.le_of_lt sw0)) HFv0.out qS2 (Nat.le_trans hS2q (Nat.le_of_lt sw0)) BE.out T5.out T11.out T15.out XA.out (by rw [HLk.out]; exact hown18) hgr18)
                          simp only [HLk.out, HNx.out] at FIN
                          clear T5 T11 T15 XA hown18 hgr18 hat18 hlt18 OW d2 d2f BA BE hHeld
                          go_wp2_with fail
                          exact ⟨⟨k + 1, .slice (some ⟨gB, 0, none⟩) (k + 1) cap18, by go_num, by omega, FIN.out.1, FIN.out.2.1, FIN.out.2.2.1, FIN.out.2.2.2.1, FIN.out.2.2.2.2⟩, by simp [intOf]; omega⟩
                        exact AllL.nil
                      exact AllL.nil
                    exact AllL.nil
                  exact AllL.nil
                exact AllL.nil
              exact AllL.nil
            refine AllL.cons rfl (fun K hK => ?_) ?_
            · go_simp
              refine hK.out _ _ (hHeld.below ((Below.refl _ _).alloc (Nat.le_refl _) _)) (fun hHeld => ?_)
              clear hK K
              (try simp only [Act.put, List.setIfInBounds_toArray, List.set_cons_zero, List.set_cons_succ])
              replace BE := hide (BE.out.alloc BE.out.size (.cells #[] 33))
              replace E2 := hide (E2.out.alloc (.cells #[] 33))
              have E8 : Hid (EmpAt ((w0.drew.alloc (.cells #[] 33)).alloc (.cells #[] 33)) (w0.heap.size + 1) 33) := EmpAt.new _ _ _ (by simp)
              refine readyA (rs := [5, 12]) (by kernel_rfl) (by simp) ?_
              refine AllL.cons rfl (fun K hK => ?_) ?_
              · refine step_copy_row _ (by rfl) _ _ 24 33 (by rfl) k0 _ 3 24 Tryz.underlying24 KI.out KZ.out KS.out KB.out (by rfl) (by decide) (by decide) w0.heap.size (some ⟨w0.heap.size, 0, none⟩) ra rc tk.length (fcells tk) (by rfl) (by rfl) (E2.out.owns (by omega)) (fcells_length tk) (HTk.out.below BE.out) (fcells_one tk) (by omega) hHeld.sz ?_
                intro na5 nc5 w5 h5 hb5 hx5
                refine hK.out _ _ (hHeld.below hb5) (fun hHeld => ?_)
                clear hK K
                (try simp only [Act.put, List.setIfInBounds_toArray, List.set_cons_zero, List.set_cons_succ])
                have z5 : w0.heap.size + 1 + 1 ≤ w5.heap.size := by have := hb5.size; simpa using this
                have HX5 : Hid (na5 = some ⟨w0.heap.size, 0, none⟩ ∨ na5 = some ⟨w0.heap.size + 1 + 1, 0, none⟩ ∧ w0.heap.size + 1 + 1 < w5.heap.size) := by simpa [Hid] using hx5
                replace BE := hide (BE.out.trans (hb5.mono BE.out.size))
                replace E2 := hide (E2.out.below hb5)
                replace E8 := hide (E8.out.below hb5)
                have T5 := hide h5
                clear h5 hb5 hx5
                clear E2
                refine readyA (rs := [11, 12]) (by kernel_rfl) (by simp) ?_
                refine AllL.cons rfl (fun K hK => ?_) ?_
                · refine step_copy_row _ (by rfl) _ _ 24 33 (by rfl) k0 _ 3 24 Tryz.underlying24 KI.out KZ.out KS.out KB.out (by rfl) (by decide) (by decide) w0.heap.size (some ⟨w0.heap.size + 1, 0, none⟩) oa oc ow.length (fcells ow) (by rfl) (by rfl) (E8.out.owns (by omega)) (fcells_length ow) (HOw.out.below BE.out) (fcells_one ow) (by omega) hHeld.sz ?_
                  intro na11 nc11 w11 h11 hb11 hx11
                  refine hK.out _ _ (hHeld.below hb11) (fun hHeld => ?_)
                  clear hK K
                  (try simp only [Act.put, List.setIfInBounds_toArray, List.set_cons_zero, List.set_cons_succ])
                  have z11 : w5.heap.size ≤ w11.heap.size := by have := hb11.size; simpa using this
                  have XA : Hid (Apart2 (.slice na5 tk.length nc5) (.slice na11 ow.length nc11)) := apart_two HX5.out (show na11 = some ⟨w0.heap.size + 1, 0, none⟩ ∨ na11 = some ⟨w5.heap.size, 0, none⟩ ∧ w5.heap.size < w11.heap.size by simpa using hx11) (by omega) (by omega) (by omega) (by omega)
                  replace BE := hide (BE.out.trans (hb11.mono BE.out.size))
                  replace E8 := hide (E8.out.below hb11)
                  replace T5 := hide (owns_below T5.out hb11)
                  have T11 := hide h11
                  clear h11 hb11 hx11
                  clear E8
                  refine readyA (rs := [12]) (by kernel_rfl) (by simp) ?_
                  refine AllL.cons rfl (fun K hK => ?_) ?_
                  · go_simp
                    refine hK.out _ _ (hHeld.below ((Below.refl _ _).alloc (Nat.le_refl _) _)) (fun hHeld => ?_)
                    clear hK K
                    (try simp only [Act.put, List.setIfInBounds_toArray, List.set_cons_zero, List.set_cons_succ])
                    replace BE := hide (BE.out.alloc BE.out.size (.cells #[] 59))
                    replace T5 := hide (World.ownsRow.alloc T5.out (.cells #[] 59))
                    replace T11 := hide (World.ownsRow.alloc T11.out (.cells #[] 59))
                    have E12 : Hid (EmpAt (w11.alloc (.cells #[] 59)) (w11.heap.size) 59) := EmpAt.new _ _ _ (by simp)
                    refine readyA (rs := [15]) (by kernel_rfl) (by simp) ?_
                    refine AllL.cons rfl (fun K hK => ?_) ?_
                    · refine step_copy_row _ (by rfl) _ _ 34 59 (by rfl) i0 _ 3 24 Tryz.underlying34 II.out IZ.out IS.out IB.out (by rfl) (by decide) (by decide) w0.heap.size (some ⟨w11.heap.size, 0, none⟩) ba bc bd.length (icells bd) (by rfl) (by rfl) (E12.out.owns (by omega)) (icells_length bd) (HBd.out.below BE.out) (icells_one bd) (by omega) hHeld.sz ?_
                      intro na15 nc15 w15 h15 hb15 hx15
                      refine hK.out _ _ (hHeld.below hb15) (fun hHeld => ?_)
                      clear hK K
                      (try simp only [Act.put, List.setIfInBounds_toArray, List.set_cons_zero, List.set_cons_succ])
                      have z15 : w11.heap.size + 1 ≤ w15.heap.size := by have := hb15.size; simpa using this
                      replace BE := hide (BE.out.trans (hb15.mono BE.out.size))
                      replace E12 := hide (E12.out.below hb15)
                      replace T5 := hide (owns_below T5.out hb15)
                      replace T11 := hide (owns_below T11.out hb15)
                      have T15 := hide h15
                      clear h15 hb15 hx15
                      clear E12
                      refine takeA (i := 16) (v := ?v16n17) rfl (by kernel_rfl) (by kernel_rfl) (by kernel_rfl) (fun _ _ _ h => h) (by kernel_rfl) (by kernel_rfl) (by assumption) ?y16n17 ?r16n17
                      case y16n17 => (intro w hSw; have s0 := hSw.f.cell (o := 0) rfl; have s1 := hSw.f.cell (o := 1) rfl; have s2 := hSw.f.cell (o := 2) rfl; have s3 := hSw.f.cell (o := 3) rfl; have s4 := hSw.f.cell (o := 4) rfl; have s5 := hSw.f.cell (o := 5) rfl; have sq := hSw.q.cell (o := 2) rfl; clear hSw; go_simp; try with_reducible rfl)
                      (try simp only [Act.put, List.setIfInBounds_toArray, List.set_cons_zero, List.set_cons_succ])
                      refine readyA (rs := [17]) (by kernel_rfl) (by simp) ?_
                      refine AllL.cons rfl (fun K hK => ?_) ?_
                      · go_simp
                        refine hK.out _ _ (hHeld.below ((Below.refl _ _).alloc (Nat.le_refl _) _)) (fun hHeld => ?_)
                        clear hK K
                        (try simp only [Act.put, List.setIfInBounds_toArray, List.set_cons_zero, List.set_cons_succ])
                        have BA := hide (BE.out.alloc BE.out.size (.cells #[.slice na5 tk.length nc5, .int .i64 gk, .int .i64 go, .bool gm, .slice na11 ow.length nc11, .slice na15 bd.length nc15] 36))
                        refine readyA (rs := [18]) (by kernel_rfl) (by simp) ?_
                        refine AllL.cons rfl (fun K hK => ?_) ?_
                        · have OW := hide (owns_below HR0.out BA.out)
                          refine step_append_lies _ (by rfl) _ _ 25 (by rfl) S2 36 j0 _ 6 96 Tryz.underlying25 JI.out JZ.out JS.out JB.out (by rfl) (by decide) v k xs (by rfl) OW.out ⟨w15.heap.size, 0, none⟩ 1 1 [.slice na5 tk.length nc5, .int .i64 gk, .int .i64 go, .bool gm, .slice na11 ow.length nc11, .slice na15 bd.length nc15] (by rfl) rfl (World.news_of_block (Deep.blk_alloc_new _ _)) (by intro u hu; simp at hu; rcases hu with rfl | rfl | rfl | rfl | rfl | rfl <;> rfl) (by decide) (by unfold maxLen; omega) (by omega) (by have := hHeld.sz; have := hHeld.hS; omega) _ rfl ?_
                          intro gB cap18 w18 hown18 hgr18 hat18 hlt18
                          refine hK.out _ _ (hHeld.grown hgr18 (owns_base OW.out) (fun q hq => HVlt.out q hq)) (fun hHeld => ?_)
                          clear hK K
                          (try simp only [Act.put, List.setIfInBounds_toArray, List.set_cons_zero, List.set_cons_succ])
                          refine takeA (i := 19) (v := ?v19n18) rfl (by kernel_rfl) (by kernel_rfl) (by kernel_rfl) (fun _ _ _ h => h) (by kernel_rfl) (by kernel_rfl) (by assumption) ?y19n18 ?r19n18
                          case y19n18 => (intro w hSw; have s0 := hSw.f.cell (o := 0) rfl; have s1 := hSw.f.cell (o := 1) rfl; have s2 := hSw.f.cell (o := 2) rfl; have s3 := hSw.f.cell (o := 3) rfl; have s4 := hSw.f.cell (o := 4) rfl; have s5 := hSw.f.cell (o := 5) rfl; have sq := hSw.q.cell (o := 2) rfl; clear hSw; go_simp; try with_reducible rfl)
                          (try simp only [Act.put, List.setIfInBounds_toArray, List.set_cons_zero, List.set_cons_succ])
                          refine readyA (rs := [20]) (by kernel_rfl) (by simp) ?_
                          refine AllL.last rfl (fun K hK => ?_)
                          have d2 := hHeld.q.cell (o := 2) rfl
                          have d2f := hHeld.q.frozen 2
                          go_simp
                          refine hK.out _ _ ?_
                          clear hK K
                          (try simp only [Act.put, List.setIfInBounds_toArray, List.set_cons_zero, List.set_cons_succ])
                          refine doneA (by kernel_rfl) ?_ _
                          have FIN := hide (copy_fin (fsk := fs.take k) (f := ⟨tk, ⟨gk, go, gm⟩, ow, bd⟩) C0.out G0.out GI0.out (by rw [HLk.out]; exact HR0.out) HB0.out HBm.out (by rw [HLk.out]; exact Nat.le_trans HBl.out (Nat.le_of_lt sw0)) HFv0.out qS2 (Nat.le_trans hS2q (Nat.le_of_lt sw0)) BE.out T5.out T11.out T15.out XA.out (by rw [HLk.out]; exact hown18) hgr18)
                          simp only [HLk.out, HNx.out] at FIN
                          clear T5 T11 T15 XA hown18 hgr18 hat18 hlt18 OW d2 d2f BA BE hHeld
                          go_wp2_with fail
                          exact ⟨⟨k + 1, .slice (some ⟨gB, 0, none⟩) (k + 1) cap18, by go_num, by omega, FIN.out.1, FIN.out.2.1, FIN.out.2.2.1, FIN.out.2.2.2.1, FIN.out.2.2.2.2⟩, by simp [intOf]; omega⟩
                        exact AllL.nil
                      exact AllL.nil
                    exact AllL.nil
                  exact AllL.nil
                refine AllL.cons rfl (fun K hK => ?_) ?_
                · go_simp
                  refine hK.out _ _ (hHeld.below ((Below.refl _ _).alloc (Nat.le_refl _) _)) (fun hHeld => ?_)
                  clear hK K
                  (try simp only [Act.put, List.setIfInBounds_toArray, List.set_cons_zero, List.set_cons_succ])
                  replace BE := hide (BE.out.alloc BE.out.size (.cells #[] 59))
                  replace E8 := hide (E8.out.alloc (.cells #[] 59))
                  replace T5 := hide (World.ownsRow.alloc T5.out (.cells #[] 59))
                  have E12 : Hid (EmpAt (w5.alloc (.cells #[] 59)) (w5.heap.size) 59) := EmpAt.new _ _ _ (by simp)
                  refine readyA (rs := [11]) (by kernel_rfl) (by simp) ?_
                  refine AllL.cons rfl (fun K hK => ?_) ?_
                  · refine step_copy_row _ (by rfl) _ _ 24 33 (by rfl) k0 _ 3 24 Tryz.underlying24 KI.out KZ.out KS.out KB.out (by rfl) (by decide) (by decide) w0.heap.size (some ⟨w0.heap.size + 1, 0, none⟩) oa oc ow.length (fcells ow) (by rfl) (by rfl) (E8.out.owns (by omega)) (fcells_length ow) (HOw.out.below BE.out) (fcells_one ow) (by omega) hHeld.sz ?_
                    intro na11 nc11 w11 h11 hb11 hx11
                    refine hK.out _ _ (hHeld.below hb11) (fun hHeld => ?_)
                    clear hK K
                    (try simp only [Act.put, List.setIfInBounds_toArray, List.set_cons_zero, List.set_cons_succ])
                    have z11 : w5.heap.size + 1 ≤ w11.heap.size := by have := hb11.size; simpa using this
                    have XA : Hid (Apart2 (.slice na5 tk.length nc5) (.slice na11 ow.length nc11)) := apart_two HX5.out (show na11 = some ⟨w0.heap.size + 1, 0, none⟩ ∨ na11 = some ⟨w5.heap.size + 1, 0, none⟩ ∧ w5.heap.size + 1 < w11.heap.size by simpa using hx11) (by omega) (by omega) (by omega) (by omega)
                    replace BE := hide (BE.out.trans (hb11.mono BE.out.size))
                    replace E8 := hide (E8.out.below hb11)
                    replace E12 := hide (E12.out.below hb11)
                    replace T5 := hide (owns_below T5.out hb11)
                    have T11 := hide h11
                    clear h11 hb11 hx11
                    clear E8
                    refine readyA (rs := [15]) (by kernel_rfl) (by simp) ?_
                    refine AllL.cons rfl (fun K hK => ?_) ?_
                    · refine step_copy_row _ (by rfl) _ _ 34 59 (by rfl) i0 _ 3 24 Tryz.underlying34 II.out IZ.out IS.out IB.out (by rfl) (by decide) (by decide) w0.heap.size (some ⟨w5.heap.size, 0, none⟩) ba bc bd.length (icells bd) (by rfl) (by rfl) (E12.out.owns (by omega)) (icells_length bd) (HBd.out.below BE.out) (icells_one bd) (by omega) hHeld.sz ?_
                      intro na15 nc15 w15 h15 hb15 hx15
                      refine hK.out _ _ (hHeld.below hb15) (fun hHeld => ?_)
                      clear hK K
                      (try simp only [Act.put, List.setIfInBounds_toArray, List.set_cons_zero, List.set_cons_succ])
                      have z15 : w11.heap.size ≤ w15.heap.size := by have := hb15.size; simpa using this
                      replace BE := hide (BE.out.trans (hb15.mono BE.out.size))
                      replace E12 := hide (E12.out.below hb15)
                      replace T5 := hide (owns_below T5.out hb15)
                      replace T11 := hide (owns_below T11.out hb15)
                      have T15 := hide h15
                      clear h15 hb15 hx15
                      clear E12
                      refine takeA (i := 16) (v := ?v16n19) rfl (by kernel_rfl) (by kernel_rfl) (by kernel_rfl) (fun _ _ _ h => h) (by kernel_rfl) (by kernel_rfl) (by assumption) ?y16n19 ?r16n19
                      case y16n19 => (intro w hSw; have s0 := hSw.f.cell (o := 0) rfl; have s1 := hSw.f.cell (o := 1) rfl; have s2 := hSw.f.cell (o := 2) rfl; have s3 := hSw.f.cell (o := 3) rfl; have s4 := hSw.f.cell (o := 4) rfl; have s5 := hSw.f.cell (o := 5) rfl; have sq := hSw.q.cell (o := 2) rfl; clear hSw; go_simp; try with_reducible rfl)
                      (try simp only [Act.put, List.setIfInBounds_toArray, List.set_cons_zero, List.set_cons_succ])
                      refine readyA (rs := [17]) (by kernel_rfl) (by simp) ?_
                      refine AllL.cons rfl (fun K hK => ?_) ?_
                      · go_simp
                        refine hK.out _ _ (hHeld.below ((Below.refl _ _).alloc (Nat.le_refl _) _)) (fun hHeld => ?_)
                        clear hK K
                        (try simp only [Act.put, List.setIfInBounds_toArray, List.set_cons_zero, List.set_cons_succ])
                        have BA := hide (BE.out.alloc BE.out.size (.cells #[.slice na5 tk.length nc5, .int .i64 gk, .int .i64 go, .bool gm, .slice na11 ow.length nc11, .slice na15 bd.length nc15] 36))
                        refine readyA (rs := [18]) (by kernel_rfl) (by simp) ?_
                        refine AllL.cons rfl (fun K hK => ?_) ?_
                        · have OW := hide (owns_below HR0.out BA.out)
                          refine step_append_lies _ (by rfl) _ _ 25 (by rfl) S2 36 j0 _ 6 96 Tryz.underlying25 JI.out JZ.out JS.out JB.out (by rfl) (by decide) v k xs (by rfl) OW.out ⟨w15.heap.size, 0, none⟩ 1 1 [.slice na5 tk.length nc5, .int .i64 gk, .int .i64 go, .bool gm, .slice na11 ow.length nc11, .slice na15 bd.length nc15] (by rfl) rfl (World.news_of_block (Deep.blk_alloc_new _ _)) (by intro u hu; simp at hu; rcases hu with rfl | rfl | rfl | rfl | rfl | rfl <;> rfl) (by decide) (by unfold maxLen; omega) (by omega) (by have := hHeld.sz; have := hHeld.hS; omega) _ rfl ?_
                          intro gB cap18 w18 hown18 hgr18 hat18 hlt18
                          refine hK.out _ _ (hHeld.grown hgr18 (owns_base OW.out) (fun q hq => HVlt.out q hq)) (fun hHeld => ?_)
                          clear hK K
                          (try simp only [Act.put, List.setIfInBounds_toArray, List.set_cons_zero, List.set_cons_succ])
                          refine takeA (i := 19) (v := ?v19n20) rfl (by kernel_rfl) (by kernel_rfl) (by kernel_rfl) (fun _ _ _ h => h) (by kernel_rfl) (by kernel_rfl) (by assumption) ?y19n20 ?r19n20
                          case y19n20 => (intro w hSw; have s0 := hSw.f.cell (o := 0) rfl; have s1 := hSw.f.cell (o := 1) rfl; have s2 := hSw.f.cell (o := 2) rfl; have s3 := hSw.f.cell (o := 3) rfl; have s4 := hSw.f.cell (o := 4) rfl; have s5 := hSw.f.cell (o := 5) rfl; have sq := hSw.q.cell (o := 2) rfl; clear hSw; go_simp; try with_reducible rfl)
                          (try simp only [Act.put, List.setIfInBounds_toArray, List.set_cons_zero, List.set_cons_succ])
                          refine readyA (rs := [20]) (by kernel_rfl) (by simp) ?_
                          refine AllL.last rfl (fun K hK => ?_)
                          have d2 := hHeld.q.cell (o := 2) rfl
                          have d2f := hHeld.q.frozen 2
                          go_simp
                          refine hK.out _ _ ?_
                          clear hK K
                          (try simp only [Act.put, List.setIfInBounds_toArray, List.set_cons_zero, List.set_cons_succ])
                          refine doneA (by kernel_rfl) ?_ _
                          have FIN := hide (copy_fin (fsk := fs.take k) (f := ⟨tk, ⟨gk, go, gm⟩, ow, bd⟩) C0.out G0.out GI0.out (by rw [HLk.out]; exact HR0.out) HB0.out HBm.out (by rw [HLk.out]; exact Nat.le_trans HBl.out (Nat.le_of_lt sw0)) HFv0.out qS2 (Nat.le_trans hS2q (Nat.le_of_lt sw0)) BE.out T5.out T11.out T15.out XA.out (by rw [HLk.out]; exact hown18) hgr18)
                          simp only [HLk.out, HNx.out] at FIN
                          clear T5 T11 T15 XA hown18 hgr18 hat18 hlt18 OW d2 d2f BA BE hHeld
                          go_wp2_with fail
                          exact ⟨⟨k + 1, .slice (some ⟨gB, 0, none⟩) (k + 1) cap18, by go_num, by omega, FIN.out.1, FIN.out.2.1, FIN.out.2.2.1, FIN.out.2.2.2.1, FIN.out.2.2.2.2⟩, by simp [intOf]; omega⟩
                        exact AllL.nil
                      exact AllL.nil
                    exact AllL.nil
                  exact AllL.nil
                exact AllL.nil
              refine AllL.cons rfl (fun K hK => ?_) ?_
              · go_simp
                refine hK.out _ _ (hHeld.below ((Below.refl _ _).alloc (Nat.le_refl _) _)) (fun hHeld => ?_)
                clear hK K
                (try simp only [Act.put, List.setIfInBounds_toArray, List.set_cons_zero, List.set_cons_succ])
                replace BE := hide (BE.out.alloc BE.out.size (.cells #[] 59))
                replace E2 := hide (E2.out.alloc (.cells #[] 59))
                replace E8 := hide (E8.out.alloc (.cells #[] 59))
                have E12 : Hid (EmpAt (((w0.drew.alloc (.cells #[] 33)).alloc (.cells #[] 33)).alloc (.cells #[] 59)) (w0.heap.size + 1 + 1) 59) := EmpAt.new _ _ _ (by simp)
                refine readyA (rs := [5]) (by kernel_rfl) (by simp) ?_
                refine AllL.cons rfl (fun K hK => ?_) ?_
                · refine step_copy_row _ (by rfl) _ _ 24 33 (by rfl) k0 _ 3 24 Tryz.underlying24 KI.out KZ.out KS.out KB.out (by rfl) (by decide) (by decide) w0.heap.size (some ⟨w0.heap.size, 0, none⟩) ra rc tk.length (fcells tk) (by rfl) (by rfl) (E2.out.owns (by omega)) (fcells_length tk) (HTk.out.below BE.out) (fcells_one tk) (by omega) hHeld.sz ?_
                  intro na5 nc5 w5 h5 hb5 hx5
                  refine hK.out _ _ (hHeld.below hb5) (fun hHeld => ?_)
                  clear hK K
                  (try simp only [Act.put, List.setIfInBounds_toArray, List.set_cons_zero, List.set_cons_succ])
                  have z5 : w0.heap.size + 1 + 1 + 1 ≤ w5.heap.size := by have := hb5.size; simpa using this
                  have HX5 : Hid (na5 = some ⟨w0.heap.size, 0, none⟩ ∨ na5 = some ⟨w0.heap.size + 1 + 1 + 1, 0, none⟩ ∧ w0.heap.size + 1 + 1 + 1 < w5.heap.size) := by simpa [Hid] using hx5
                  replace BE := hide (BE.out.trans (hb5.mono BE.out.size))
                  replace E2 := hide (E2.out.below hb5)
                  replace E8 := hide (E8.out.below hb5)
                  replace E12 := hide (E12.out.below hb5)
                  have T5 := hide h5
                  clear h5 hb5 hx5
                  clear E2
                  refine readyA (rs := [11]) (by kernel_rfl) (by simp) ?_
                  refine AllL.cons rfl (fun K hK => ?_) ?_
                  · refine step_copy_row _ (by rfl) _ _ 24 33 (by rfl) k0 _ 3 24 Tryz.underlying24 KI.out KZ.out KS.out KB.out (by rfl) (by decide) (by decide) w0.heap.size (some ⟨w0.heap.size + 1, 0, none⟩) oa oc ow.length (fcells ow) (by rfl) (by rfl) (E8.out.owns (by omega)) (fcells_length ow) (HOw.out.below BE.out) (fcells_one ow) (by omega) hHeld.sz ?_
                    intro na11 nc11 w11 h11 hb11 hx11
                    refine hK.out _ _ (hHeld.below hb11) (fun hHeld => ?_)
                    clear hK K
                    (try simp only [Act.put, List.setIfInBounds_toArray, List.set_cons_zero, List.set_cons_succ])
                    have z11 : w5.heap.size ≤ w11.heap.size := by have := hb11.size; simpa using this
                    have XA : Hid (Apart2 (.slice na5 tk.length nc5) (.slice na11 ow.length nc11)) := apart_two HX5.out (show na11 = some ⟨w0.heap.size + 1, 0, none⟩ ∨ na11 = some ⟨w5.heap.size, 0, none⟩ ∧ w5.heap.size < w11.heap.size by simpa using hx11) (by omega) (by omega) (by omega) (by omega)
                    replace BE := hide (BE.out.trans (hb11.mono BE.out.size))
                    replace E8 := hide (E8.out.below hb11)
                    replace E12 := hide (E12.out.below hb11)
                    replace T5 := hide (owns_below T5.out hb11)
                    have T11 := hide h11
                    clear h11 hb11 hx11
                    clear E8
                    refine readyA (rs := [15]) (by kernel_rfl) (by simp) ?_
                    refine AllL.cons rfl (fun K hK => ?_) ?_
                    · refine step_copy_row _ (by rfl) _ _ 34 59 (by rfl) i0 _ 3 24 Tryz.underlying34 II.out IZ.out IS.out IB.out (by rfl) (by decide) (by decide) w0.heap.size (some ⟨w0.heap.size + 1 + 1, 0, none⟩) ba bc bd.length (icells bd) (by rfl) (by rfl) (E12.out.owns (by omega)) (icells_length bd) (HBd.out.below BE.out) (icells_one bd) (by omega) hHeld.sz ?_
                      intro na15 nc15 w15 h15 hb15 hx15
                      refine hK.out _ _ (hHeld.below hb15) (fun hHeld => ?_)
                      clear hK K
                      (try simp only [Act.put, List.setIfInBounds_toArray, List.set_cons_zero, List.set_cons_succ])
                      have z15 : w11.heap.size ≤ w15.heap.size := by have := hb15.size; simpa using this
                      replace BE := hide (BE.out.trans (hb15.mono BE.out.size))
                      replace E12 := hide (E12.out.below hb15)
                      replace T5 := hide (owns_below T5.out hb15)
                      replace T11 := hide (owns_below T11.out hb15)
                      have T15 := hide h15
                      clear h15 hb15 hx15
                      clear E12
                      refine takeA (i := 16) (v := ?v16n21) rfl (by kernel_rfl) (by kernel_rfl) (by kernel_rfl) (fun _ _ _ h => h) (by kernel_rfl) (by kernel_rfl) (by assumption) ?y16n21 ?r16n21
                      case y16n21 => (intro w hSw; have s0 := hSw.f.cell (o := 0) rfl; have s1 := hSw.f.cell (o := 1) rfl; have s2 := hSw.f.cell (o := 2) rfl; have s3 := hSw.f.cell (o := 3) rfl; have s4 := hSw.f.cell (o := 4) rfl; have s5 := hSw.f.cell (o := 5) rfl; have sq := hSw.q.cell (o := 2) rfl; clear hSw; go_simp; try with_reducible rfl)
                      (try simp only [Act.put, List.setIfInBounds_toArray, List.set_cons_zero, List.set_cons_succ])
                      refine readyA (rs := [17]) (by kernel_rfl) (by simp) ?_
                      refine AllL.cons rfl (fun K hK => ?_) ?_
                      · go_simp
                        refine hK.out _ _ (hHeld.below ((Below.refl _ _).alloc (Nat.le_refl _) _)) (fun hHeld => ?_)
                        clear hK K
                        (try simp only [Act.put, List.setIfInBounds_toArray, List.set_cons_zero, List.set_cons_succ])
                        have BA := hide (BE.out.alloc BE.out.size (.cells #[.slice na5 tk.length nc5, .int .i64 gk, .int .i64 go, .bool gm, .slice na11 ow.length nc11, .slice na15 bd.length nc15] 36))
                        refine readyA (rs := [18]) (by kernel_rfl) (by simp) ?_
                        refine AllL.cons rfl (fun K hK => ?_) ?_
                        · have OW := hide (owns_below HR0.out BA.out)
                          refine step_append_lies _ (by rfl) _ _ 25 (by rfl) S2 36 j0 _ 6 96 Tryz.underlying25 JI.out JZ.out JS.out JB.out (by rfl) (by decide) v k xs (by rfl) OW.out ⟨w15.heap.size, 0, none⟩ 1 1 [.slice na5 tk.length nc5, .int .i64 gk, .int .i64 go, .bool gm, .slice na11 ow.length nc11, .slice na15 bd.length nc15] (by rfl) rfl (World.news_of_block (Deep.blk_alloc_new _ _)) (by intro u hu; simp at hu; rcases hu with rfl | rfl | rfl | rfl | rfl | rfl <;> rfl) (by decide) (by unfold maxLen; omega) (by omega) (by have := hHeld.sz; have := hHeld.hS; omega) _ rfl ?_
                          intro gB cap18 w18 hown18 hgr18 hat18 hlt18
                          refine hK.out _ _ (hHeld.grown hgr18 (owns_base OW.out) (fun q hq => HVlt.out q hq)) (fun hHeld => ?_)
                          clear hK K
                          (try simp only [Act.put, List.setIfInBounds_toArray, List.set_cons_zero, List.set_cons_succ])
                          refine takeA (i := 19) (v := ?v19n22) rfl (by kernel_rfl) (by kernel_rfl) (by kernel_rfl) (fun _ _ _ h => h) (by kernel_rfl) (by kernel_rfl) (by assumption) ?y19n22 ?r19n22
                          case y19n22 => (intro w hSw; have s0 := hSw.f.cell (o := 0) rfl; have s1 := hSw.f.cell (o := 1) rfl; have s2 := hSw.f.cell (o := 2) rfl; have s3 := hSw.f.cell (o := 3) rfl; have s4 := hSw.f.cell (o := 4) rfl; have s5 := hSw.f.cell (o := 5) rfl; have sq := hSw.q.cell (o := 2) rfl; clear hSw; go_simp; try with_reducible rfl)
                          (try simp only [Act.put, List.setIfInBounds_toArray, List.set_cons_zero, List.set_cons_succ])
                          refine readyA (rs := [20]) (by kernel_rfl) (by simp) ?_
                          refine AllL.last rfl (fun K hK => ?_)
                          have d2 := hHeld.q.cell (o := 2) rfl
                          have d2f := hHeld.q.frozen 2
                          go_simp
                          refine hK.out _ _ ?_
                          clear hK K
                          (try simp only [Act.put, List.setIfInBounds_toArray, List.set_cons_zero, List.set_cons_succ])
                          refine doneA (by kernel_rfl) ?_ _
                          have FIN := hide (copy_fin (fsk := fs.take k) (f := ⟨tk, ⟨gk, go, gm⟩, ow, bd⟩) C0.out G0.out GI0.out (by rw [HLk.out]; exact HR0.out) HB0.out HBm.out (by rw [HLk.out]; exact Nat.le_trans HBl.out (Nat.le_of_lt sw0)) HFv0.out qS2 (Nat.le_trans hS2q (Nat.le_of_lt sw0)) BE.out T5.out T11.out T15.out XA.out (by rw [HLk.out]; exact hown18) hgr18)
                          simp only [HLk.out, HNx.out] at FIN
                          clear T5 T11 T15 XA hown18 hgr18 hat18 hlt18 OW d2 d2f BA BE hHeld
                          go_wp2_with fail
                          exact ⟨⟨k + 1, .slice (some ⟨gB, 0, none⟩) (k + 1) cap18, by go_num, by omega, FIN.out.1, FIN.out.2.1, FIN.out.2.2.1, FIN.out.2.2.2.1, FIN.out.2.2.2.2⟩, by simp [intOf]; omega⟩
                        exact AllL.nil
                      exact AllL.nil
                    exact AllL.nil
                  exact AllL.nil
                exact AllL.nil
              exact AllL.nil
            refine AllL.cons rfl (fun K hK => ?_) ?_
            · go_simp
              refine hK.out _ _ (hHeld.below ((Below.refl _ _).alloc (Nat.le_refl _) _)) (fun hHeld => ?_)
              clear hK K
              (try simp only [Act.put, List.setIfInBounds_toArray, List.set_cons_zero, List.set_cons_succ])
              replace BE := hide (BE.out.alloc BE.out.size (.cells #[] 59))
              replace E2 := hide (E2.out.alloc (.cells #[] 59))
              have E12 : Hid (EmpAt ((w0.drew.alloc (.cells #[] 33)).alloc (.cells #[] 59)) (w0.heap.size + 1) 59) := EmpAt.new _ _ _ (by simp)
              refine readyA (rs := [5, 8]) (by kernel_rfl) (by simp) ?_
              refine AllL.cons rfl (fun K hK => ?_) ?_
              · refine step_copy_row _ (by rfl) _ _ 24 33 (by rfl) k0 _ 3 24 Tryz.underlying24 KI.out KZ.out KS.out KB.out (by rfl) (by decide) (by decide) w0.heap.size (some ⟨w0.heap.size, 0, none⟩) ra rc tk.length (fcells tk) (by rfl) (by rfl) (E2.out.owns (by omega)) (fcells_length tk) (HTk.out.below BE.out) (fcells_one tk) (by omega) hHeld.sz ?_
                intro na5 nc5 w5 h5 hb5 hx5
                refine hK.out _ _ (hHeld.below hb5) (fun hHeld => ?_)
                clear hK K
                (try simp only [Act.put, List.setIfInBounds_toArray, List.set_cons_zero, List.set_cons_succ])
                have z5 : w0.heap.size + 1 + 1 ≤ w5.heap.size := by have := hb5.size; simpa using this
                have HX5 : Hid (na5 = some ⟨w0.heap.size, 0, none⟩ ∨ na5 = some ⟨w0.heap.size + 1 + 1, 0, none⟩ ∧ w0.heap.size + 1 + 1 < w5.heap.size) := by simpa [Hid] using hx5
                replace BE := hide (BE.out.trans (hb5.mono BE.out.size))
                replace E2 := hide (E2.out.below hb5)
                replace E12 := hide (E12.out.below hb5)
                have T5 := hide h5
                clear h5 hb5 hx5
                clear E2
                refine readyA (rs := [8]) (by kernel_rfl) (by simp) ?_
                refine AllL.cons rfl (fun K hK => ?_) ?_
                · go_simp
                  refine hK.out _ _ (hHeld.below ((Below.refl _ _).alloc (Nat.le_refl _) _)) (fun hHeld => ?_)
                  clear hK K
                  (try simp only [Act.put, List.setIfInBounds_toArray, List.set_cons_zero, List.set_cons_succ])
                  replace BE := hide (BE.out.alloc BE.out.size (.cells #[] 33))
                  replace E12 := hide (E12.out.alloc (.cells #[] 33))
                  replace T5 := hide (World.ownsRow.alloc T5.out (.cells #[] 33))
                  have E8 : Hid (EmpAt (w5.alloc (.cells #[] 33)) (w5.heap.size) 33) := EmpAt.new _ _ _ (by simp)
                  refine readyA (rs := [11]) (by kernel_rfl) (by simp) ?_
                  refine AllL.cons rfl (fun K hK => ?_) ?_
                  · refine step_copy_row _ (by rfl) _ _ 24 33 (by rfl) k0 _ 3 24 Tryz.underlying24 KI.out KZ.out KS.out KB.out (by rfl) (by decide) (by decide) w0.heap.size (some ⟨w5.heap.size, 0, none⟩) oa oc ow.length (fcells ow) (by rfl) (by rfl) (E8.out.owns (by omega)) (fcells_length ow) (HOw.out.below BE.out) (fcells_one ow) (by omega) hHeld.sz ?_
                    intro na11 nc11 w11 h11 hb11 hx11
                    refine hK.out _ _ (hHeld.below hb11) (fun hHeld => ?_)
                    clear hK K
                    (try simp only [Act.put, List.setIfInBounds_toArray, List.set_cons_zero, List.set_cons_succ])
                    have z11 : w5.heap.size + 1 ≤ w11.heap.size := by have := hb11.size; simpa using this
                    have XA : Hid (Apart2 (.slice na5 tk.length nc5) (.slice na11 ow.length nc11)) := apart_two HX5.out (show na11 = some ⟨w5.heap.size, 0, none⟩ ∨ na11 = some ⟨w5.heap.size + 1, 0, none⟩ ∧ w5.heap.size + 1 < w11.heap.size by simpa using hx11) (by omega) (by omega) (by omega) (by omega)
                    replace BE := hide (BE.out.trans (hb11.mono BE.out.size))
                    replace E12 := hide (E12.out.below hb11)
                    replace E8 := hide (E8.out.below hb11)
                    replace T5 := hide (owns_below T5.out hb11)
                    have T11 := hide h11
                    clear h11 hb11 hx11
                    clear E8
                    refine readyA (rs := [15]) (by kernel_rfl) (by simp) ?_
                    refine AllL.cons rfl (fun K hK => ?_) ?_
                    · refine step_copy_row _ (by rfl) _ _ 34 59 (by rfl) i0 _ 3 24 Tryz.underlying34 II.out IZ.out IS.out IB.out (by rfl) (by decide) (by decide) w0.heap.size (some ⟨w0.heap.size + 1, 0, none⟩) ba bc bd.length (icells bd) (by rfl) (by rfl) (E12.out.owns (by omega)) (icells_length bd) (HBd.out.below BE.out) (icells_one bd) (by omega) hHeld.sz ?_
                      intro na15 nc15 w15 h15 hb15 hx15
                      refine hK.out _ _ (hHeld.below hb15) (fun hHeld => ?_)
                      clear hK K
                      (try simp only [Act.put, List.setIfInBounds_toArray, List.set_cons_zero, List.set_cons_succ])
                      have z15 : w11.heap.size ≤ w15.heap.size := by have := hb15.size; simpa using this
                      replace BE := hide (BE.out.trans (hb15.mono BE.out.size))
                      replace E12 := hide (E12.out.below hb15)
                      replace T5 := hide (owns_below T5.out hb15)
                      replace T11 := hide (owns_below T11.out hb15)
                      have T15 := hide h15
                      clear h15 hb15 hx15
                      clear E12
                      refine takeA (i := 16) (v := ?v16n23) rfl (by kernel_rfl) (by kernel_rfl) (by kernel_rfl) (fun _ _ _ h => h) (by kernel_rfl) (by kernel_rfl) (by assumption) ?y16n23 ?r16n23
                      case y16n23 => (intro w hSw; have s0 := hSw.f.cell (o := 0) rfl; have s1 := hSw.f.cell (o := 1) rfl; have s2 := hSw.f.cell (o := 2) rfl; have s3 := hSw.f.cell (o := 3) rfl; have s4 := hSw.f.cell (o := 4) rfl; have s5 := hSw.f.cell (o := 5) rfl; have sq := hSw.q.cell (o := 2) rfl; clear hSw; go_simp; try with_reducible rfl)
                      (try simp only [Act.put, List.setIfInBounds_toArray, List.set_cons_zero, List.set_cons_succ])
                      refine readyA (rs := [17]) (by kernel_rfl) (by simp) ?_
                      refine AllL.cons rfl (fun K hK => ?_) ?_
                      · go_simp
                        refine hK.out _ _ (hHeld.below ((Below.refl _ _).alloc (Nat.le_refl _) _)) (fun hHeld => ?_)
                        clear hK K
                        (try simp only [Act.put, List.setIfInBounds_toArray, List.set_cons_zero, List.set_cons_succ])
                        have BA := hide (BE.out.alloc BE.out.size (.cells #[.slice na5 tk.length nc5, .int .i64 gk, .int .i64 go, .bool gm, .slice na11 ow.length nc11, .slice na15 bd.length nc15] 36))
                        refine readyA (rs := [18]) (by kernel_rfl) (by simp) ?_
                        refine AllL.cons rfl (fun K hK => ?_) ?_
                        · have OW := hide (owns_below HR0.out BA.out)
                          refine step_append_lies _ (by rfl) _ _ 25 (by rfl) S2 36 j0 _ 6 96 Tryz.underlying25 JI.out JZ.out JS.out JB.out (by rfl) (by decide) v k xs (by rfl) OW.out ⟨w15.heap.size, 0, none⟩ 1 1 [.slice na5 tk.length nc5, .int .i64 gk, .int .i64 go, .bool gm, .slice na11 ow.length nc11, .slice na15 bd.length nc15] (by rfl) rfl (World.news_of_block (Deep.blk_alloc_new _ _)) (by intro u hu; simp at hu; rcases hu with rfl | rfl | rfl | rfl | rfl | rfl <;> rfl) (by decide) (by unfold maxLen; omega) (by omega) (by have := hHeld.sz; have := hHeld.hS; omega) _ rfl ?_
                          intro gB cap18 w18 hown18 hgr18 hat18 hlt18
                          refine hK.out _ _ (hHeld.grown hgr18 (owns_base OW.out) (fun q hq => HVlt.out q hq)) (fun hHeld => ?_)
                          clear hK K
                          (try simp only [Act.put, List.setIfInBounds_toArray, List.set_cons_zero, List.set_cons_succ])
                          refine takeA (i := 19) (v := ?v19n24) rfl (by kernel_rfl) (by kernel_rfl) (by kernel_rfl) (fun _ _ _ h => h) (by kernel_rfl) (by kernel_rfl) (by assumption) ?y19n24 ?r19n24
                          case y19n24 => (intro w hSw; have s0 := hSw.f.cell (o := 0) rfl; have s1 := hSw.f.cell (o := 1) rfl; have s2 := hSw.f.cell (o := 2) rfl; have s3 := hSw.f.cell (o := 3) rfl; have s4 := hSw.f.cell (o := 4) rfl; have s5 := hSw.f.cell (o := 5) rfl; have sq := hSw.q.cell (o := 2) rfl; clear hSw; go_simp; try with_reducible rfl)
                          (try simp only [Act.put, List.setIfInBounds_toArray, List.set_cons_zero, List.set_cons_succ])
                          refine readyA (rs := [20]) (by kernel_rfl) (by simp) ?_
                          refine AllL.last rfl (fun K hK => ?_)
                          have d2 := hHeld.q.cell (o := 2) rfl
                          have d2f := hHeld.q.frozen 2
                          go_simp
                          refine hK.out _ _ ?_
                          clear hK K
                          (try simp only [Act.put, List.setIfInBounds_toArray, List.set_cons_zero, List.set_cons_succ])
                          refine doneA (by kernel_rfl) ?_ _
                          have FIN := hide (copy_fin (fsk := fs.take k) (f := ⟨tk, ⟨gk, go, gm⟩, ow, bd⟩) C0.out G0.out GI0.out (by rw [HLk.out]; exact HR0.out) HB0.out HBm.out (by rw [HLk.out]; exact Nat.le_trans HBl.out (Nat.le_of_lt sw0)) HFv0.out qS2 (Nat.le_trans hS2q (Nat.le_of_lt sw0)) BE.out T5.out T11.out T15.out XA.out (by rw [HLk.out]; exact hown18) hgr18)
                          simp only [HLk.out, HNx.out] at FIN
                          clear T5 T11 T15 XA hown18 hgr18 hat18 hlt18 OW d2 d2f BA BE hHeld
                          go_wp2_with fail
                          exact ⟨⟨k + 1, .slice (some ⟨gB, 0, none⟩) (k + 1) cap18, by go_num, by omega, FIN.out.1, FIN.out.2.1, FIN.out.2.2.1, FIN.out.2.2.2.1, FIN.out.2.2.2.2⟩, by simp [intOf]; omega⟩
                        exact AllL.nil
                      exact AllL.nil
                    exact AllL.nil
                  exact AllL.nil
                exact AllL.nil
              refine AllL.cons rfl (fun K hK => ?_) ?_
              · go_simp
                refine hK.out _ _ (hHeld.below ((Below.refl _ _).alloc (Nat.le_refl _) _)) (fun hHeld => ?_)
                clear hK K
                (try simp only [Act.put, List.setIfInBounds_toArray, List.set_cons_zero, List.set_cons_succ])
                replace BE := hide (BE.out.alloc BE.out.size (.cells #[] 33))
                replace E2 := hide (E2.out.alloc (.cells #[] 33))
                replace E12 := hide (E12.out.alloc (.cells #[] 33))
                have E8 : Hid (EmpAt (((w0.drew.alloc (.cells #[] 33)).alloc (.cells #[] 59)).alloc (.cells #[] 33)) (w0.heap.size + 1 + 1) 33) := EmpAt.new _ _ _ (by simp)
                refine readyA (rs := [5]) (by kernel_rfl) (by simp) ?_
                refine AllL.cons rfl (fun K hK => ?_) ?_
                · refine step_copy_row _ (by rfl) _ _ 24 33 (by rfl) k0 _ 3 24 Tryz.underlying24 KI.out KZ.out KS.out KB.out (by rfl) (by decide) (by decide) w0.heap.size (some ⟨w0.heap.size, 0, none⟩) ra rc tk.length (fcells tk) (by rfl) (by rfl) (E2.out.owns (by omega)) (fcells_length tk) (HTk.out.below BE.out) (fcells_one tk) (by omega) hHeld.sz ?_
                  intro na5 nc5 w5 h5 hb5 hx5
                  refine hK.out _ _ (hHeld.below hb5) (fun hHeld => ?_)
                  clear hK K
                  (try simp only [Act.put, List.setIfInBounds_toArray, List.set_cons_zero, List.set_cons_succ])
                  have z5 : w0.heap.size + 1 + 1 + 1 ≤ w5.heap.size := by have := hb5.size; simpa using this
                  have HX5 : Hid (na5 = some ⟨w0.heap.size, 0, none⟩ ∨ na5 = some ⟨w0.heap.size + 1 + 1 + 1, 0, none⟩ ∧ w0.heap.size + 1 + 1 + 1 < w5.heap.size) := by simpa [Hid] using hx5
                  replace BE := hide (BE.out.trans (hb5.mono BE.out.size))
                  replace E2 := hide (E2.out.below hb5)
                  replace E12 := hide (E12.out.below hb5)
                  replace E8 := hide (E8.out.below hb5)
                  have T5 := hide h5
                  clear h5 hb5 hx5
                  clear E2
                  refine readyA (rs := [11]) (by kernel_rfl) (by simp) ?_
                  refine AllL.cons rfl (fun K hK => ?_) ?_
                  · refine step_copy_row _ (by rfl) _ _ 24 33 (by rfl) k0 _ 3 24 Tryz.underlying24 KI.out KZ.out KS.out KB.out (by rfl) (by decide) (by decide) w0.heap.size (some ⟨w0.heap.size + 1 + 1, 0, none⟩) oa oc ow.length (fcells ow) (by rfl) (by rfl) (E8.out.owns (by omega)) (fcells_length ow) (HOw.out.below BE.out) (fcells_one ow) (by omega) hHeld.sz ?_
                    intro na11 nc11 w11 h11 hb11 hx11
                    refine hK.out _ _ (hHeld.below hb11) (fun hHeld => ?_)
                    clear hK K
                    (try simp only [Act.put, List.setIfInBounds_toArray, List.set_cons_zero, List.set_cons_succ])
                    have z11 : w5.heap.size ≤ w11.heap.size := by have := hb11.size; simpa using this
                    have XA : Hid (Apart2 (.slice na5 tk.length nc5) (.slice na11 ow.length nc11)) := apart_two HX5.out (show na11 = some ⟨w0.heap.size + 1 + 1, 0, none⟩ ∨ na11 = some ⟨w5.heap.size, 0, none⟩ ∧ w5.heap.size < w11.heap.size by simpa using hx11) (by omega) (by omega) (by omega) (by omega)
                    replace BE := hide (BE.out.trans (hb11.mono BE.out.size))
                    replace E12 := hide (E12.out.below hb11)
                    replace E8 := hide (E8.out.below hb11)
                    replace T5 := hide (owns_below T5.out hb11)
                    have T11 := hide h11
                    clear h11 hb11 hx11
                    clear E8
                    refine readyA (rs := [15]) (by kernel_rfl) (by simp) ?_
                    refine AllL.cons rfl (fun K hK => ?_) ?_
                    · refine step_copy_row _ (by rfl) _ _ 34 59 (by rfl) i0 _ 3 24 Tryz.underlying34 II.out IZ.out IS.out IB.out (by rfl) (by decide) (by decide) w0.heap.size (some ⟨w0.heap.size + 1, 0, none⟩) ba bc bd.length (icells bd) (by rfl) (by rfl) (E12.out.owns (by omega)) (icells_length bd) (HBd.out.below BE.out) (icells_one bd) (by omega) hHeld.sz ?_
                      intro na15 nc15 w15 h15 hb15 hx15
                      refine hK.out _ _ (hHeld.below hb15) (fun hHeld => ?_)
                      clear hK K
                      (try simp only [Act.put, List.setIfInBounds_toArray, List.set_cons_zero, List.set_cons_succ])
                      have z15 : w11.heap.size ≤ w15.heap.size := by have := hb15.size; simpa using this
                      replace BE := hide (BE.out.trans (hb15.mono BE.out.size))
                      replace E12 := hide (E12.out.below hb15)
                      replace T5 := hide (owns_below T5.out hb15)
                      replace T11 := hide (owns_below T11.out hb15)
                      have T15 := hide h15
                      clear h15 hb15 hx15
                      clear E12
                      refine takeA (i := 16) (v := ?v16n25) rfl (by kernel_rfl) (by kernel_rfl) (by kernel_rfl) (fun _ _ _ h => h) (by kernel_rfl) (by kernel_rfl) (by assumption) ?y16n25 ?r16n25
                      case y16n25 => (intro w hSw; have s0 := hSw.f.cell (o := 0) rfl; have s1 := hSw.f.cell (o := 1) rfl; have s2 := hSw.f.cell (o := 2) rfl; have s3 := hSw.f.cell (o := 3) rfl; have s4 := hSw.f.cell (o := 4) rfl; have s5 := hSw.f.cell (o := 5) rfl; have sq := hSw.q.cell (o := 2) rfl; clear hSw; go_simp; try with_reducible rfl)
                      (try simp only [Act.put, List.setIfInBounds_toArray, List.set_cons_zero, List.set_cons_succ])
                      refine readyA (rs := [17]) (by kernel_rfl) (by simp) ?_
                      refine AllL.cons rfl (fun K hK => ?_) ?_
                      · go_simp
                        refine hK.out _ _ (hHeld.below ((Below.refl _ _).alloc (Nat.le_refl _) _)) (fun hHeld => ?_)
                        clear hK K
                        (try simp only [Act.put, List.setIfInBounds_toArray, List.set_cons_zero, List.set_cons_succ])
                        have BA := hide (BE.out.alloc BE.out.size (.cells #[.slice na5 tk.length nc5, .int .i64 gk, .int .i64 go, .bool gm, .slice na11 ow.length nc11, .slice na15 bd.length nc15] 36))
                        refine readyA (rs := [18]) (by kernel_rfl) (by simp) ?_
                        refine AllL.cons rfl (fun K hK => ?_) ?_
                        · have OW := hide (owns_below HR0.out BA.out)
                          refine step_append_lies _ (by rfl) _ _ 25 (by rfl) S2 36 j0 _ 6 96 Tryz.underlying25 JI.out JZ.out JS.out JB.out (by rfl) (by decide) v k xs (by rfl) OW.out ⟨w15.heap.size, 0, none⟩ 1 1 [.slice na5 tk.length nc5, .int .i64 gk, .int .i64 go, .bool gm, .slice na11 ow.length nc11, .slice na15 bd.length nc15] (by rfl) rfl (World.news_of_block (Deep.blk_alloc_new _ _)) (by intro u hu; simp at hu; rcases hu with rfl | rfl | rfl | rfl | rfl | rfl <;> rfl) (by decide) (by unfold maxLen; omega) (by omega) (by have := hHeld.sz; have := hHeld.hS; omega) _ rfl ?_
                          intro gB cap18 w18 hown18 hgr18 hat18 hlt18
                          refine hK.out _ _ (hHeld.grown hgr18 (owns_base OW.out) (fun q hq => HVlt.out q hq)) (fun hHeld => ?_)
                          clear hK K
                          (try simp only [Act.put, List.setIfInBounds_toArray, List.set_cons_zero, List.set_cons_succ])
                          refine takeA (i := 19) (v := ?v19n26) rfl (by kernel_rfl) (by kernel_rfl) (by kernel_rfl) (fun _ _ _ h => h) (by kernel_rfl) (by kernel_rfl) (by assumption) ?y19n26 ?r19n26
                          case y19n26 => (intro w hSw; have s0 := hSw.f.cell (o := 0) rfl; have s1 := hSw.f.cell (o := 1) rfl; have s2 := hSw.f.cell (o := 2) rfl; have s3 := hSw.f.cell (o := 3) rfl; have s4 := hSw.f.cell (o := 4) rfl; have s5 := hSw.f.cell (o := 5) rfl; have sq := hSw.q.cell (o := 2) rfl; clear hSw; go_simp; try with_reducible rfl)
                          (try simp only [Act.put, List.setIfInBounds_toArray, List.set_cons_zero, List.set_cons_succ])
                          refine readyA (rs := [20]) (by kernel_rfl) (by simp) ?_
                          refine AllL.last rfl (fun K hK => ?_)
                          have d2 := hHeld.q.cell (o := 2) rfl
                          have d2f := hHeld.q.frozen 2
                          go_simp
                          refine hK.out _ _ ?_
                          clear hK K
                          (try simp only [Act.put, List.setIfInBounds_toArray, List.set_cons_zero, List.set_cons_succ])
                          refine doneA (by kernel_rfl) ?_ _
                          have FIN := hide (copy_fin (fsk := fs.take k) (f := ⟨tk, ⟨gk, go, gm⟩, ow, bd⟩) C0.out G0.out GI0.out (by rw [HLk.out]; exact HR0.out) HB0.out HBm.out (by rw [HLk.out]; exact Nat.le_trans HBl.out (Nat.le_of_lt sw0)) HFv0.out qS2 (Nat.le_trans hS2q (Nat.le_of_lt sw0)) BE.out T5.out T11.out T15.out XA.out (by rw [HLk.out]; exact hown18) hgr18)
                          simp only [HLk.out, HNx.out] at FIN
                          clear T5 T11 T15 XA hown18 hgr18 hat18 hlt18 OW d2 d2f BA BE hHeld
                          go_wp2_with fail
                          exact ⟨⟨k + 1, .slice (some ⟨gB, 0, none⟩) (k + 1) cap18, by go_num, by omega, FIN.out.1, FIN.out.2.1, FIN.out.2.2.1, FIN.out.2.2.2.1, FIN.out.2.2.2.2⟩, by simp [intOf]; omega⟩
                        exact AllL.nil
                      exact AllL.nil
                    exact AllL.nil
                  exact AllL.nil
                exact AllL.nil
              exact AllL.nil
            exact AllL.nil
          refine AllL.cons rfl (fun K hK => ?_) ?_
          · go_simp
            refine hK.out _ _ (hHeld.below ((Below.refl _ _).alloc (Nat.le_refl _) _)) (fun hHeld => ?_)
            clear hK K
            (try simp only [Act.put, List.setIfInBounds_toArray, List.set_cons_zero, List.set_cons_succ])
            replace BE := hide (BE.out.alloc BE.out.size (.cells #[] 33))
            have E8 : Hid (EmpAt (w0.drew.alloc (.cells #[] 33)) (w0.heap.size) 33) := EmpAt.new _ _ _ (by simp)
            refine readyA (rs := [2, 12]) (by kernel_rfl) (by simp) ?_
            refine AllL.cons rfl (fun K hK => ?_) ?_
            · go_simp
              refine hK.out _ _ (hHeld.below ((Below.refl _ _).alloc (Nat.le_refl _) _)) (fun hHeld => ?_)
              clear hK K
              (try simp only [Act.put, List.setIfInBounds_toArray, List.set_cons_zero, List.set_cons_succ])
              replace BE := hide (BE.out.alloc BE.out.size (.cells #[] 33))
              replace E8 := hide (E8.out.alloc (.cells #[] 33))
              have E2 : Hid (EmpAt ((w0.drew.alloc (.cells #[] 33)).alloc (.cells #[] 33)) (w0.heap.size + 1) 33) := EmpAt.new _ _ _ (by simp)
              refine readyA (rs := [5, 12]) (by kernel_rfl) (by simp) ?_
              refine AllL.cons rfl (fun K hK => ?_) ?_
              · refine step_copy_row _ (by rfl) _ _ 24 33 (by rfl) k0 _ 3 24 Tryz.underlying24 KI.out KZ.out KS.out KB.out (by rfl) (by decide) (by decide) w0.heap.size (some ⟨w0.heap.size + 1, 0, none⟩) ra rc tk.length (fcells tk) (by rfl) (by rfl) (E2.out.owns (by omega)) (fcells_length tk) (HTk.out.below BE.out) (fcells_one tk) (by omega) hHeld.sz ?_
                intro na5 nc5 w5 h5 hb5 hx5
                refine hK.out _ _ (hHeld.below hb5) (fun hHeld => ?_)
                clear hK K
                (try simp only [Act.put, List.setIfInBounds_toArray, List.set_cons_zero, List.set_cons_succ])
                have z5 : w0.heap.size + 1 + 1 ≤ w5.heap.size := by have := hb5.size; simpa using this
                have HX5 : Hid (na5 = some ⟨w0.heap.size + 1, 0, none⟩ ∨ na5 = some ⟨w0.heap.size + 1 + 1, 0, none⟩ ∧ w0.heap.size + 1 + 1 < w5.heap.size) := by simpa [Hid] using hx5
                replace BE := hide (BE.out.trans (hb5.mono BE.out.size))
                replace E8 := hide (E8.out.below hb5)
                replace E2 := hide (E2.out.below hb5)
                have T5 := hide h5
                clear h5 hb5 hx5
                clear E2
                refine readyA (rs := [11, 12]) (by kernel_rfl) (by simp) ?_
                refine AllL.cons rfl (fun K hK => ?_) ?_
                · refine step_copy_row _ (by rfl) _ _ 24 33 (by rfl) k0 _ 3 24 Tryz.underlying24 KI.out KZ.out KS.out KB.out (by rfl) (by decide) (by decide) w0.heap.size (some ⟨w0.heap.size, 0, none⟩) oa oc ow.length (fcells ow) (by rfl) (by rfl) (E8.out.owns (by omega)) (fcells_length ow) (HOw.out.below BE.out) (fcells_one ow) (by omega) hHeld.sz ?_
                  intro na11 nc11 w11 h11 hb11 hx11
                  refine hK.out _ _ (hHeld.below hb11) (fun hHeld => ?_)
                  clear hK K
                  (try simp only [Act.put, List.setIfInBounds_toArray, List.set_cons_zero, List.set_cons_succ])
                  have z11 : w5.heap.size ≤ w11.heap.size := by have := hb11.size; simpa using this
                  have XA : Hid (Apart2 (.slice na5 tk.length nc5) (.slice na11 ow.length nc11)) := apart_two HX5.out (show na11 = some ⟨w0.heap.size, 0, none⟩ ∨ na11 = some ⟨w5.heap.size, 0, none⟩ ∧ w5.heap.size < w11.heap.size by simpa using hx11) (by omega) (by omega) (by omega) (by omega)
                  replace BE := hide (BE.out.trans (hb11.mono BE.out.size))
                  replace E8 := hide (E8.out.below hb11)
                  replace T5 := hide (owns_below T5.out hb11)
                  have T11 := hide h11
                  clear h11 hb11 hx11
                  clear E8
                  refine readyA (rs := [12]) (by kernel_rfl) (by simp) ?_
                  refine AllL.cons rfl (fun K hK => ?_) ?_
                  · go_simp
                    refine hK.out _ _ (hHeld.below ((Below.refl _ _).alloc (Nat.le_refl _) _)) (fun hHeld => ?_)
                    clear hK K
                    (try simp only [Act.put, List.setIfInBounds_toArray, List.set_cons_zero, List.set_cons_succ])
                    replace BE := hide (BE.out.alloc BE.out.size (.cells #[] 59))
                    replace T5 := hide (World.ownsRow.alloc T5.out (.cells #[] 59))
                    replace T11 := hide (World.ownsRow.alloc T11.out (.cells #[] 59))
                    have E12 : Hid (EmpAt (w11.alloc (.cells #[] 59)) (w11.heap.size) 59) := EmpAt.new _ _ _ (by simp)
                    refine readyA (rs := [15]) (by kernel_rfl) (by simp) ?_
                    refine AllL.cons rfl (fun K hK => ?_) ?_
                    · refine step_copy_row _ (by rfl) _ _ 34 59 (by rfl) i0 _ 3 24 Tryz.underlying34 II.out IZ.out IS.out IB.out (by rfl) (by decide) (by decide) w0.heap.size (some ⟨w11.heap.size, 0, none⟩) ba bc bd.length (icells bd) (by rfl) (by rfl) (E12.out.owns (by omega)) (icells_length bd) (HBd.out.below BE.out) (icells_one bd) (by omega) hHeld.sz ?_
                      intro na15 nc15 w15 h15 hb15 hx15
                      refine hK.out _ _ (hHeld.below hb15) (fun hHeld => ?_)
                      clear hK K
                      (try simp only [Act.put, List.setIfInBounds_toArray, List.set_cons_zero, List.set_cons_succ])
                      have z15 : w11.heap.size + 1 ≤ w15.heap.size := by have := hb15.size; simpa using this
                      replace BE := hide (BE.out.trans (hb15.mono BE.out.size))
                      replace E12 := hide (E12.out.below hb15)
                      replace T5 := hide (owns_below T5.out hb15)
                      replace T11 := hide (owns_below T11.out hb15)
                      have T15 := hide h15
                      clear h15 hb15 hx15
                      clear E12
                      refine takeA (i := 16) (v := ?v16n27) rfl (by kernel_rfl) (by kernel_rfl) (by kernel_rfl) (fun _ _ _ h => h) (by kernel_rfl) (by kernel_rfl) (by assumption) ?y16n27 ?r16n27
                      case y16n27 => (intro w hSw; have s0 := hSw.f.cell (o := 0) rfl; have s1 := hSw.f.cell (o := 1) rfl; have s2 := hSw.f.cell (o := 2) rfl; have s3 := hSw.f.cell (o := 3) rfl; have s4 := hSw.f.cell (o := 4) rfl; have s5 := hSw.f.cell (o := 5) rfl; have sq := hSw.q.cell (o := 2) rfl; clear hSw; go_simp; try with_reducible rfl)
                      (try simp only [Act.put, List.setIfInBounds_toArray, List.set_cons_zero, List.set_cons_succ])
                      refine readyA (rs := [17]) (by kernel_rfl) (by simp) ?_
                      refine AllL.cons rfl (fun K hK => ?_) ?_
                      · go_simp
                        refine hK.out _ _ (hHeld.below ((Below.refl _ _).alloc (Nat.le_refl _) _)) (fun hHeld => ?_)
                        clear hK K
                        (try simp only [Act.put, List.setIfInBounds_toArray, List.set_cons_zero, List.set_cons_succ])
                        have BA := hide (BE.out.alloc BE.out.size (.cells #[.slice na5 tk.length nc5, .int .i64 gk, .int .i64 go, .bool gm, .slice na11 ow.length nc11, .slice na15 bd.length nc15] 36))
                        refine readyA (rs := [18]) (by kernel_rfl) (by simp) ?_
                        refine AllL.cons rfl (fun K hK => ?_) ?_
                        · have OW := hide (owns_below HR0.out BA.out)
                          refine step_append_lies _ (by rfl) _ _ 25 (by rfl) S2 36 j0 _ 6 96 Tryz.underlying25 JI.out JZ.out JS.out JB.out (by rfl) (by decide) v k xs (by rfl) OW.out ⟨w15.heap.size, 0, none⟩ 1 1 [.slice na5 tk.length nc5, .int .i64 gk, .int .i64 go, .bool gm, .slice na11 ow.length nc11, .slice na15 bd.length nc15] (by rfl) rfl (World.news_of_block (Deep.blk_alloc_new _ _)) (by intro u hu; simp at hu; rcases hu with rfl | rfl | rfl | rfl | rfl | rfl <;> rfl) (by decide) (by unfold maxLen; omega) (by omega) (by have := hHeld.sz; have := hHeld.hS; omega) _ rfl ?_
                          intro gB cap18 w18 hown18 hgr18 hat18 hlt18
                          refine hK.out _ _ (hHeld.grown hgr18 (owns_base OW.out) (fun q hq => HVlt.out q hq)) (fun hHeld => ?_)
                          clear hK K
                          (try simp only [Act.put, List.setIfInBounds_toArray, List.set_cons_zero, List.set_cons_succ])
                          refine takeA (i := 19) (v := ?v19n28) rfl (by kernel_rfl) (by kernel_rfl) (by kernel_rfl) (fun _ _ _ h => h) (by kernel_rfl) (by kernel_rfl) (by assumption) ?y19n28 ?r19n28
                          case y19n28 => (intro w hSw; have s0 := hSw.f.cell (o := 0) rfl; have s1 := hSw.f.cell (o := 1) rfl; have s2 := hSw.f.cell (o := 2) rfl; have s3 := hSw.f.cell (o := 3) rfl; have s4 := hSw.f.cell (o := 4) rfl; have s5 := hSw.f.cell (o := 5) rfl; have sq := hSw.q.cell (o := 2) rfl; clear hSw; go_simp; try with_reducible rfl)
                          (try simp only [Act.put, List.setIfInBounds_toArray, List.set_cons_zero, List.set_cons_succ])
                          refine readyA (rs := [20]) (by kernel_rfl) (by simp) ?_
                          refine AllL.last rfl (fun K hK => ?_)
                          have d2 := hHeld.q.cell (o := 2) rfl
                          have d2f := hHeld.q.frozen 2
                          go_simp
                          refine hK.out _ _ ?_
                          clear hK K
                          (try simp only [Act.put, List.setIfInBounds_toArray, List.set_cons_zero, List.set_cons_succ])
                          refine doneA (by kernel_rfl) ?_ _
                          have FIN := hide (copy_fin (fsk := fs.take k) (f := ⟨tk, ⟨gk, go, gm⟩, ow, bd⟩) C0.out G0.out GI0.out (by rw [HLk.out]; exact HR0.out) HB0.out HBm.out (by rw [HLk.out]; exact Nat.le_trans HBl.out (Nat.le_of_lt sw0)) HFv0.out qS2 (Nat.le_trans hS2q (Nat.le_of_lt sw0)) BE.out T5.out T11.out T15.out XA.out (by rw [HLk.out]; exact hown18) hgr18)
                          simp only [HLk.out, HNx.out] at FIN
                          clear T5 T11 T15 XA hown18 hgr18 hat18 hlt18 OW d2 d2f BA BE hHeld
                          go_wp2_with fail
                          exact ⟨⟨k + 1, .slice (some ⟨gB, 0, none⟩) (k + 1) cap18, by go_num, by omega, FIN.out.1, FIN.out.2.1, FIN.out.2.2.1, FIN.out.2.2.2.1, FIN.out.2.2.2.2⟩, by simp [intOf]; omega⟩
                        exact AllL.nil
                      exact AllL.nil
                    exact AllL.nil
                  exact AllL.nil
                refine AllL.cons rfl (fun K hK => ?_) ?_
                · go_simp
                  refine hK.out _ _ (hHeld.below ((Below.refl _ _).alloc (Nat.le_refl _) _)) (fun hHeld => ?_)
                  clear hK K
                  (try simp only [Act.put, List.setIfInBounds_toArray, List.set_cons_zero, List.set_cons_succ])
                  replace BE := hide (BE.out.alloc BE.out.size (.cells #[] 59))
                  replace E8 := hide (E8.out.alloc (.cells #[] 59))
                  replace T5 := hide (World.ownsRow.alloc T5.out (.cells #[] 59))
                  have E12 : Hid (EmpAt (w5.alloc (.cells #[] 59)) (w5.heap.size) 59) := EmpAt.new _ _ _ (by simp)
                  refine readyA (rs := [11]) (by kernel_rfl) (by simp) ?_
                  refine AllL.cons rfl (fun K hK => ?_) ?_
                  · refine step_copy_row _ (by rfl) _ _ 24 33 (by rfl) k0 _ 3 24 Tryz.underlying24 KI.out KZ.out KS.out KB.out (by rfl) (by decide) (by decide) w0.heap.size (some ⟨w0.heap.size, 0, none⟩) oa oc ow.length (fcells ow) (by rfl) (by rfl) (E8.out.owns (by omega)) (fcells_length ow) (HOw.out.below BE.out) (fcells_one ow) (by omega) hHeld.sz ?_
                    intro na11 nc11 w11 h11 hb11 hx11
                    refine hK.out _ _ (hHeld.below hb11) (fun hHeld => ?_)
                    clear hK K
                    (try simp only [Act.put, List.setIfInBounds_toArray, List.set_cons_zero, List.set_cons_succ])
                    have z11 : w5.heap.size + 1 ≤ w11.heap.size := by have := hb11.size; simpa using this
                    have XA : Hid (Apart2 (.slice na5 tk.length nc5) (.slice na11 ow.length nc11)) := apart_two HX5.out (show na11 = some ⟨w0.heap.size, 0, none⟩ ∨ na11 = some ⟨w5.heap.size + 1, 0, none⟩ ∧ w5.heap.size + 1 < w11.heap.size by simpa using hx11) (by omega) (by omega) (by omega) (by omega)
                    replace BE := hide (BE.out.trans (hb11.mono BE.out.size))
                    replace E8 := hide (E8.out.below hb11)
                    replace E12 := hide (E12.out.below hb11)
                    replace T5 := hide (owns_below T5.out hb11)
                    have T11 := hide h11
                    clear h11 hb11 hx11
                    clear E8
                    refine readyA (rs := [15]) (by kernel_rfl) (by simp) ?_
                    refine AllL.cons rfl (fun K hK => ?_) ?_
                    · refine step_copy_row _ (by rfl) _ _ 34 59 (by rfl) i0 _ 3 24 Tryz.underlying34 II.out IZ.out IS.out IB.out (by rfl) (by decide) (by decide) w0.heap.size (some ⟨w5.heap.size, 0, none⟩) ba bc bd.length (icells bd) (by rfl) (by rfl) (E12.out.owns (by omega)) (icells_length bd) (HBd.out.below BE.out) (icells_one bd) (by omega) hHeld.sz ?_
                      intro na15 nc15 w15 h15 hb15 hx15
                      refine hK.out _ _ (hHeld.below hb15) (fun hHeld => ?_)
                      clear hK K
                      (try simp only [Act.put, List.setIfInBounds_toArray, List.set_cons_zero, List.set_cons_succ])
                      have z15 : w11.heap.size ≤ w15.heap.size := by have := hb15.size; simpa using this
                      replace BE := hide (BE.out.trans (hb15.mono BE.out.size))
                      replace E12 := hide (E12.out.below hb15)
                      replace T5 := hide (owns_below T5.out hb15)
                      replace T11 := hide (owns_below T11.out hb15)
                      have T15 := hide h15
                      clear h15 hb15 hx15
                      clear E12
                      refine takeA (i := 16) (v := ?v16n29) rfl (by kernel_rfl) (by kernel_rfl) (by kernel_rfl) (fun _ _ _ h => h) (by kernel_rfl) (by kernel_rfl) (by assumption) ?y16n29 ?r16n29
                      case y16n29 => (intro w hSw; have s0 := hSw.f.cell (o := 0) rfl; have s1 := hSw.f.cell (o := 1) rfl; have s2 := hSw.f.cell (o := 2) rfl; have s3 := hSw.f.cell (o := 3) rfl; have s4 := hSw.f.cell (o := 4) rfl; have s5 := hSw.f.cell (o := 5) rfl; have sq := hSw.q.cell (o := 2) rfl; clear hSw; go_simp; try with_reducible rfl)
                      (try simp only [Act.put, List.setIfInBounds_toArray, List.set_cons_zero, List.set_cons_succ])
                      refine readyA (rs := [17]) (by kernel_rfl) (by simp) ?_
                      refine AllL.cons rfl (fun K hK => ?_) ?_
                      · go_simp
                        refine hK.out _ _ (hHeld.below ((Below.refl _ _).alloc (Nat.le_refl _) _)) (fun hHeld => ?_)
                        clear hK K
                        (try simp only [Act.put, List.setIfInBounds_toArray, List.set_cons_zero, List.set_cons_succ])
                        have BA := hide (BE.out.alloc BE.out.size (.cells #[.slice na5 tk.length nc5, .int .i64 gk, .int .i64 go, .bool gm, .slice na11 ow.length nc11, .slice na15 bd.length nc15] 36))
                        refine readyA (rs := [18]) (by kernel_rfl) (by simp) ?_
                        refine AllL.cons rfl (fun K hK => ?_) ?_
                        · have OW := hide (owns_below HR0.out BA.out)
                          refine step_append_lies _ (by rfl) _ _ 25 (by rfl) S2 36 j0 _ 6 96 Tryz.underlying25 JI.out JZ.out JS.out JB.out (by rfl) (by decide) v k xs (by rfl) OW.out ⟨w15.heap.size, 0, none⟩ 1 1 [.slice na5 tk.length nc5, .int .i64 gk, .int .i64 go, .bool gm, .slice na11 ow.length nc11, .slice na15 bd.length nc15] (by rfl) rfl (World.news_of_block (Deep.blk_alloc_new _ _)) (by intro u hu; simp at hu; rcases hu with rfl | rfl | rfl | rfl | rfl | rfl <;> rfl) (by decide) (by unfold maxLen; omega) (by omega) (by have := hHeld.sz; have := hHeld.hS; omega) _ rfl ?_
                          intro gB cap18 w18 hown18 hgr18 hat18 hlt18
                          refine hK.out _ _ (hHeld.grown hgr18 (owns_base OW.out) (fun q hq => HVlt.out q hq)) (fun hHeld => ?_)
                          clear hK K
                          (try simp only [Act.put, List.setIfInBounds_toArray, List.set_cons_zero, List.set_cons_succ])
                          refine takeA (i := 19) (v := ?v19n30) rfl (by kernel_rfl) (by kernel_rfl) (by kernel_rfl) (fun _ _ _ h => h) (by kernel_rfl) (by kernel_rfl) (by assumption) ?y19n30 ?r19n30
                          case y19n30 => (intro w hSw; have s0 := hSw.f.cell (o := 0) rfl; have s1 := hSw.f.cell (o := 1) rfl; have s2 := hSw.f.cell (o := 2) rfl; have s3 := hSw.f.cell (o := 3) rfl; have s4 := hSw.f.cell (o := 4) rfl; have s5 := hSw.f.cell (o := 5) rfl; have sq := hSw.q.cell (o := 2) rfl; clear hSw; go_simp; try with_reducible rfl)
                          (try simp only [Act.put, List.setIfInBounds_toArray, List.set_cons_zero, List.set_cons_succ])
                          refine readyA (rs := [20]) (by kernel_rfl) (by simp) ?_
                          refine AllL.last rfl (fun K hK => ?_)
                          have d2 := hHeld.q.cell (o := 2) rfl
                          have d2f := hHeld.q.frozen 2
                          go_simp
                          refine hK.out _ _ ?_
                          clear hK K
                          (try simp only [Act.put, List.setIfInBounds_toArray, List.set_cons_zero, List.set_cons_succ])
                          refine doneA (by kernel_rfl) ?_ _
                          have FIN := hide (copy_fin (fsk := fs.take k) (f := ⟨tk, ⟨gk, go, gm⟩, ow, bd⟩) C0.out G0.out GI0.out (by rw [HLk.out]; exact HR0.out) HB0.out HBm.out (by rw [HLk.out]; exact Nat.le_trans HBl.out (Nat.le_of_lt sw0)) HFv0.out qS2 (Nat.le_trans hS2q (Nat.le_of_lt sw0)) BE.out T5.out T11.out T15.out XA.out (by rw [HLk.out]; exact hown18) hgr18)
                          simp only [HLk.out, HNx.out] at FIN
                          clear T5 T11 T15 XA hown18 hgr18 hat18 hlt18 OW d2 d2f BA BE hHeld
                          go_wp2_with fail
                          exact ⟨⟨k + 1, .slice (some ⟨gB, 0, none⟩) (k + 1) cap18, by go_num, by omega, FIN.out.1, FIN.out.2.1, FIN.out.2.2.1, FIN.out.2.2.2.1, FIN.out.2.2.2.2⟩, by simp [intOf]; omega⟩
                        exact AllL.nil
                      exact AllL.nil
                    exact AllL.nil
                  exact AllL.nil
                exact AllL.nil
              refine AllL.cons rfl (fun K hK => ?_) ?_
              · go_simp
                refine hK.out _ _ (hHeld.below ((Below.refl _ _).alloc (Nat.le_refl _) _)) (fun hHeld => ?_)
                clear hK K
                (try simp only [Act.put, List.setIfInBounds_toArray, List.set_cons_zero, List.set_cons_succ])
                replace BE := hide (BE.out.alloc BE.out.size (.cells #[] 59))
                replace E8 := hide (E8.out.alloc (.cells #[] 59))
                replace E2 := hide (E2.out.alloc (.cells #[] 59))
                have E12 : Hid (EmpAt (((w0.drew.alloc (.cells #[] 33)).alloc (.cells #[] 33)).alloc (.cells #[] 59)) (w0.heap.size + 1 + 1) 59) := EmpAt.new _ _ _ (by simp)
                refine readyA (rs := [5]) (by kernel_rfl) (by simp) ?_
                refine AllL.cons rfl (fun K hK => ?_) ?_
                · refine step_copy_row _ (by rfl) _ _ 24 33 (by rfl) k0 _ 3 24 Tryz.underlying24 KI.out KZ.out KS.out KB.out (by rfl) (by decide) (by decide) w0.heap.size (some ⟨w0.heap.size + 1, 0, none⟩) ra rc tk.length (fcells tk) (by rfl) (by rfl) (E2.out.owns (by omega)) (fcells_length tk) (HTk.out.below BE.out) (fcells_one tk) (by omega) hHeld.sz ?_
                  intro na5 nc5 w5 h5 hb5 hx5
                  refine hK.out _ _ (hHeld.below hb5) (fun hHeld => ?_)
                  clear hK K
                  (try simp only [Act.put, List.setIfInBounds_toArray, List.set_cons_zero, List.set_cons_succ])
                  have z5 : w0.heap.size + 1 + 1 + 1 ≤ w5.heap.size := by have := hb5.size; simpa using this
                  have HX5 : Hid (na5 = some ⟨w0.heap.size + 1, 0, none⟩ ∨ na5 = some ⟨w0.heap.size + 1 + 1 + 1, 0, none⟩ ∧ w0.heap.size + 1 + 1 + 1 < w5.heap.size) := by simpa [Hid] using hx5
                  replace BE := hide (BE.out.trans (hb5.mono BE.out.size))
                  replace E8 := hide (E8.out.below hb5)
                  replace E2 := hide (E2.out.below hb5)
                  replace E12 := hide (E12.out.below hb5)
                  have T5 := hide h5
                  clear h5 hb5 hx5
                  clear E2
                  refine readyA (rs := [11]) (by kernel_rfl) (by simp) ?_
                  refine AllL.cons rfl (fun K hK => ?_) ?_
                  · refine step_copy_row _ (by rfl) _ _ 24 33 (by rfl) k0 _ 3 24 Tryz.underlying24 KI.out KZ.out KS.out KB.out (by rfl) (by decide) (by decide) w0.heap.size (some ⟨w0.heap.size, 0, none⟩) oa oc ow.length (fcells ow) (by rfl) (by rfl) (E8.out.owns (by omega)) (fcells_length ow) (HOw.out.below BE.out) (fcells_one ow) (by omega) hHeld.sz ?_
                    intro na11 nc11 w11 h11 hb11 hx11
                    refine hK.out _ _ (hHeld.below hb11) (fun hHeld => ?_)
                    clear hK K
                    (try simp only [Act.put, List.setIfInBounds_toArray, List.set_cons_zero, List.set_cons_succ])
                    have z11 : w5.heap.size ≤ w11.heap.size := by have := hb11.size; simpa using this
                    have XA : Hid (Apart2 (.slice na5 tk.length nc5) (.slice na11 ow.length nc11)) := apart_two HX5.out (show na11 = some ⟨w0.heap.size, 0, none⟩ ∨ na11 = some ⟨w5.heap.size, 0, none⟩ ∧ w5.heap.size < w11.heap.size by simpa using hx11) (by omega) (by omega) (by omega) (by omega)
                    replace BE := hide (BE.out.trans (hb11.mono BE.out.size))
                    replace E8 := hide (E8.out.below hb11)
                    replace E12 := hide (E12.out.below hb11)
                    replace T5 := hide (owns_below T5.out hb11)
                    have T11 := hide h11
                    clear h11 hb11 hx11
                    clear E8
                    refine readyA (rs := [15]) (by kernel_rfl) (by simp) ?_
                    refine AllL.cons rfl (fun K hK => ?_) ?_
                    · refine step_copy_row _ (by rfl) _ _ 34 59 (by rfl) i0 _ 3 24 Tryz.underlying34 II.out IZ.out IS.out IB.out (by rfl) (by decide) (by decide) w0.heap.size (some ⟨w0.heap.size + 1 + 1, 0, none⟩) ba bc bd.length (icells bd) (by rfl) (by rfl) (E12.out.owns (by omega)) (icells_length bd) (HBd.out.below BE.out) (icells_one bd) (by omega) hHeld.sz ?_
                      intro na15 nc15 w15 h15 hb15 hx15
                      refine hK.out _ _ (hHeld.below hb15) (fun hHeld => ?_)
                      clear hK K
                      (try simp only [Act.put, List.setIfInBounds_toArray, List.set_cons_zero, List.set_cons_succ])
                      have z15 : w11.heap.size ≤ w15.heap.size := by have := hb15.size; simpa using this
                      replace BE := hide (BE.out.trans (hb15.mono BE.out.size))
                      replace E12 := hide (E12.out.below hb15)
                      replace T5 := hide (owns_below T5.out hb15)
                      replace T11 := hide (owns_below T11.out hb15)
                      have T15 := hide h15
                      clear h15 hb15 hx15
                      clear E12
                      refine takeA (i := 16) (v := ?v16n31) rfl (by kernel_rfl) (by kernel_rfl) (by kernel_rfl) (fun _ _ _ h => h) (by kernel_rfl) (by kernel_rfl) (by assumption) ?y16n31 ?r16n31
                      case y16n31 => (intro w hSw; have s0 := hSw.f.cell (o := 0) rfl; have s1 := hSw.f.cell (o := 1) rfl; have s2 := hSw.f.cell (o := 2) rfl; have s3 := hSw.f.cell (o := 3) rfl; have s4 := hSw.f.cell (o := 4) rfl; have s5 := hSw.f.cell (o := 5) rfl; have sq := hSw.q.cell (o := 2) rfl; clear hSw; go_simp; try with_reducible rfl)
                      (try simp only [Act.put, List.setIfInBounds_toArray, List.set_cons_zero, List.set_cons_succ])
                      refine readyA (rs := [17]) (by kernel_rfl) (by simp) ?_
                      refine AllL.cons rfl (fun K hK => ?_) ?_
                      · go_simp
                        refine hK.out _ _ (hHeld.below ((Below.refl _ _).alloc (Nat.le_refl _) _)) (fun hHeld => ?_)
                        clear hK K
                        (try simp only [Act.put, List.setIfInBounds_toArray, List.set_cons_zero, List.set_cons_succ])
                        have BA := hide (BE.out.alloc BE.out.size (.cells #[.slice na5 tk.length nc5, .int .i64 gk, .int .i64 go, .bool gm, .slice na11 ow.length nc11, .slice na15 bd.length nc15] 36))
                        refine readyA (rs := [18]) (by kernel_rfl) (by simp) ?_
                        refine AllL.cons rfl (fun K hK => ?_) ?_
                        · have OW := hide (owns_below HR0.out BA.out)
                          refine step_append_lies _ (by rfl) _ _ 25 (by rfl) S2 36 j0 _ 6 96 Tryz.underlying25 JI.out JZ.out JS.out JB.out (by rfl) (by decide) v k xs (by rfl) OW.out ⟨w15.heap.size, 0, none⟩ 1 1 [.slice na5 tk.length nc5, .int .i64 gk, .int .i64 go, .bool gm, .slice na11 ow.length nc11, .slice na15 bd.length nc15] (by rfl) rfl (World.news_of_block (Deep.blk_alloc_new _ _)) (by intro u hu; simp at hu; rcases hu with rfl | rfl | rfl | rfl | rfl | rfl <;> rfl) (by decide) (by unfold maxLen; omega) (by omega) (by have := hHeld.sz; have := hHeld.hS; omega) _ rfl ?_
                          intro gB cap18 w18 hown18 hgr18 hat18 hlt18
                          refine hK.out _ _ (hHeld.grown hgr18 (owns_base OW.out) (fun q hq => HVlt.out q hq)) (fun hHeld => ?_)
                          clear hK K
                          (try simp only [Act.put, List.setIfInBounds_toArray, List.set_cons_zero, List.set_cons_succ])
                          refine takeA (i := 19) (v := ?v19n32) rfl (by kernel_rfl) (by kernel_rfl) (by kernel_rfl) (fun _ _ _ h => h) (by kernel_rfl) (by kernel_rfl) (by assumption) ?y19n32 ?r19n32
                          case y19n32 => (intro w hSw; have s0 := hSw.f.cell (o := 0) rfl; have s1 := hSw.f.cell (o := 1) rfl; have s2 := hSw.f.cell (o := 2) rfl; have s3 := hSw.f.cell (o := 3) rfl; have s4 := hSw.f.cell (o := 4) rfl; have s5 := hSw.f.cell (o := 5) rfl; have sq := hSw.q.cell (o := 2) rfl; clear hSw; go_simp; try with_reducible rfl)
                          (try simp only [Act.put, List.setIfInBounds_toArray, List.set_cons_zero, List.set_cons_succ])
                          refine readyA (rs := [20]) (by kernel_rfl) (by simp) ?_
                          refine AllL.last rfl (fun K hK => ?_)
                          have d2 := hHeld.q.cell (o := 2) rfl
                          have d2f := hHeld.q.frozen 2
                          go_simp
                          refine hK.out _ _ ?_
                          clear hK K
                          (try simp only [Act.put, List.setIfInBounds_toArray, List.set_cons_zero, List.set_cons_succ])
                          refine doneA (by kernel_rfl) ?_ _
                          have FIN := hide (copy_fin (fsk := fs.take k) (f := ⟨tk, ⟨gk, go, gm⟩, ow, bd⟩) C0.out G0.out GI0.out (by rw [HLk.out]; exact HR0.out) HB0.out HBm.out (by rw [HLk.out]; exact Nat.le_trans HBl.out (Nat.le_of_lt sw0)) HFv0.out qS2 (Nat.le_trans hS2q (Nat.le_of_lt sw0)) BE.out T5.out T11.out T15.out XA.out (by rw [HLk.out]; exact hown18) hgr18)
                          simp only [HLk.out, HNx.out] at FIN
                          clear T5 T11 T15 XA hown18 hgr18 hat18 hlt18 OW d2 d2f BA BE hHeld
                          go_wp2_with fail
                          exact ⟨⟨k + 1, .slice (some ⟨gB, 0, none⟩) (k + 1) cap18, by go_num, by omega, FIN.out.1, FIN.out.2.1, FIN.out.2.2.1, FIN.out.2.2.2.1, FIN.out.2.2.2.2⟩, by simp [intOf]; omega⟩
                        exact AllL.nil
                      exact AllL.nil
                    exact AllL.nil
                  exact AllL.nil
                exact AllL.nil
              exact AllL.nil
            refine AllL.cons rfl (fun K hK => ?_) ?_
            · go_simp
              refine hK.out _ _ (hHeld.below ((Below.refl _ _).alloc (Nat.le_refl _) _)) (fun hHeld => ?_)
              clear hK K
              (try simp only [Act.put, List.setIfInBounds_toArray, List.set_cons_zero, List.set_cons_succ])
              replace BE := hide (BE.out.alloc BE.out.size (.cells #[] 59))
              replace E8 := hide (E8.out.alloc (.cells #[] 59))
              have E12 : Hid (EmpAt ((w0.drew.alloc (.cells #[] 33)).alloc (.cells #[] 59)) (w0.heap.size + 1) 59) := EmpAt.new _ _ _ (by simp)
              refine readyA (rs := [2]) (by kernel_rfl) (by simp) ?_
              refine AllL.cons rfl (fun K hK => ?_) ?_
              · go_simp
                refine hK.out _ _ (hHeld.below ((Below.refl _ _).alloc (Nat.le_refl _) _)) (fun hHeld => ?_)
                clear hK K
                (try simp only [Act.put, List.setIfInBounds_toArray, List.set_cons_zero, List.set_cons_succ])
                replace BE := hide (BE.out.alloc BE.out.size (.cells #[] 33))
                replace E8 := hide (E8.out.alloc (.cells #[] 33))
                replace E12 := hide (E12.out.alloc (.cells #[] 33))
                have E2 : Hid (EmpAt (((w0.drew.alloc (.cells #[] 33)).alloc (.cells #[] 59)).alloc (.cells #[] 33)) (w0.heap.size + 1 + 1) 33) := EmpAt.new _ _ _ (by simp)
                refine readyA (rs := [5]) (by kernel_rfl) (by simp) ?_
                refine AllL.cons rfl (fun K hK => ?_) ?_
                · refine step_copy_row _ (by rfl) _ _ 24 33 (by rfl) k0 _ 3 24 Tryz.underlying24 KI.out KZ.out KS.out KB.out (by rfl) (by decide) (by decide) w0.heap.size (some ⟨w0.heap.size + 1 + 1, 0, none⟩) ra rc tk.length (fcells tk) (by rfl) (by rfl) (E2.out.owns (by omega)) (fcells_length tk) (HTk.out.below BE.out) (fcells_one tk) (by omega) hHeld.sz ?_
                  intro na5 nc5 w5 h5 hb5 hx5
                  refine hK.out _ _ (hHeld.below hb5) (fun hHeld => ?_)
                  clear hK K
                  (try simp only [Act.put, List.setIfInBounds_toArray, List.set_cons_zero, List.set_cons_succ])
                  have z5 : w0.heap.size + 1 + 1 + 1 ≤ w5.heap.size := by have := hb5.size; simpa using this
                  have HX5 : Hid (na5 = some ⟨w0.heap.size + 1 + 1, 0, none⟩ ∨ na5 = some ⟨w0.heap.size + 1 + 1 + 1, 0, none⟩ ∧ w0.heap.size + 1 + 1 + 1 < w5.heap.size) := by simpa [Hid] using hx5
                  replace BE := hide (BE.out.trans (hb5.mono BE.out.size))
                  replace E8 := hide (E8.out.below hb5)
                  replace E12 := hide (E12.out.below hb5)
                  replace E2 := hide (E2.out.below hb5)
                  have T5 := hide h5
                  clear h5 hb5 hx5
                  clear E2
                  refine readyA (rs := [11]) (by kernel_rfl) (by simp) ?_
                  refine AllL.cons rfl (fun K hK => ?_) ?_
                  · refine step_copy_row _ (by rfl) _ _ 24 33 (by rfl) k0 _ 3 24 Tryz.underlying24 KI.out KZ.out KS.out KB.out (by rfl) (by decide) (by decide) w0.heap.size (some ⟨w0.heap.size, 0, none⟩) oa oc ow.length (fcells ow) (by rfl) (by rfl) (E8.out.owns (by omega)) (fcells_length ow) (HOw.out.below BE.out) (fcells_one ow) (by omega) hHeld.sz ?_
                    intro na11 nc11 w11 h11 hb11 hx11
                    refine hK.out _ _ (hHeld.below hb11) (fun hHeld => ?_)
                    clear hK K
                    (try simp only [Act.put, List.setIfInBounds_toArray, List.set_cons_zero, List.set_cons_succ])
                    have z11 : w5.heap.size ≤ w11.heap.size := by have := hb11.size; simpa using this
                    have XA : Hid (Apart2 (.slice na5 tk.length nc5) (.slice na11 ow.length nc11)) := apart_two HX5.out (show na11 = some ⟨w0.heap.size, 0, none⟩ ∨ na11 = some ⟨w5.heap.size, 0, none⟩ ∧ w5.heap.size < w11.heap.size by simpa using hx11) (by omega) (by omega) (by omega) (by omega)
                    replace BE := hide (BE.out.trans (hb11.mono BE.out.size))
                    replace E8 := hide (E8.out.below hb11)
                    replace E12 := hide (E12.out.below hb11)
                    replace T5 := hide (owns_below T5.out hb11)
                    have T11 := hide h11
                    clear h11 hb11 hx11
                    clear E8
                    refine readyA (rs := [15]) (by kernel_rfl) (by simp) ?_
                    refine AllL.cons rfl (fun K hK => ?_) ?_
                    · refine step_copy_row _ (by rfl) _ _ 34 59 (by rfl) i0 _ 3 24 Tryz.underlying34 II.out IZ.out IS.out IB.out (by rfl) (by decide) (by decide) w0.heap.size (some ⟨w0.heap.size + 1, 0, none⟩) ba bc bd.length (icells bd) (by rfl) (by rfl) (E12.out.owns (by omega)) (icells_length bd) (HBd.out.below BE.out) (icells_one bd) (by omega) hHeld.sz ?_
                      intro na15 nc15 w15 h15 hb15 hx15
                      refine hK.out _ _ (hHeld.below hb15) (fun hHeld => ?_)
                      clear hK K
                      (try simp only [Act.put, List.setIfInBounds_toArray, List.set_cons_zero, List.set_cons_succ])
                      have z15 : w11.heap.size ≤ w15.heap.size := by have := hb15.size; simpa using this
                      replace BE := hide (BE.out.trans (hb15.mono BE.out.size))
                      replace E12 := hide (E12.out.below hb15)
                      replace T5 := hide (owns_below T5.out hb15)
                      replace T11 := hide (owns_below T11.out hb15)
                      have T15 := hide h15
                      clear h15 hb15 hx15
                      clear E12
                      refine takeA (i := 16) (v := ?v16n33) rfl (by kernel_rfl) (by kernel_rfl) (by kernel_rfl) (fun _ _ _ h => h) (by kernel_rfl) (by kernel_rfl) (by assumption) ?y16n33 ?r16n33
                      case y16n33 => (intro w hSw; have s0 := hSw.f.cell (o := 0) rfl; have s1 := hSw.f.cell (o := 1) rfl; have s2 := hSw.f.cell (o := 2) rfl; have s3 := hSw.f.cell (o := 3) rfl; have s4 := hSw.f.cell (o := 4) rfl; have s5 := hSw.f.cell (o := 5) rfl; have sq := hSw.q.cell (o := 2) rfl; clear hSw; go_simp; try with_reducible rfl)
                      (try simp only [Act.put, List.setIfInBounds_toArray, List.set_cons_zero, List.set_cons_succ])
                      refine readyA (rs := [17]) (by kernel_rfl) (by simp) ?_
                      refine AllL.cons rfl (fun K hK => ?_) ?_
                      · go_simp
                        refine hK.out _ _ (hHeld.below ((Below.refl _ _).alloc (Nat.le_refl _) _)) (fun hHeld => ?_)
                        clear hK K
                        (try simp only [Act.put, List.setIfInBounds_toArray, List.set_cons_zero, List.set_cons_succ])
                        have BA := hide (BE.out.alloc BE.out.size (.cells #[.slice na5 tk.length nc5, .int .i64 gk, .int .i64 go, .bool gm, .slice na11 ow.length nc11, .slice na15 bd.length nc15] 36))
                        refine readyA (rs := [18]) (by kernel_rfl) (by simp) ?_
                        refine AllL.cons rfl (fun K hK => ?_) ?_
                        · have OW := hide (owns_below HR0.out BA.out)
                          refine step_append_lies _ (by rfl) _ _ 25 (by rfl) S2 36 j0 _ 6 96 Tryz.underlying25 JI.out JZ.out JS.out JB.out (by rfl) (by decide) v k xs (by rfl) OW.out ⟨w15.heap.size, 0, none⟩ 1 1 [.slice na5 tk.length nc5, .int .i64 gk, .int .i64 go, .bool gm, .slice na11 ow.length nc11, .slice na15 bd.length nc15] (by rfl) rfl (World.news_of_block (Deep.blk_alloc_new _ _)) (by intro u hu; simp at hu; rcases hu with rfl | rfl | rfl | rfl | rfl | rfl <;> rfl) (by decide) (by unfold maxLen; omega) (by omega) (by have := hHeld.sz; have := hHeld.hS; omega) _ rfl ?_
                          intro gB cap18 w18 hown18 hgr18 hat18 hlt18
                          refine hK.out _ _ (hHeld.grown hgr18 (owns_base OW.out) (fun q hq => HVlt.out q hq)) (fun hHeld => ?_)
                          clear hK K
                          (try simp only [Act.put, List.setIfInBounds_toArray, List.set_cons_zero, List.set_cons_succ])
                          refine takeA (i := 19) (v := ?v19n34) rfl (by kernel_rfl) (by kernel_rfl) (by kernel_rfl) (fun _ _ _ h => h) (by kernel_rfl) (by kernel_rfl) (by assumption) ?y19n34 ?r19n34
                          case y19n34 => (intro w hSw; have s0 := hSw.f.cell (o := 0) rfl; have s1 := hSw.f.cell (o := 1) rfl; have s2 := hSw.f.cell (o := 2) rfl; have s3 := hSw.f.cell (o := 3) rfl; have s4 := hSw.f.cell (o := 4) rfl; have s5 := hSw.f.cell (o := 5) rfl; have sq := hSw.q.cell (o := 2) rfl; clear hSw; go_simp; try with_reducible rfl)
                          (try simp only [Act.put, List.setIfInBounds_toArray, List.set_cons_zero, List.set_cons_succ])
                          refine readyA (rs := [20]) (by kernel_rfl) (by simp) ?_
                          refine AllL.last rfl (fun K hK => ?_)
                          have d2 := hHeld.q.cell (o := 2) rfl
                          have d2f := hHeld.q.frozen 2
                          go_simp
                          refine hK.out _ _ ?_
                          clear hK K
                          (try simp only [Act.put, List.setIfInBounds_toArray, List.set_cons_zero, List.set_cons_succ])
                          refine doneA (by kernel_rfl) ?_ _
                          have FIN := hide (copy_fin (fsk := fs.take k) (f := ⟨tk, ⟨gk, go, gm⟩, ow, bd⟩) C0.out G0.out GI0.out (by rw [HLk.out]; exact HR0.out) HB0.out HBm.out (by rw [HLk.out]; exact Nat.le_trans HBl.out (Nat.le_of_lt sw0)) HFv0.out qS2 (Nat.le_trans hS2q (Nat.le_of_lt sw0)) BE.out T5.out T11.out T15.out XA.out (by rw [HLk.out]; exact hown18) hgr18)
                          simp only [HLk.out, HNx.out] at FIN
                          clear T5 T11 T15 XA hown18 hgr18 hat18 hlt18 OW d2 d2f BA BE hHeld
                          go_wp2_with fail
                          exact ⟨⟨k + 1, .slice (some ⟨gB, 0, none⟩) (k + 1) cap18, by go_num, by omega, FIN.out.1, FIN.out.2.1, FIN.out.2.2.1, FIN.out.2.2.2.1, FIN.out.2.2.2.2⟩, by simp [intOf]; omega⟩
                        exact AllL.nil
                      exact AllL.nil
                    exact AllL.nil
                  exact AllL.nil
                exact AllL.nil
              exact AllL.nil
            exact AllL.nil
          refine AllL.cons rfl (fun K hK => ?_) ?_
          · go_simp
            refine hK.out _ _ (hHeld.below ((Below.refl _ _).alloc (Nat.le_refl _) _)) (fun hHeld => ?_)
            clear hK K
            (try simp only [Act.put, List.setIfInBounds_toArray, List.set_cons_zero, List.set_cons_succ])
            replace BE := hide (BE.out.alloc BE.out.size (.cells #[] 59))
            have E12 : Hid (EmpAt (w0.drew.alloc (.cells #[] 59)) (w0.heap.size) 59) := EmpAt.new _ _ _ (by simp)
            refine readyA (rs := [2, 8]) (by kernel_rfl) (by simp) ?_
            refine AllL.cons rfl (fun K hK => ?_) ?_
            · go_simp
              refine hK.out _ _ (hHeld.below ((Below.refl _ _).alloc (Nat.le_refl _) _)) (fun hHeld => ?_)
              clear hK K
              (try simp only [Act.put, List.setIfInBounds_toArray, List.set_cons_zero, List.set_cons_succ])
              replace BE := hide (BE.out.alloc BE.out.size (.cells #[] 33))
              replace E12 := hide (E12.out.alloc (.cells #[] 33))
              have E2 : Hid (EmpAt ((w0.drew.alloc (.cells #[] 59)).alloc (.cells #[] 33)) (w0.heap.size + 1) 33) := EmpAt.new _ _ _ (by simp)
              refine readyA (rs := [5, 8]) (by kernel_rfl) (by simp) ?_
              refine AllL.cons rfl (fun K hK => ?_) ?_
              · refine step_copy_row _ (by rfl) _ _ 24 33 (by rfl) k0 _ 3 24 Tryz.underlying24 KI.out KZ.out KS.out KB.out (by rfl) (by decide) (by decide) w0.heap.size (some ⟨w0.heap.size + 1, 0, none⟩) ra rc tk.length (fcells tk) (by rfl) (by rfl) (E2.out.owns (by omega)) (fcells_length tk) (HTk.out.below BE.out) (fcells_one tk) (by omega) hHeld.sz ?_
                intro na5 nc5 w5 h5 hb5 hx5
                refine hK.out _ _ (hHeld.below hb5) (fun hHeld => ?_)
                clear hK K
                (try simp only [Act.put, List.setIfInBounds_toArray, List.set_cons_zero, List.set_cons_succ])
                have z5 : w0.heap.size + 1 + 1 ≤ w5.heap.size := by have := hb5.size; simpa using this
                have HX5 : Hid (na5 = some ⟨w0.heap.size + 1, 0, none⟩ ∨ na5 = some ⟨w0.heap.size + 1 + 1, 0, none⟩ ∧ w0.heap.size + 1 + 1 < w5.heap.size) := by simpa [Hid] using hx5
                replace BE := hide (BE.out.trans (hb5.mono BE.out.size))
                replace E12 := hide (E12.out.below hb5)
                replace E2 := hide (E2.out.below hb5)
                have T5 := hide h5
                clear h5 hb5 hx5
                clear E2
                refine readyA (rs := [8]) (by kernel_rfl) (by simp) ?_
                refine AllL.cons rfl (fun K hK => ?_) ?_
                · go_simp
                  refine hK.out _ _ (hHeld.below ((Below.refl _ _).alloc (Nat.le_refl _) _)) (fun hHeld => ?_)
                  clear hK K
                  (try simp only [Act.put, List.setIfInBounds_toArray, List.set_cons_zero, List.set_cons_succ])
                  replace BE := hide (BE.out.alloc BE.out.size (.cells #[] 33))
                  replace E12 := hide (E12.out.alloc (.cells #[] 33))
                  replace T5 := hide (World.ownsRow.alloc T5.out (.cells #[] 33))
                  have E8 : Hid (EmpAt (w5.alloc (.cells #[] 33)) (w5.heap.size) 33) := EmpAt.new _ _ _ (by simp)
                  refine readyA (rs := [11]) (by kernel_rfl) (by simp) ?_
                  refine AllL.cons rfl (fun K hK => ?_) ?_
                  · refine step_copy_row _ (by rfl) _ _ 24 33 (by rfl) k0 _ 3 24 Tryz.underlying24 KI.out KZ.out KS.out KB.out (by rfl) (by decide) (by decide) w0.heap.size (some ⟨w5.heap.size, 0, none⟩) oa oc ow.length (fcells ow) (by rfl) (by rfl) (E8.out.owns (by omega)) (fcells_length ow) (HOw.out.below BE.out) (fcells_one ow) (by omega) hHeld.sz ?_
                    intro na11 nc11 w11 h11 hb11 hx11
                    refine hK.out _ _ (hHeld.below hb11) (fun hHeld => ?_)
                    clear hK K
                    (try simp only [Act.put, List.setIfInBounds_toArray, List.set_cons_zero, List.set_cons_succ])
                    have z11 : w5.heap.size + 1 ≤ w11.heap.size := by have := hb11.size; simpa using this
                    have XA : Hid (Apart2 (.slice na5 tk.length nc5) (.slice na11 ow.length nc11)) := apart_two HX5.out (show na11 = some ⟨w5.heap.size, 0, none⟩ ∨ na11 = some ⟨w5.heap.size + 1, 0, none⟩ ∧ w5.heap.size + 1 < w11.heap.size by simpa using hx11) (by omega) (by omega) (by omega) (by omega)
                    replace BE := hide (BE.out.trans (hb11.mono BE.out.size))
                    replace E12 := hide (E12.out.below hb11)
                    replace E8 := hide (E8.out.below hb11)
                    replace T5 := hide (owns_below T5.out hb11)
                    have T11 := hide h11
                    clear h11 hb11 hx11
                    clear E8
                    refine readyA (rs := [15]) (by kernel_rfl) (by simp) ?_
                    refine AllL.cons rfl (fun K hK => ?_) ?_
                    · refine step_copy_row _ (by rfl) _ _ 34 59 (by rfl) i0 _ 3 24 Tryz.underlying34 II.out IZ.out IS.out IB.out (by rfl) (by decide) (by decide) w0.heap.size (some ⟨w0.heap.size, 0, none⟩) ba bc bd.length (icells bd) (by rfl) (by rfl) (E12.out.owns (by omega)) (icells_length bd) (HBd.out.below BE.out) (icells_one bd) (by omega) hHeld.sz ?_
                      intro na15 nc15 w15 h15 hb15 hx15
                      refine hK.out _ _ (hHeld.below hb15) (fun hHeld => ?_)
                      clear hK K
                      (try simp only [Act.put, List.setIfInBounds_toArray, List.set_cons_zero, List.set_cons_succ])
                      have z15 : w11.heap.size ≤ w15.heap.size := by have := hb15.size; simpa using this
                      replace BE := hide (BE.out.trans (hb15.mono BE.out.size))
                      replace E12 := hide (E12.out.below hb15)
                      replace T5 := hide (owns_below T5.out hb15)
                      replace T11 := hide (owns_below T11.out hb15)
                      have T15 := hide h15
                      clear h15 hb15 hx15
                      clear E12
                      refine takeA (i := 16) (v := ?v16n35) rfl (by kernel_rfl) (by kernel_rfl) (by kernel_rfl) (fun _ _ _ h => h) (by kernel_rfl) (by kernel_rfl) (by assumption) ?y16n35 ?r16n35
                      case y16n35 => (intro w hSw; have s0 := hSw.f.cell (o := 0) rfl; have s1 := hSw.f.cell (o := 1) rfl; have s2 := hSw.f.cell (o := 2) rfl; have s3 := hSw.f.cell (o := 3) rfl; have s4 := hSw.f.cell (o := 4) rfl; have s5 := hSw.f.cell (o := 5) rfl; have sq := hSw.q.cell (o := 2) rfl; clear hSw; go_simp; try with_reducible rfl)
                      (try simp only [Act.put, List.setIfInBounds_toArray, List.set_cons_zero, List.set_cons_succ])
                      refine readyA (rs := [17]) (by kernel_rfl) (by simp) ?_
                      refine AllL.cons rfl (fun K hK => ?_) ?_
                      · go_simp
                        refine hK.out _ _ (hHeld.below ((Below.refl _ _).alloc (Nat.le_refl _) _)) (fun hHeld => ?_)
                        clear hK K
                        (try simp only [Act.put, List.setIfInBounds_toArray, List.set_cons_zero, List.set_cons_succ])
                        have BA := hide (BE.out.alloc BE.out.size (.cells #[.slice na5 tk.length nc5, .int .i64 gk, .int .i64 go, .bool gm, .slice na11 ow.length nc11, .slice na15 bd.length nc15] 36))
                        refine readyA (rs := [18]) (by kernel_rfl) (by simp) ?_
                        refine AllL.cons rfl (fun K hK => ?_) ?_
                        · have OW := hide (owns_below HR0.out BA.out)
                          refine step_append_lies _ (by rfl) _ _ 25 (by rfl) S2 36 j0 _ 6 96 Tryz.underlying25 JI.out JZ.out JS.out JB.out (by rfl) (by decide) v k xs (by rfl) OW.out ⟨w15.heap.size, 0, none⟩ 1 1 [.slice na5 tk.length nc5, .int .i64 gk, .int .i64 go, .bool gm, .slice na11 ow.length nc11, .slice na15 bd.length nc15] (by rfl) rfl (World.news_of_block (Deep.blk_alloc_new _ _)) (by intro u hu; simp at hu; rcases hu with rfl | rfl | rfl | rfl | rfl | rfl <;> rfl) (by decide) (by unfold maxLen; omega) (by omega) (by have := hHeld.sz; have := hHeld.hS; omega) _ rfl ?_
                          intro gB cap18 w18 hown18 hgr18 hat18 hlt18
                          refine hK.out _ _ (hHeld.grown hgr18 (owns_base OW.out) (fun q hq => HVlt.out q hq)) (fun hHeld => ?_)
                          clear hK K
                          (try simp only [Act.put, List.setIfInBounds_toArray, List.set_cons_zero, List.set_cons_succ])
                          refine takeA (i := 19) (v := ?v19n36) rfl (by kernel_rfl) (by kernel_rfl) (by kernel_rfl) (fun _ _ _ h => h) (by kernel_rfl) (by kernel_rfl) (by assumption) ?y19n36 ?r19n36
                          case y19n36 => (intro w hSw; have s0 := hSw.f.cell (o := 0) rfl; have s1 := hSw.f.cell (o := 1) rfl; have s2 := hSw.f.cell (o := 2) rfl; have s3 := hSw.f.cell (o := 3) rfl; have s4 := hSw.f.cell (o := 4) rfl; have s5 := hSw.f.cell (o := 5) rfl; have sq := hSw.q.cell (o := 2) rfl; clear hSw; go_simp; try with_reducible rfl)
                          (try simp only [Act.put, List.setIfInBounds_toArray, List.set_cons_zero, List.set_cons_succ])
                          refine readyA (rs := [20]) (by kernel_rfl) (by simp) ?_
                          refine AllL.last rfl (fun K hK => ?_)
                          have d2 := hHeld.q.cell (o := 2) rfl
                          have d2f := hHeld.q.frozen 2
                          go_simp
                          refine hK.out _ _ ?_
                          clear hK K
                          (try simp only [Act.put, List.setIfInBounds_toArray, List.set_cons_zero, List.set_cons_succ])
                          refine doneA (by kernel_rfl) ?_ _
                          have FIN := hide (copy_fin (fsk := fs.take k) (f := ⟨tk, ⟨gk, go, gm⟩, ow, bd⟩) C0.out G0.out GI0.out (by rw [HLk.out]; exact HR0.out) HB0.out HBm.out (by rw [HLk.out]; exact Nat.le_trans HBl.out (Nat.le_of_lt sw0)) HFv0.out qS2 (Nat.le_trans hS2q (Nat.le_of_lt sw0)) BE.out T5.out T11.out T15.out XA.out (by rw [HLk.out]; exact hown18) hgr18)
                          simp only [HLk.out, HNx.out] at FIN
                          clear T5 T11 T15 XA hown18 hgr18 hat18 hlt18 OW d2 d2f BA BE hHeld
                          go_wp2_with fail
                          exact ⟨⟨k + 1, .slice (some ⟨gB, 0, none⟩) (k + 1) cap18, by go_num, by omega, FIN.out.1, FIN.out.2.1, FIN.out.2.2.1, FIN.out.2.2.2.1, FIN.out.2.2.2.2⟩, by simp [intOf]; omega⟩
                        exact AllL.nil
                      exact AllL.nil
                    exact AllL.nil
                  exact AllL.nil
                exact AllL.nil
              refine AllL.cons rfl (fun K hK => ?_) ?_
              · go_simp
                refine hK.out _ _ (hHeld.below ((Below.refl _ _).alloc (Nat.le_refl _) _)) (fun hHeld => ?_)
                clear hK K
                (try simp only [Act.put, List.setIfInBounds_toArray, List.set_cons_zero, List.set_cons_succ])
                replace BE := hide (BE.out.alloc BE.out.size (.cells #[] 33))
                replace E12 := hide (E12.out.alloc (.cells #[] 33))
                replace E2 := hide (E2.out.alloc (.cells #[] 33))
                have E8 : Hid (EmpAt (((w0.drew.alloc (.cells #[] 59)).alloc (.cells #[] 33)).alloc (.cells #[] 33)) (w0.heap.size + 1 + 1) 33) := EmpAt.new _ _ _ (by simp)
                refine readyA (rs := [5]) (by kernel_rfl) (by simp) ?_
                refine AllL.cons rfl (fun K hK => ?_) ?_
                · refine step_copy_row _ (by rfl) _ _ 24 33 (by rfl) k0 _ 3 24 Tryz.underlying24 KI.out KZ.out KS.out KB.out (by rfl) (by decide) (by decide) w0.heap.size (some ⟨w0.heap.size + 1, 0, none⟩) ra rc tk.length (fcells tk) (by rfl) (by rfl) (E2.out.owns (by omega)) (fcells_length tk) (HTk.out.below BE.out) (fcells_one tk) (by omega) hHeld.sz ?_
                  intro na5 nc5 w5 h5 hb5 hx5
                  refine hK.out _ _ (hHeld.below hb5) (fun hHeld => ?_)
                  clear hK K
                  (try simp only [Act.put, List.setIfInBounds_toArray, List.set_cons_zero, List.set_cons_succ])
                  have z5 : w0.heap.size + 1 + 1 + 1 ≤ w5.heap.size := by have := hb5.size; simpa using this
                  have HX5 : Hid (na5 = some ⟨w0.heap.size + 1, 0, none⟩ ∨ na5 = some ⟨w0.heap.size + 1 + 1 + 1, 0, none⟩ ∧ w0.heap.size + 1 + 1 + 1 < w5.heap.size) := by simpa [Hid] using hx5
                  replace BE := hide (BE.out.trans (hb5.mono BE.out.size))
                  replace E12 := hide (E12.out.below hb5)
                  replace E2 := hide (E2.out.below hb5)
                  replace E8 := hide (E8.out.below hb5)
                  have T5 := hide h5
                  clear h5 hb5 hx5
                  clear E2
                  refine readyA (rs := [11]) (by kernel_rfl) (by simp) ?_
                  refine AllL.cons rfl (fun K hK => ?_) ?_
                  · refine step_copy_row _ (by rfl) _ _ 24 33 (by rfl) k0 _ 3 24 Tryz.underlying24 KI.out KZ.out KS.out KB.out (by rfl) (by decide) (by decide) w0.heap.size (some ⟨w0.heap.size + 1 + 1, 0, none⟩) oa oc ow.length (fcells ow) (by rfl) (by rfl) (E8.out.owns (by omega)) (fcells_length ow) (HOw.out.below BE.out) (fcells_one ow) (by omega) hHeld.sz ?_
                    intro na11 nc11 w11 h11 hb11 hx11
                    refine hK.out _ _ (hHeld.below hb11) (fun hHeld => ?_)
                    clear hK K
                    (try simp only [Act.put, List.setIfInBounds_toArray, List.set_cons_zero, List.set_cons_succ])
                    have z11 : w5.heap.size ≤ w11.heap.size := by have := hb11.size; simpa using this
                    have XA : Hid (Apart2 (.slice na5 tk.length nc5) (.slice na11 ow.length nc11)) := apart_two HX5.out (show na11 = some ⟨w0.heap.size + 1 + 1, 0, none⟩ ∨ na11 = some ⟨w5.heap.size, 0, none⟩ ∧ w5.heap.size < w11.heap.size by simpa using hx11) (by omega) (by omega) (by omega) (by omega)
                    replace BE := hide (BE.out.trans (hb11.mono BE.out.size))
                    replace E12 := hide (E12.out.below hb11)
                    replace E8 := hide (E8.out.below hb11)
                    replace T5 := hide (owns_below T5.out hb11)
                    have T11 := hide h11
                    clear h11 hb11 hx11
                    clear E8
                    refine readyA (rs := [15]) (by kernel_rfl) (by simp) ?_
                    refine AllL.cons rfl (fun K hK => ?_) ?_
                    · refine step_copy_row _ (by rfl) _ _ 34 59 (by rfl) i0 _ 3 24 Tryz.underlying34 II.out IZ.out IS.out IB.out (by rfl) (by decide) (by decide) w0.heap.size (some ⟨w0.heap.size, 0, none⟩) ba bc bd.length (icells bd) (by rfl) (by rfl) (E12.out.owns (by omega)) (icells_length bd) (HBd.out.below BE.out) (icells_one bd) (by omega) hHeld.sz ?_
                      intro na15 nc15 w15 h15 hb15 hx15
                      refine hK.out _ _ (hHeld.below hb15) (fun hHeld => ?_)
                      clear hK K
                      (try simp only [Act.put, List.setIfInBounds_toArray, List.set_cons_zero, List.set_cons_succ])
                      have z15 : w11.heap.size ≤ w15.heap.size := by have := hb15.size; simpa using this
                      replace BE := hide (BE.out.trans (hb15.mono BE.out.size))
                      replace E12 := hide (E12.out.below hb15)
                      replace T5 := hide (owns_below T5.out hb15)
                      replace T11 := hide (owns_below T11.out hb15)
                      have T15 := hide h15
                      clear h15 hb15 hx15
                      clear E12
                      refine takeA (i := 16) (v := ?v16n37) rfl (by kernel_rfl) (by kernel_rfl) (by kernel_rfl) (fun _ _ _ h => h) (by kernel_rfl) (by kernel_rfl) (by assumption) ?y16n37 ?r16n37
                      case y16n37 => (intro w hSw; have s0 := hSw.f.cell (o := 0) rfl; have s1 := hSw.f.cell (o := 1) rfl; have s2 := hSw.f.cell (o := 2) rfl; have s3 := hSw.f.cell (o := 3) rfl; have s4 := hSw.f.cell (o := 4) rfl; have s5 := hSw.f.cell (o := 5) rfl; have sq := hSw.q.cell (o := 2) rfl; clear hSw; go_simp; try with_reducible rfl)
                      (try simp only [Act.put, List.setIfInBounds_toArray, List.set_cons_zero, List.set_cons_succ])
                      refine readyA (rs := [17]) (by kernel_rfl) (by simp) ?_
                      refine AllL.cons rfl (fun K hK => ?_) ?_
                      · go_simp
                        refine hK.out _ _ (hHeld.below ((Below.refl _ _).alloc (Nat.le_refl _) _)) (fun hHeld => ?_)
                        clear hK K
                        (try simp only [Act.put, List.setIfInBounds_toArray, List.set_cons_zero, List.set_cons_succ])
                        have BA := hide (BE.out.alloc BE.out.size (.cells #[.slice na5 tk.length nc5, .int .i64 gk, .int .i64 go, .bool gm, .slice na11 ow.length nc11, .slice na15 bd.length nc15] 36))
                        refine readyA (rs := [18]) (by kernel_rfl) (by simp) ?_
                        refine AllL.cons rfl (fun K hK => ?_) ?_
                        · have OW := hide (owns_below HR0.out BA.out)
                          refine step_append_lies _ (by rfl) _ _ 25 (by rfl) S2 36 j0 _ 6 96 Tryz.underlying25 JI.out JZ.out JS.out JB.out (by rfl) (by decide) v k xs (by rfl) OW.out ⟨w15.heap.size, 0, none⟩ 1 1 [.slice na5 tk.length nc5, .int .i64 gk, .int .i64 go, .bool gm, .slice na11 ow.length nc11, .slice na15 bd.length nc15] (by rfl) rfl (World.news_of_block (Deep.blk_alloc_new _ _)) (by intro u hu; simp at hu; rcases hu with rfl | rfl | rfl | rfl | rfl | rfl <;> rfl) (by decide) (by unfold maxLen; omega) (by omega) (by have := hHeld.sz; have := hHeld.hS; omega) _ rfl ?_
                          intro gB cap18 w18 hown18 hgr18 hat18 hlt18
                          refine hK.out _ _ (hHeld.grown hgr18 (owns_base OW.out) (fun q hq => HVlt.out q hq)) (fun hHeld => ?_)
                          clear hK K
                          (try simp only [Act.put, List.setIfInBounds_toArray, List.set_cons_zero, List.set_cons_succ])
                          refine takeA (i := 19) (v := ?v19n38) rfl (by kernel_rfl) (by kernel_rfl) (by kernel_rfl) (fun _ _ _ h => h) (by kernel_rfl) (by kernel_rfl) (by assumption) ?y19n38 ?r19n38
                          case y19n38 => (intro w hSw; have s0 := hSw.f.cell (o := 0) rfl; have s1 := hSw.f.cell (o := 1) rfl; have s2 := hSw.f.cell (o := 2) rfl; have s3 := hSw.f.cell (o := 3) rfl; have s4 := hSw.f.cell (o := 4) rfl; have s5 := hSw.f.cell (o := 5) rfl; have sq := hSw.q.cell (o := 2) rfl; clear hSw; go_simp; try with_reducible rfl)
                          (try simp only [Act.put, List.setIfInBounds_toArray, List.set_cons_zero, List.set_cons_succ])
                          refine readyA (rs := [20]) (by kernel_rfl) (by simp) ?_
                          refine AllL.last rfl (fun K hK => ?_)
                          have d2 := hHeld.q.cell (o := 2) rfl
                          have d2f := hHeld.q.frozen 2
                          go_simp
                          refine hK.out _ _ ?_
                          clear hK K
                          (try simp only [Act.put, List.setIfInBounds_toArray, List.set_cons_zero, List.set_cons_succ])
                          refine doneA (by kernel_rfl) ?_ _
                          have FIN := hide (copy_fin (fsk := fs.take k) (f := ⟨tk, ⟨gk, go, gm⟩, ow, bd⟩) C0.out G0.out GI0.out (by rw [HLk.out]; exact HR0.out) HB0.out HBm.out (by rw [HLk.out]; exact Nat.le_trans HBl.out (Nat.le_of_lt sw0)) HFv0.out qS2 (Nat.le_trans hS2q (Nat.le_of_lt sw0)) BE.out T5.out T11.out T15.out XA.out (by rw [HLk.out]; exact hown18) hgr18)
                          simp only [HLk.out, HNx.out] at FIN
                          clear T5 T11 T15 XA hown18 hgr18 hat18 hlt18 OW d2 d2f BA BE hHeld
                          go_wp2_with fail
                          exact ⟨⟨k + 1, .slice (some ⟨gB, 0, none⟩) (k + 1) cap18, by go_num, by omega, FIN.out.1, FIN.out.2.1, FIN.out.2.2.1, FIN.out.2.2.2.1, FIN.out.2.2.2.2⟩, by simp [intOf]; omega⟩
                        exact AllL.nil
                      exact AllL.nil
                    exact AllL.nil
                  exact AllL.nil
                exact AllL.nil
              exact AllL.nil
            refine AllL.cons rfl (fun K hK => ?_) ?_
            · go_simp
              refine hK.out _ _ (hHeld.below ((Below.refl _ _).alloc (Nat.le_refl _) _)) (fun hHeld => ?_)
              clear hK K
              (try simp only [Act.put, List.setIfInBounds_toArray, List.set_cons_zero, List.set_cons_succ])
              replace BE := hide (BE.out.alloc BE.out.size (.cells #[] 33))
              replace E12 := hide (E12.out.alloc (.cells #[] 33))
              have E8 : Hid (EmpAt ((w0.drew.alloc (.cells #[] 59)).alloc (.cells #[] 33)) (w0.heap.size + 1) 33) := EmpAt.new _ _ _ (by simp)
              refine readyA (rs := [2]) (by kernel_rfl) (by simp) ?_
              refine AllL.cons rfl (fun K hK => ?_) ?_
              · go_simp
                refine hK.out _ _ (hHeld.below ((Below.refl _ _).alloc (Nat.le_refl _) _)) (fun hHeld => ?_)
                clear hK K
                (try simp only [Act.put, List.setIfInBounds_toArray, List.set_cons_zero, List.set_cons_succ])
                replace BE := hide (BE.out.alloc BE.out.size (.cells #[] 33))
                replace E12 := hide (E12.out.alloc (.cells #[] 33))
                replace E8 := hide (E8.out.alloc (.cells #[] 33))
                have E2 : Hid (EmpAt (((w0.drew.alloc (.cells #[] 59)).alloc (.cells #[] 33)).alloc (.cells #[] 33)) (w0.heap.size + 1 + 1) 33) := EmpAt.new _ _ _ (by simp)
                refine readyA (rs := [5]) (by kernel_rfl) (by simp) ?_
                refine AllL.cons rfl (fun K hK => ?_) ?_
                · refine step_copy_row _ (by rfl) _ _ 24 33 (by rfl) k0 _ 3 24 Tryz.underlying24 KI.out KZ.out KS.out KB.out (by rfl) (by decide) (by decide) w0.heap.size (some ⟨w0.heap.size + 1 + 1, 0, none⟩) ra rc tk.length (fcells tk) (by rfl) (by rfl) (E2.out.owns (by omega)) (fcells_length tk) (HTk.out.below BE.out) (fcells_one tk) (by omega) hHeld.sz ?_
                  intro na5 nc5 w5 h5 hb5 hx5
                  refine hK.out _ _ (hHeld.below hb5) (fun hHeld => ?_)
                  clear hK K
                  (try simp only [Act.put, List.setIfInBounds_toArray, List.set_cons_zero, List.set_cons_succ])
                  have z5 : w0.heap.size + 1 + 1 + 1 ≤ w5.heap.size := by have := hb5.size; simpa using this
                  have HX5 : Hid (na5 = some ⟨w0.heap.size + 1 + 1, 0, none⟩ ∨ na5 = some ⟨w0.heap.size + 1 + 1 + 1, 0, none⟩ ∧ w0.heap.size + 1 + 1 + 1 < w5.heap.size) := by simpa [Hid] using hx5
                  replace BE := hide (BE.out.trans (hb5.mono BE.out.size))
                  replace E12 := hide (E12.out.below hb5)
                  replace E8 := hide (E8.out.below hb5)
                  replace E2 := hide (E2.out.below hb5)
                  have T5 := hide h5
                  clear h5 hb5 hx5
                  clear E2
                  refine readyA (rs := [11]) (by kernel_rfl) (by simp) ?_
                  refine AllL.cons rfl (fun K hK => ?_) ?_
                  · refine step_copy_row _ (by rfl) _ _ 24 33 (by rfl) k0 _ 3 24 Tryz.underlying24 KI.out KZ.out KS.out KB.out (by rfl) (by decide) (by decide) w0.heap.size (some ⟨w0.heap.size + 1, 0, none⟩) oa oc ow.length (fcells ow) (by rfl) (by rfl) (E8.out.owns (by omega)) (fcells_length ow) (HOw.out.below BE.out) (fcells_one ow) (by omega) hHeld.sz ?_
                    intro na11 nc11 w11 h11 hb11 hx11
                    refine hK.out _ _ (hHeld.below hb11) (fun hHeld => ?_)
                    clear hK K
                    (try simp only [Act.put, List.setIfInBounds_toArray, List.set_cons_zero, List.set_cons_succ])
                    have z11 : w5.heap.size ≤ w11.heap.size := by have := hb11.size; simpa using this
                    have XA : Hid (Apart2 (.slice na5 tk.length nc5) (.slice na11 ow.length nc11)) := apart_two HX5.out (show na11 = some ⟨w0.heap.size + 1, 0, none⟩ ∨ na11 = some ⟨w5.heap.size, 0, none⟩ ∧ w5.heap.size < w11.heap.size by simpa using hx11) (by omega) (by omega) (by omega) (by omega)
                    replace BE := hide (BE.out.trans (hb11.mono BE.out.size))
                    replace E12 := hide (E12.out.below hb11)
                    replace E8 := hide (E8.out.below hb11)
                    replace T5 := hide (owns_below T5.out hb11)
                    have T11 := hide h11
                    clear h11 hb11 hx11
                    clear E8
                    refine readyA (rs := [15]) (by kernel_rfl) (by simp) ?_
                    refine AllL.cons rfl (fun K hK => ?_) ?_
                    · refine step_copy_row _ (by rfl) _ _ 34 59 (by rfl) i0 _ 3 24 Tryz.underlying34 II.out IZ.out IS.out IB.out (by rfl) (by decide) (by decide) w0.heap.size (some ⟨w0.heap.size, 0, none⟩) ba bc bd.length (icells bd) (by rfl) (by rfl) (E12.out.owns (by omega)) (icells_length bd) (HBd.out.below BE.out) (icells_one bd) (by omega) hHeld.sz ?_
                      intro na15 nc15 w15 h15 hb15 hx15
                      refine hK.out _ _ (hHeld.below hb15) (fun hHeld => ?_)
                      clear hK K
                      (try simp only [Act.put, List.setIfInBounds_toArray, List.set_cons_zero, List.set_cons_succ])
                      have z15 : w11.heap.size ≤ w15.heap.size := by have := hb15.size; simpa using this
                      replace BE := hide (BE.out.trans (hb15.mono BE.out.size))
                      replace E12 := hide (E12.out.below hb15)
                      replace T5 := hide (owns_below T5.out hb15)
                      replace T11 := hide (owns_below T11.out hb15)
                      have T15 := hide h15
                      clear h15 hb15 hx15
                      clear E12
                      refine takeA (i := 16) (v := ?v16n39) rfl (by kernel_rfl) (by kernel_rfl) (by kernel_rfl) (fun _ _ _ h => h) (by kernel_rfl) (by kernel_rfl) (by assumption) ?y16n39 ?r16n39
                      case y16n39 => (intro w hSw; have s0 := hSw.f.cell (o := 0) rfl; have s1 := hSw.f.cell (o := 1) rfl; have s2 := hSw.f.cell (o := 2) rfl; have s3 := hSw.f.cell (o := 3) rfl; have s4 := hSw.f.cell (o := 4) rfl; have s5 := hSw.f.cell (o := 5) rfl; have sq := hSw.q.cell (o := 2) rfl; clear hSw; go_simp; try with_reducible rfl)
                      (try simp only [Act.put, List.setIfInBounds_toArray, List.set_cons_zero, List.set_cons_succ])
                      refine readyA (rs := [17]) (by kernel_rfl) (by simp) ?_
                      refine AllL.cons rfl (fun K hK => ?_) ?_
                      · go_simp
                        refine hK.out _ _ (hHeld.below ((Below.refl _ _).alloc (Nat.le_refl _) _)) (fun hHeld => ?_)
                        clear hK K
                        (try simp only [Act.put, List.setIfInBounds_toArray, List.set_cons_zero, List.set_cons_succ])
                        have BA := hide (BE.out.alloc BE.out.size (.cells #[.slice na5 tk.length nc5, .int .i64 gk, .int .i64 go, .bool gm, .slice na11 ow.length nc11, .slice na15 bd.length nc15] 36))
                        refine readyA (rs := [18]) (by kernel_rfl) (by simp) ?_
                        refine AllL.cons rfl (fun K hK => ?_) ?_
                        · have OW := hide (owns_below HR0.out BA.out)
                          refine step_append_lies _ (by rfl) _ _ 25 (by rfl) S2 36 j0 _ 6 96 Tryz.underlying25 JI.out JZ.out JS.out JB.out (by rfl) (by decide) v k xs (by rfl) OW.out ⟨w15.heap.size, 0, none⟩ 1 1 [.slice na5 tk.length nc5, .int .i64 gk, .int .i64 go, .bool gm, .slice na11 ow.length nc11, .slice na15 bd.length nc15] (by rfl) rfl (World.news_of_block (Deep.blk_alloc_new _ _)) (by intro u hu; simp at hu; rcases hu with rfl | rfl | rfl | rfl | rfl | rfl <;> rfl) (by decide) (by unfold maxLen; omega) (by omega) (by have := hHeld.sz; have := hHeld.hS; omega) _ rfl ?_
                          intro gB cap18 w18 hown18 hgr18 hat18 hlt18
                          refine hK.out _ _ (hHeld.grown hgr18 (owns_base OW.out) (fun q hq => HVlt.out q hq)) (fun hHeld => ?_)
                          clear hK K
                          (try simp only [Act.put, List.setIfInBounds_toArray, List.set_cons_zero, List.set_cons_succ])
                          refine takeA (i := 19) (v := ?v19n40) rfl (by kernel_rfl) (by kernel_rfl) (by kernel_rfl) (fun _ _ _ h => h) (by kernel_rfl) (by kernel_rfl) (by assumption) ?y19n40 ?r19n40
                          case y19n40 => (intro w hSw; have s0 := hSw.f.cell (o := 0) rfl; have s1 := hSw.f.cell (o := 1) rfl; have s2 := hSw.f.cell (o := 2) rfl; have s3 := hSw.f.cell (o := 3) rfl; have s4 := hSw.f.cell (o := 4) rfl; have s5 := hSw.f.cell (o := 5) rfl; have sq := hSw.q.cell (o := 2) rfl; clear hSw; go_simp; try with_reducible rfl)
                          (try simp only [Act.put, List.setIfInBounds_toArray, List.set_cons_zero, List.set_cons_succ])
                          refine readyA (rs := [20]) (by kernel_rfl) (by simp) ?_
                          refine AllL.last rfl (fun K hK => ?_)
                          have d2 := hHeld.q.cell (o := 2) rfl
                          have d2f := hHeld.q.frozen 2
                          go_simp
                          refine hK.out _ _ ?_
                          clear hK K
                          (try simp only [Act.put, List.setIfInBounds_toArray, List.set_cons_zero, List.set_cons_succ])
                          refine doneA (by kernel_rfl) ?_ _
                          have FIN := hide (copy_fin (fsk := fs.take k) (f := ⟨tk, ⟨gk, go, gm⟩, ow, bd⟩) C0.out G0.out GI0.out (by rw [HLk.out]; exact HR0.out) HB0.out HBm.out (by rw [HLk.out]; exact Nat.le_trans HBl.out (Nat.le_of_lt sw0)) HFv0.out qS2 (Nat.le_trans hS2q (Nat.le_of_lt sw0)) BE.out T5.out T11.out T15.out XA.out (by rw [HLk.out]; exact hown18) hgr18)
                          simp only [HLk.out, HNx.out] at FIN
                          clear T5 T11 T15 XA hown18 hgr18 hat18 hlt18 OW d2 d2f BA BE hHeld
                          go_wp2_with fail
                          exact ⟨⟨k + 1, .slice (some ⟨gB, 0, none⟩) (k + 1) cap18, by go_num, by omega, FIN.out.1, FIN.out.2.1, FIN.out.2.2.1, FIN.out.2.2.2.1, FIN.out.2.2.2.2⟩, by simp [intOf]; omega⟩
                        exact AllL.nil
                      exact AllL.nil
                    exact AllL.nil
                  exact AllL.nil
                exact AllL.nil
              exact AllL.nil
            exact AllL.nil
          exact AllL.nil
        · have hke : k = fs.length := Nat.le_antisymm hk (Nat.le_of_not_lt hkn)
          subst hke
          rw [List.take_of_length_le (Nat.le_refl _)] at HF
          obtain ⟨a9, c9, hv9⟩ := HF.out.val
          subst hv9
          have HF9 : Hid (FunRow wq S2 (.slice a9 fs.length c9) fs) := HF
          clear hlk hkn
          have q0 := HC.out.q.cell (o := 0) rfl
          have q1 := HC.out.q.cell (o := 1) rfl
          have q2 := HC.out.q.cell (o := 2) rfl
          have z0 := HC.out.z.cell (o := 0) rfl
          have z1 := HC.out.z.cell (o := 1) rfl
          have z2 := HC.out.z.cell (o := 2) rfl
          have zf0 := HC.out.z.frozen 0
          have zf1 := HC.out.z.frozen 1
          have zf2 := HC.out.z.frozen 2
          go_wp2_with fail
          have hq9 := HC.out.hq
          have W9 : Below (w.heap.size + 1) wq (((wq.setCell ⟨w.heap.size + 1, 0, none⟩ (.slice ta ts.length tc)).setCell ⟨w.heap.size + 1, 1, none⟩ (.slice g1 gl.length gc1)).setCell ⟨w.heap.size + 1, 2, none⟩ (.slice a9 fs.length c9)) := (((Below.refl _ _).setCell (show w.heap.size + 1 ≤ w.heap.size + 1 from Nat.le_refl _) _).setCell (show w.heap.size + 1 ≤ w.heap.size + 1 from Nat.le_refl _) _).setCell (show w.heap.size + 1 ≤ w.heap.size + 1 from Nat.le_refl _) _
          have M9 : ∀ lo' hi', w.heap.size + 2 ≤ lo' → Same lo' hi' wq (((wq.setCell ⟨w.heap.size + 1, 0, none⟩ (.slice ta ts.length tc)).setCell ⟨w.heap.size + 1, 1, none⟩ (.slice g1 gl.length gc1)).setCell ⟨w.heap.size + 1, 2, none⟩ (.slice a9 fs.length c9)) := fun lo' hi' hl' => (((Same.refl _ _ _).set (.inl (by omega)) _ _).set (.inl (by omega)) _ _).set (.inl (by omega)) _ _
          have K9 : ∀ (e : TypeId) (S : Nat), w.heap.size + 2 ≤ S → KeepE S e wq (((wq.setCell ⟨w.heap.size + 1, 0, none⟩ (.slice ta ts.length tc)).setCell ⟨w.heap.size + 1, 1, none⟩ (.slice g1 gl.length gc1)).setCell ⟨w.heap.size + 1, 2, none⟩ (.slice a9 fs.length c9)) := fun e S hS k' cur hk' hb' => M9 S (k' + 1) hS k' hk' (Nat.lt_succ_self _)
          refine bodyPost_ret (v := .agg #[.slice ta ts.length tc, .slice g1 gl.length gc1, .slice a9 fs.length c9]) (by simp [results, Tryz.results31, go_sem, *]) rfl ⟨ta, g1, a9, tc, gc1, c9, qb + 1, S2, rfl, by omega, by omega, by simpa using hS2q, ?_, ?_, ?_, ?_, HC.out.be.trans (W9.mono (show w.heap.size ≤ w.heap.size + 1 from Nat.le_succ _))⟩
          · exact ⟨owns_of_block (owns_lower HC.out.gl.1 (by omega)) fun q hq => M9 q (q + 1) (by have := owns_base HC.out.gl.1 q hq; omega) q (Nat.le_refl _) (Nat.lt_succ_self _), fun q hq => by have := HC.out.gl.2 q hq; omega⟩
          · exact HG.out.keep (K9 _ _ (by omega)) ⟨K9 _ _ (by omega), K9 _ _ (by omega)⟩
          · exact HGI.out.same (M9 _ _ (by omega)) (Nat.le_refl _) (Nat.le_refl _)
          · exact HF9.out.keep (K9 _ _ (by omega)) ⟨K9 _ _ (by omega), K9 _ _ (by omega)⟩ (by simp)
end Go.Proofs.YtblliefejffhoaaGreatDoor
