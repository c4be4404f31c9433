/- A copied program, one part of it turned by DrawProgSame: it is a program still. -/
import Derived.Test.YtblliefejffhoaaGreatDoorPbSpoil
namespace Go.Proofs.YtblliefejffhoaaGreatDoor
open Go.ChangeShapes Go.WideShapes Go.ChangeAt Go.RowKit Go.Deep
set_option linter.unusedVariables false

/-- 1: what function x gives is of another kind. -/
theorem QSt.giveKind {lo h1 h2 qb rb x b0 b3 : Nat} {Q : GProg} {a0 a1 : Option Addr} {c0 c1 c2 : Nat} {w5 : World} {xs : List Value} {B : Nat → Nat} {x0 x4 x5 : Option Addr} {y0 y4 y5 : Nat} {f : GFun}
    (h : QSt lo h1 h2 qb Q a0 a1 (some ⟨rb, 0, none⟩) c0 c1 c2 w5) (hb : QB Q) (R : Row5 w5 h2 rb c2 Q.funs xs B) (X : FunX w5 b0 b3 xs x x0 x4 x5 y0 y4 y5 f) (hx : x < Q.funs.length) (hbx : h2 ≤ b0) (hfB : FunB 1000 f) (v : Int) :
    QFin lo qb (w5.setCell ⟨rb, x * 6 + 1, none⟩ (.int .i64 v)) := by
  have rlt : rb < w5.heap.size := owns_lt R.ho rb rfl
  obtain ⟨cr, hrb⟩ := owns_kind R.ho (k := rb) rfl
  have ro := (R.ho.stored (x * 6 + 1) (.int .i64 v)).1
  have hl := R.ho.1
  have kB : ∀ {S e size n : Nat} {u : Value} {ys : List Value}, w5.ownsRow S e size u n ys → e ≠ 36 → (w5.setCell ⟨rb, x * 6 + 1, none⟩ (.int .i64 v)).ownsRow S e size u n ys := fun {S e size n u ys} hh hne => owns_of_block hh fun k hk => Below.heap_setCell _ _ _ _ (by
    obtain ⟨c, h5⟩ := owns_kind hh hk
    exact kind_ne h5 hrb hne)
  have q : ∀ {k : Nat} {u : Value}, k < 6 → k ≠ 1 → xs[x * 6 + k]? = some u → (w5.setCell ⟨rb, x * 6 + 1, none⟩ (.int .i64 v)).cell? ⟨rb, x * 6 + k, none⟩ = some u := fun {k u} hk hn e => by
    rw [ro.cellAt _ (by omega), List.getElem?_set_ne (by omega)]
    exact e
  have q1 : (w5.setCell ⟨rb, x * 6 + 1, none⟩ (.int .i64 v)).cell? ⟨rb, x * 6 + 1, none⟩ = some (.int .i64 v) := by
    rw [ro.cellAt _ (by omega), List.getElem?_set_self (by omega)]
  have t0 : FdI (w5.setCell ⟨rb, x * 6 + 1, none⟩ (.int .i64 v)) b0 b3 (.slice x0 f.takes.length y0) f.takes := ⟨kB X.r0.1 (by decide), X.r0.2⟩
  have t4 : FdI (w5.setCell ⟨rb, x * 6 + 1, none⟩ (.int .i64 v)) b0 b3 (.slice x4 f.own.length y4) f.own := ⟨kB X.r4.1 (by decide), X.r4.2⟩
  have t5 : InI (w5.setCell ⟨rb, x * 6 + 1, none⟩ (.int .i64 v)) b0 b3 (.slice x5 f.body.length y5) f.body := ⟨kB X.r5.1 (by decide), X.r5.2⟩
  refine QSt.turnFun (tb := none) (f' := ⟨f.takes, ⟨v, f.gives.of, f.gives.mt⟩, f.own, f.body⟩) h hb R.ho R.hS R.hB R.hBl R.hfv hx (fun k hk => by cases hk) (fun k _ hk _ => Below.heap_setCell _ _ _ _ hk) (by simp) (Below.heap_setCell _ _ _ _ (kind_ne h.q hrb (by decide))) (fun o ho => ?_) ?_ hfB
  · exact World.cell?_setCell_other w5 _ _ _ (by intro e; injection e with _ e2 _; omega)
  · exact ⟨x0, y0, x4, y4, x5, y5, q (k := 0) (by omega) (by omega) X.e0, q1, q (k := 2) (by omega) (by omega) X.e2, q (k := 3) (by omega) (by omega) X.e3, q (k := 4) (by omega) (by omega) X.e4, q (k := 5) (by omega) (by omega) X.e5, t0.lies hbx, t4.lies hbx, t5.lies hbx⟩

/-- 0: the first instruction of function x has another number. -/
theorem QSt.bodyA {lo h1 h2 qb rb x bb : Nat} {Q : GProg} {a0 a1 : Option Addr} {c0 c1 c2 : Nat} {w5 : World} {xs : List Value} {B : Nat → Nat} {x0 x4 : Option Addr} {y0 y4 y5 : Nat} {tk ow : List Fd} {gv : Fd} {i0 : GIns} {br : List GIns}
    (h : QSt lo h1 h2 qb Q a0 a1 (some ⟨rb, 0, none⟩) c0 c1 c2 w5) (hb : QB Q) (R : Row5 w5 h2 rb c2 Q.funs xs B) (X : FunX w5 (B x) (B (x + 1)) xs x x0 x4 (some ⟨bb, 0, none⟩) y0 y4 y5 ⟨tk, gv, ow, i0 :: br⟩) (hx : x < Q.funs.length) (hfB : FunB 1000 ⟨tk, gv, ow, i0 :: br⟩) (v : Int) :
    QFin lo qb (w5.setCell ⟨bb, 1, none⟩ (.int .i64 v)) := by
  obtain ⟨cr, hrb⟩ := owns_kind R.ho (k := rb) rfl
  obtain ⟨cb, hbb⟩ := owns_kind X.r5.1 (k := bb) rfl
  have hne : rb ≠ bb := kind_ne hrb hbb (by decide)
  have hbx : h2 ≤ B x := Nat.le_trans R.hS (mono_le' R.hB (Nat.zero_le _))
  have hl := R.ho.1
  have ro : (w5.setCell ⟨bb, 1, none⟩ (.int .i64 v)).ownsRow h2 36 6 (.slice (some ⟨rb, 0, none⟩) Q.funs.length c2) Q.funs.length xs := owns_of_block R.ho fun k hk => Below.heap_setCell _ _ _ _ (by simp [Value.ownBlock] at hk; subst hk; exact hne)
  have kB : ∀ {S e size n : Nat} {u : Value} {ys : List Value}, w5.ownsRow S e size u n ys → e ≠ 59 → (w5.setCell ⟨bb, 1, none⟩ (.int .i64 v)).ownsRow S e size u n ys := fun {S e size n u ys} hh hne => owns_of_block hh fun k hk => Below.heap_setCell _ _ _ _ (by
    obtain ⟨c, h5⟩ := owns_kind hh hk
    exact kind_ne h5 hbb hne)
  have q : ∀ {k : Nat} {u : Value}, k < 6 → xs[x * 6 + k]? = some u → (w5.setCell ⟨bb, 1, none⟩ (.int .i64 v)).cell? ⟨rb, x * 6 + k, none⟩ = some u := fun {k u} hk e => by
    rw [ro.cellAt _ (by omega)]
    exact e
  have t0 : FdI (w5.setCell ⟨bb, 1, none⟩ (.int .i64 v)) (B x) (B (x + 1)) (.slice x0 tk.length y0) tk := ⟨kB X.r0.1 (by decide), X.r0.2⟩
  have t4 : FdI (w5.setCell ⟨bb, 1, none⟩ (.int .i64 v)) (B x) (B (x + 1)) (.slice x4 ow.length y4) ow := ⟨kB X.r4.1 (by decide), X.r4.2⟩
  have t5 : InI (w5.setCell ⟨bb, 1, none⟩ (.int .i64 v)) (B x) (B (x + 1)) (.slice (some ⟨bb, 0, none⟩) ((⟨i0.op, v, i0.b⟩ : GIns) :: br).length y5) (⟨i0.op, v, i0.b⟩ :: br) := ⟨(World.ownsRow.stored (n := (i0 :: br).length) X.r5.1 1 (.int .i64 v)).1, X.r5.2⟩
  refine QSt.turnFun (tb := some bb) (f' := ⟨tk, gv, ow, ⟨i0.op, v, i0.b⟩ :: br⟩) h hb R.ho R.hS R.hB R.hBl R.hfv hx (fun k hk => ?_) (fun k _ _ hk => Below.heap_setCell _ _ _ _ (fun e => hk (by rw [e]))) (by simp) (Below.heap_setCell _ _ _ _ (kind_ne h.q hbb (by decide))) (fun o ho => ?_) ?_ hfB
  · injection hk with hk
    subst hk
    exact ⟨owns_base X.r5.1 _ rfl, X.r5.2 _ rfl⟩
  · exact World.cell?_of_block (Below.heap_setCell _ _ _ _ hne)
  · exact ⟨x0, y0, x4, y4, some ⟨bb, 0, none⟩, y5, q (k := 0) (by omega) X.e0, q (k := 1) (by omega) X.e1, q (k := 2) (by omega) X.e2, q (k := 3) (by omega) X.e3, q (k := 4) (by omega) X.e4, q (k := 5) (by omega) X.e5, t0.lies hbx, t4.lies hbx, t5.lies hbx⟩

/-- The first type of a group, last or not. -/
def setL (v : Bool) : List Ty → List Ty
  | [] => []
  | t :: r => ⟨t.kind, t.up, v, t.fields⟩ :: r
theorem setL_length (v : Bool) (g : List Ty) : (setL v g).length = g.length := by cases g <;> rfl
theorem setL_fields (v : Bool) (g : List Ty) (j : Nat) : (tyAt (setL v g) j).fields = (tyAt g j).fields := by
  cases g with
  | nil => rfl
  | cons t r => cases j <;> rfl
theorem TRow.setL {w : World} {S cap bb : Nat} {ts : List Ty} (h : TRow w S (some ⟨bb, 0, none⟩) cap ts) (v : Bool) : TRow (w.setCell ⟨bb, 2, none⟩ (.bool v)) S (some ⟨bb, 0, none⟩) cap (setL v ts) := by
  obtain ⟨xs, ho, hT⟩ := h
  obtain ⟨c, hbb⟩ := owns_kind ho (k := bb) rfl
  have hl := ho.1
  have hk : KeepE S 33 w (w.setCell ⟨bb, 2, none⟩ (.bool v)) := KeepE.set _ hbb (by decide)
  refine ⟨xs.set 2 (.bool v), by rw [setL_length]; exact (ho.stored 2 (.bool v)).1, fun i hi => ?_⟩
  rw [setL_length] at hi
  obtain ⟨a, b, c, fa, fc, d, e⟩ := hT i hi
  cases ts with
  | nil => exact absurd hi (Nat.not_lt_zero _)
  | cons t r =>
    cases i with
    | zero =>
      refine ⟨?_, ?_, ?_, fa, fc, ?_, owns_keepE e hk⟩
      · rw [List.getElem?_set_ne (by omega)]; exact a
      · rw [List.getElem?_set_ne (by omega)]; exact b
      · exact List.getElem?_set_self (by simp at hl; omega)
      · rw [List.getElem?_set_ne (by omega)]; exact d
    | succ i =>
      refine ⟨?_, ?_, ?_, fa, fc, ?_, owns_keepE e hk⟩
      · rw [List.getElem?_set_ne (by omega)]; exact a
      · rw [List.getElem?_set_ne (by omega)]; exact b
      · rw [List.getElem?_set_ne (by omega)]; exact c
      · rw [List.getElem?_set_ne (by omega)]; exact d
/-- A group whose row lies in block bb is turned, another one is not. -/
def updL (bb : Nat) (v : Bool) (u : Option Value) (g : List Ty) : List Ty := match u with
  | some (.slice (some a) _ _) => if a.block = bb then setL v g else g
  | _ => g
theorem updL_length (bb : Nat) (v : Bool) (u : Option Value) (g : List Ty) : (updL bb v u g).length = g.length := by
  unfold updL
  split
  · split
    · exact setL_length v g
    · rfl
  · rfl
theorem updL_fields (bb : Nat) (v : Bool) (u : Option Value) (g : List Ty) (j : Nat) : (tyAt (updL bb v u g) j).fields = (tyAt g j).fields := by
  unfold updL
  split
  · split
    · exact setL_fields v g j
    · rfl
  · rfl
theorem TRow.upd {w : World} {S cap bb n : Nat} {ta : Option Addr} {ts : List Ty} {cb : Array Value} (h : TRow w S ta cap ts) (hb : w.heap[bb]? = some (.cells cb 44 (0, 0))) (v : Bool) : TRow (w.setCell ⟨bb, 2, none⟩ (.bool v)) S ta cap (updL bb v (some (.slice ta n cap)) ts) := by
  have hk : KeepE S 33 w (w.setCell ⟨bb, 2, none⟩ (.bool v)) := KeepE.set _ hb (by decide)
  have plain : (∀ k, (Value.slice ta ts.length cap).ownBlock = some k → k ≠ bb) → TRow (w.setCell ⟨bb, 2, none⟩ (.bool v)) S ta cap ts := fun hne => by
    obtain ⟨xs, ho, hT⟩ := h
    exact ⟨xs, owns_of_block ho fun k hk => Below.heap_setCell _ _ _ _ (hne k hk), fun i hi => (hT i hi).keep hk⟩
  cases ta with
  | none => exact plain fun k hk => by simp [Value.ownBlock] at hk
  | some a =>
    show TRow _ S (some a) cap (if a.block = bb then Go.Proofs.YtblliefejffhoaaGreatDoor.setL v ts else ts)
    split
    · rename_i e
      have ha : a = ⟨bb, 0, none⟩ := by
        obtain ⟨xs, ho, _⟩ := h
        rcases ho.2 with ⟨h0, _⟩ | ⟨g, cap', cur, h0, _⟩
        · simp at h0
        · simp at h0
          rw [h0.1] at e ⊢
          simp at e
          rw [e]
      subst ha
      exact h.setL v
    · rename_i e
      exact plain fun k hk => by simp [Value.ownBlock] at hk; rw [← hk]; exact e
/-- 5: the first type of the first group is last, or is not. -/
theorem QSt.typeLast {lo h1 h2 qb bb : Nat} {Q : GProg} {a0 a1 a2 : Option Addr} {c0 c1 c2 : Nat} {wr : World} {xs : List Value} {cb : Array Value} (h : QSt lo h1 h2 qb Q a0 a1 a2 c0 c1 c2 wr) (hb : QB Q)
    (hr : wr.ownsRow h1 42 1 (.slice a0 Q.types.length c0) Q.types.length xs) (hT : ∀ i, i < Q.types.length → ∃ ta tc, xs[i]? = some (.slice ta (grAt Q.types i).length tc) ∧ TRow wr h1 ta tc (grAt Q.types i))
    (hbb : wr.heap[bb]? = some (.cells cb 44 (0, 0))) (v : Bool) : QFin lo qb (wr.setCell ⟨bb, 2, none⟩ (.bool v)) := by
  have k1 := h.l1; have k2 := h.l2; have k3 := h.l3; have k4 := h.q.lt
  have K1 : ∀ {e : TypeId}, e ≠ 44 → ∀ S, KeepE S e wr (wr.setCell ⟨bb, 2, none⟩ (.bool v)) := fun g1 S => KeepE.set _ hbb g1
  let ts' := (List.range Q.types.length).map fun i => updL bb v xs[i]? (grAt Q.types i)
  have hl : ts'.length = Q.types.length := by simp [ts']
  have hg : ∀ i, i < Q.types.length → grAt ts' i = updL bb v xs[i]? (grAt Q.types i) := fun i hi => by simp [grAt, ts', hi]
  have GG : GRow (wr.setCell ⟨bb, 2, none⟩ (.bool v)) h1 a0 c0 ts' := by
    refine ⟨xs, by rw [hl]; exact owns_keepE hr (K1 (by decide) _), fun i hi => ?_⟩
    rw [hl] at hi
    obtain ⟨ta, tc, hx, ht⟩ := hT i hi
    rw [hg i hi, updL_length]
    refine ⟨ta, tc, hx, ?_⟩
    rw [hx]
    exact ht.upd hbb v
  have hq : qb ≠ bb := kind_ne h.q hbb (by decide)
  refine ⟨⟨ts', Q.glob, Q.funs⟩, a0, a1, a2, c0, c1, c2, by rw [hl]; exact h.q.other hq _ _, GG.groups.wide k1 (Nat.le_refl _), ?_, ?_, ⟨⟨by rw [hl]; exact hb.1.1, by rw [hl]; exact hb.1.2.1, fun i hi => ?_⟩, hb.2⟩, GG.len, h.fcap⟩
  · exact (FdRow.own (owns_keepE h.gl.1 (K1 (by decide) _))).1
  · exact (h.fu.keep (K1 (by decide) _) ⟨K1 (by decide) _, K1 (by decide) _⟩ (by simp)).funs.wide (by omega) (Nat.le_refl _)
  · have hi' : i < Q.types.length := by rw [← hl]; exact hi
    show (grAt ts' i).length ≤ _ ∧ _
    rw [hg i hi', updL_length]
    refine ⟨(hb.1.2.2 i hi').1, fun j hj => ?_⟩
    rw [updL_fields]
    exact (hb.1.2.2 i hi').2 j hj
end Go.Proofs.YtblliefejffhoaaGreatDoor
