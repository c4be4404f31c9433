/- PbSpoil: SpoilA, SpoilB, SpoilC. -/
import Derived.Test.YtblliefejffhoaaGreatDoorDrawCopy
/- A copied program, one part of it turned: it is a program still. -/
namespace Go.Proofs.YtblliefejffhoaaGreatDoor
open Go.ChangeShapes Go.WideShapes Go.ChangeAt Go.RowKit Go.Deep
set_option linter.unusedVariables false

/-- One function of a row was turned: the others are as they were. -/
theorem funs_turned {w w' : World} {S cap rb x : Nat} {fs : List GFun} {f' : GFun} {xs : List Value} {B : Nat → Nat} {tb : Option Nat}
    (ho : w.ownsRow S 36 6 (.slice (some ⟨rb, 0, none⟩) fs.length cap) fs.length xs) (hS : S ≤ B 0) (hB : ∀ i, B i ≤ B (i + 1)) (hBl : B fs.length ≤ w.heap.size) (hfv : ∀ i, i < fs.length → FunV w (B i) (B (i + 1)) xs (i * 6) (funAt' fs i))
    (hx : x < fs.length) (ht : ∀ k, tb = some k → B x ≤ k ∧ k < B (x + 1)) (hb : ∀ k, k < w.heap.size → k ≠ rb → some k ≠ tb → w'.heap[k]? = w.heap[k]?) (hsz : w.heap.size ≤ w'.heap.size)
    (hc : ∀ o, o < x * 6 ∨ x * 6 + 6 ≤ o → w'.cell? ⟨rb, o, none⟩ = w.cell? ⟨rb, o, none⟩) (hf : FunAt false w' S w'.heap.size rb (x * 6) f') :
    FunsM false w' S w'.heap.size (some ⟨rb, 0, none⟩) (fs.set x f') := by
  rcases owns_cells ho with h0 | ⟨g, hg, hS', hlt, hcc⟩
  · exact absurd h0 (by omega)
  injection hg with hg
  injection hg with hg _ _
  subst hg
  obtain ⟨cur, hblk⟩ : ∃ cur, w.heap[rb]? = some (.cells cur 36 (0, 0)) := by
    rcases ho.2 with ⟨h1, _⟩ | ⟨g', cap', cur, h1, _, h2, _⟩
    · simp at h1
    · injection h1 with h1 _ _
      injection h1 with h1
      injection h1 with h1 _ _
      subst h1
      exact ⟨cur, h2⟩
  have b : ∀ j, S ≤ B j := fun j => Nat.le_trans hS (mono_le' hB (Nat.zero_le _))
  refine .inr ⟨rb, 0, rfl, hS', by omega, fun e => (by cases e), fun i hi => ?_⟩
  rw [Nat.zero_add]
  have hi' : i < fs.length := by simpa using hi
  by_cases e : i = x
  · subst e
    have : funAt' (fs.set i f') i = f' := by simp [funAt', List.getD, hi']
    rw [this]
    exact hf
  · have e2 : funAt' (fs.set x f') i = funAt' fs i := by simp [funAt', List.getD, Ne.symm e]
    rw [e2]
    obtain ⟨a0, c0, a4, c4, a5, c5, e0, e1, e2, e3, e4, e5, r0, r4, r5, _⟩ := hfv i hi'
    have q : ∀ {k : Nat} {v : Value}, k < 6 → xs[i * 6 + k]? = some v → w'.cell? ⟨rb, i * 6 + k, none⟩ = some v := fun {k v} hk e => by
      rw [hc _ (by omega), hcc _ (by omega)]
      exact e
    have nt : ∀ k, B i ≤ k → k < B (i + 1) → some k ≠ tb := fun k h1 h2 h3 => by
      obtain ⟨h4, h5⟩ := ht k h3.symm
      rcases Nat.lt_or_gt_of_ne e with h | h
      · have := mono_le' hB (show i + 1 ≤ x by omega); omega
      · have := mono_le' hB (show x + 1 ≤ i by omega); omega
    have hi1 : B (i + 1) ≤ w.heap.size := Nat.le_trans (mono_le' hB (by omega)) hBl
    have kF : ∀ {v : Value} {l : List Fd}, FdI w (B i) (B (i + 1)) v l → FdI w' (B i) (B (i + 1)) v l := fun {v l} h => ⟨owns_of_block h.1 fun k hk => hb k (by have := h.2 k hk; omega) (by
      intro ek
      subst ek
      rcases h.1.2 with ⟨h1, _⟩ | ⟨g', cap', cur', h1, _, h2, _⟩
      · rw [h1] at hk; simp [Value.ownBlock] at hk
      · rw [h1] at hk
        simp [Value.ownBlock] at hk
        subst hk
        rw [hblk] at h2
        simp at h2) (nt k (owns_base h.1 k hk) (h.2 k hk)), h.2⟩
    have kI : ∀ {v : Value} {l : List GIns}, InI w (B i) (B (i + 1)) v l → InI w' (B i) (B (i + 1)) v l := fun {v l} h => ⟨owns_of_block h.1 fun k hk => hb k (by have := h.2 k hk; omega) (by
      intro ek
      subst ek
      rcases h.1.2 with ⟨h1, _⟩ | ⟨g', cap', cur', h1, _, h2, _⟩
      · rw [h1] at hk; simp [Value.ownBlock] at hk
      · rw [h1] at hk
        simp [Value.ownBlock] at hk
        subst hk
        rw [hblk] at h2
        simp at h2) (nt k (owns_base h.1 k hk) (h.2 k hk)), h.2⟩
    exact ⟨a0, c0, a4, c4, a5, c5, q (k := 0) (by omega) e0, q (k := 1) (by omega) e1, q (k := 2) (by omega) e2, q (k := 3) (by omega) e3, q (k := 4) (by omega) e4, q (k := 5) (by omega) e5, (kF r0).lies (b _), (kF r4).lies (b _), (kI r5).lies (b _)⟩

/-- A program of which it is known how great its parts are at most. -/
def QB (Q : GProg) : Prop := (Q.types.length ≤ 1000 ∧ Few Q.types) ∧ Q.glob.length ≤ 1000 ∧ Q.funs.length ≤ 1000 ∧ ∀ i, i < Q.funs.length → FunB 1000 (funAt' Q.funs i)
/-- A program's variable in block qb; its lists lie from lo on. -/
def QFin (lo qb : Nat) (wr : World) : Prop := ∃ (Q : GProg) (a0 a1 a2 : Option Addr) (c0 c1 c2 : Nat), Rec wr qb 27 [.slice a0 Q.types.length c0, .slice a1 Q.glob.length c1, .slice a2 Q.funs.length c2] ∧
  GroupsIn wr lo wr.heap.size a0 Q.types ∧ FieldsIn wr lo wr.heap.size a1 Q.glob ∧ FunsM false wr lo wr.heap.size a2 Q.funs ∧ QB Q ∧ Q.types.length ≤ c0 ∧ Q.funs.length ≤ c2
/-- The copy, its variable in block qb. -/
structure QSt (lo h1 h2 qb : Nat) (Q : GProg) (a0 a1 a2 : Option Addr) (c0 c1 c2 : Nat) (wr : World) : Prop where
  q : Rec wr qb 27 [.slice a0 Q.types.length c0, .slice a1 Q.glob.length c1, .slice a2 Q.funs.length c2]
  gl : FdI wr lo h1 (.slice a1 Q.glob.length c1) Q.glob
  gr : GRow wr h1 a0 c0 Q.types
  gi : GroupsIn wr h1 h2 a0 Q.types
  fu : FunRow wr h2 (.slice a2 Q.funs.length c2) Q.funs
  l1 : lo ≤ h1
  l2 : h1 ≤ h2
  l3 : h2 ≤ qb
theorem QSt.only {lo h1 h2 qb g : Nat} {Q : GProg} {a0 a1 a2 : Option Addr} {c0 c1 c2 : Nat} {wr w' : World} (h : QSt lo h1 h2 qb Q a0 a1 a2 c0 c1 c2 wr) (o : Only g wr w') (hg : g < lo) : QSt lo h1 h2 qb Q a0 a1 a2 c0 c1 c2 w' where
  q := h.q.only o (by have := h.l1; have := h.l2; have := h.l3; omega)
  gl := h.gl.only o hg
  gr := h.gr.only o (by have := h.l1; omega)
  gi := h.gi.same (o.same (by have := h.l1; omega) (by have := h.l3; have := h.q.lt; omega)) (Nat.le_refl _) (Nat.le_refl _)
  fu := h.fu.only o (by have := h.l1; have := h.l2; omega)
  l1 := h.l1
  l2 := h.l2
  l3 := h.l3
theorem QSt.fcap {lo h1 h2 qb : Nat} {Q : GProg} {a0 a1 a2 : Option Addr} {c0 c1 c2 : Nat} {wr : World} (h : QSt lo h1 h2 qb Q a0 a1 a2 c0 c1 c2 wr) : Q.funs.length ≤ c2 := by
  obtain ⟨_, _, ho, _⟩ := h.fu
  exact owns_cap ho
/-- Left as it is. -/
theorem QSt.fin {lo h1 h2 qb : Nat} {Q : GProg} {a0 a1 a2 : Option Addr} {c0 c1 c2 : Nat} {wr : World} (h : QSt lo h1 h2 qb Q a0 a1 a2 c0 c1 c2 wr) (hb : QB Q) : QFin lo qb wr :=
  ⟨Q, a0, a1, a2, c0, c1, c2, h.q, h.gi.wide h.l1 (by have := h.l3; have := h.q.lt; omega), (FdRow.own h.gl.1).1, h.fu.funs.wide (by have := h.l1; have := h.l2; omega) (Nat.le_refl _), hb, h.gr.len, h.fcap⟩
/-- 1: one sort more. -/
theorem QSt.moreGlob {lo h1 h2 qb gB cap : Nat} {Q : GProg} {a0 a1 a2 : Option Addr} {c0 c1 c2 : Nat} {wr w1 : World} {f : Fd} (h : QSt lo h1 h2 qb Q a0 a1 a2 c0 c1 c2 wr) (hb : QB Q) (hl : Q.glob.length < 1000)
    (ho : FdRow w1 lo (.slice (some ⟨gB, 0, none⟩) (Q.glob.length + 1) cap) (Q.glob ++ [f])) (hg : wr.grownBy w1 (Value.slice a1 Q.glob.length c1).ownBlock) (hB : ∀ k, (Value.slice a1 Q.glob.length c1).ownBlock = some k → k < h1) (hx : gB < h1 ∨ wr.heap.size ≤ gB) :
    QFin lo qb (w1.setCell ⟨qb, 1, none⟩ (.slice (some ⟨gB, 0, none⟩) (Q.glob.length + 1) cap)) := by
  have k1 := h.l1; have k2 := h.l2; have k3 := h.l3; have k4 := h.q.lt
  have s1 := hg.size
  have e1 : (Q.glob ++ [f]).length = Q.glob.length + 1 := by simp
  have q1 : Rec w1 qb 27 [.slice a0 Q.types.length c0, .slice a1 Q.glob.length c1, .slice a2 Q.funs.length c2] := h.q.grown hg (fun e => by have := hB qb e.symm; omega)
  have sm : Same h1 wr.heap.size wr w1 := fun k g1 g2 => hg.block k g2 (fun e => by have := hB k e.symm; omega)
  have sm2 : Same h1 qb wr (w1.setCell ⟨qb, 1, none⟩ (.slice (some ⟨gB, 0, none⟩) (Q.glob.length + 1) cap)) := (sm.sub (Nat.le_refl _) (by omega)).set (.inr (Nat.le_refl _)) _ _
  refine ⟨⟨Q.types, Q.glob ++ [f], Q.funs⟩, a0, some ⟨gB, 0, none⟩, a2, c0, cap, c2, by rw [e1]; exact q1.set 1 _, ?_, ?_, ?_, ⟨hb.1, by rw [e1]; omega, hb.2.2⟩, h.gr.len, h.fcap⟩
  · exact h.gi.same (sm2.sub (Nat.le_refl _) k3) k1 (by simp; omega)
  · have := (FdRow.own (cap := cap) (a := some ⟨gB, 0, none⟩) (xs := Q.glob ++ [f]) (w := w1.setCell ⟨qb, 1, none⟩ (.slice (some ⟨gB, 0, none⟩) (Q.glob.length + 1) cap)) (S := lo) (by rw [e1]; exact owns_of_block ho fun k hk => Below.heap_setCell _ _ _ _ (by simp [Value.ownBlock] at hk; subst hk; simp; omega))).1
    exact this
  · obtain ⟨xs, B, ho2, hS, hB2, hl2, hf⟩ := h.fu
    have kk : ∀ k cur e, h2 ≤ k → e ≠ 27 → wr.heap[k]? = some (.cells cur e (0, 0)) → (w1.setCell ⟨qb, 1, none⟩ (.slice (some ⟨gB, 0, none⟩) (Q.glob.length + 1) cap)).heap[k]? = wr.heap[k]? := fun k cur e hk hne hh => by
      have hlt := (Array.getElem?_eq_some_iff.1 hh).1
      rw [Below.heap_setCell _ _ _ _ (show k ≠ qb from fun ek => by
        subst ek
        have := h.q
        unfold Rec at this
        rw [hh] at this
        simp at this
        exact hne this.2)]
      exact sm k (by omega) hlt
    exact (h.fu.keep (fun k cur hk hh => kk k cur _ hk (by decide) hh) ⟨fun k cur hk hh => kk k cur _ hk (by decide) hh, fun k cur hk hh => kk k cur _ hk (by decide) hh⟩ (by simpa using s1)).funs.wide (by omega) (Nat.le_refl _)
/-- 0: a group more, of no types. -/
theorem QSt.moreTypes {lo h1 h2 qb gB cap eb : Nat} {Q : GProg} {a0 a1 a2 : Option Addr} {c0 c1 c2 : Nat} {wr w1 : World} {xs : List Value} (h : QSt lo h1 h2 qb Q a0 a1 a2 c0 c1 c2 wr) (hb : QB Q) (hl : Q.types.length < 1000)
    (hr : wr.ownsRow h1 42 1 (.slice a0 Q.types.length c0) Q.types.length xs) (hT : ∀ i, i < Q.types.length → ∃ ta tc, xs[i]? = some (.slice ta (grAt Q.types i).length tc) ∧ TRow wr h1 ta tc (grAt Q.types i)) (hE : EmpAt wr eb 44) (he : h1 ≤ eb)
    (ho : w1.ownsRow h1 42 1 (.slice (some ⟨gB, 0, none⟩) (Q.types.length + 1) cap) (Q.types.length + 1) (xs ++ [.slice (some ⟨eb, 0, none⟩) 0 0])) (hg : wr.grownBy w1 (Value.slice a0 Q.types.length c0).ownBlock) :
    QFin lo qb (w1.setCell ⟨qb, 0, none⟩ (.slice (some ⟨gB, 0, none⟩) (Q.types.length + 1) cap)) := by
  have k1 := h.l1; have k2 := h.l2; have k3 := h.l3; have k4 := h.q.lt
  have s1 := hg.size
  have e1 : (Q.types ++ [([] : List Ty)]).length = Q.types.length + 1 := by simp
  have q1 : Rec w1 qb 27 [.slice a0 Q.types.length c0, .slice a1 Q.glob.length c1, .slice a2 Q.funs.length c2] := by
    refine (hg.block qb k4 (fun e => ?_)).trans h.q
    rcases hr.2 with ⟨h0, _⟩ | ⟨g', cap', cur, h0, _, h2', _⟩
    · rw [h0] at e; simp [Value.ownBlock] at e
    · rw [h0] at e
      simp [Value.ownBlock] at e
      subst e
      have := h.q
      unfold Rec at this
      rw [h2'] at this
      simp at this
  have K1 : ∀ {e : TypeId}, e ≠ 42 → e ≠ 27 → ∀ S, KeepE S e wr (w1.setCell ⟨qb, 0, none⟩ (.slice (some ⟨gB, 0, none⟩) (Q.types.length + 1) cap)) := fun g1 g2 S => (KeepE.grown hr hg g1).trans (KeepE.set _ q1 g2)
  have ho' : (w1.setCell ⟨qb, 0, none⟩ (.slice (some ⟨gB, 0, none⟩) (Q.types.length + 1) cap)).ownsRow h1 42 1 (.slice (some ⟨gB, 0, none⟩) (Q.types.length + 1) cap) (Q.types.length + 1) (xs ++ [.slice (some ⟨eb, 0, none⟩) 0 0]) := by
    refine owns_of_block ho fun k hk => Below.heap_setCell _ _ _ _ ?_
    rcases ho.2 with ⟨h0, _⟩ | ⟨g', cap', cur, h0, _, h2', _⟩
    · simp at h0
    · rw [h0] at hk
      simp [Value.ownBlock] at hk
      subst hk
      intro ek
      simp at ek
      subst ek
      unfold Rec at q1
      rw [h2'] at q1
      simp at q1
  have tE : TRow (w1.setCell ⟨qb, 0, none⟩ (.slice (some ⟨gB, 0, none⟩) (Q.types.length + 1) cap)) h1 (some ⟨eb, 0, none⟩) 0 [] :=
    ⟨[], owns_keepE (hE.owns (size := 4) he) (K1 (by decide) (by decide) _), fun i hi => absurd hi (Nat.not_lt_zero _)⟩
  have GG : GRow (w1.setCell ⟨qb, 0, none⟩ (.slice (some ⟨gB, 0, none⟩) (Q.types.length + 1) cap)) h1 (some ⟨gB, 0, none⟩) cap (Q.types ++ [[]]) :=
    GRow.snoc (fun i hi => by
      obtain ⟨ta, tc, hx, ht⟩ := hT i hi
      exact ⟨ta, tc, hx, ht.keep (K1 (by decide) (by decide) _) (K1 (by decide) (by decide) _)⟩) (by have := hr.1; omega) tE ho'
  refine ⟨⟨Q.types ++ [[]], Q.glob, Q.funs⟩, some ⟨gB, 0, none⟩, a1, a2, cap, c1, c2, by rw [e1]; exact q1.set 0 _, GG.groups.wide k1 (Nat.le_refl _), ?_, ?_, ⟨⟨by rw [e1]; omega, by rw [e1]; omega, fun i hi => ?_⟩, hb.2⟩, GG.len, h.fcap⟩
  · exact (FdRow.own (owns_keepE h.gl.1 (K1 (by decide) (by decide) _))).1
  · exact (h.fu.keep (K1 (by decide) (by decide) _) ⟨K1 (by decide) (by decide) _, K1 (by decide) (by decide) _⟩ (by simpa using s1)).funs.wide (by omega) (Nat.le_refl _)
  · by_cases e : i < Q.types.length
    · rw [grAt_append_left _ _ _ e]; exact hb.1.2.2 i e
    · have : i = Q.types.length := by simp at hi; omega
      subst this
      rw [grAt_append_one]
      exact ⟨Nat.zero_le _, fun j hj => absurd hj (Nat.not_lt_zero _)⟩

/-- 3 to 7: one function turned. -/
theorem QSt.turnFun {lo h1 h2 qb rb x : Nat} {Q : GProg} {a0 a1 : Option Addr} {c0 c1 c2 : Nat} {wr w' : World} {xs : List Value} {B : Nat → Nat} {tb : Option Nat} {f' : GFun} (h : QSt lo h1 h2 qb Q a0 a1 (some ⟨rb, 0, none⟩) c0 c1 c2 wr) (hb : QB Q)
    (ho : wr.ownsRow h2 36 6 (.slice (some ⟨rb, 0, none⟩) Q.funs.length c2) Q.funs.length xs) (hS : h2 ≤ B 0) (hB : ∀ i, B i ≤ B (i + 1)) (hBl : B Q.funs.length ≤ wr.heap.size) (hfv : ∀ i, i < Q.funs.length → FunV wr (B i) (B (i + 1)) xs (i * 6) (funAt' Q.funs i))
    (hx : x < Q.funs.length) (ht : ∀ k, tb = some k → B x ≤ k ∧ k < B (x + 1)) (hk : ∀ k, k < wr.heap.size → k ≠ rb → some k ≠ tb → w'.heap[k]? = wr.heap[k]?) (hsz : wr.heap.size ≤ w'.heap.size) (hq : w'.heap[qb]? = wr.heap[qb]?)
    (hc : ∀ o, o < x * 6 ∨ x * 6 + 6 ≤ o → w'.cell? ⟨rb, o, none⟩ = wr.cell? ⟨rb, o, none⟩) (hf : FunAt false w' h2 w'.heap.size rb (x * 6) f') (hfB : FunB 1000 f') : QFin lo qb w' := by
  have k1 := h.l1; have k2 := h.l2; have k3 := h.l3; have k4 := h.q.lt
  have rb2 : h2 ≤ rb := owns_base ho rb rfl
  have el : (Q.funs.set x f').length = Q.funs.length := by simp
  have sm : Same 0 h2 wr w' := fun k _ g2 => hk k (by omega) (by omega) (fun e => by have := (ht k e.symm).1; have := mono_le' hB (Nat.zero_le x); omega)
  refine ⟨⟨Q.types, Q.glob, Q.funs.set x f'⟩, a0, a1, some ⟨rb, 0, none⟩, c0, c1, c2, by rw [el]; exact hq.trans h.q, ?_, ?_, ?_, ⟨hb.1, hb.2.1, by rw [el]; exact hb.2.2.1, fun i hi => ?_⟩, h.gr.len, by rw [el]; exact h.fcap⟩
  · exact h.gi.same (sm.sub (Nat.zero_le _) (Nat.le_refl _)) k1 (by omega)
  · exact (FdRow.own (owns_of_block h.gl.1 fun k hkk => sm k (Nat.zero_le _) (by have := h.gl.2 k hkk; omega))).1
  · exact (funs_turned ho hS hB hBl hfv hx ht hk hsz hc hf).wide (by omega) (Nat.le_refl _)
  · have hi' : i < Q.funs.length := by simpa using hi
    show FunB 1000 (funAt' (Q.funs.set x f') i)
    by_cases e : i = x
    · subst e
      have : funAt' (Q.funs.set i f') i = f' := by simp [funAt', List.getD, hi']
      rw [this]; exact hfB
    · have e2 : funAt' (Q.funs.set x f') i = funAt' Q.funs i := by simp [funAt', List.getD, Ne.symm e]
      rw [e2]; exact hb.2.2.2 i hi'
end Go.Proofs.YtblliefejffhoaaGreatDoor

/- One list of one function of a copied program is grown: what is known meanwhile; and functions that are put behind the others once more. -/
namespace Go.Proofs.YtblliefejffhoaaGreatDoor
open Go.ChangeShapes Go.WideShapes Go.ChangeAt Go.RowKit Go.Deep
set_option linter.unusedVariables false

/-- Two rows of elements of two types lie in two blocks. -/
theorem owns_kind {w : World} {S e size n k : Nat} {v : Value} {xs : List Value} (h : w.ownsRow S e size v n xs) (hk : v.ownBlock = some k) : ∃ cur, w.heap[k]? = some (.cells cur e (0, 0)) := by
  rcases h.2 with ⟨rfl, _⟩ | ⟨g, cap', cur, rfl, _, h2, _⟩
  · simp [Value.ownBlock] at hk
  · simp [Value.ownBlock] at hk
    subst hk
    exact ⟨cur, h2⟩
theorem kind_ne {w : World} {e e' k k' : Nat} {c c' : Array Value} (h : w.heap[k]? = some (.cells c e (0, 0))) (h' : w.heap[k']? = some (.cells c' e' (0, 0))) (hne : e ≠ e') : k ≠ k' := fun q => by
  subst q
  rw [h] at h'
  simp at h'
  exact hne h'.2

/-- The row of functions that was copied, as it lies. -/
structure Row5 (w : World) (h2 rb d2 : Nat) (fs : List GFun) (xs : List Value) (B : Nat → Nat) : Prop where
  ho : w.ownsRow h2 36 6 (.slice (some ⟨rb, 0, none⟩) fs.length d2) fs.length xs
  hS : h2 ≤ B 0
  hB : ∀ i, B i ≤ B (i + 1)
  hBl : B fs.length ≤ w.heap.size
  hfv : ∀ i, i < fs.length → FunV w (B i) (B (i + 1)) xs (i * 6) (funAt' fs i)
theorem Row5.only {w w' : World} {h2 rb d2 g : Nat} {fs : List GFun} {xs : List Value} {B : Nat → Nat} (h : Row5 w h2 rb d2 fs xs B) (o : Only g w w') (hg : g < h2) : Row5 w' h2 rb d2 fs xs B :=
  ⟨owns_only h.ho o hg, h.hS, h.hB, Nat.le_trans h.hBl o.size, fun i hi => (h.hfv i hi).keep (KeepF.only (S := h2) o hg) (Nat.le_trans h.hS (mono_le' h.hB (Nat.zero_le _)))⟩
theorem Row5.of {w : World} {h2 d2 : Nat} {b2 : Option Addr} {fs : List GFun} (h : FunRow w h2 (.slice b2 fs.length d2) fs) (hn : 1 ≤ fs.length) : ∃ rb xs B, b2 = some ⟨rb, 0, none⟩ ∧ Row5 w h2 rb d2 fs xs B ∧ rb < w.heap.size := by
  obtain ⟨xs, B, ho, hS, hB, hl, hf⟩ := h
  rcases owns_cells ho with h0 | ⟨g, rfl, _, hlt, _⟩
  · omega
  · exact ⟨g, xs, B, rfl, ⟨ho, hS, hB, hl, hf⟩, hlt⟩

/-- The list at offset o of function x (elements of type e, three cells each) is the slice of len elements at ba, of the cells cs; w5: as it was at first, its block tb then. -/
structure LSt (e : TypeId) (w5 : World) (lo h2 rb d2 n x o : Nat) (tb : Option Nat) (xs : List Value) (ba : Option Addr) (len bc : Nat) (cs : List Value) (wr : World) : Prop where
  ro : wr.ownsRow h2 36 6 (.slice (some ⟨rb, 0, none⟩) n d2) n (xs.set (x * 6 + o) (.slice ba len bc))
  bd : wr.ownsRow h2 e 3 (.slice ba len bc) len cs
  bb : ∀ k, (Value.slice ba len bc).ownBlock = some k → some k = tb ∨ w5.heap.size ≤ k
  hk : ∀ k, lo ≤ k → k < w5.heap.size → k ≠ rb → some k ≠ tb → wr.heap[k]? = w5.heap[k]?
  hsz : w5.heap.size ≤ wr.heap.size
theorem LSt.init {e : TypeId} {w5 : World} {lo h2 rb d2 n x o : Nat} {xs : List Value} {ba : Option Addr} {len bc : Nat} {cs : List Value} (ro : w5.ownsRow h2 36 6 (.slice (some ⟨rb, 0, none⟩) n d2) n xs) (hx : xs[x * 6 + o]? = some (.slice ba len bc)) (bd : w5.ownsRow h2 e 3 (.slice ba len bc) len cs) :
    LSt e w5 lo h2 rb d2 n x o (Value.slice ba len bc).ownBlock xs ba len bc cs w5 :=
  ⟨by
    have : xs.set (x * 6 + o) (.slice ba len bc) = xs := by
      obtain ⟨hl, hv⟩ := List.getElem?_eq_some_iff.1 hx
      rw [← hv, List.set_getElem_self]
    rw [this]; exact ro, bd, fun k hk => .inl hk.symm, fun _ _ _ _ _ => rfl, Nat.le_refl _⟩
/-- What is kept where nothing that was there turns but block g, which is ahead of all these. -/
theorem LSt.only {e : TypeId} {w5 : World} {lo h2 rb d2 n x o g : Nat} {tb : Option Nat} {xs : List Value} {ba : Option Addr} {len bc : Nat} {cs : List Value} {wr w' : World} (h : LSt e w5 lo h2 rb d2 n x o tb xs ba len bc cs wr) (q : Only g wr w') (hg : g < lo) (hl : lo ≤ h2) : LSt e w5 lo h2 rb d2 n x o tb xs ba len bc cs w' :=
  ⟨owns_only h.ro q (by omega), owns_only h.bd q (by omega), h.bb, fun k h0 h1 h2 h3 => (q.block k (by omega) (Nat.lt_of_lt_of_le h1 h.hsz)).trans (h.hk k h0 h1 h2 h3), Nat.le_trans h.hsz q.size⟩
/-- More elements behind it, and the slice stored. -/
theorem LSt.push {e : TypeId} {w5 : World} {lo h2 rb d2 n x o : Nat} {tb : Option Nat} {xs : List Value} {ba : Option Addr} {len bc m : Nat} {cs news : List Value} {wr w6 : World} {gB cap : Nat} (h : LSt e w5 lo h2 rb d2 n x o tb xs ba len bc cs wr) (he : e ≠ 36)
    (hown : w6.ownsRow h2 e 3 (.slice (some ⟨gB, 0, none⟩) (len + m) cap) (len + m) (cs ++ news)) (hgr : wr.grownBy w6 (Value.slice ba len bc).ownBlock) (hat : (Value.slice ba len bc).ownBlock = some gB ∨ gB = wr.heap.size) :
    LSt e w5 lo h2 rb d2 n x o tb xs (some ⟨gB, 0, none⟩) (len + m) cap (cs ++ news) (w6.setCell ⟨rb, x * 6 + o, none⟩ (.slice (some ⟨gB, 0, none⟩) (len + m) cap)) := by
  obtain ⟨c0, hrb⟩ := owns_kind h.ro (k := rb) rfl
  have hrb6 : w6.heap[rb]? = some (.cells c0 36 (0, 0)) := (hgr.block rb (Array.getElem?_eq_some_iff.1 hrb).1 (fun q => by
    obtain ⟨c1, h1⟩ := owns_kind h.bd q.symm
    exact kind_ne h1 hrb he rfl)).trans hrb
  have ro6 : w6.ownsRow h2 36 6 (.slice (some ⟨rb, 0, none⟩) n d2) n (xs.set (x * 6 + o) (.slice ba len bc)) := owns_of_block h.ro fun k hk => by
    simp [Value.ownBlock] at hk
    subst hk
    rw [hrb6, hrb]
  obtain ⟨c2, hgb⟩ := owns_kind hown (k := gB) rfl
  refine ⟨?_, ?_, fun k hk => ?_, fun k h0 h1 h3 h4 => ?_, by simp; exact Nat.le_trans h.hsz hgr.size⟩
  · have := (ro6.stored (x * 6 + o) (.slice (some ⟨gB, 0, none⟩) (len + m) cap)).1
    simpa using this
  · refine owns_of_block hown fun k hk => Below.heap_setCell _ _ _ _ ?_
    simp [Value.ownBlock] at hk
    subst hk
    exact kind_ne hgb hrb6 he
  · simp [Value.ownBlock] at hk
    subst hk
    rcases hat with h1 | h1
    · exact h.bb _ h1
    · exact .inr (by rw [h1]; exact h.hsz)
  · rw [Below.heap_setCell _ _ _ _ h3, hgr.block k (Nat.lt_of_lt_of_le h1 h.hsz) (fun q => ?_)]
    · exact h.hk k h0 h1 h3 h4
    · rcases h.bb k q.symm with h5 | h5
      · exact h4 h5
      · omega
/-- A row of w5 that lies in no block that turned. -/
theorem LSt.other {e e' : TypeId} {w5 : World} {lo h2 rb d2 n x o : Nat} {tb : Option Nat} {xs : List Value} {ba : Option Addr} {len bc S n' size' : Nat} {cs xs' : List Value} {wr : World} {v : Value} (h : LSt e w5 lo h2 rb d2 n x o tb xs ba len bc cs wr) (hr : w5.ownsRow h2 36 6 (.slice (some ⟨rb, 0, none⟩) n d2) n xs)
    (h' : w5.ownsRow S e' size' v n' xs') (he : e' ≠ 36) (ht : ∀ k, v.ownBlock = some k → some k ≠ tb) (hlo : lo ≤ S) : wr.ownsRow S e' size' v n' xs' :=
  owns_of_block h' fun k hk => h.hk k (Nat.le_trans hlo (owns_base h' k hk)) (owns_lt h' k hk) (by
    obtain ⟨c1, h1⟩ := owns_kind h' hk
    obtain ⟨c2, h3⟩ := owns_kind hr (k := rb) rfl
    exact kind_ne h1 h3 he) (ht k hk)
theorem LSt.cellAt {e : TypeId} {w5 : World} {lo h2 rb d2 n x o : Nat} {tb : Option Nat} {xs : List Value} {ba : Option Addr} {len bc : Nat} {cs : List Value} {wr : World} (h : LSt e w5 lo h2 rb d2 n x o tb xs ba len bc cs wr) {j : Nat} {u : Value} (hx : x < n) (hj : j < 6) (hn : j ≠ o) (hu : xs[x * 6 + j]? = some u) : wr.cell? ⟨rb, x * 6 + j, none⟩ = some u := by
  rw [h.ro.cellAt _ (by omega), List.getElem?_set_ne (by omega)]
  exact hu
theorem LSt.cellO {e : TypeId} {w5 : World} {lo h2 rb d2 n x o : Nat} {tb : Option Nat} {xs : List Value} {ba : Option Addr} {len bc : Nat} {cs : List Value} {wr : World} (h : LSt e w5 lo h2 rb d2 n x o tb xs ba len bc cs wr) (hx : x < n) (ho : o < 6) : wr.cell? ⟨rb, x * 6 + o, none⟩ = some (.slice ba len bc) := by
  have hl := h.ro.1
  simp at hl
  rw [h.ro.cellAt _ (by omega), List.getElem?_set_self (by omega)]
/-- The other functions' lists, where the list of function x alone has turned: the program that lies there at the end. -/
theorem LSt.fin {e : TypeId} {lo h1 h2 qb rb x o : Nat} {Q : GProg} {a0 a1 : Option Addr} {c0 c1 c2 : Nat} {w5 wr : World} {xs : List Value} {B : Nat → Nat} {tb : Option Nat} {f' : GFun} {ba : Option Addr} {len bc : Nat} {cs : List Value}
    (h : QSt lo h1 h2 qb Q a0 a1 (some ⟨rb, 0, none⟩) c0 c1 c2 w5) (hb : QB Q) (R : Row5 w5 h2 rb c2 Q.funs xs B) (L : LSt e w5 lo h2 rb c2 Q.funs.length x o tb xs ba len bc cs wr) (ho : o < 6)
    (hx : x < Q.funs.length) (ht : ∀ k, tb = some k → B x ≤ k ∧ k < B (x + 1)) (hq : wr.heap[qb]? = w5.heap[qb]?) (hf : FunAt false wr h2 wr.heap.size rb (x * 6) f') (hfB : FunB 1000 f') : QFin lo qb wr := by
  have k1 := h.l1; have k2 := h.l2; have k3 := h.l3; have k4 := h.q.lt
  have rb2 : h2 ≤ rb := owns_base R.ho rb rfl
  have el : (Q.funs.set x f').length = Q.funs.length := by simp
  have b : ∀ j, h2 ≤ B j := fun j => Nat.le_trans R.hS (mono_le' R.hB (Nat.zero_le _))
  have sm : Same lo h2 w5 wr := fun k g1 g2 => L.hk k g1 (by omega) (by omega) (fun e => by have := (ht k e.symm).1; have := b x; omega)
  have rlt : rb < w5.heap.size := owns_lt R.ho rb rfl
  refine ⟨⟨Q.types, Q.glob, Q.funs.set x f'⟩, a0, a1, some ⟨rb, 0, none⟩, c0, c1, c2, by rw [el]; exact hq.trans h.q, ?_, ?_, ?_, ⟨hb.1, hb.2.1, by rw [el]; exact hb.2.2.1, fun i hi => ?_⟩, h.gr.len, by rw [el]; exact h.fcap⟩
  · exact h.gi.same (sm.sub k1 (Nat.le_refl _)) k1 (by have := L.hsz; omega)
  · exact (FdRow.own (owns_of_block h.gl.1 fun k hkk => sm k (owns_base h.gl.1 k hkk) (by have := h.gl.2 k hkk; omega))).1
  · refine FunsM.wide (lo := h2) (hi := wr.heap.size) (.inr ⟨rb, 0, rfl, rb2, by have := L.hsz; omega, fun e => (by cases e), fun i hi => ?_⟩) (by omega) (Nat.le_refl _)
    rw [Nat.zero_add]
    have hi' : i < Q.funs.length := by simpa using hi
    by_cases e : i = x
    · subst e
      have : funAt' (Q.funs.set i f') i = f' := by simp [funAt', List.getD, hi']
      rw [this]; exact hf
    · have e2 : funAt' (Q.funs.set x f') i = funAt' Q.funs i := by simp [funAt', List.getD, Ne.symm e]
      rw [e2]
      obtain ⟨a0, c0, a4, c4, a5, c5, e0, e1, e2, e3, e4, e5, r0, r4, r5, _⟩ := R.hfv i hi'
      have q : ∀ {k : Nat} {v : Value}, k < 6 → xs[i * 6 + k]? = some v → wr.cell? ⟨rb, i * 6 + k, none⟩ = some v := fun {k v} hk e => by
        rw [L.ro.cellAt _ (by omega), List.getElem?_set_ne (by omega)]
        exact e
      have nt : ∀ k, B i ≤ k → k < B (i + 1) → some k ≠ tb := fun k h1 h2 h3 => by
        obtain ⟨h4, h5⟩ := ht k h3.symm
        rcases Nat.lt_or_gt_of_ne e with h | h
        · have := mono_le' R.hB (show i + 1 ≤ x by omega); omega
        · have := mono_le' R.hB (show x + 1 ≤ i by omega); omega
      have kF : ∀ {v : Value} {l : List Fd}, FdI w5 (B i) (B (i + 1)) v l → FdI wr (B i) (B (i + 1)) v l := fun {v l} h => ⟨L.other R.ho h.1 (by decide) (fun k hk => nt k (owns_base h.1 k hk) (h.2 k hk)) (by have := b i; omega), h.2⟩
      have kI : ∀ {v : Value} {l : List GIns}, InI w5 (B i) (B (i + 1)) v l → InI wr (B i) (B (i + 1)) v l := fun {v l} h => ⟨L.other R.ho h.1 (by decide) (fun k hk => nt k (owns_base h.1 k hk) (h.2 k hk)) (by have := b i; omega), h.2⟩
      exact ⟨a0, c0, a4, c4, a5, c5, q (k := 0) (by omega) e0, q (k := 1) (by omega) e1, q (k := 2) (by omega) e2, q (k := 3) (by omega) e3, q (k := 4) (by omega) e4, q (k := 5) (by omega) e5, (kF r0).lies (b _), (kF r4).lies (b _), (kI r5).lies (b _)⟩
  · have hi' : i < Q.funs.length := by simpa using hi
    show FunB 1000 (funAt' (Q.funs.set x f') i)
    by_cases e : i = x
    · subst e
      have : funAt' (Q.funs.set i f') i = f' := by simp [funAt', List.getD, hi']
      rw [this]; exact hfB
    · have e2 : funAt' (Q.funs.set x f') i = funAt' Q.funs i := by simp [funAt', List.getD, Ne.symm e]
      rw [e2]; exact hb.2.2.2 i hi'

/-- What is known of function x as it was. -/
structure FunX (w5 : World) (b0 b3 : Nat) (xs : List Value) (x : Nat) (a0 a4 a5 : Option Addr) (c0 c4 c5 : Nat) (f : GFun) : Prop where
  e0 : xs[x * 6]? = some (.slice a0 f.takes.length c0)
  e1 : xs[x * 6 + 1]? = some (.int .i64 f.gives.kind)
  e2 : xs[x * 6 + 2]? = some (.int .i64 f.gives.of)
  e3 : xs[x * 6 + 3]? = some (.bool f.gives.mt)
  e4 : xs[x * 6 + 4]? = some (.slice a4 f.own.length c4)
  e5 : xs[x * 6 + 5]? = some (.slice a5 f.body.length c5)
  r0 : FdI w5 b0 b3 (.slice a0 f.takes.length c0) f.takes
  r4 : FdI w5 b0 b3 (.slice a4 f.own.length c4) f.own
  r5 : InI w5 b0 b3 (.slice a5 f.body.length c5) f.body
  r6 : Apart2 (.slice a0 f.takes.length c0) (.slice a4 f.own.length c4)
theorem FunX.of {w5 : World} {b0 b3 x : Nat} {xs : List Value} {f : GFun} (h : FunV w5 b0 b3 xs (x * 6) f) : ∃ a0 a4 a5 c0 c4 c5, FunX w5 b0 b3 xs x a0 a4 a5 c0 c4 c5 f := by
  obtain ⟨a0, c0, a4, c4, a5, c5, e0, e1, e2, e3, e4, e5, r0, r4, r5, r6⟩ := h
  exact ⟨a0, a4, a5, c0, c4, c5, e0, e1, e2, e3, e4, e5, r0, r4, r5, r6⟩
/-- Rows of instructions and of fields lie in two blocks. -/
theorem apart_kind {w : World} {S S' e e' size size' n n' : Nat} {v v' : Value} {xs xs' : List Value} (h : w.ownsRow S e size v n xs) (h' : w.ownsRow S' e' size' v' n' xs') (hne : e ≠ e') : ∀ k, v.ownBlock = some k → some k ≠ v'.ownBlock := fun k hk q => by
  obtain ⟨c, h1⟩ := owns_kind h hk
  obtain ⟨c', h2⟩ := owns_kind h' q.symm
  exact kind_ne h1 h2 hne rfl
/-- The function with another body. -/
theorem LSt.body {w5 wr : World} {lo h2 rb d2 n x b0 b3 : Nat} {xs : List Value} {a0 a4 a5 : Option Addr} {c0 c4 c5 : Nat} {f : GFun} (X : FunX w5 b0 b3 xs x a0 a4 a5 c0 c4 c5 f) (hr : w5.ownsRow h2 36 6 (.slice (some ⟨rb, 0, none⟩) n d2) n xs) {ba : Option Addr} {bc : Nat} {bs : List GIns}
    (L : LSt 59 w5 lo h2 rb d2 n x 5 (Value.slice a5 f.body.length c5).ownBlock xs ba bs.length bc (icells bs) wr) (hx : x < n) (hb : h2 ≤ b0) (hl : lo ≤ h2) : FunAt false wr h2 wr.heap.size rb (x * 6) ⟨f.takes, f.gives, f.own, bs⟩ := by
  have t0 : FdI wr b0 b3 (.slice a0 f.takes.length c0) f.takes := ⟨L.other hr X.r0.1 (by decide) (apart_kind X.r0.1 X.r5.1 (by decide)) (by omega), X.r0.2⟩
  have t4 : FdI wr b0 b3 (.slice a4 f.own.length c4) f.own := ⟨L.other hr X.r4.1 (by decide) (apart_kind X.r4.1 X.r5.1 (by decide)) (by omega), X.r4.2⟩
  exact ⟨a0, c0, a4, c4, ba, bc, L.cellAt (j := 0) hx (by omega) (by omega) X.e0, L.cellAt (j := 1) hx (by omega) (by omega) X.e1, L.cellAt (j := 2) hx (by omega) (by omega) X.e2, L.cellAt (j := 3) hx (by omega) (by omega) X.e3, L.cellAt (j := 4) hx (by omega) (by omega) X.e4, L.cellO hx (by omega), t0.lies hb, t4.lies hb, InRow.inss L.bd⟩
/-- The function with other places of its own. -/
theorem LSt.own {w5 wr : World} {lo h2 rb d2 n x b0 b3 : Nat} {xs : List Value} {a0 a4 a5 : Option Addr} {c0 c4 c5 : Nat} {f : GFun} (X : FunX w5 b0 b3 xs x a0 a4 a5 c0 c4 c5 f) (hr : w5.ownsRow h2 36 6 (.slice (some ⟨rb, 0, none⟩) n d2) n xs) {ba : Option Addr} {bc : Nat} {bs : List Fd}
    (L : LSt 33 w5 lo h2 rb d2 n x 4 (Value.slice a4 f.own.length c4).ownBlock xs ba bs.length bc (fcells bs) wr) (hx : x < n) (hb : h2 ≤ b0) (hl : lo ≤ h2) : FunAt false wr h2 wr.heap.size rb (x * 6) ⟨f.takes, f.gives, bs, f.body⟩ := by
  have t0 : FdI wr b0 b3 (.slice a0 f.takes.length c0) f.takes := ⟨L.other hr X.r0.1 (by decide) (fun k hk q => X.r6 k hk q.symm) (by omega), X.r0.2⟩
  have t5 : InI wr b0 b3 (.slice a5 f.body.length c5) f.body := ⟨L.other hr X.r5.1 (by decide) (apart_kind X.r5.1 X.r4.1 (by decide)) (by omega), X.r5.2⟩
  exact ⟨a0, c0, ba, bc, a5, c5, L.cellAt (j := 0) hx (by omega) (by omega) X.e0, L.cellAt (j := 1) hx (by omega) (by omega) X.e1, L.cellAt (j := 2) hx (by omega) (by omega) X.e2, L.cellAt (j := 3) hx (by omega) (by omega) X.e3, L.cellO hx (by omega), L.cellAt (j := 5) hx (by omega) (by omega) X.e5, t0.lies hb, (FdRow.own (xs := bs) L.bd).plain, t5.lies hb⟩
/-- The function that takes others. -/
theorem LSt.takes {w5 wr : World} {lo h2 rb d2 n x b0 b3 : Nat} {xs : List Value} {a0 a4 a5 : Option Addr} {c0 c4 c5 : Nat} {f : GFun} (X : FunX w5 b0 b3 xs x a0 a4 a5 c0 c4 c5 f) (hr : w5.ownsRow h2 36 6 (.slice (some ⟨rb, 0, none⟩) n d2) n xs) {ba : Option Addr} {bc : Nat} {bs : List Fd}
    (L : LSt 33 w5 lo h2 rb d2 n x 0 (Value.slice a0 f.takes.length c0).ownBlock xs ba bs.length bc (fcells bs) wr) (hx : x < n) (hb : h2 ≤ b0) (hl : lo ≤ h2) : FunAt false wr h2 wr.heap.size rb (x * 6) ⟨bs, f.gives, f.own, f.body⟩ := by
  have t4 : FdI wr b0 b3 (.slice a4 f.own.length c4) f.own := ⟨L.other hr X.r4.1 (by decide) (fun k hk q => X.r6 k q.symm hk) (by omega), X.r4.2⟩
  have t5 : InI wr b0 b3 (.slice a5 f.body.length c5) f.body := ⟨L.other hr X.r5.1 (by decide) (apart_kind X.r5.1 X.r0.1 (by decide)) (by omega), X.r5.2⟩
  exact ⟨ba, bc, a4, c4, a5, c5, L.cellO hx (by omega), L.cellAt (j := 1) hx (by omega) (by omega) X.e1, L.cellAt (j := 2) hx (by omega) (by omega) X.e2, L.cellAt (j := 3) hx (by omega) (by omega) X.e3, L.cellAt (j := 4) hx (by omega) (by omega) X.e4, L.cellAt (j := 5) hx (by omega) (by omega) X.e5, (FdRow.own (xs := bs) L.bd).plain, t4.lies hb, t5.lies hb⟩

/-- What the region reads: the program's variable, the row of functions; the variable of a field, if there is one. -/
structure XS (h2 qb rb d2 n sb : Nat) (qv ys : List Value) (w' : World) : Prop where
  q : Rec w' qb 27 qv
  ro : w'.ownsRow h2 36 6 (.slice (some ⟨rb, 0, none⟩) n d2) n ys
  sv : Rec w' sb 33 [.int .i64 3, .int .i64 (-1), .bool false]
theorem XS.below {h2 qb rb d2 n sb : Nat} {qv ys : List Value} {w w' : World} (h : XS h2 qb rb d2 n sb qv ys w) (hb : Below w.heap.size w w') : XS h2 qb rb d2 n sb qv ys w' :=
  ⟨h.q.below hb h.q.lt, owns_below h.ro hb, h.sv.below hb h.sv.lt⟩
theorem XS.only {h2 qb rb d2 n sb g : Nat} {qv ys : List Value} {w w' : World} (h : XS h2 qb rb d2 n sb qv ys w) (o : Only g w w') (h1 : g < h2) (h3 : g ≠ qb) (h4 : g ≠ sb) : XS h2 qb rb d2 n sb qv ys w' :=
  ⟨h.q.only o (Ne.symm h3), owns_only h.ro o h1, h.sv.only o (Ne.symm h4)⟩
/-- A row of another kind is grown. -/
theorem XS.grown {e size m S h2 qb rb d2 n sb : Nat} {qv ys cs : List Value} {v : Value} {w w' : World} (h : XS h2 qb rb d2 n sb qv ys w) (ho : w.ownsRow S e size v m cs) (hg : w.grownBy w' v.ownBlock) (h1 : e ≠ 36) (h3 : e ≠ 27) (hs : v.ownBlock ≠ some sb) : XS h2 qb rb d2 n sb qv ys w' := by
  refine ⟨h.q.grown hg fun q => ?_, owns_of_block h.ro fun k hk => hg.block k (owns_lt h.ro k hk) fun q => ?_, h.sv.grown hg (Ne.symm hs)⟩
  · obtain ⟨c, h5⟩ := owns_kind ho q.symm
    exact kind_ne h5 h.q h3 rfl
  · obtain ⟨c, h5⟩ := owns_kind ho q.symm
    obtain ⟨c', h6⟩ := owns_kind h.ro hk
    exact kind_ne h5 h6 h1 rfl
theorem XS.cell {h2 qb rb d2 n sb : Nat} {qv ys : List Value} {w : World} (h : XS h2 qb rb d2 n sb qv ys w) {j : Nat} {u : Value} (hj : j < n * 6) (hu : ys[j]? = some u) : w.cell? ⟨rb, j, none⟩ = some u := (h.ro.cellAt j hj).trans hu
end Go.Proofs.YtblliefejffhoaaGreatDoor

/- A copied program: a list of one function that is empty now, what a function gives, and functions that are put behind the others once more. -/
namespace Go.Proofs.YtblliefejffhoaaGreatDoor
open Go.ChangeShapes Go.WideShapes Go.ChangeAt Go.RowKit Go.Deep
set_option linter.unusedVariables false

/-- 8: k functions more, each as function x. -/
structure RSt (w5 : World) (lo h2 qb rb n x : Nat) (xs : List Value) (v : Value) (k : Nat) (ys : List Value) (wr : World) : Prop where
  ro : wr.ownsRow h2 36 6 v (n + k) ys
  yx : ∀ i, i < n + k → ∃ j, j < n ∧ (i < n → j = i) ∧ (n ≤ i → j = x) ∧ ∀ t, t < 6 → ys[i * 6 + t]? = xs[j * 6 + t]?
  hk : ∀ q, lo ≤ q → q < w5.heap.size → q ≠ qb → q ≠ rb → wr.heap[q]? = w5.heap[q]?
  bb : ∀ q, v.ownBlock = some q → q = rb ∨ w5.heap.size ≤ q
  hsz : w5.heap.size ≤ wr.heap.size
theorem RSt.init {w5 : World} {lo h2 qb rb d2 n x : Nat} {xs : List Value} (ro : w5.ownsRow h2 36 6 (.slice (some ⟨rb, 0, none⟩) n d2) n xs) : RSt w5 lo h2 qb rb n x xs (.slice (some ⟨rb, 0, none⟩) n d2) 0 xs w5 :=
  ⟨ro, fun i hi => ⟨i, by omega, fun _ => rfl, fun h => by omega, fun _ _ => rfl⟩, fun _ _ _ _ _ => rfl, fun q hq => .inl (by simp [Value.ownBlock] at hq; exact hq.symm), Nat.le_refl _⟩
theorem RSt.only {w5 : World} {lo h2 qb rb n x k g : Nat} {xs ys : List Value} {v : Value} {wr w' : World} (h : RSt w5 lo h2 qb rb n x xs v k ys wr) (o : Only g wr w') (hg : g < lo) (hl : lo ≤ h2) : RSt w5 lo h2 qb rb n x xs v k ys w' :=
  ⟨owns_only h.ro o (by omega), h.yx, fun q h0 h1 h2 h3 => (o.block q (by omega) (Nat.lt_of_lt_of_le h1 h.hsz)).trans (h.hk q h0 h1 h2 h3), h.bb, Nat.le_trans h.hsz o.size⟩
theorem RSt.push {w5 : World} {lo h2 qb rb n x k gB cap : Nat} {xs ys news : List Value} {v u : Value} {wr w6 : World} {qv : List Value} (h : RSt w5 lo h2 qb rb n x xs v k ys wr) (hx : x < n) (hq : Rec wr qb 27 qv)
    (hown : w6.ownsRow h2 36 6 (.slice (some ⟨gB, 0, none⟩) (n + k + 1) cap) (n + k + 1) (ys ++ news)) (hgr : wr.grownBy w6 v.ownBlock) (hat : v.ownBlock = some gB ∨ gB = wr.heap.size) (hnews : ∀ t, t < 6 → news[t]? = xs[x * 6 + t]?) :
    RSt w5 lo h2 qb rb n x xs (.slice (some ⟨gB, 0, none⟩) (n + k + 1) cap) (k + 1) (ys ++ news) (w6.setCell ⟨qb, 2, none⟩ u) := by
  have hl := h.ro.1
  have hq6 : Rec w6 qb 27 qv := hq.grown hgr (fun e => by
    obtain ⟨c, h5⟩ := owns_kind h.ro e.symm
    exact kind_ne h5 hq (by decide) rfl)
  refine ⟨?_, fun i hi => ?_, fun q h0 h1 h3 h4 => ?_, fun q hqq => ?_, by simp; exact Nat.le_trans h.hsz hgr.size⟩
  · rw [show n + (k + 1) = n + k + 1 by omega]
    refine owns_of_block hown fun q hqq => Below.heap_setCell _ _ _ _ ?_
    obtain ⟨c, h5⟩ := owns_kind hown hqq
    exact kind_ne h5 hq6 (by decide)
  · by_cases e : i < n + k
    · obtain ⟨j, h1, h2, h3, h4⟩ := h.yx i e
      exact ⟨j, h1, h2, h3, fun t ht => by rw [List.getElem?_append_left (by omega)]; exact h4 t ht⟩
    · have e2 : i = n + k := by omega
      subst e2
      refine ⟨x, hx, fun h => by omega, fun _ => rfl, fun t ht => ?_⟩
      rw [List.getElem?_append_right (by omega), hl, show (n + k) * 6 + t - (n + k) * 6 = t by omega]
      exact hnews t ht
  · rw [Below.heap_setCell _ _ _ _ h3, hgr.block q (Nat.lt_of_lt_of_le h1 h.hsz) (fun e => ?_)]
    · exact h.hk q h0 h1 h3 h4
    · rcases h.bb q e.symm with h5 | h5
      · exact h4 h5
      · omega
  · simp [Value.ownBlock] at hqq
    subst hqq
    rcases hat with h1 | h1
    · exact h.bb _ h1
    · exact .inr (by rw [h1]; exact h.hsz)
theorem funAt_more {fs : List GFun} {f : GFun} {k i : Nat} (h : fs.length ≤ i) (hi : i < fs.length + k) : funAt' (fs ++ List.replicate k f) i = f := by
  rw [funAt', List.getD_eq_getElem?_getD, List.getElem?_append_right h, List.getElem?_replicate, if_pos (by omega)]
  rfl
theorem funAt_less {fs : List GFun} {f : GFun} {k i : Nat} (h : i < fs.length) : funAt' (fs ++ List.replicate k f) i = funAt' fs i := by
  simp [funAt', List.getD, List.getElem?_append_left h]
theorem RSt.fin {lo h1 h2 qb rb x k : Nat} {Q : GProg} {a0 a1 a2 : Option Addr} {c0 c1 c2 cv : Nat} {w5 wr : World} {xs ys : List Value} {B : Nat → Nat}
    (h : QSt lo h1 h2 qb Q a0 a1 (some ⟨rb, 0, none⟩) c0 c1 c2 w5) (hb : QB Q) (R : Row5 w5 h2 rb c2 Q.funs xs B) (L : RSt w5 lo h2 qb rb Q.funs.length x xs (.slice a2 (Q.funs.length + k) cv) k ys wr) (hx : x < Q.funs.length) (hn : Q.funs.length + k ≤ 1000)
    (hq : Rec wr qb 27 [.slice a0 Q.types.length c0, .slice a1 Q.glob.length c1, .slice a2 (Q.funs.length + k) cv]) : QFin lo qb wr := by
  have k1 := h.l1; have k2 := h.l2; have k3 := h.l3; have k4 := h.q.lt
  have rb2 : h2 ≤ rb := owns_base R.ho rb rfl
  have el : (Q.funs ++ List.replicate k (funAt' Q.funs x)).length = Q.funs.length + k := by simp
  have b : ∀ j, h2 ≤ B j := fun j => Nat.le_trans R.hS (mono_le' R.hB (Nat.zero_le _))
  have sm : Same lo h2 w5 wr := fun k g1 g2 => L.hk k g1 (by omega) (by omega) (by omega)
  have hpos : 0 < Q.funs.length + k := by omega
  obtain ⟨cr, hrb⟩ := owns_kind R.ho (k := rb) rfl
  refine ⟨⟨Q.types, Q.glob, Q.funs ++ List.replicate k (funAt' Q.funs x)⟩, a0, a1, a2, c0, c1, cv, by rw [el]; exact hq, ?_, ?_, ?_, ⟨hb.1, hb.2.1, by rw [el]; exact hn, fun i hi => ?_⟩, h.gr.len, by rw [el]; exact owns_cap L.ro⟩
  · exact h.gi.same (sm.sub k1 (Nat.le_refl _)) k1 (by have := L.hsz; omega)
  · exact (FdRow.own (owns_of_block h.gl.1 fun k hkk => sm k (owns_base h.gl.1 k hkk) (by have := h.gl.2 k hkk; omega))).1
  · refine FunsM.wide (lo := h2) (hi := wr.heap.size) ?_ (by omega) (Nat.le_refl _)
    rcases owns_cells L.ro with h0 | ⟨gB, rfl, hS', hlt, hc⟩
    · omega
    refine .inr ⟨gB, 0, rfl, hS', hlt, fun e => (by cases e), fun i hi => ?_⟩
    rw [el] at hi
    rw [Nat.zero_add]
    obtain ⟨j, hj, j1, j2, hy⟩ := L.yx i hi
    have ef : funAt' (Q.funs ++ List.replicate k (funAt' Q.funs x)) i = funAt' Q.funs j := by
      by_cases e : i < Q.funs.length
      · rw [j1 e]; exact funAt_less e
      · rw [j2 (by omega)]; exact funAt_more (by omega) hi
    rw [ef]
    obtain ⟨a0, c0, a4, c4, a5, c5, e0, e1, e2, e3, e4, e5, r0, r4, r5, _⟩ := R.hfv j hj
    have q : ∀ {t : Nat} {v : Value}, t < 6 → xs[j * 6 + t]? = some v → wr.cell? ⟨gB, i * 6 + t, none⟩ = some v := fun {t v} ht e => by
      rw [hc _ (by omega), hy t ht]
      exact e
    have kB : ∀ {S e size n : Nat} {v : Value} {zs : List Value}, w5.ownsRow S e size v n zs → e ≠ 36 → e ≠ 27 → lo ≤ S → wr.ownsRow S e size v n zs := fun {S e size n v zs} hh hne hnp hS => owns_of_block hh fun k hk => by
      obtain ⟨c, h5⟩ := owns_kind hh hk
      exact L.hk k (Nat.le_trans hS (owns_base hh k hk)) (owns_lt hh k hk) (kind_ne h5 h.q hnp) (kind_ne h5 hrb hne)
    have bj := b j
    have t0 : FdI wr (B j) (B (j + 1)) (.slice a0 (funAt' Q.funs j).takes.length c0) (funAt' Q.funs j).takes := ⟨kB r0.1 (by decide) (by decide) (by omega), r0.2⟩
    have t4 : FdI wr (B j) (B (j + 1)) (.slice a4 (funAt' Q.funs j).own.length c4) (funAt' Q.funs j).own := ⟨kB r4.1 (by decide) (by decide) (by omega), r4.2⟩
    have t5 : InI wr (B j) (B (j + 1)) (.slice a5 (funAt' Q.funs j).body.length c5) (funAt' Q.funs j).body := ⟨kB r5.1 (by decide) (by decide) (by omega), r5.2⟩
    exact ⟨a0, c0, a4, c4, a5, c5, q (t := 0) (by omega) e0, q (t := 1) (by omega) e1, q (t := 2) (by omega) e2, q (t := 3) (by omega) e3, q (t := 4) (by omega) e4, q (t := 5) (by omega) e5, t0.lies bj, t4.lies bj, t5.lies bj⟩
  · rw [el] at hi
    show FunB 1000 (funAt' (Q.funs ++ List.replicate k (funAt' Q.funs x)) i)
    by_cases e : i < Q.funs.length
    · rw [funAt_less e]; exact hb.2.2.2 i e
    · rw [funAt_more (by omega) hi]; exact hb.2.2.2 x hx
/-- What a round's region reads. -/
structure XS2 (h2 qb rb d2 n : Nat) (qv ys : List Value) (w' : World) : Prop where
  q : Rec w' qb 27 qv
  ro : w'.ownsRow h2 36 6 (.slice (some ⟨rb, 0, none⟩) n d2) n ys
theorem XS2.below {h2 qb rb d2 n : Nat} {qv ys : List Value} {w w' : World} (h : XS2 h2 qb rb d2 n qv ys w) (hb : Below w.heap.size w w') : XS2 h2 qb rb d2 n qv ys w' :=
  ⟨h.q.below hb h.q.lt, owns_below h.ro hb⟩
theorem XS2.grown {e size m S h2 qb rb d2 n : Nat} {qv ys cs : List Value} {v : Value} {w w' : World} (h : XS2 h2 qb rb d2 n qv ys w) (ho : w.ownsRow S e size v m cs) (hg : w.grownBy w' v.ownBlock) (h1 : e ≠ 36) (h3 : e ≠ 27) : XS2 h2 qb rb d2 n qv ys w' := by
  refine ⟨h.q.grown hg fun q => ?_, owns_of_block h.ro fun k hk => hg.block k (owns_lt h.ro k hk) fun q => ?_⟩
  · obtain ⟨c, h5⟩ := owns_kind ho q.symm
    exact kind_ne h5 h.q h3 rfl
  · obtain ⟨c, h5⟩ := owns_kind ho q.symm
    obtain ⟨c', h6⟩ := owns_kind h.ro hk
    exact kind_ne h5 h6 h1 rfl
theorem XS2.cell {h2 qb rb d2 n : Nat} {qv ys : List Value} {w : World} (h : XS2 h2 qb rb d2 n qv ys w) {j : Nat} {u : Value} (hj : j < n * 6) (hu : ys[j]? = some u) : w.cell? ⟨rb, j, none⟩ = some u := (h.ro.cellAt j hj).trans hu
end Go.Proofs.YtblliefejffhoaaGreatDoor
