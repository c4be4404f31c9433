/- append of values that lie somewhere to a row of values of the call's own. -/
import Derived.Test.YtbalfmlmgbmneaaValRow
import Derived.Maps.AppendAt
import Derived.Deep.AppendSrc
import Derived.Deep.DeepAppendWide
namespace Go.Proofs.Ytbalfmlmgbmneaa
open Go.ChangeShapes Go.WideShapes Go.ChangeAt Go.RowKit Go.Deep
set_option linter.unusedVariables false

theorem valAt_cells {md : Bool} {w : World} {lo hi b off : Nat} {vs : List GVal} (h : ∀ i, i < vs.length → ValAt md w lo hi b (off + i * 2) (valAt' vs i)) (j : Nat) (u : Value) (hj : (vcells vs)[j]? = some u) : w.cell? ⟨b, off + j, none⟩ = some u := by
  have hlt : j < vs.length * 2 := by have := (List.getElem?_eq_some_iff.1 hj).1; rwa [vcells_length] at this
  obtain ⟨e0, e1⟩ := vcells_get vs (j / 2) (by omega)
  obtain ⟨c0, c1⟩ := h (j / 2) (by omega)
  have hr : j % 2 = 0 ∨ j % 2 = 1 := by omega
  rcases hr with hr | hr
  · rw [show j / 2 * 2 = j by omega] at e0 c0
    rw [← hj, e0]; exact c0
  · rw [show j / 2 * 2 + 1 = j by omega] at e1
    rw [show off + j / 2 * 2 + 1 = off + j by omega] at c1
    rw [← hj, e1]; exact c1

theorem run_append_vals {md : Bool} (ty : TypeId) (S : Nat) (a : Option Addr) (cap : Nat) (us : List GVal) (va : Option Addr) (vc lo hi : Nat) (vs : List GVal) (w : World) (hr : ValRow w S a cap us) (hx : ValsM md w lo hi va vs) (hn : us.length + vs.length ≤ 8796093022208) (hS : S ≤ w.heap.size) :
    ∃ na nc w', (Builtin.append_ #[30, 30] ty #[.slice a us.length cap, .slice va vs.length vc]).run Try.prog w = .ok (.slice na (us.length + vs.length) nc) w' ∧ ValRow w' S na nc (us ++ vs) ∧ w.grownBy w' (Value.slice a us.length cap).ownBlock ∧ ((Value.slice na (us.length + vs.length) nc).ownBlock = (Value.slice a us.length cap).ownBlock ∨ (Value.slice na (us.length + vs.length) nc).ownBlock = some w.heap.size) := by
  obtain ⟨i0, hi0, hz0, hs0, hb0⟩ := info_parts infoVal
  have hu := Try.underlying30
  have fin : ∀ (ad : Addr), (∀ j u, (vcells vs)[j]? = some u → w.cell? (ad.add j) = some u) → ∃ na nc w', (Builtin.append_ #[30, 30] ty #[.slice a us.length cap, .slice (some ad) vs.length vc]).run Try.prog w = .ok (.slice na (us.length + vs.length) nc) w' ∧ ValRow w' S na nc (us ++ vs) ∧ w.grownBy w' (Value.slice a us.length cap).ownBlock ∧ ((Value.slice na (us.length + vs.length) nc).ownBlock = (Value.slice a us.length cap).ownBlock ∨ (Value.slice na (us.length + vs.length) nc).ownBlock = some w.heap.size) := by
    intro ad had
    obtain ⟨v2, w2, hr2, ho2, hg2, _, hb2⟩ := run_append_own_at (P := Try.prog) w S 30 ty 62 i0 _ 2 16 hu hi0 hz0 hs0 hb0 (by rfl) (by decide) (.slice a us.length cap) us.length (vcells us) hr ad vs.length vc (vcells vs) (vcells_length vs) had (vcells_one vs) (by unfold maxLen; omega) (by omega) hS
    have hv : ∃ na nc, v2 = .slice na (us.length + vs.length) nc := by
      rcases ho2.2 with ⟨e, e0⟩ | ⟨g, c, cur, e, _⟩
      · have h1 : us.length + vs.length = 0 := e0
        exact ⟨none, 0, by rw [e, h1]⟩
      · exact ⟨_, _, e⟩
    obtain ⟨na, nc, rfl⟩ := hv
    refine ⟨na, nc, w2, hr2, ?_, hg2, hb2⟩
    have e : vcells (us ++ vs) = vcells us ++ vcells vs := by simp [vcells]
    unfold ValRow
    rw [e, List.length_append]
    exact ho2
  rcases hx with rfl | ⟨b, off, rfl, _, _, _, h6⟩
  · cases va with
    | some ad => exact fin ad (fun j u h => by simp [vcells] at h)
    | none =>
      have := fin ⟨0, 0, none⟩ (fun j u h => by simp [vcells] at h)
      have e : ∀ x : Option Addr, (Builtin.firstCells i0.size 0 (.slice x 0 vc)).run Try.prog w = .ok #[] w := by
        intro x
        cases x with
        | none => exact run_firstCells_none w i0.size 0 0 vc
        | some ad => exact run_firstCells_some w i0.size 0 ad 0 vc [] (by simp) (fun j u h => by simp at h)
      have e2 : (Builtin.append_ #[30, 30] ty #[.slice a us.length cap, .slice none 0 vc]).run Try.prog w = (Builtin.append_ #[30, 30] ty #[.slice a us.length cap, .slice (some ⟨0, 0, none⟩) 0 vc]).run Try.prog w := by
        have hcap := owns_cap hr
        simp [Builtin.append_, run_underlying hu, sizeOf, typeInfo, hi0, Builtin.lenOf, e, hcap]
      simp only [List.length_nil] at this ⊢
      rw [e2]
      exact this
  · exact fin _ (fun j u h => by rw [add_plain]; exact valAt_cells h6 j u h)

theorem step_append_vals {md : Bool} {ops : Array Oper} {o : Oper} {ac : Act} {K : Act → World → Prop} {Q : Exit → Act → World → Prop} {E : Prop} (w : World) (hgd : o.guard = none) (s x : Operand)
    (ho : o.op = .call { callee := .builtin .append, args := #[s, x], argTypes := #[30, 30] })
    (S : Nat) (a : Option Addr) (cap : Nat) (us : List GVal) (va : Option Addr) (vc lo hi : Nat) (vs : List GVal) (hs : ac.eval s = .slice a us.length cap) (hx : ac.eval x = .slice va vs.length vc)
    (hr : ValRow w S a cap us) (hv : ValsM md w lo hi va vs) (hn : us.length + vs.length ≤ 8796093022208) (hS : S ≤ w.heap.size)
    (h : ∀ na nc w', ValRow w' S na nc (us ++ vs) → w.grownBy w' (Value.slice a us.length cap).ownBlock → ((Value.slice na (us ++ vs).length nc).ownBlock = (Value.slice a us.length cap).ownBlock ∨ (Value.slice na (us ++ vs).length nc).ownBlock = some w.heap.size) → K (ac.put o.dst (.slice na (us ++ vs).length nc)) w') :
    if Region.wanted o (yielded ops ac.tmps) = true then Oper.wp Try.prog o ac w K Q else E := by
  have hw : Region.wanted o (yielded ops ac.tmps) = true := by simp [Region.wanted, hgd]
  rw [if_pos hw]
  obtain ⟨na, nc, w', hq, h2, h3, h4⟩ := run_append_vals o.type S a cap us va vc lo hi vs w hr hv hn hS
  unfold Oper.wp execOp
  simp only [ho, resolve, invoke, builtin, Sem.run_bind, Sem.run_pure, Result.andThen_ok, List.map_toArray, List.map_cons, List.map_nil, hs, hx, hq]
  have := h na nc w' h2 h3 (by rw [List.length_append]; exact h4)
  rw [List.length_append] at this
  exact this

/-- append to a list that has no room: a new row. -/
theorem run_append_fresh {md : Bool} (ty : TypeId) (S : Nat) (base : Option Addr) (va : Option Addr) (vc lo hi : Nat) (vs : List GVal) (w : World) (hr : ValRow w S base 0 []) (hx : ValsM md w lo hi va vs) (h0 : vs ≠ []) (hn : vs.length ≤ 8388608) (hS : S ≤ w.heap.size) :
    ∃ nc w', (Builtin.append_ #[30, 30] ty #[.slice base 0 0, .slice va vs.length vc]).run Try.prog w = .ok (.slice (some ⟨w.heap.size, 0, none⟩) vs.length nc) w' ∧ ValRow w' S (some ⟨w.heap.size, 0, none⟩) nc vs ∧ w'.heap.size = w.heap.size + 1 ∧ Below w.heap.size w w' := by
  obtain ⟨i0, hi0, hz0, hs0, hb0⟩ := info_parts infoVal
  have hu := Try.underlying30
  rcases hx with rfl | ⟨b, off, rfl, h1, h2, _, h3⟩
  · exact absurd rfl h0
  have hpos : 0 < vs.length := List.length_pos_iff.2 h0
  have hsrc : Src Try.prog i0.size 30 (.slice (some ⟨b, off, none⟩) vs.length vc) vs.length (vcells vs) w :=
    Src.ofSlice w hu ⟨b, off, none⟩ vs.length vc (vcells vs) (by rw [vcells_length, hs0]) (fun j u hj => by rw [add_plain]; exact valAt_cells h3 j u hj) (vcells_one vs)
  have hold : (Builtin.firstCells i0.size 0 (.slice base 0 0)).run Try.prog w.drew = .ok ([] : List Value).toArray w.drew := by
    cases base with
    | none => exact run_firstCells_none w.drew i0.size 0 0 0
    | some ad => exact run_firstCells_some w.drew i0.size 0 ad 0 0 [] (by simp) (fun j u h => by simp at h)
  have hrun := run_append_grow_src (P := Try.prog) w 30 30 ty 62 i0 _ hu hi0 hz0 base 0 0 [] hold _ vs.length (vcells vs) hsrc (by omega) (by omega)
    (growslice_fits_wide (by omega) (by rw [hb0]; omega))
  rw [Nat.zero_add] at hrun
  obtain ⟨v2, w2, hr2, ho2, _, _, _⟩ := run_append_own_at (P := Try.prog) w S 30 ty 62 i0 _ 2 16 hu hi0 hz0 hs0 hb0 (by rfl) (by decide) (.slice base 0 0) 0 [] hr ⟨b, off, none⟩ vs.length vc (vcells vs) (vcells_length vs) (fun j u hj => by rw [add_plain]; exact valAt_cells h3 j u hj) (vcells_one vs) (by unfold maxLen; omega) (by omega) hS
  rw [hrun] at hr2
  injection hr2 with e1 e2
  subst e1 e2
  refine ⟨_, _, hrun, ?_, by simp, (Below.refl _ _).drew.alloc (Nat.le_refl _) _⟩
  simpa [ValRow] using ho2

theorem step_append_fresh {md : Bool} {ops : Array Oper} {o : Oper} {ac : Act} {K : Act → World → Prop} {Q : Exit → Act → World → Prop} {E : Prop} (w : World) (hgd : o.guard = none) (s x : Operand)
    (ho : o.op = .call { callee := .builtin .append, args := #[s, x], argTypes := #[30, 30] })
    (S : Nat) (base : Option Addr) (va : Option Addr) (vc lo hi : Nat) (vs : List GVal) (hs : ac.eval s = .slice base 0 0) (hx : ac.eval x = .slice va vs.length vc)
    (hr : ValRow w S base 0 []) (hv : ValsM md w lo hi va vs) (h0 : vs ≠ []) (hn : vs.length ≤ 8388608) (hS : S ≤ w.heap.size)
    (h : ∀ nc w', ValRow w' S (some ⟨w.heap.size, 0, none⟩) nc vs → w'.heap.size = w.heap.size + 1 → Below w.heap.size w w' → K (ac.put o.dst (.slice (some ⟨w.heap.size, 0, none⟩) vs.length nc)) w') :
    if Region.wanted o (yielded ops ac.tmps) = true then Oper.wp Try.prog o ac w K Q else E := by
  have hw : Region.wanted o (yielded ops ac.tmps) = true := by simp [Region.wanted, hgd]
  rw [if_pos hw]
  obtain ⟨nc, w', hq, h2, h3, h4⟩ := run_append_fresh o.type S base va vc lo hi vs w hr hv h0 hn hS
  unfold Oper.wp execOp
  simp only [ho, resolve, invoke, builtin, Sem.run_bind, Sem.run_pure, Result.andThen_ok, List.map_toArray, List.map_cons, List.map_nil, hs, hx, hq]
  exact h nc w' h2 h3 h4

theorem run_append_nothing (ty : TypeId) (B : Nat) (va : Option Addr) (vc : Nat) (w : World) :
    (Builtin.append_ #[30, 30] ty #[.slice (some ⟨B, 0, none⟩) 0 0, .slice va 0 vc]).run Try.prog w = .ok (.slice (some ⟨B, 0, none⟩) 0 0) w := by
  obtain ⟨i0, hi0, hz0, hs0, hb0⟩ := info_parts infoVal
  have hu := Try.underlying30
  have e1 : (Builtin.firstCells i0.size 0 (.slice va 0 vc)).run Try.prog w = .ok #[] w := by
    cases va with
    | none => exact run_firstCells_none w i0.size 0 0 vc
    | some ad => exact run_firstCells_some w i0.size 0 ad 0 vc [] (by simp) (fun j u h => by simp at h)
  simp [Builtin.append_, run_underlying hu, sizeOf, typeInfo, hi0, Builtin.lenOf, e1, storeCells]

theorem step_append_nothing {ops : Array Oper} {o : Oper} {ac : Act} {K : Act → World → Prop} {Q : Exit → Act → World → Prop} {E : Prop} (w : World) (hgd : o.guard = none) (s x : Operand)
    (ho : o.op = .call { callee := .builtin .append, args := #[s, x], argTypes := #[30, 30] })
    (B : Nat) (va : Option Addr) (vc : Nat) (hs : ac.eval s = .slice (some ⟨B, 0, none⟩) 0 0) (hx : ac.eval x = .slice va 0 vc)
    (h : K (ac.put o.dst (.slice (some ⟨B, 0, none⟩) 0 0)) w) :
    if Region.wanted o (yielded ops ac.tmps) = true then Oper.wp Try.prog o ac w K Q else E := by
  have hw : Region.wanted o (yielded ops ac.tmps) = true := by simp [Region.wanted, hgd]
  rw [if_pos hw]
  unfold Oper.wp execOp
  simp only [ho, resolve, invoke, builtin, Sem.run_bind, Sem.run_pure, Result.andThen_ok, List.map_toArray, List.map_cons, List.map_nil, hs, hx, run_append_nothing]
  exact h

theorem ValRow.empty (w : World) (S B : Nat) (hB : w.heap[B]? = some (.cells #[] 62 (0, 0))) (hS : S ≤ B) : ValRow w S (some ⟨B, 0, none⟩) 0 [] :=
  ⟨by simp [vcells], .inr ⟨B, 0, #[], rfl, hS, hB, Nat.le_refl _, Nat.zero_le _, by simp, by simp [vcells]⟩⟩

theorem ValRow.alloc {w : World} {S cap : Nat} {a : Option Addr} {vs : List GVal} (h : ValRow w S a cap vs) (o : Obj) : ValRow (w.alloc o) S a cap vs := h.below ((Below.refl _ _).alloc (Nat.le_refl _) o)
theorem grown_cell {w w' : World} {row : Option Nat} (hg : w.grownBy w' row) (q : Nat) (hq : q < w.heap.size) (hne : some q ≠ row) (o : Nat) : w'.cell? ⟨q, o, none⟩ = w.cell? ⟨q, o, none⟩ := World.cell?_of_block (w := w) (hg.block q hq hne)
theorem grown_frozen {w w' : World} {row : Option Nat} (hg : w.grownBy w' row) (q : Nat) (hq : q < w.heap.size) (hne : some q ≠ row) (o : Nat) : w'.frozen? ⟨q, o, none⟩ = w.frozen? ⟨q, o, none⟩ := by
  simp only [World.frozen?, hg.block q hq hne]
theorem Rec.drew {w : World} {b : Nat} {T : TypeId} {vs : List Value} (h : Rec w b T vs) : Rec w.drew b T vs := h
theorem blk_new' (w : World) (o : Obj) (b : Nat) (hb : b = w.heap.size) : (w.alloc o).heap[b]? = some o := hb ▸ Deep.blk_alloc_new _ _
theorem one_val (w : World) (q : Nat) {k n : Int} {T : TypeId} (h : w.heap[q]? = some (.cells #[.int .i64 k, .int .i64 n] T (0, 0))) : ValsM false w q (q + 1) (some ⟨q, 0, none⟩) [⟨k, n⟩] := by
  refine .inr ⟨q, 0, rfl, Nat.le_refl _, Nat.lt_succ_self _, (fun e => by cases e), fun i hi => ?_⟩
  have e : i = 0 := by simp at hi; omega
  subst e
  exact ⟨by simp [World.cell?, h, valAt'], by simp [World.cell?, h, valAt']⟩
end Go.Proofs.Ytbalfmlmgbmneaa
