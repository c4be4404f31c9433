/- append to groups of types, whether or not a guard stands ahead; a group more, written out. -/
import Derived.Test.YtejkebfhiddhmaaDoorKaMore
namespace Go.Proofs.YtejkebfhiddhmaaDoor
open Go.ChangeShapes Go.WideShapes Go.ChangeAt Go.RowKit Go.Deep
set_option linter.unusedVariables false

/-- Blocks made one behind the other. -/
def allocs (w : World) (os : List Obj) : World := os.foldl World.alloc w
theorem allocs_size (os : List Obj) : ∀ w : World, (allocs w os).heap.size = w.heap.size + os.length := by
  induction os with
  | nil => intro w; rfl
  | cons o os ih => intro w; show (allocs (w.alloc o) os).heap.size = _; rw [ih]; simp; omega
theorem allocs_below (os : List Obj) : ∀ w : World, Below w.heap.size w (allocs w os) := by
  induction os with
  | nil => intro w; exact Below.refl _ _
  | cons o os ih => intro w; exact ((Below.refl _ w).alloc (Nat.le_refl _) o).trans ((ih (w.alloc o)).mono (by simp))
theorem allocs_get (os : List Obj) : ∀ (w : World) (i : Nat), i < os.length → (allocs w os).heap[w.heap.size + i]? = os[i]? := by
  induction os with
  | nil => intro w i h; simp at h
  | cons o os ih =>
    intro w i h
    show (allocs (w.alloc o) os).heap[w.heap.size + i]? = _
    cases i with
    | zero =>
      rw [(allocs_below os (w.alloc o)).block _ (by simp)]
      exact Deep.blk_alloc_new _ _
    | succ i =>
      have := ih (w.alloc o) i (by simpa using h)
      rw [show w.heap.size + (i + 1) = (w.alloc o).heap.size + i by simp; omega, this]
      rfl

section
variable {ops : Array Oper} {rest : List Oper} {o : Oper} {a : Act} {Q : Exit → Act → World → Prop} {K : Act → World → Prop} {w : World}
theorem wpList_want {P : Program} (hw : Region.wanted o (yielded ops a.tmps) = true) (h : ∀ K : Act → World → Prop, (∀ a w, wpList P ops Q rest a w → K a w) → o.wp P a w K Q) : wpList P ops Q (o :: rest) a w :=
  wpList_step fun K hK => by rw [if_pos hw]; exact h K hK

/-- 'append([][]Type{}, g...)'. -/
theorem wp_gapp1 (s x : Operand) (ho : o.op = .call { callee := .builtin .append, args := #[s, x], argTypes := #[23, 23] })
    (S B : Nat) (hs : a.eval s = .slice (some ⟨B, 0, none⟩) 0 0) (hB : w.heap[B]? = some (.cells #[] 41 (0, 0))) (hS : S ≤ B)
    (ga n gc : Nat) (xs : List Value) (hx : a.eval x = .slice (some ⟨ga, 0, none⟩) n gc) (hl : xs.length = n) (hc : ∀ j u, xs[j]? = some u → w.cell? ⟨ga, j, none⟩ = some u) (h1 : ∀ u ∈ xs, u.oneCell' = true) (hn : n ≤ 1048576)
    (h : ∀ a5 c5 wA, wA.ownsRow S 41 1 (.slice a5 n c5) n xs → w.grownBy wA (some B) → Below S w wA → K (a.put o.dst (.slice a5 n c5)) wA) : o.wp Tryd.prog a w K Q := by
  obtain ⟨i1, hi1, hzz⟩ := Option.map_eq_some_iff.1 Tryd.infoTypeS
  simp only [Prod.mk.injEq] at hzz
  obtain ⟨hz1, hs1, hb1⟩ := hzz
  have hlt : B < w.heap.size := (Array.getElem?_eq_some_iff.1 hB).1
  obtain ⟨v', w', hr, h2, h3, h4, h5⟩ := run_append_own_at (P := Tryd.prog) w S 23 o.type 41 i1 _ 1 24 Tryd.underlying23 hi1 hz1 hs1 hb1 rfl (by decide) (.slice (some ⟨B, 0, none⟩) 0 0) 0 [] (empty_row _ _ _ _ 1 hB hS) ⟨ga, 0, none⟩ n gc xs (by omega) (fun j u hj => by rw [add_plain, Nat.zero_add]; exact hc j u hj) h1 (by unfold maxLen; omega) (by omega) (by omega)
  rw [Nat.zero_add, List.nil_append] at h2
  have hv : ∃ a5 c5, v' = .slice a5 n c5 := by
    rcases h2.2 with ⟨e, e0⟩ | ⟨g, c, cur, e, _⟩
    · exact ⟨none, 0, by rw [e, e0]⟩
    · exact ⟨_, _, e⟩
  obtain ⟨a5, c5, rfl⟩ := hv
  unfold Oper.wp execOp
  simp only [ho, resolve, invoke, builtin, Sem.run_bind, Sem.run_pure, Result.andThen_ok, List.map_toArray, List.map_cons, List.map_nil, hs, hx, hr]
  exact h a5 c5 w' h2 h3 ((Below.refl _ _).grown h3 (by omega) (fun k hk => by simp [Value.ownBlock] at hk; omega))
theorem wpList_gapp1 (s x : Operand) (hw : Region.wanted o (yielded ops a.tmps) = true) (ho : o.op = .call { callee := .builtin .append, args := #[s, x], argTypes := #[23, 23] })
    (S B : Nat) (hs : a.eval s = .slice (some ⟨B, 0, none⟩) 0 0) (hB : w.heap[B]? = some (.cells #[] 41 (0, 0))) (hS : S ≤ B)
    (ga n gc : Nat) (xs : List Value) (hx : a.eval x = .slice (some ⟨ga, 0, none⟩) n gc) (hl : xs.length = n) (hc : ∀ j u, xs[j]? = some u → w.cell? ⟨ga, j, none⟩ = some u) (h1 : ∀ u ∈ xs, u.oneCell' = true) (hn : n ≤ 1048576)
    (h : ∀ a5 c5 wA, wA.ownsRow S 41 1 (.slice a5 n c5) n xs → w.grownBy wA (some B) → Below S w wA → wpList Tryd.prog ops Q rest (a.put o.dst (.slice a5 n c5)) wA) : wpList Tryd.prog ops Q (o :: rest) a w :=
  wpList_want hw fun K hK => wp_gapp1 s x ho S B hs hB hS ga n gc xs hx hl hc h1 hn fun a5 c5 wA q1 q2 q3 => hK _ _ (h a5 c5 wA q1 q2 q3)
/-- 'append(.., group)'. -/
theorem wp_gapp2 (s x : Operand) (ho : o.op = .call { callee := .builtin .append, args := #[s, x], argTypes := #[23, 23] })
    (S : Nat) (a5 : Option Addr) (n c5 : Nat) (xs : List Value) (hs : a.eval s = .slice a5 n c5) (hown : w.ownsRow S 41 1 (.slice a5 n c5) n xs)
    (hb : Nat) (ta : Option Addr) (m tc : Nat) (hx : a.eval x = .slice (some ⟨hb, 0, none⟩) 1 1) (hblk : w.heap[hb]? = some (.cells #[.slice ta m tc] 41 (0, 0))) (hn : n ≤ 1048576) (hS : S ≤ w.heap.size)
    (h : ∀ g6 c6 w6, w6.ownsRow S 41 1 (.slice (some ⟨g6, 0, none⟩) (n + 1) c6) (n + 1) (xs ++ [.slice ta m tc]) → w.grownBy w6 (Value.slice a5 n c5).ownBlock → g6 < w6.heap.size → K (a.put o.dst (.slice (some ⟨g6, 0, none⟩) (n + 1) c6)) w6) : o.wp Tryd.prog a w K Q := by
  obtain ⟨i1, hi1, hzz⟩ := Option.map_eq_some_iff.1 Tryd.infoTypeS
  simp only [Prod.mk.injEq] at hzz
  obtain ⟨hz1, hs1, hb1⟩ := hzz
  refine wp_append_lies w s x 23 ho S 41 i1 _ 1 24 Tryd.underlying23 hi1 hz1 hs1 hb1 rfl (by decide) (.slice a5 n c5) n xs hs hown ⟨hb, 0, none⟩ 1 1 [.slice ta m tc] hx rfl (World.news_of_block hblk) (by intro u hu; simp at hu; subst hu; rfl) (by decide) (by unfold maxLen; omega) (by omega) hS _ rfl ?_
  intro g cap w' q1 q2 q3 q4
  exact h g cap w' q1 q2 q4
theorem wpList_gapp2 (s x : Operand) (hw : Region.wanted o (yielded ops a.tmps) = true) (ho : o.op = .call { callee := .builtin .append, args := #[s, x], argTypes := #[23, 23] })
    (S : Nat) (a5 : Option Addr) (n c5 : Nat) (xs : List Value) (hs : a.eval s = .slice a5 n c5) (hown : w.ownsRow S 41 1 (.slice a5 n c5) n xs)
    (hb : Nat) (ta : Option Addr) (m tc : Nat) (hx : a.eval x = .slice (some ⟨hb, 0, none⟩) 1 1) (hblk : w.heap[hb]? = some (.cells #[.slice ta m tc] 41 (0, 0))) (hn : n ≤ 1048576) (hS : S ≤ w.heap.size)
    (h : ∀ g6 c6 w6, w6.ownsRow S 41 1 (.slice (some ⟨g6, 0, none⟩) (n + 1) c6) (n + 1) (xs ++ [.slice ta m tc]) → w.grownBy w6 (Value.slice a5 n c5).ownBlock → g6 < w6.heap.size → wpList Tryd.prog ops Q rest (a.put o.dst (.slice (some ⟨g6, 0, none⟩) (n + 1) c6)) w6) : wpList Tryd.prog ops Q (o :: rest) a w :=
  wpList_want hw fun K hK => wp_gapp2 s x ho S a5 n c5 xs hs hown hb ta m tc hx hblk hn hS fun g6 c6 w6 q1 q2 q3 => hK _ _ (h g6 c6 w6 q1 q2 q3)
end

/-- A group more, its blocks made between two appends. -/
theorem GS.twice {w0 w wA w6 : World} {ga gc hi g6 cap6 n tc : Nat} {ta a5 : Option Addr} {c5 : Nat} {gs : List (List Ty)} {t : List Ty} {xs : List Value} (h : GS w0 w ga gc gs) (hh : w0.heap.size ≤ hi ∧ hi ≤ w.heap.size) (hl : xs.length = gs.length)
    (hg : ∀ i, i < gs.length → ∃ ta tc, xs[i]? = some (.slice ta (grAt gs i).length tc) ∧ TypesIn w w0.heap.size hi ta (grAt gs i)) (hb : Below w.heap.size w wA) (os : List Obj)
    (ho5 : wA.ownsRow w.heap.size 41 1 (.slice a5 gs.length c5) gs.length xs) (hgr : (allocs wA os).grownBy w6 (Value.slice a5 gs.length c5).ownBlock)
    (ho : w6.ownsRow w.heap.size 41 1 (.slice (some ⟨g6, 0, none⟩) (gs.length + 1) cap6) (gs.length + 1) (xs ++ [.slice ta n tc])) (hn : t.length = n)
    (ht : ∀ W : World, (∀ i o, os[i]? = some o → W.heap[wA.heap.size + i]? = some o) → wA.heap.size + os.length ≤ W.heap.size → w0.heap.size ≤ wA.heap.size → TypesIn W w0.heap.size W.heap.size ta t)
    (f1 : gs.length ≤ 1048575) (f2 : t.length ≤ 1048576) (f3 : ∀ j, j < t.length → (tyAt t j).fields.length ≤ 1048576) : GS w0 w6 g6 cap6 (gs ++ [t]) ∧ Below w.heap.size w w6 := by
  have b1 : Below w.heap.size w (allocs wA os) := hb.trans ((allocs_below os wA).mono hb.size)
  have b2 : Below w.heap.size w w6 := b1.grown hgr b1.size (owns_base ho5)
  have hq : ∀ i o, os[i]? = some o → w6.heap[wA.heap.size + i]? = some o := by
    intro i o hi
    have hlt := (List.getElem?_eq_some_iff.1 hi).1
    exact grown_blk hgr ((allocs_get os wA i hlt).trans hi) (owns_lt ho5) (by omega)
  have hsz : (allocs wA os).heap.size ≤ w6.heap.size := ((Below.refl 0 _).grown hgr (Nat.zero_le _) (fun _ _ => Nat.zero_le _)).size
  rw [allocs_size] at hsz
  exact ⟨h.snoc hh hl hg b2 h.bel.size ho hn (ht w6 hq hsz (Nat.le_trans h.bel.size hb.size)) f1 f2 f3, b2⟩
theorem types_one {w : World} {lo hi b fc : Nat} {fa : Option Addr} {t : Ty} {T : TypeId} (h : w.heap[b]? = some (.cells #[.int .i64 t.kind, .int .i64 t.up, .bool t.last, .slice fa t.fields.length fc] T (0, 0))) (h1 : lo ≤ b) (h2 : b < hi) (hf : FieldsIn w lo hi fa t.fields) : TypesIn w lo hi (some ⟨b, 0, none⟩) [t] :=
  .inr ⟨b, 0, rfl, h1, h2, fun i hi => by
    have : i = 0 := by simp at hi; omega
    subst this
    exact type_blk h 0 rfl rfl rfl rfl hf⟩
theorem types_two {w : World} {lo hi b fc gc : Nat} {fa ga : Option Addr} {t u : Ty} {T : TypeId} (h : w.heap[b]? = some (.cells #[.int .i64 t.kind, .int .i64 t.up, .bool t.last, .slice fa t.fields.length fc, .int .i64 u.kind, .int .i64 u.up, .bool u.last, .slice ga u.fields.length gc] T (0, 0))) (h1 : lo ≤ b) (h2 : b < hi) (hf : FieldsIn w lo hi fa t.fields) (hg : FieldsIn w lo hi ga u.fields) : TypesIn w lo hi (some ⟨b, 0, none⟩) [t, u] :=
  .inr ⟨b, 0, rfl, h1, h2, fun i hi => by
    have : i = 0 ∨ i = 1 := by simp at hi; omega
    rcases this with rfl | rfl
    · exact type_blk h 0 rfl rfl rfl rfl hf
    · exact type_blk h 4 rfl rfl rfl rfl hg⟩
theorem GS.heads2 {w0 w : World} {ga gc : Nat} {gs : List (List Ty)} (h : GS w0 w ga gc gs) : ∃ (xs : List Value) (hi : Nat), (w0.heap.size ≤ hi ∧ hi ≤ w.heap.size) ∧ xs.length = gs.length ∧ (∀ u ∈ xs, u.oneCell' = true) ∧ (∀ W, Below w.heap.size w W → ∀ j u, xs[j]? = some u → W.cell? ⟨ga, j, none⟩ = some u) ∧ ∀ i, i < gs.length → ∃ ta tc, xs[i]? = some (.slice ta (grAt gs i).length tc) ∧ TypesIn w w0.heap.size hi ta (grAt gs i) := by
  obtain ⟨xs, hi, hhi, hxl, hx1, hxc, hga, hxg⟩ := h.heads
  refine ⟨xs, hi, hhi, hxl, hx1, fun W hb j u hj => ?_, hxg⟩
  have := (List.getElem?_eq_some_iff.1 hj).1
  have := hga (by omega)
  rw [hb.cell (p := ⟨ga, j, none⟩) (by show ga < _; omega)]
  exact hxc j u hj

/-- A block of other elements stays where a row of groups grows. -/
theorem grown_other {w w' : World} {S n k : Nat} {v : Value} {xs : List Value} {cs : Array Value} {T : TypeId} {z : Nat × Nat} (ho : w.ownsRow S 41 1 v n xs) (hg : w.grownBy w' v.ownBlock) (h : w.heap[k]? = some (.cells cs T z)) (hT : T ≠ 41) : w'.heap[k]? = some (.cells cs T z) := by
  have hlt := (Array.getElem?_eq_some_iff.1 h).1
  refine (hg.block k hlt ?_).trans h
  intro e
  rcases ho.2 with ⟨e1, _⟩ | ⟨g, cap', cur, e1, hS, hg', _⟩
  · rw [e1] at e; simp [Value.ownBlock] at e
  · rw [e1] at e
    simp [Value.ownBlock] at e
    subst e
    rw [hg'] at h
    injection h with h
    injection h with _ h2 _
    exact hT h2.symm
theorem grown_otherB {w w' : World} {B k : Nat} {cs : Array Value} {T : TypeId} {z : Nat × Nat} (hB : w.heap[B]? = some (.cells #[] 41 (0, 0))) (hg : w.grownBy w' (some B)) (h : w.heap[k]? = some (.cells cs T z)) (hT : T ≠ 41) : w'.heap[k]? = some (.cells cs T z) := by
  have hlt := (Array.getElem?_eq_some_iff.1 h).1
  refine (hg.block k hlt ?_).trans h
  intro e
  injection e with e
  subst e
  rw [hB] at h
  injection h with h
  injection h with _ h2 _
  exact hT h2.symm
theorem grown_at {w w' : World} {row : Option Nat} {k : Nat} {o : Obj} (hg : w.grownBy w' row) (h : w.heap[k]? = some o) (hne : some k ≠ row) : w'.heap[k]? = some o :=
  (hg.block k (Array.getElem?_eq_some_iff.1 h).1 hne).trans h
theorem blk_at (w : World) (o : Obj) (b : Nat) (hb : b = w.heap.size) : (w.alloc o).heap[b]? = some o := hb ▸ Deep.blk_alloc_new _ _
theorem blk_past (w : World) (o x : Obj) (b : Nat) (hb : b < w.heap.size) (h : w.heap[b]? = some x) : (w.alloc o).heap[b]? = some x := (Below.heap_alloc _ _ _ hb).trans h

/-- k boxes of nothing behind the headers xs. -/
def BoxRow (wN wr : World) (a : Option Addr) (c n k : Nat) (xs : List Value) : Prop :=
  ∃ ys : List Value, wr.ownsRow wN.heap.size 41 1 (.slice a (n + k) c) (n + k) (xs ++ ys) ∧ ys.length = k ∧ ∀ i, i < k → ∃ b, ys[i]? = some (.slice (some ⟨b, 0, none⟩) 1 1) ∧ wN.heap.size ≤ b ∧ wr.heap[b]? = some (.cells #[.int .i64 1, .int .i64 (-1), .bool false, .slice none 0 0] 28 (0, 0))
theorem BoxRow.step {wN wr w6 : World} {a : Option Addr} {c n k g6 c6 : Nat} {xs ys : List Value} (h : wr.ownsRow wN.heap.size 41 1 (.slice a (n + k) c) (n + k) (xs ++ ys)) (hl : ys.length = k)
    (hy : ∀ i, i < k → ∃ b, ys[i]? = some (.slice (some ⟨b, 0, none⟩) 1 1) ∧ wN.heap.size ≤ b ∧ wr.heap[b]? = some (.cells #[.int .i64 1, .int .i64 (-1), .bool false, .slice none 0 0] 28 (0, 0))) (hs : wN.heap.size ≤ wr.heap.size)
    (ho : w6.ownsRow wN.heap.size 41 1 (.slice (some ⟨g6, 0, none⟩) (n + k + 1) c6) (n + k + 1) ((xs ++ ys) ++ [.slice (some ⟨wr.heap.size, 0, none⟩) 1 1])) {o : Obj}
    (hg : ((wr.alloc (.cells #[.int .i64 1, .int .i64 (-1), .bool false, .slice none 0 0] 28)).alloc o).grownBy w6 (Value.slice a (n + k) c).ownBlock) : BoxRow wN w6 (some ⟨g6, 0, none⟩) c6 n (k + 1) xs := by
  have ho' : (((wr.alloc (.cells #[.int .i64 1, .int .i64 (-1), .bool false, .slice none 0 0] 28)).alloc o)).ownsRow wN.heap.size 41 1 (.slice a (n + k) c) (n + k) (xs ++ ys) := (h.alloc _).alloc _
  refine ⟨ys ++ [.slice (some ⟨wr.heap.size, 0, none⟩) 1 1], by rw [← List.append_assoc]; exact ho, by simp [hl], fun i hi => ?_⟩
  by_cases e : i < k
  · obtain ⟨b, h1, h2, h3⟩ := hy i e
    have hb : b < wr.heap.size := (Array.getElem?_eq_some_iff.1 h3).1
    exact ⟨b, by rw [List.getElem?_append_left (by omega)]; exact h1, h2, grown_other ho' hg (blk_past _ _ _ _ (by simp; omega) (blk_past _ _ _ _ hb h3)) (by decide)⟩
  · have : i = k := by omega
    subst this
    exact ⟨wr.heap.size, by simp [← hl], hs, grown_other ho' hg (blk_past _ _ _ _ (by simp) (blk_at _ _ _ rfl)) (by decide)⟩
theorem BoxRow.gs {w0 wN wr : World} {ga gc hi : Nat} {a : Option Addr} {c k : Nat} {gs : List (List Ty)} {xs : List Value} {T : Ty} (hT : T = ⟨1, -1, false, []⟩) (G : GS w0 wN ga gc gs) (hh : w0.heap.size ≤ hi ∧ hi ≤ wN.heap.size) (hl : xs.length = gs.length)
    (hg : ∀ i, i < gs.length → ∃ ta tc, xs[i]? = some (.slice ta (grAt gs i).length tc) ∧ TypesIn wN w0.heap.size hi ta (grAt gs i)) (hb : Below wN.heap.size wN wr) (h : BoxRow wN wr a c gs.length k xs) (h0 : 0 < gs.length + k) (hk : gs.length + k ≤ 5) :
    ∃ g, a = some ⟨g, 0, none⟩ ∧ GS w0 wr g c (gs ++ List.replicate k [T]) := by
  subst hT
  obtain ⟨ys, ho, hyl, hy⟩ := h
  obtain ⟨g, cap, e, _⟩ := ho.form h0
  injection e with e1 e2 e3
  subst e1 e3
  have e : (gs ++ List.replicate k [(⟨1, -1, false, []⟩ : Ty)]).length = gs.length + k := by simp
  have hat : ∀ i, gs.length ≤ i → i < gs.length + k → grAt (gs ++ List.replicate k [(⟨1, -1, false, []⟩ : Ty)]) i = [⟨1, -1, false, []⟩] := by
    intro i h1 h2
    simp [grAt, List.getD, List.getElem?_append_right h1, show i - gs.length < k by omega]
  have hbel := G.bel.trans (hb.mono G.bel.size)
  refine ⟨g, rfl, by rw [e]; exact owns_cap ho, ?_, pow10_keep G.pow hb, hbel, wr.heap.size, hbel.size, Nat.le_refl _, row_groups e G.bel.size ho fun i hi => ?_⟩
  · refine ⟨by omega, fun i hi => ?_⟩
    by_cases q : i < gs.length
    · rw [grAt_append_left _ _ _ q]; exact G.few.2 i q
    · rw [hat i (by omega) (by omega)]
      refine ⟨by simp, fun j hj => ?_⟩
      have : j = 0 := by simp at hj; omega
      subst this
      simp [tyAt]
  · by_cases q : i < gs.length
    · rw [grAt_append_left _ _ _ q, List.getElem?_append_left (by omega)]
      obtain ⟨ta', tc', h1, h2⟩ := hg i q
      exact ⟨ta', tc', h1, h2.same (.of_below hb hh.2) (Nat.le_refl _) (Nat.le_trans hh.2 hb.size)⟩
    · rw [hat i (by omega) (by omega), List.getElem?_append_right (by omega)]
      obtain ⟨b, h1, h2, h3⟩ := hy (i - xs.length) (by omega)
      exact ⟨_, _, h1, types_one (t := ⟨1, -1, false, []⟩) h3 (Nat.le_trans G.bel.size h2) (Array.getElem?_eq_some_iff.1 h3).1 (.inl rfl)⟩
end Go.Proofs.YtejkebfhiddhmaaDoor
