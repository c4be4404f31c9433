/- KaMore: KinMath3, GsMore. -/
import Derived.Test.YtejkebfhiddhmaaDoorKaCanon
import Derived.Test.YtejkebfhiddhmaaDoorKaRow
import Derived.Test.YtejkebfhiddhmaaDoorKaKinC
import Derived.Test.YtejkebfhiddhmaaDoorKaGs
/- Groups of types with more groups behind them: what is said of the first types is as it was. -/
namespace Go.Proofs.YtejkebfhiddhmaaDoor
set_option linter.unusedVariables false

section
variable {gs hs : List (List Ty)}

theorem countTo_more {x : Nat} (hx : x ≤ gs.length) : countTo (grAt (gs ++ hs)) x = countTo (grAt gs) x :=
  countTo_congr x fun i hi => grAt_append_left _ _ _ (by omega)
theorem beg_more {x : Nat} (hx : x ≤ gs.length) : beg (gs ++ hs) x = beg gs x := countTo_more hx
theorem kinCount_more : kinCount gs ≤ kinCount (gs ++ hs) := by
  have h := countTo_mono (grAt (gs ++ hs)) (show gs.length ≤ (gs ++ hs).length by simp)
  rw [countTo_more (Nat.le_refl _)] at h
  exact h
theorem grp_more {p : Nat} (hp : p < kinCount gs) : grp (gs ++ hs) p = grp gs p := by
  obtain ⟨h1, h2, h3⟩ := grp_spec gs p hp
  obtain ⟨k1, k2, k3⟩ := grp_spec (gs ++ hs) p (Nat.lt_of_lt_of_le hp kinCount_more)
  exact grp_uniq k2 k3 (by rw [countTo_more (by omega)]; exact h2) (by rw [countTo_more (by omega)]; exact h3)
theorem tyN_more {p : Nat} (hp : p < kinCount gs) : tyN (gs ++ hs) p = tyN gs p := by
  have h := grp_spec gs p hp
  unfold tyN
  rw [flat_at hp, flat_at (Nat.lt_of_lt_of_le hp kinCount_more), grp_more hp, grAt_append_left _ _ _ h.1, beg_more (by omega)]
theorem matchF_more {S S' : Nat → Nat → Bool} {a b : Int} {x y : Nat} (hx : x ≤ gs.length) (hy : y ≤ gs.length) (h : ∀ p q, p < kinCount gs → q < kinCount gs → S p q = S' p q) : matchF S (gs ++ hs) a b x y = matchF S' gs a b x y := by
  have e : matchF S (gs ++ hs) a b x y = matchF S gs a b x y := by unfold matchF; rw [beg_more hx, beg_more hy]
  rw [e]
  refine matchF_congr2 fun p q hp hq => h p q ?_ ?_
  · have := countTo_mono (grAt gs) hx; unfold beg at hp; unfold kinCount; omega
  · have := countTo_mono (grAt gs) hy; unfold beg at hq; unfold kinCount; omega
theorem alikeF_more {S S' : Nat → Nat → Bool} {s t : Ty} {x y : Nat} (hx : x ≤ gs.length) (hy : y ≤ gs.length) (h : ∀ p q, p < kinCount gs → q < kinCount gs → S p q = S' p q) : alikeF S (gs ++ hs) s t x y = alikeF S' gs s t x y := by
  unfold alikeF
  rw [matchF_more hx hy h, allTo_congr (p' := fun i => fAlike S' gs (fdAt s.fields i) (fdAt t.fields i) x y) (fun i _ => by unfold fAlike; rw [matchF_more hx hy h])]
theorem sameStep_more {S S' : Nat → Nat → Bool} {p q : Nat} (hp : p < kinCount gs) (hq : q < kinCount gs) (h : ∀ p q, p < kinCount gs → q < kinCount gs → S p q = S' p q) : sameStep S (gs ++ hs) p q = sameStep S' gs p q := by
  have g1 := (grp_spec gs p hp).1
  have g2 := (grp_spec gs q hq).1
  unfold sameStep
  rw [grp_more hp, grp_more hq, beg_more (Nat.le_of_lt g1), beg_more (Nat.le_of_lt g2), grAt_append_left _ _ _ g1, grAt_append_left _ _ _ g2]
  split
  · rfl
  · split
    · rfl
    · exact allTo_congr fun i _ => alikeF_more (Nat.le_of_lt g1) (Nat.le_of_lt g2) h
theorem sameF_more : ∀ f p q, p < kinCount gs → q < kinCount gs → sameF f (gs ++ hs) p q = sameF f gs p q := by
  intro f
  induction f with
  | zero => intro p q _ _; rfl
  | succ f ih => intro p q hp hq; exact sameStep_more hp hq ih
theorem same_more {p q : Nat} (hp : p < kinCount gs) (hq : q < kinCount gs) : same (gs ++ hs) p q = same gs p q := sameF_more _ _ _ hp hq
theorem firstFrom_congr {P Q : Nat → Bool} : ∀ f i, (∀ j, i ≤ j → j < i + f → P j = Q j) → firstFrom P f i = firstFrom Q f i := by
  intro f
  induction f with
  | zero => intro i _; rfl
  | succ f ih =>
    intro i h
    simp only [firstFrom]
    rw [h i (Nat.le_refl _) (by omega), ih (i + 1) (fun j h1 h2 => h j (by omega) (by omega))]
theorem canon_more {p : Nat} (hp : p < kinCount gs) : canon (gs ++ hs) p = canon gs p :=
  firstFrom_congr _ _ fun j _ h2 => same_more (by omega) hp
theorem upSame_more (hP : Parts gs) {q : Nat} (hq : q < kinCount gs) : ∀ f (a : Int), a < (kinCount gs : Int) → upSame (gs ++ hs) q f a = upSame gs q f a := by
  intro f
  induction f with
  | zero => intro a _; rfl
  | succ f ih =>
    intro a ha
    simp only [upSame]
    split
    · rfl
    · rename_i h0
      have hl : a.toNat < kinCount gs := by omega
      have := (parts_flat hP hl).2.1
      rw [same_more hl hq, tyN_more hl, ih _ (by omega)]
theorem under_more (hP : Parts gs) {a b : Int} (ha : a < (kinCount gs : Int)) (hb : b < (kinCount gs : Int)) : under (gs ++ hs) a b = under gs a b := by
  unfold under
  split
  · rfl
  · split
    · rfl
    · exact upSame_more hP (by omega) _ _ ha
theorem sortF_more (hP : Parts gs) {f g : Fd} (hf : f.kind = 1 ∨ f.of < (kinCount gs : Int)) (hg : g.kind = 1 ∨ g.of < (kinCount gs : Int)) : sortF (gs ++ hs) f g = sortF gs f g := by
  unfold sortF
  split
  · rfl
  · rename_i h
    rw [under_more hP (by omega) (by omega)]
theorem fitsF_more (hP : Parts gs) {f g : Fd} (hf : f.kind = 1 ∨ f.of < (kinCount gs : Int)) (hg : g.kind = 1 ∨ g.of < (kinCount gs : Int)) : fitsF (gs ++ hs) f g = fitsF gs f g := by
  unfold fitsF
  rw [sortF_more hP hf hg, sortF_more hP hg hf]
theorem fieldOk_of {k o n : Int} (hn : 0 ≤ n) (h : fieldOk k o n = true) : k = 1 ∨ o < n := by
  unfold fieldOk at h
  split at h
  · left; assumption
  · split at h
    · simp at h; right; omega
    · simp at h
theorem belowF_more (hP : Parts gs) {p q : Nat} (hp : p < kinCount gs) (hq : q < kinCount gs) : belowF (gs ++ hs) (tyN gs p) (tyN gs q) = belowF gs (tyN gs p) (tyN gs q) := by
  unfold belowF
  by_cases hl : (tyN gs q).fields.length ≤ (tyN gs p).fields.length
  · rw [allTo_congr (p' := fun i => fitsF gs (fdAt (tyN gs p).fields i) (fdAt (tyN gs q).fields i)) fun i hi => ?_]
    exact fitsF_more hP (fieldOk_of (by omega) ((parts_flat hP hp).2.2 i (by omega))) (fieldOk_of (by omega) ((parts_flat hP hq).2.2 i hi))
  · simp [hl]
theorem parts_less (hP : Parts (gs ++ hs)) : Parts gs := by
  have hk := kinCount_more (gs := gs) (hs := hs)
  refine ⟨by have := hP.1; simp at this; omega, by have := hP.2.1; omega, fun x hx => ?_⟩
  have h := hP.2.2 x (by simp; omega)
  rw [grAt_append_left _ _ _ hx, countTo_more (by omega)] at h
  exact h
theorem kinOk_iff (gs : List (List Ty)) : kinOkF gs = true ↔ Parts gs ∧ ∀ i, i < kinCount gs → (tyN gs i).up < 0 ∨ belowF gs (tyN gs i) (tyN gs (tyN gs i).up.toNat) = true := by
  unfold kinOkF
  rw [Bool.and_eq_true, partsF_iff, allTo_iff]
  simp
/-- The beginning of right groups is right. -/
theorem kinOk_less (h : kinOkF (gs ++ hs) = true) : kinOkF gs = true := by
  obtain ⟨hP, hb⟩ := (kinOk_iff _).1 h
  have hP' := parts_less hP
  refine (kinOk_iff _).2 ⟨hP', fun i hi => ?_⟩
  have hu := (parts_flat hP' hi).2.1
  have h1 := hb i (Nat.lt_of_lt_of_le hi kinCount_more)
  rw [tyN_more hi] at h1
  rcases h1 with h1 | h1
  · exact .inl h1
  · by_cases h0 : (tyN gs i).up < 0
    · exact .inl h0
    · right
      have hl : (tyN gs i).up.toNat < kinCount gs := by omega
      rw [tyN_more hl, belowF_more hP' hi hl] at h1
      exact h1
/-- A group more, behind right groups. -/
theorem kinOk_snoc {t : List Ty} (h : kinOkF gs = true) (hP : Parts (gs ++ [t])) (hb : ∀ i, i < t.length → (tyAt t i).up < 0 ∨ belowF (gs ++ [t]) (tyAt t i) (tyN (gs ++ [t]) (tyAt t i).up.toNat) = true) : kinOkF (gs ++ [t]) = true := by
  obtain ⟨hP', hb'⟩ := (kinOk_iff _).1 h
  refine (kinOk_iff _).2 ⟨hP, fun i hi => ?_⟩
  by_cases e : i < kinCount gs
  · rw [tyN_more e]
    have hu := (parts_flat hP' e).2.1
    rcases hb' i e with h1 | h1
    · exact .inl h1
    · by_cases h0 : (tyN gs i).up < 0
      · exact .inl h0
      · right
        have hl : (tyN gs i).up.toNat < kinCount gs := by omega
        rw [tyN_more hl, belowF_more hP' e hl]
        exact h1
  · rw [kinCount_snoc] at hi
    have hg : grp (gs ++ [t]) i = gs.length := by
      obtain ⟨k1, k2, k3⟩ := grp_spec (gs ++ [t]) i (by rw [kinCount_snoc]; exact hi)
      refine grp_uniq k2 k3 (by rw [countTo_more (Nat.le_refl _)]; exact Nat.le_of_not_lt e) ?_
      have := kinCount_snoc gs t
      unfold kinCount at this hi e
      simp only [List.length_append, List.length_singleton] at this
      rw [this]; exact hi
    have ht : tyN (gs ++ [t]) i = tyAt t (i - kinCount gs) := by
      unfold tyN
      rw [flat_at (by rw [kinCount_snoc]; exact hi), hg, grAt_append_one, beg_more (Nat.le_refl _)]
      rfl
    rw [ht]
    exact hb _ (by omega)
end
end Go.Proofs.YtejkebfhiddhmaaDoor

/- Groups that were drawn, copied, with a group more behind them. -/
namespace Go.Proofs.YtejkebfhiddhmaaDoor
open Go.ChangeShapes Go.WideShapes Go.ChangeAt Go.RowKit Go.Deep
set_option linter.unusedVariables false

/-- The headers of groups that were drawn. -/
theorem GS.heads {w0 w : World} {ga gc : Nat} {gs : List (List Ty)} (h : GS w0 w ga gc gs) : ∃ (xs : List Value) (hi : Nat), (w0.heap.size ≤ hi ∧ hi ≤ w.heap.size) ∧ xs.length = gs.length ∧ (∀ u ∈ xs, u.oneCell' = true) ∧ (∀ j u, xs[j]? = some u → w.cell? ⟨ga, j, none⟩ = some u) ∧ (0 < gs.length → ga < hi) ∧ ∀ i, i < gs.length → ∃ ta tc, xs[i]? = some (.slice ta (grAt gs i).length tc) ∧ TypesIn w w0.heap.size hi ta (grAt gs i) := by
  obtain ⟨hi, h1, h2, h3⟩ := h.mem
  by_cases h0 : 0 < gs.length
  · obtain ⟨xs, hl, hb, hc, hg⟩ := headers h3 h0
    refine ⟨xs, hi, ⟨h1, h2⟩, hl, fun u hu => ?_, hc, fun _ => hb.2, hg⟩
    obtain ⟨i, hi, rfl⟩ := List.mem_iff_getElem.1 hu
    obtain ⟨ta', tc', e, _⟩ := hg i (by omega)
    rw [List.getElem?_eq_getElem hi] at e
    injection e with e
    rw [e]; rfl
  · exact ⟨[], hi, ⟨h1, h2⟩, by simp; omega, fun u hu => (by cases hu), fun j u hj => (by simp at hj), fun h => absurd h h0, fun i hi => by omega⟩

/-- A group more, in a row of its own. -/
theorem GS.snoc {w0 w w6 : World} {ga gc hi B g6 cap6 n tc : Nat} {ta : Option Addr} {gs : List (List Ty)} {t : List Ty} {xs : List Value} (h : GS w0 w ga gc gs) (hh : w0.heap.size ≤ hi ∧ hi ≤ w.heap.size) (hl : xs.length = gs.length)
    (hg : ∀ i, i < gs.length → ∃ ta tc, xs[i]? = some (.slice ta (grAt gs i).length tc) ∧ TypesIn w w0.heap.size hi ta (grAt gs i)) (hb : Below w.heap.size w w6) (hB : w0.heap.size ≤ B)
    (ho : w6.ownsRow B 41 1 (.slice (some ⟨g6, 0, none⟩) (gs.length + 1) cap6) (gs.length + 1) (xs ++ [.slice ta n tc])) (hn : t.length = n) (ht : TypesIn w6 w0.heap.size w6.heap.size ta t)
    (f1 : gs.length ≤ 1048575) (f2 : t.length ≤ 1048576) (f3 : ∀ j, j < t.length → (tyAt t j).fields.length ≤ 1048576) : GS w0 w6 g6 cap6 (gs ++ [t]) := by
  subst hn
  have e : (gs ++ [t]).length = gs.length + 1 := by simp
  refine ⟨by rw [e]; exact owns_cap ho, ?_, pow10_keep h.pow hb, h.bel.trans (hb.mono h.bel.size), w6.heap.size, (h.bel.trans (hb.mono h.bel.size)).size, Nat.le_refl _, row_groups e hB ho fun i hi => ?_⟩
  · refine ⟨by omega, fun i hi => ?_⟩
    by_cases c : i < gs.length
    · rw [grAt_append_left _ _ _ c]; exact h.few.2 i c
    · have : i = gs.length := by omega
      subst this
      rw [grAt_append_one]; exact ⟨f2, f3⟩
  · by_cases c : i < gs.length
    · rw [grAt_append_left _ _ _ c, List.getElem?_append_left (by omega)]
      obtain ⟨ta', tc', h1, h2⟩ := hg i c
      exact ⟨ta', tc', h1, h2.same (.of_below hb hh.2) (Nat.le_refl _) (Nat.le_trans hh.2 hb.size)⟩
    · have : i = gs.length := by omega
      subst this
      rw [grAt_append_one, ← hl]
      exact ⟨ta, tc, by simp, ht⟩

/-- A cell of a block, by the block. -/
theorem cell_blk {w : World} {b : Nat} {c : Array Value} {T : TypeId} (h : w.heap[b]? = some (.cells c T (0, 0))) (o : Nat) : w.cell? ⟨b, o, none⟩ = c[o]? := cell_of_row w b o c T (0, 0) h
/-- A type of which its block is known. -/
theorem type_blk {w : World} {lo hi b : Nat} {t : Ty} {fa : Option Addr} {fc : Nat} {c : Array Value} {T : TypeId} (h : w.heap[b]? = some (.cells c T (0, 0))) (o : Nat) (c0 : c[o]? = some (.int .i64 t.kind)) (c1 : c[o + 1]? = some (.int .i64 t.up)) (c2 : c[o + 2]? = some (.bool t.last)) (c3 : c[o + 3]? = some (.slice fa t.fields.length fc)) (hf : FieldsIn w lo hi fa t.fields) : TypeAt w lo hi b o t :=
  ⟨by rw [cell_blk h]; exact c0, by rw [cell_blk h]; exact c1, by rw [cell_blk h]; exact c2, fa, fc, by rw [cell_blk h]; exact c3, hf⟩
theorem fields_one {w : World} {lo hi b : Nat} {f : Fd} {T : TypeId} (h : w.heap[b]? = some (.cells #[.int .i64 f.kind, .int .i64 f.of, .bool f.mt] T (0, 0))) (h1 : lo ≤ b) (h2 : b < hi) : FieldsIn w lo hi (some ⟨b, 0, none⟩) [f] :=
  .inr ⟨b, 0, rfl, h1, h2, fun i hi => by
    have : i = 0 := by simp at hi; omega
    subst this
    exact ⟨by rw [cell_blk h]; rfl, by rw [cell_blk h]; rfl, by rw [cell_blk h]; rfl⟩⟩
theorem fields_two {w : World} {lo hi b : Nat} {f g : Fd} {T : TypeId} (h : w.heap[b]? = some (.cells #[.int .i64 f.kind, .int .i64 f.of, .bool f.mt, .int .i64 g.kind, .int .i64 g.of, .bool g.mt] T (0, 0))) (h1 : lo ≤ b) (h2 : b < hi) : FieldsIn w lo hi (some ⟨b, 0, none⟩) [f, g] :=
  .inr ⟨b, 0, rfl, h1, h2, fun i hi => by
    have : i = 0 ∨ i = 1 := by simp at hi; omega
    rcases this with rfl | rfl
    · exact ⟨by rw [cell_blk h]; rfl, by rw [cell_blk h]; rfl, by rw [cell_blk h]; rfl⟩
    · exact ⟨by rw [cell_blk h]; rfl, by rw [cell_blk h]; rfl, by rw [cell_blk h]; rfl⟩⟩
/-- A block that was laid stays, where only a row of elder memory grows. -/
theorem grown_blk {w w' : World} {row : Option Nat} (hg : w.grownBy w' row) {k N : Nat} {o : Obj} (h : w.heap[k]? = some o) (hr : ∀ q, row = some q → q < N) (hk : N ≤ k) : w'.heap[k]? = some o := by
  have hlt := (Array.getElem?_eq_some_iff.1 h).1
  exact (hg.block k hlt (by intro e; have := hr k e.symm; omega)).trans h
end Go.Proofs.YtejkebfhiddhmaaDoor
