/- A program that lies in memory, with one part more. -/
import Derived.Test.YtblliefejffhoaaGreatDoorPbS
import Derived.Test.YtblliefejffhoaaGreatDoorPbRow
namespace Go.Proofs.YtblliefejffhoaaGreatDoor
open Go.ChangeShapes Go.WideShapes Go.ChangeAt Go.RowKit Go.Deep
set_option linter.unusedVariables false

theorem PS.moreGlob {w0 w1 W : World} {a0 a1 a2 ga : Option Addr} {c0 c2 cap S : Nat} {ts : List (List Ty)} {gl : List Fd} {fs : List GFun} {f : Fd} (h : PS w0 w1 a0 a1 a2 c0 c2 ⟨ts, gl, fs⟩) (hb : Below w1.heap.size w1 W)
    (ho : W.ownsRow S 33 3 (.slice ga (gl.length + 1) cap) (gl.length + 1) (fcells gl ++ [.int .i64 f.kind, .int .i64 f.of, .bool f.mt])) (hS : w0.heap.size ≤ S) (hn : gl.length < 1048576) : PS w0 W a0 ga a2 c0 c2 ⟨ts, gl ++ [f], fs⟩ := by
  have hk := h.keep hb
  have e : (gl ++ [f]).length = gl.length + 1 := by simp
  have hr : FdRow W S (.slice ga (gl ++ [f]).length cap) (gl ++ [f]) := by
    unfold FdRow
    rw [fcells_snoc, e]
    exact ho
  exact ⟨⟨hk.pm.1, (FdRow.own hr).plain.wide hS (Nat.le_refl _), hk.pm.2.2⟩, ⟨h.pb.1, by show _ ≤ _; rw [e]; omega, h.pb.2.2⟩, h.hc, h.hf, hk.bel⟩
theorem FunL.snoc {w : World} {lo hi : Nat} {zs ys : List Value} {f : GFun} {fs : List GFun} (h : FunL w lo hi ys fs) (hz : FunC w lo hi zs 0 f) (hl : zs.length = 6) : FunL w lo hi (ys ++ zs) (fs ++ [f]) := by
  have hy := h.1
  refine ⟨by simp; omega, fun i hi => ?_⟩
  by_cases e : i < fs.length
  · rw [funAt_snoc_left _ _ _ e]
    exact (h.2 i e).move fun k hk => by rw [List.getElem?_append_left (by omega)]
  · have : i = fs.length := by simp at hi; omega
    subst this
    rw [funAt_snoc_last]
    exact hz.move fun k hk => by rw [List.getElem?_append_right (by omega)]; exact congrArg (fun j => zs[j]?) (by omega)
theorem PS.moreFuns {w0 w1 W : World} {a0 a1 a2 ga : Option Addr} {c0 c2 cap S : Nat} {ts : List (List Ty)} {gl : List Fd} {fs : List GFun} {f : GFun} {ys zs : List Value} (h : PS w0 w1 a0 a1 a2 c0 c2 ⟨ts, gl, fs⟩) (hb : Below w1.heap.size w1 W)
    (hL : FunL W w0.heap.size W.heap.size ys fs) (hz : FunC W w0.heap.size W.heap.size zs 0 f) (hl : zs.length = 6) (ho : W.ownsRow S 36 6 (.slice ga (fs.length + 1) cap) (fs.length + 1) (ys ++ zs)) (hS : w0.heap.size ≤ S) (hn : fs.length < 1048576) (hf : FunB 1048576 f) : PS w0 W a0 a1 ga c0 cap ⟨ts, gl, fs ++ [f]⟩ := by
  have hk := h.keep hb
  have e : (fs ++ [f]).length = fs.length + 1 := by simp
  refine ⟨⟨hk.pm.1, hk.pm.2.1, (hL.snoc hz hl).funs (S := S) (by rw [e]; exact ho) hS⟩, ⟨h.pb.1, h.pb.2.1, by rw [e]; omega, fun i hi => ?_⟩, h.hc, by rw [e]; exact owns_cap ho, hk.bel⟩
  by_cases q : i < fs.length
  · show FunB _ (funAt' (fs ++ [f]) i)
    rw [funAt_snoc_left _ _ _ q]; exact h.pb.2.2.2 i q
  · have : i = fs.length := by simp at hi; omega
    subst this
    show FunB _ (funAt' (fs ++ [f]) fs.length)
    rw [funAt_snoc_last]; exact hf
/-- The cells of groups that lie in memory. -/
theorem groups_cells {w : World} {lo hi : Nat} {a : Option Addr} {gs : List (List Ty)} (h : GroupsIn w lo hi a gs) (hh : hi ≤ w.heap.size) : ∃ ys, ys.length = gs.length ∧ CellsAt w a gs.length ys ∧ (∀ u ∈ ys, u.oneCell' = true) ∧ ∀ i, i < gs.length → ∃ ta tc, ys[i]? = some (.slice ta (grAt gs i).length tc) ∧ TypesIn w lo hi ta (grAt gs i) := by
  rcases h with rfl | ⟨b, off, rfl, h1, h2, h3⟩
  · exact ⟨[], rfl, .inl rfl, fun u hu => (by cases hu), fun i hi => absurd hi (Nat.not_lt_zero _)⟩
  have hg : ∀ j, j < gs.length → ((List.range gs.length).map fun j => (w.cell? ⟨b, off + j, none⟩).getD undef)[j]? = w.cell? ⟨b, off + j, none⟩ := fun j hj => by
    obtain ⟨ta, tc, hc, _⟩ := h3 j hj
    simp [hj, hc]
  refine ⟨(List.range gs.length).map fun j => (w.cell? ⟨b, off + j, none⟩).getD undef, by simp, .inr ⟨b, off, rfl, by omega, fun j u hj => ?_⟩, fun u hu => ?_, fun i hi => ?_⟩
  · have hlt := (List.getElem?_eq_some_iff.1 hj).1
    simp only [List.length_map, List.length_range] at hlt
    rw [hg j hlt] at hj
    exact hj
  · obtain ⟨j, hj, rfl⟩ := List.mem_map.1 hu
    obtain ⟨ta, tc, hc, _⟩ := h3 j (by simpa using hj)
    rw [hc]; rfl
  · obtain ⟨ta, tc, hc, ht⟩ := h3 i hi
    exact ⟨ta, tc, (hg i hi).trans hc, ht⟩
theorem PS.moreTypes {w0 w1 W : World} {a0 a1 a2 ga : Option Addr} {c0 c2 cap S : Nat} {ts : List (List Ty)} {gl : List Fd} {fs : List GFun} {ys : List Value} (h : PS w0 w1 a0 a1 a2 c0 c2 ⟨ts, gl, fs⟩) (hb : Below w1.heap.size w1 W)
    (hy : ∀ i, i < ts.length → ∃ ta tc, ys[i]? = some (.slice ta (grAt ts i).length tc) ∧ TypesIn w1 w0.heap.size w1.heap.size ta (grAt ts i)) (hl : ys.length = ts.length) (ho : W.ownsRow S 42 1 (.slice ga (ts.length + 1) cap) (ts.length + 1) (ys ++ [.slice none 0 0])) (hS : w0.heap.size ≤ S) (hn : ts.length < 1048576) : PS w0 W ga a1 a2 cap c2 ⟨ts ++ [[]], gl, fs⟩ := by
  have hk := h.keep hb
  have e : (ts ++ [([] : List Ty)]).length = ts.length + 1 := by simp
  have hG : GroupsIn W w0.heap.size W.heap.size ga (ts ++ [[]]) := by
    rcases owns_cells ho with h0 | ⟨g, rfl, hS', hlt, hc⟩
    · omega
    · refine .inr ⟨g, 0, rfl, by omega, hlt, fun i hi => ?_⟩
      rw [e] at hi
      by_cases q : i < ts.length
      · obtain ⟨ta, tc, hx, ht⟩ := hy i q
        rw [grAt_append_left _ _ _ q]
        exact ⟨ta, tc, by rw [Nat.zero_add, hc i (by omega), List.getElem?_append_left (by omega)]; exact hx, ht.same (.of_below hb (Nat.le_refl _)) (Nat.le_refl _) hb.size⟩
      · have : i = ts.length := by omega
        subst this
        rw [grAt_append_one]
        exact ⟨none, 0, by rw [Nat.zero_add, hc ts.length (by omega), List.getElem?_append_right (by omega), hl]; simp, .inl rfl⟩
  refine ⟨⟨⟨hG, fun e => (by cases e)⟩, hk.pm.2.1, hk.pm.2.2⟩, ⟨⟨by show (ts ++ [[]]).length ≤ _; rw [e]; omega, fun i hi => ?_⟩, h.pb.2⟩, by show (ts ++ [[]]).length ≤ _; rw [e]; exact owns_cap ho, h.hf, hk.bel⟩
  by_cases q : i < ts.length
  · show (grAt (ts ++ [[]]) i).length ≤ _ ∧ _
    rw [grAt_append_left _ _ _ q]; exact h.pb.1.2 i q
  · have : i = ts.length := by have hi' : i < (ts ++ [[]]).length := hi; rw [e] at hi'; omega
    subst this
    show (grAt (ts ++ [[]]) ts.length).length ≤ _ ∧ _
    rw [grAt_append_one]
    exact ⟨Nat.zero_le _, fun j hj => absurd hj (Nat.not_lt_zero _)⟩
end Go.Proofs.YtblliefejffhoaaGreatDoor
