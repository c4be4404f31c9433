/- The laws of InsHas, InsOk and InsLeaves, walked. -/
import Derived.Test.YthnccdmkhllibaaInsOk2
namespace Go.Proofs.Ythnccdmkhllibaa
open Go.ChangeShapes Go.WideShapes Go.ChangeAt Go.RowKit
set_option linter.unusedVariables false

set_option maxHeartbeats 400000 in
theorem fnExactInsHas_walk (op : Int) (_ : (Lit.int .i64 op).wf = true) (w : World) :
    Calls Try.prog 6 #[.int .i64 op] w fun e w' => e = .returned (.bool true) ∧ Below w.heap.size w w' := by
  go_enter Try.func6, Try.ntmps6
  go_wp2_with fail
  refine (specInsHas_any _ _).mono ?_
  rintro e w1 ⟨rfl, rfl⟩
  go_wp2_with fail
  refine (implInsHas_any _ _).mono ?_
  rintro e w2 ⟨rfl, hb2⟩
  go_wp2_with fail
  go_ret
  exact ⟨rfl, hb2⟩

set_option maxHeartbeats 400000 in
theorem fnExactInsOk_walk (k o m : Int) (_ : (Lit.int .i64 k).wf = true) (_ : (Lit.int .i64 o).wf = true) (_ : (Lit.int .i64 m).wf = true) (w : World) :
    Calls Try.prog 7 #[.agg #[.int .i64 k, .int .i64 o, .int .i64 m]] w fun e w' => e = .returned (.bool true) ∧ Below w.heap.size w w' := by
  go_enter Try.func7, Try.ntmps7
  go_wp2_with fail
  refine (toIns_any _ _ _ _).mono ?_
  rintro e w1 ⟨rfl, hb1⟩
  obtain ⟨hc1, hf1⟩ := bcell hb1
  have hz1 := hb1.size
  simp at hc1 hf1 hz1
  go_wp2_with fail
  refine (specInsOk_any _ _ _ _).mono ?_
  rintro e w2 ⟨rfl, hb2⟩
  obtain ⟨hc2, hf2⟩ := bcell hb2
  have hz2 := hb2.size
  have hc : ∀ i, w2.cell? ⟨w.heap.size, i, none⟩ = #[Value.int IntKind.i64 k, Value.int IntKind.i64 o, Value.int IntKind.i64 m][i]? := by
    intro i
    rw [hc2 _ _ (by omega), hc1 _ _ (by omega)]
    simp
  clear hc1 hf1 hc2 hf2
  have c0 := hc 0
  have c1 := hc 1
  have c2 := hc 2
  simp at c0 c1 c2
  go_wp2_with fail
  refine (toIns_any _ _ _ _).mono ?_
  rintro e w3 ⟨rfl, hb3⟩
  go_wp2_with fail
  refine (implInsOk_any _ _ _ _).mono ?_
  rintro e w4 ⟨rfl, hb4⟩
  go_wp2_with fail
  go_ret
  refine ⟨rfl, ?_⟩
  have h1 : Below w.heap.size w w1 := ((Below.refl _ _).alloc (Nat.le_refl _) _).trans (hb1.mono (by simp))
  have h2 := h1.trans (hb2.mono (by omega))
  have h3 := h2.trans (hb3.mono (by omega))
  exact h3.trans (hb4.mono (by have := hb3.size; omega))

set_option maxHeartbeats 400000 in
theorem fnExactInsLeaves_walk (k o m : Int) (_ : (Lit.int .i64 k).wf = true) (_ : (Lit.int .i64 o).wf = true) (_ : (Lit.int .i64 m).wf = true) (w : World) :
    Calls Try.prog 8 #[.agg #[.int .i64 k, .int .i64 o, .int .i64 m]] w fun e w' => e = .returned (.bool true) ∧ Below w.heap.size w w' := by
  go_enter Try.func8, Try.ntmps8
  go_wp2_with fail
  refine (toIns_any _ _ _ _).mono ?_
  rintro e w1 ⟨rfl, hb1⟩
  obtain ⟨hc1, hf1⟩ := bcell hb1
  have hz1 := hb1.size
  simp at hc1 hf1 hz1
  go_wp2_with fail
  refine (specInsLeaves_any _ _ _ _).mono ?_
  rintro e w2 ⟨rfl, hb2⟩
  obtain ⟨hc2, hf2⟩ := bcell hb2
  have hz2 := hb2.size
  have hc : ∀ i, w2.cell? ⟨w.heap.size, i, none⟩ = #[Value.int IntKind.i64 k, Value.int IntKind.i64 o, Value.int IntKind.i64 m][i]? := by
    intro i
    rw [hc2 _ _ (by omega), hc1 _ _ (by omega)]
    simp
  clear hc1 hf1 hc2 hf2
  have c0 := hc 0
  have c1 := hc 1
  have c2 := hc 2
  simp at c0 c1 c2
  go_wp2_with fail
  refine (toIns_any _ _ _ _).mono ?_
  rintro e w3 ⟨rfl, hb3⟩
  go_wp2_with fail
  refine (implInsLeaves_any _ _ _ _).mono ?_
  rintro e w4 ⟨rfl, hb4⟩
  go_wp2_with fail
  go_ret
  refine ⟨rfl, ?_⟩
  have h1 : Below w.heap.size w w1 := ((Below.refl _ _).alloc (Nat.le_refl _) _).trans (hb1.mono (by simp))
  have h2 := h1.trans (hb2.mono (by omega))
  have h3 := h2.trans (hb3.mono (by omega))
  exact h3.trans (hb4.mono (by have := hb3.size; omega))
end Go.Proofs.Ythnccdmkhllibaa
