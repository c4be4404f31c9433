/- The law of FieldText, walked. -/
import Derived.Test.YtaihdacddlafbaaDoorFieldTxt
namespace Go.Proofs.YtaihdacddlafbaaDoor
open Go.ChangeShapes Go.WideShapes Go.ChangeAt Go.RowKit
set_option linter.unusedVariables false

set_option maxHeartbeats 400000 in
theorem fnExactFieldText_walk (k o : Int) (m : Bool) (w : World) (ht : pow10 w) (hw : lettersAt w) :
    Calls Tryd.prog 3 #[.agg #[.int .i64 k, .int .i64 o, .bool m]] w fun e w' => e = .returned (.bool true) ∧ Below w.heap.size w w' := by
  go_enter Tryd.func3, Tryd.ntmps3
  go_wp2_with fail
  refine (toField_any _ _ _ _).mono ?_
  rintro e w1 ⟨rfl, hb1⟩
  obtain ⟨hc1, hf1⟩ := bcell hb1
  have hz1 := hb1.size
  simp at hc1 hf1 hz1
  go_wp2_with fail
  refine (specFieldText_any _ _ _ _).mono ?_
  rintro e w2 ⟨rfl, hb2⟩
  obtain ⟨hc2, hf2⟩ := bcell hb2
  have hz2 := hb2.size
  have hc : ∀ i, w2.cell? ⟨w.heap.size, i, none⟩ = #[Value.int IntKind.i64 k, Value.int IntKind.i64 o, Value.bool m][i]? := by
    intro i
    rw [hc2 _ _ (by omega), hc1 _ _ (by omega)]
    simp
  clear hc1 hf1 hc2 hf2
  have c0 := hc 0
  have c1 := hc 1
  have c2 := hc 2
  simp at c0 c1 c2
  obtain ⟨x, hx⟩ : ∃ x, x = fieldTxt k o m := ⟨_, rfl⟩
  rw [← hx]
  have HX := hide hx
  clear hx hc
  have h1 : Below w.heap.size w w1 := ((Below.refl _ _).alloc (Nat.le_refl _) _).trans (hb1.mono (by simp))
  have h2 := h1.trans (hb2.mono (by omega))
  go_wp2_with fail
  refine (toField_any _ _ _ _).mono ?_
  rintro e w3 ⟨rfl, hb3⟩
  have h3 := h2.trans (hb3.mono (by omega))
  go_wp2_with fail
  refine (implFieldText_any _ _ _ _ (pow10_keep ht h3) (hw.keep h3)).mono ?_
  rintro e w4 ⟨rfl, hb4⟩
  rw [← HX.out]
  go_wp2_with fail
  go_ret
  exact ⟨rfl, h3.trans (hb4.mono h3.size)⟩
end Go.Proofs.YtaihdacddlafbaaDoor
