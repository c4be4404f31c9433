/- Rows of the draws' own: fields, types and groups that are grown by append; what is kept of them where other blocks turn. -/
import Derived.Test.YtblliefejffhoaaGreatDoorCopy1
import Derived.Test.YtblliefejffhoaaGreatDoorRowBD
import Derived.Test.YtblliefejffhoaaGreatDoorDrawField0
import Derived.Test.YtblliefejffhoaaGreatDoorSpecF
namespace Go.Proofs.YtblliefejffhoaaGreatDoor
open Go.ChangeShapes Go.WideShapes Go.ChangeAt Go.RowKit Go.Deep
set_option linter.unusedVariables false

theorem fcells_snoc (fs : List Fd) (f : Fd) : fcells (fs ++ [f]) = fcells fs ++ [.int .i64 f.kind, .int .i64 f.of, .bool f.mt] := by
  refine List.ext_getElem? fun j => ?_
  have hl := fcells_length fs
  by_cases h : j < fs.length * 3
  · rw [fcells_get _ _ (by simp; omega), List.getElem?_append_left (by omega), fcells_get _ _ h]
    have : fdAt (fs ++ [f]) (j / 3) = fdAt fs (j / 3) := by
      unfold fdAt
      simp [List.getElem?_append_left (show j / 3 < fs.length by omega)]
    rw [this]
  · by_cases h2 : j < fs.length * 3 + 3
    · rw [fcells_get _ _ (by simp; omega), List.getElem?_append_right (by omega), hl]
      have e : j / 3 = fs.length := by omega
      have : fdAt (fs ++ [f]) (j / 3) = f := by rw [e]; unfold fdAt; simp
      rw [this]
      have hr : j - fs.length * 3 = 0 ∨ j - fs.length * 3 = 1 ∨ j - fs.length * 3 = 2 := by omega
      rcases hr with hr | hr | hr
      · rw [hr, show j % 3 = 0 by omega]; rfl
      · rw [hr, show j % 3 = 1 by omega]; rfl
      · rw [hr, show j % 3 = 2 by omega]; rfl
    · rw [List.getElem?_eq_none_iff.2 (by rw [fcells_length]; simp; omega), List.getElem?_eq_none_iff.2 (by simp [hl]; omega)]

/-- The fields fs lie at a, in a row of the call's own from block S on. -/
def FieldRow (w : World) (S : Nat) (a : Option Addr) (cap : Nat) (fs : List Fd) : Prop := w.ownsRow S 33 3 (.slice a fs.length cap) fs.length (fcells fs)

theorem FieldRow.fields {w : World} {S cap : Nat} {a : Option Addr} {fs : List Fd} (h : FieldRow w S a cap fs) : FieldsIn w S w.heap.size a fs := by
  rcases owns_cells h with h0 | ⟨g, rfl, hS, hlt, hc⟩
  · exact .inl (List.length_eq_zero_iff.1 (by omega))
  · refine .inr ⟨g, 0, rfl, hS, hlt, fieldAt_of fun j hj => ?_⟩
    rw [Nat.zero_add, hc j hj, fcells_get _ _ hj]

theorem fdAt_snoc_left (l : List Fd) (f : Fd) (i : Nat) (h : i < l.length) : fdAt (l ++ [f]) i = fdAt l i := by
  unfold fdAt; simp [List.getElem?_append_left h]
theorem fdAt_snoc_last (l : List Fd) (f : Fd) : fdAt (l ++ [f]) l.length = f := by unfold fdAt; simp
end Go.Proofs.YtblliefejffhoaaGreatDoor
