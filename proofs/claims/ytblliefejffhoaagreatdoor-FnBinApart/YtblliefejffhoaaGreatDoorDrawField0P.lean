/- A field, drawn from bytes. -/
import Derived.Test.YtblliefejffhoaaGreatDoorDrawList
import Derived.Test.YtblliefejffhoaaGreatDoorGenRoot
namespace Go.Proofs.YtblliefejffhoaaGreatDoor
open Go.ChangeShapes Go.WideShapes Go.ChangeAt Go.RowKit
set_option linter.unusedVariables false

theorem Rec.only {w w' : World} {g b : Nat} {T : TypeId} {vs : List Value} (h : Rec w b T vs) (ho : Only g w w') (hb : b ≠ g) : Rec w' b T vs := (ho.block b hb h.lt).trans h
theorem Only.setNew {g : Nat} {a w : World} (h : Only g a w) {b : Nat} (hb : a.heap.size ≤ b) (o : Nat) (v : Value) : Only g a (w.setCell ⟨b, o, Option.none⟩ v) :=
  ⟨h.none.setCell (Nat.zero_le _) v, fun k h1 h2 => (Below.heap_setCell w _ v k (by show k ≠ b; omega)).trans (h.block k h1 h2)⟩
theorem Rd.keep' {w w' : World} {g p : Nat} (h : Rd w g p) (hb : Below (g + 1) w w') : Rd w' g p := by
  obtain ⟨a, m, cap, c0, c1, f1, hm, hx⟩ := h
  have hg : g < g + 1 := Nat.lt_succ_self _
  refine ⟨a, m, cap, ?_, ?_, ?_, hm, ?_⟩
  · rw [hb.cell (p := ⟨g, 0, none⟩) hg]; exact c0
  · rw [hb.cell (p := ⟨g, 1, none⟩) hg]; exact c1
  · rw [hb.frozen (p := ⟨g, 1, none⟩) hg]; exact f1
  · rcases hx with hx | ⟨b, off, rfl, hbg, hx⟩
    · exact .inl hx
    · refine .inr ⟨b, off, rfl, hbg, fun i hi => ?_⟩
      rw [hb.cell (p := ⟨b, off + i, none⟩) (show b < g + 1 by omega)]; exact hx i hi

end Go.Proofs.YtblliefejffhoaaGreatDoor
