/- A number of a list that was written out just now, drawn. -/
import Derived.Test.YtblliefejffhoaaGreatDoorDraw2
namespace Go.Proofs.YtblliefejffhoaaGreatDoor
open Go.ChangeShapes Go.WideShapes Go.ChangeAt Go.RowKit
set_option linter.unusedVariables false

theorem cells_list (w : World) (l : List Int) (T : TypeId) (i : Nat) (hi : i < l.length) : (w.alloc (.cells (l.map (Value.int .i64)).toArray T)).cell? ⟨w.heap.size, i, none⟩ = some (.int .i64 (nAt l i)) := by
  simp [nAt, hi]

theorem Rd.alloc {w : World} {g p : Nat} (h : Rd w g p) (o : Obj) : Rd (w.alloc o) g p := h.keep ((Below.refl _ _).alloc (Nat.le_refl _) o)

/-- A number of a list that was written out just now. -/
theorem num_list (l : List Int) (g p q : Nat) (w : World) (T : TypeId) (hq : q = w.heap.size) (hp : p < 1000000) (h : Rd w g p) (h0 : 0 < l.length) (hl : l.length < 1000000) :
    Calls Tryz.prog 105 #[.pointer (some ⟨g, 0, none⟩), .slice (some ⟨q, 0, none⟩) l.length l.length] (w.alloc (.cells (l.map (Value.int .i64)).toArray T)) fun e w' =>
      ∃ k, k < l.length ∧ e = .returned (.int .i64 (nAt l k)) ∧ Rd w' g (p + 1) ∧ Only g w w' ∧ w'.heap.size = w.heap.size + 1 := by
  subst hq
  refine (num_any g p _ hp (h.alloc _) w.heap.size l.length l.length (nAt l) (Nat.ne_of_gt h.lt) (by simp) h0 hl (fun i hi => cells_list w l T i hi)).mono ?_
  rintro e w' ⟨k, hk, rfl, hr, ho, hs⟩
  exact ⟨k, hk, rfl, hr, ((Only.refl g w).alloc _).trans ho, by rw [hs]; simp⟩

end Go.Proofs.YtblliefejffhoaaGreatDoor
