/- l1Copy of the model: a type in new memory. -/
import Derived.Test.YtblliefejffhoaaGreatDoorCopy
import Derived.Deep.RegionHeld3
import Derived.Deep.RegionLaw
namespace Go.Proofs.YtblliefejffhoaaGreatDoor
open Go.ChangeShapes Go.WideShapes Go.ChangeAt Go.RowKit
set_option linter.unusedVariables false

theorem Same.frozen {lo hi : Nat} {w w' : World} (h : Same lo hi w w') {b o : Nat} (h1 : lo ≤ b) (h2 : b < hi) : w'.frozen? ⟨b, o, none⟩ = w.frozen? ⟨b, o, none⟩ :=
  World.frozen?_of_block (w := w) (a := ⟨b, o, none⟩) (h b h1 h2)

theorem copy_world (w : World) (cs zs : Array Value) (t t' e : TypeId) (w1 : World) (hb : Below ((((w.alloc (.cells cs t)).alloc (.cells zs t')).alloc (.cells #[] e)).drew).heap.size ((((w.alloc (.cells cs t)).alloc (.cells zs t')).alloc (.cells #[] e)).drew) w1) :
    (∀ i, w1.cell? ⟨w.heap.size, i, none⟩ = cs[i]?) ∧ (∀ i, w1.cell? ⟨w.heap.size + 1, i, none⟩ = zs[i]?) ∧ (∀ i, w1.frozen? ⟨w.heap.size + 1, i, none⟩ = false) ∧ w.heap.size + 1 + 1 < w1.heap.size := by
  have hs := hb.size
  simp at hs
  have s1 : (w.alloc (.cells cs t)).heap.size = w.heap.size + 1 := by simp
  have s2 : ((w.alloc (.cells cs t)).alloc (.cells zs t')).heap.size = w.heap.size + 1 + 1 := by simp
  have s3 : ((((w.alloc (.cells cs t)).alloc (.cells zs t')).alloc (.cells #[] e)).drew).heap.size = w.heap.size + 1 + 1 + 1 := by simp
  have b0 : w1.heap[w.heap.size]? = some (.cells cs t (0, 0)) := by
    rw [hb.block _ (by omega)]
    show (((w.alloc (.cells cs t)).alloc (.cells zs t')).alloc (.cells #[] e)).heap[w.heap.size]? = _
    rw [Below.heap_alloc _ _ _ (by omega), Below.heap_alloc _ _ _ (by omega), Deep.blk_alloc_new]
  have b1 : w1.heap[w.heap.size + 1]? = some (.cells zs t' (0, 0)) := by
    rw [hb.block _ (by omega)]
    show (((w.alloc (.cells cs t)).alloc (.cells zs t')).alloc (.cells #[] e)).heap[w.heap.size + 1]? = _
    rw [Below.heap_alloc _ _ _ (by omega)]
    have := Deep.blk_alloc_new (w.alloc (.cells cs t)) (.cells zs t')
    rwa [s1] at this
  refine ⟨fun i => ?_, fun i => ?_, fun i => ?_, by omega⟩
  · simp only [World.cell?, b0]; simp
  · simp only [World.cell?, b1]; simp
  · simp only [World.frozen?, b1]; simp

end Go.Proofs.YtblliefejffhoaaGreatDoor
