/- What all memory texts share: blocks that hold what they held (Same), a block of its own (Own), a struct's block (Rec), make, and lists of what is read. -/
import Derived.Test.YtblliefejffhoaaGreatDoorBase
import Derived.Handy
import Derived.Deep.RegionHeld3
import Derived.Deep.Slices
import Derived.Deep.Strs
namespace Go.Proofs.YtblliefejffhoaaGreatDoor
open Go.ChangeShapes Go.WideShapes Go.ChangeAt Go.RowKit Go.Joins Go.Deep
set_option linter.unusedVariables false

/-- Blocks from lo on and below hi hold what they held. -/
def Same (lo hi : Nat) (w w' : World) : Prop := ∀ k, lo ≤ k → k < hi → w'.heap[k]? = w.heap[k]?

theorem Same.cell {lo hi : Nat} {w w' : World} (h : Same lo hi w w') {b o : Nat} (h1 : lo ≤ b) (h2 : b < hi) : w'.cell? ⟨b, o, none⟩ = w.cell? ⟨b, o, none⟩ :=
  World.cell?_of_block (w := w) (h b h1 h2)
theorem Same.of_below {lo hi B : Nat} {w w' : World} (h : Below B w w') (hB : hi ≤ B) : Same lo hi w w' := fun k _ hk => h.block k (by omega)
theorem Same.sub {lo hi lo' hi' : Nat} {w w' : World} (h : Same lo hi w w') (h1 : lo ≤ lo') (h2 : hi' ≤ hi) : Same lo' hi' w w' := fun k a b => h k (by omega) (by omega)

theorem Same.refl (lo hi : Nat) (w : World) : Same lo hi w w := fun _ _ _ => rfl
theorem Same.trans {lo hi : Nat} {w w' w'' : World} (h : Same lo hi w w') (k : Same lo hi w' w'') : Same lo hi w w'' := fun i a b => (k i a b).trans (h i a b)
theorem Same.set {lo hi : Nat} {w w' : World} (h : Same lo hi w w') {b : Nat} (hb : b < lo ∨ hi ≤ b) (o : Nat) (v : Value) : Same lo hi w (w'.setCell ⟨b, o, none⟩ v) := fun k a c => by
  rw [Below.heap_setCell _ _ _ _ (show k ≠ b by omega)]
  exact h k a c

/-- Block b is so many cells of its own, of type T, none frozen. -/
def Own (w : World) (b n : Nat) (T : TypeId) : Prop := ∃ c, w.heap[b]? = some (.cells c T (0, 0)) ∧ c.size = n
theorem Own.lt {w : World} {b n : Nat} {T : TypeId} (h : Own w b n T) : b < w.heap.size := by
  obtain ⟨c, hb, _⟩ := h
  exact (Array.getElem?_eq_some_iff.1 hb).1
theorem Own.cell {w : World} {b n : Nat} {T : TypeId} (h : Own w b n T) {o : Nat} (ho : o < n) : ∃ v, w.cell? ⟨b, o, none⟩ = some v := by
  obtain ⟨c, hb, hs⟩ := h
  exact ⟨c[o]'(by omega), by simp [World.cell?, hb, hs, ho]⟩
theorem Own.frozen {w : World} {b n : Nat} {T : TypeId} (h : Own w b n T) (o : Nat) : w.frozen? ⟨b, o, none⟩ = false := by
  obtain ⟨c, hb, _⟩ := h
  simp [World.frozen?, hb]
theorem Own.of_block {w w' : World} {b n : Nat} {T : TypeId} (h : Own w b n T) (e : w'.heap[b]? = w.heap[b]?) : Own w' b n T := by
  obtain ⟨c, hb, hs⟩ := h
  exact ⟨c, e.trans hb, hs⟩
theorem Own.below {w w' : World} {b n B : Nat} {T : TypeId} (h : Own w b n T) (hb : Below B w w') (hB : b < B) : Own w' b n T := h.of_block (hb.block b hB)
theorem Own.set {w : World} {b n : Nat} {T : TypeId} (h : Own w b n T) (b' o : Nat) (v : Value) : Own (w.setCell ⟨b', o, none⟩ v) b n T := by
  by_cases e : b = b'
  · obtain ⟨c, hb, hs⟩ := h
    subst e
    refine ⟨c.setIfInBounds o v, ?_, by simpa using hs⟩
    simp [World.setCell, Array.getElem?_modify, hb]
  · exact h.of_block (Below.heap_setCell _ _ _ _ e)
theorem Below.al {B : Nat} {w w' : World} (h : Below B w w') (hB : B ≤ w.heap.size) (o : Obj) : Below B w (w'.alloc o) := h.alloc (Nat.le_trans hB h.size) o

theorem Own.made (w : World) (z : Array Value) (n : Nat) (t : TypeId) : Own (w.alloc (.cells (madeCells z n) t)) w.heap.size n t :=
  ⟨_, Deep.blk_alloc_new _ _, size_madeCells _ _⟩

/-- Block b holds just these values, and may be written. -/
def Rec (w : World) (b : Nat) (T : TypeId) (vs : List Value) : Prop := w.heap[b]? = some (.cells vs.toArray T (0, 0))
theorem Rec.lt {w : World} {b : Nat} {T : TypeId} {vs : List Value} (h : Rec w b T vs) : b < w.heap.size := (Array.getElem?_eq_some_iff.1 h).1
theorem Rec.cell {w : World} {b : Nat} {T : TypeId} {vs : List Value} (h : Rec w b T vs) {o : Nat} {v : Value} (hv : vs[o]? = some v) : w.cell? ⟨b, o, none⟩ = some v := by
  unfold Rec at h
  simp [World.cell?, h, hv]
theorem Rec.frozen {w : World} {b : Nat} {T : TypeId} {vs : List Value} (h : Rec w b T vs) (o : Nat) : w.frozen? ⟨b, o, none⟩ = false := by
  unfold Rec at h
  simp [World.frozen?, h]
theorem Rec.set {w : World} {b : Nat} {T : TypeId} {vs : List Value} (h : Rec w b T vs) (o : Nat) (v : Value) : Rec (w.setCell ⟨b, o, none⟩ v) b T (vs.set o v) := by
  unfold Rec at *
  simp [World.setCell, Array.getElem?_modify, h]
theorem Rec.other {w : World} {b b' : Nat} {T : TypeId} {vs : List Value} (h : Rec w b T vs) (hb : b ≠ b') (o : Nat) (v : Value) : Rec (w.setCell ⟨b', o, none⟩ v) b T vs :=
  (Below.heap_setCell _ _ _ _ hb).trans h
theorem Rec.below {w w' : World} {b B : Nat} {T : TypeId} {vs : List Value} (h : Rec w b T vs) (hb : Below B w w') (hB : b < B) : Rec w' b T vs := (hb.block b hB).trans h
theorem Rec.new (w : World) (T : TypeId) (vs : List Value) : Rec (w.alloc (.cells vs.toArray T)) w.heap.size T vs := Deep.blk_alloc_new _ _
theorem Rec.new' (w : World) (T : TypeId) (vs : List Value) (b : Nat) (hb : b = w.heap.size) : Rec (w.alloc (.cells vs.toArray T)) b T vs := hb ▸ Rec.new w T vs
theorem Rec.alloc {w : World} {b : Nat} {T : TypeId} {vs : List Value} (h : Rec w b T vs) (o : Obj) : Rec (w.alloc o) b T vs := by
  have := ((Below.refl w.heap.size w).alloc (Nat.le_refl _) o).block b h.lt
  exact this.trans h

end Go.Proofs.YtblliefejffhoaaGreatDoor
