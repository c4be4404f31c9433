/- What all memory texts share: blocks that hold what they held (Same), a block of its own (Own), a struct's block (Rec), make, and lists of what is read. -/
import Derived.Test.YtblliefejffhoaaGreatDoorBase
import Derived.Handy
import Derived.Deep.RegionHeld3
import Derived.Deep.Slices
import Derived.Deep.Strs
namespace Go.Proofs.YtblliefejffhoaaGreatDoor
open Go.ChangeShapes Go.WideShapes Go.ChangeAt Go.RowKit Go.Joins Go.Deep
set_option linter.unusedVariables false

/-- Blocks from lo on and below hi hold what they held. -/
def Same (lo hi : Nat) (w w' : World) : Prop := ∀ k, lo ≤ k → k < hi → w'.heap[k]? = w.heap[k]?

theorem Same.cell {lo hi : Nat} {w w' : World} (h : Same lo hi w w') {b o : Nat} (h1 : lo ≤ b) (h2 : b < hi) : w'.cell? ⟨b, o, none⟩ = w.cell? ⟨b, o, none⟩ :=
  World.cell?_of_block (w := w) (h b h1 h2)
theorem Same.of_below {lo hi B : Nat} {w w' : World} (h : Below B w w') (hB : hi ≤ B) : Same lo hi w w' := fun k _ hk => h.block k (by omega)
theorem Same.sub {lo hi lo' hi' : Nat} {w w' : World} (h : Same lo hi w w') (h1 : lo ≤ lo') (h2 : hi' ≤ hi) : Same lo' hi' w w' := fun k a b => h k (by omega) (by omega)

theorem Same.refl (lo hi : Nat) (w : World) : Same lo hi w w := fun _ _ _ => rfl
theorem Same.trans {lo hi : Nat} {w w' w'' : World} (h : Same lo hi w w') (k : Same lo hi w' w'') : Same lo hi w w'' := fun i a b => (k i a b).trans (h i a b)
theorem Same.set {lo hi : Nat} {w w' : World} (h : Same lo hi w w') {b : Nat} (hb : b < lo ∨ hi ≤ b) (o : Nat) (v : Value) : Same lo hi w (w'.setCell ⟨b, o, none⟩ v) := fun k a c => by
  rw [Below.heap_setCell _ _ _ _ (show k ≠ b by omega)]
  exact h k a c

/-- make of so many elements of whatever size. -/
theorem run_make_any {P : Program} (t e : TypeId) (z : Value) (size bytes : Nat) (ht : P.underlying t = some (.slice e)) (hinfo : (P.info? e).map (fun i => (i.zero, i.size, i.bytes)) = some (some z, size, bytes))
    (n : Nat) (hbytes : bytes * n ≤ 281474976710656) (h63 : n ≤ 9223372036854775807) (w : World) :
    (Instr.makeSlice t (.int .i64 (n : Int)) (.int .i64 (n : Int))).run P w = .ok (.slice (some ⟨w.heap.size, 0, none⟩) n n) (w.alloc (.cells (madeCells z.cells (n * size)) e)) := by
  obtain ⟨i, hi, hzz⟩ := Option.map_eq_some_iff.1 hinfo
  simp only [Prod.mk.injEq] at hzz
  obtain ⟨hz, hs, hb⟩ := hzz
  have hb' : (i.bytes : Int) * (n : Int) ≤ 281474976710656 := by
    rw [hb]
    have h : ((bytes * n : Nat) : Int) ≤ 281474976710656 := by omega
    rwa [Int.natCast_mul] at h
  have hr := run_make (P := P) w t e i z ht hi hz .i64 .i64 n n (by omega) (Int.le_refl _) hb' (by omega)
  simp only [Int.toNat_natCast, hs] at hr
  exact hr

/-- Block b is so many cells of its own, of type T, none frozen. -/
def Own (w : World) (b n : Nat) (T : TypeId) : Prop := ∃ c, w.heap[b]? = some (.cells c T (0, 0)) ∧ c.size = n
theorem Own.lt {w : World} {b n : Nat} {T : TypeId} (h : Own w b n T) : b < w.heap.size := by
  obtain ⟨c, hb, _⟩ := h
  exact (Array.getElem?_eq_some_iff.1 hb).1
theorem Own.cell {w : World} {b n : Nat} {T : TypeId} (h : Own w b n T) {o : Nat} (ho : o < n) : ∃ v, w.cell? ⟨b, o, none⟩ = some v := by
  obtain ⟨c, hb, hs⟩ := h
  exact ⟨c[o]'(by omega), by simp [World.cell?, hb, hs, ho]⟩
theorem Own.frozen {w : World} {b n : Nat} {T : TypeId} (h : Own w b n T) (o : Nat) : w.frozen? ⟨b, o, none⟩ = false := by
  obtain ⟨c, hb, _⟩ := h
  simp [World.frozen?, hb]
theorem Own.of_block {w w' : World} {b n : Nat} {T : TypeId} (h : Own w b n T) (e : w'.heap[b]? = w.heap[b]?) : Own w' b n T := by
  obtain ⟨c, hb, hs⟩ := h
  exact ⟨c, e.trans hb, hs⟩
theorem Own.below {w w' : World} {b n B : Nat} {T : TypeId} (h : Own w b n T) (hb : Below B w w') (hB : b < B) : Own w' b n T := h.of_block (hb.block b hB)
theorem Own.set {w : World} {b n : Nat} {T : TypeId} (h : Own w b n T) (b' o : Nat) (v : Value) : Own (w.setCell ⟨b', o, none⟩ v) b n T := by
  by_cases e : b = b'
  · obtain ⟨c, hb, hs⟩ := h
    subst e
    refine ⟨c.setIfInBounds o v, ?_, by simpa using hs⟩
    simp [World.setCell, Array.getElem?_modify, hb]
  · exact h.of_block (Below.heap_setCell _ _ _ _ e)
theorem Own.cell_set {w : World} {b n : Nat} {T : TypeId} (h : Own w b n T) {o : Nat} (ho : o < n) (v : Value) (o' : Nat) : (w.setCell ⟨b, o, none⟩ v).cell? ⟨b, o', none⟩ = if o' = o then some v else w.cell? ⟨b, o', none⟩ := by
  obtain ⟨c, hb, hs⟩ := h
  have e : (w.setCell ⟨b, o, none⟩ v).heap[b]? = some (.cells (c.setIfInBounds o v) T (0, 0)) := by
    simp [World.setCell, Array.getElem?_modify, hb]
  simp only [World.cell?, e, hb]
  simp only [Option.isSome_none, Bool.false_eq_true, if_false]
  rw [Array.getElem?_setIfInBounds]
  by_cases e1 : o' = o
  · subst e1; simp [hs, ho]
  · rw [if_neg (fun h => e1 h.symm), if_neg e1]

theorem Below.al {B : Nat} {w w' : World} (h : Below B w w') (hB : B ≤ w.heap.size) (o : Obj) : Below B w (w'.alloc o) := h.alloc (Nat.le_trans hB h.size) o

theorem Own.made (w : World) (z : Array Value) (n : Nat) (t : TypeId) : Own (w.alloc (.cells (madeCells z n) t)) w.heap.size n t :=
  ⟨_, Deep.blk_alloc_new _ _, size_madeCells _ _⟩

/-- Block b holds just these values, and may be written. -/
def Rec (w : World) (b : Nat) (T : TypeId) (vs : List Value) : Prop := w.heap[b]? = some (.cells vs.toArray T (0, 0))
theorem Rec.lt {w : World} {b : Nat} {T : TypeId} {vs : List Value} (h : Rec w b T vs) : b < w.heap.size := (Array.getElem?_eq_some_iff.1 h).1
theorem Rec.cell {w : World} {b : Nat} {T : TypeId} {vs : List Value} (h : Rec w b T vs) {o : Nat} {v : Value} (hv : vs[o]? = some v) : w.cell? ⟨b, o, none⟩ = some v := by
  unfold Rec at h
  simp [World.cell?, h, hv]
theorem Rec.frozen {w : World} {b : Nat} {T : TypeId} {vs : List Value} (h : Rec w b T vs) (o : Nat) : w.frozen? ⟨b, o, none⟩ = false := by
  unfold Rec at h
  simp [World.frozen?, h]
theorem Rec.set {w : World} {b : Nat} {T : TypeId} {vs : List Value} (h : Rec w b T vs) (o : Nat) (v : Value) : Rec (w.setCell ⟨b, o, none⟩ v) b T (vs.set o v) := by
  unfold Rec at *
  simp [World.setCell, Array.getElem?_modify, h]
theorem Rec.other {w : World} {b b' : Nat} {T : TypeId} {vs : List Value} (h : Rec w b T vs) (hb : b ≠ b') (o : Nat) (v : Value) : Rec (w.setCell ⟨b', o, none⟩ v) b T vs :=
  (Below.heap_setCell _ _ _ _ hb).trans h
theorem Rec.below {w w' : World} {b B : Nat} {T : TypeId} {vs : List Value} (h : Rec w b T vs) (hb : Below B w w') (hB : b < B) : Rec w' b T vs := (hb.block b hB).trans h
theorem Rec.new (w : World) (T : TypeId) (vs : List Value) : Rec (w.alloc (.cells vs.toArray T)) w.heap.size T vs := Deep.blk_alloc_new _ _
theorem Rec.new' (w : World) (T : TypeId) (vs : List Value) (b : Nat) (hb : b = w.heap.size) : Rec (w.alloc (.cells vs.toArray T)) b T vs := hb ▸ Rec.new w T vs
theorem Rec.alloc {w : World} {b : Nat} {T : TypeId} {vs : List Value} (h : Rec w b T vs) (o : Obj) : Rec (w.alloc o) b T vs := by
  have := ((Below.refl w.heap.size w).alloc (Nat.le_refl _) o).block b h.lt
  exact this.trans h

theorem list_of {α : Type} (d : α) {n : Nat} {p : Nat → α → Prop} (h : ∀ i, i < n → ∃ x, p i x) : ∃ l : List α, l.length = n ∧ ∀ i, i < n → p i (l.getD i d) := by
  induction n with
  | zero => exact ⟨[], rfl, fun i hi => absurd hi (Nat.not_lt_zero _)⟩
  | succ n ih =>
    obtain ⟨l, hl, hp⟩ := ih (fun i hi => h i (by omega))
    obtain ⟨x, hx⟩ := h n (by omega)
    refine ⟨l ++ [x], by simp [hl], fun i hi => ?_⟩
    by_cases e : i = n
    · subst e
      simpa [List.getD, ← hl] using hx
    · have := hp i (by omega)
      simpa [List.getD, List.getElem?_append_left (show i < l.length by omega)] using this

theorem add_none {w : World} {b off : Nat} {spot : Option Nat} {k : Nat} {v : Value} (h : w.cell? ((⟨b, off, spot⟩ : Addr).add k) = some v) (h0 : spot = none) : w.cell? ⟨b, off + k, none⟩ = some v := by
  subst h0
  rwa [add_plain] at h

theorem head_plain {w : World} {base b off n k : Nat} {spot : Option Nat} {cs : List Value} (h : w.cells? base ((⟨b, off, spot⟩ : Addr).add (0 * k)) n = some cs) (hn : 0 < n) : spot = none ∧ b < w.heap.size := by
  obtain ⟨_, hlen, hcell⟩ := World.cells?_some h
  have e := hcell 0 hn
  have e' : w.cell? ⟨b, off, spot⟩ = some (cs[0]'(by omega)) := by
    rw [List.getElem?_eq_getElem (by omega)] at e
    simpa [Addr.add] using e
  exact ⟨by simpa using World.cell?_spot e', cell_lt e'⟩
end Go.Proofs.YtblliefejffhoaaGreatDoor
