/- The laws' marks: they write numbers and bools into memory that they were handed, never a slice, and into no block else. -/
import Derived.Test.YtbalfmlmgbmneaaGenRoot
namespace Go.Proofs.Ytbalfmlmgbmneaa
open Go.ChangeShapes Go.WideShapes Go.ChangeAt Go.RowKit Go.Joins Go.Deep
set_option linter.unusedVariables false

/-- Whether a slice stands at that place of a row of elements of that type. -/
def isSl : Option Value → Bool
  | some (.slice _ _ _) => true
  | _ => false
def SlAt (T : TypeId) (o : Nat) : Prop := ∃ z size bytes, (Try.prog.info? T).map (fun i => (i.zero, i.size, i.bytes)) = some (some z, size, bytes) ∧ isSl z.cells[o % size]? = true
theorem sl_mod (i size q : Nat) (hq : q < size) : (i * size + q) % size = q := by rw [Nat.mul_comm, Nat.mul_add_mod, Nat.mod_eq_of_lt hq]
theorem sl_t {T : TypeId} {z : Value} {size bytes : Nat} (h : (Try.prog.info? T).map (fun i => (i.zero, i.size, i.bytes)) = some (some z, size, bytes)) (i q : Nat) (hq : q < size) (hs : isSl z.cells[q]? = true) : SlAt T (i * size + q) :=
  ⟨z, size, bytes, h, by rw [sl_mod i size q hq]; exact hs⟩
theorem sl_f {T : TypeId} {z : Value} {size bytes : Nat} (h : (Try.prog.info? T).map (fun i => (i.zero, i.size, i.bytes)) = some (some z, size, bytes)) (i q : Nat) (hq : q < size) (hs : isSl z.cells[q]? = false) : ¬ SlAt T (i * size + q) := by
  rintro ⟨z', size', bytes', h', k⟩
  rw [h] at h'
  simp only [Option.some.injEq, Prod.mk.injEq] at h'
  obtain ⟨rfl, rfl, rfl⟩ := h'
  rw [sl_mod i size q hq, hs] at k
  cases k
theorem sl_t0 {T : TypeId} {z : Value} {size bytes : Nat} (h : (Try.prog.info? T).map (fun i => (i.zero, i.size, i.bytes)) = some (some z, size, bytes)) (i : Nat) (hq : 0 < size) (hs : isSl z.cells[0]? = true) : SlAt T (i * size) := sl_t h i 0 hq hs
theorem sl_f0 {T : TypeId} {z : Value} {size bytes : Nat} (h : (Try.prog.info? T).map (fun i => (i.zero, i.size, i.bytes)) = some (some z, size, bytes)) (i : Nat) (hq : 0 < size) (hs : isSl z.cells[0]? = false) : ¬ SlAt T (i * size) := sl_f h i 0 hq hs
theorem sl_t1 {T : TypeId} {z : Value} {bytes : Nat} (h : (Try.prog.info? T).map (fun i => (i.zero, i.size, i.bytes)) = some (some z, 1, bytes)) (i : Nat) (hs : isSl z.cells[0]? = true) : SlAt T i := by
  have := sl_t0 h i (by decide) hs
  rwa [Nat.mul_one] at this
theorem sl_f1 {T : TypeId} {z : Value} {bytes : Nat} (h : (Try.prog.info? T).map (fun i => (i.zero, i.size, i.bytes)) = some (some z, 1, bytes)) (i : Nat) (hs : isSl z.cells[0]? = false) : ¬ SlAt T i := by
  have := sl_f0 h i (by decide) hs
  rwa [Nat.mul_one] at this

/-- Of what was there nothing but what is no slice in blocks from lo on and below hi has turned. -/
structure MarksG (lo hi : Nat) (w w' : World) : Prop where
  os : w'.os = w.os
  tape : w'.tape = w.tape
  output : w'.output = w.output
  size : w.heap.size ≤ w'.heap.size
  out : ∀ b, b < w.heap.size → b < lo ∨ hi ≤ b → w'.heap[b]? = w.heap[b]?
  own : ∀ b m T, Own w b m T → Own w' b m T
  head : ∀ b m T o, Own w b m T → SlAt T o → w'.cell? ⟨b, o, none⟩ = w.cell? ⟨b, o, none⟩
theorem MarksG.refl (lo hi : Nat) (w : World) : MarksG lo hi w w := ⟨rfl, rfl, rfl, Nat.le_refl _, fun _ _ _ => rfl, fun _ _ _ h => h, fun _ _ _ _ _ _ => rfl⟩
theorem MarksG.trans {lo hi : Nat} {a b c : World} (h : MarksG lo hi a b) (k : MarksG lo hi b c) : MarksG lo hi a c :=
  ⟨k.os.trans h.os, k.tape.trans h.tape, k.output.trans h.output, Nat.le_trans h.size k.size, fun x hl hx => (k.out x (Nat.lt_of_lt_of_le hl h.size) hx).trans (h.out x hl hx), fun b m T ho => k.own b m T (h.own b m T ho),
   fun b m T o ho hs => (k.head b m T o (h.own b m T ho) hs).trans (h.head b m T o ho hs)⟩
theorem MarksG.of_below {lo hi : Nat} {w w' : World} (h : Below w.heap.size w w') : MarksG lo hi w w' :=
  ⟨h.os, h.tape, h.output, h.size, fun k hk _ => h.block k hk, fun b m T ho => ho.below h ho.lt, fun b m T o ho _ => h.cell (p := ⟨b, o, none⟩) ho.lt⟩
theorem MarksG.below {lo hi B : Nat} {w w' : World} (h : MarksG lo hi w w') (hB : B ≤ lo) (hs : B ≤ w.heap.size) : Below B w w' := ⟨h.os, h.tape, h.output, h.size, fun k hk => h.out k (by omega) (.inl (by omega))⟩
theorem own_typeG {w : World} {b m m' : Nat} {T T' : TypeId} (h : Own w b m T) (h' : Own w b m' T') : T = T' := by
  obtain ⟨c, hb, _⟩ := h
  obtain ⟨c', hb', _⟩ := h'
  rw [hb] at hb'
  simp at hb'
  exact hb'.2
theorem MarksG.set {lo hi : Nat} {w w0 : World} (h : MarksG lo hi w0 w) {b m : Nat} {T : TypeId} (ho : Own w b m T) (h1 : lo ≤ b) (h2 : b < hi) (o : Nat) (hm : o < m) (hT : ¬ SlAt T o) (v : Value) : MarksG lo hi w0 (w.setCell ⟨b, o, none⟩ v) := by
  refine h.trans ⟨rfl, rfl, rfl, by simp [World.setCell], fun k _ hk => Below.heap_setCell _ _ _ _ (by show k ≠ b; omega), fun b' m' T' h' => h'.set _ _ _, fun b' m' T' o' h' hs => ?_⟩
  by_cases e : b' = b
  · subst e
    have := own_typeG h' ho
    subst this
    rw [ho.cell_set hm, if_neg]
    intro e
    subst e
    exact hT hs
  · exact World.cell?_of_block (w := w) (Below.heap_setCell _ _ _ _ e)
theorem Rec.marks {lo hi b : Nat} {w w' : World} {T : TypeId} {vs : List Value} (h : Rec w b T vs) (ht : MarksG lo hi w w') (hb : b < lo ∨ hi ≤ b) : Rec w' b T vs := (ht.out b h.lt hb).trans h
/-- So many elements in a block of its own. -/
def FlatSh (T : TypeId) (sz : Nat) (w : World) (lo hi : Nat) (a : Option Addr) (n : Nat) : Prop := n = 0 ∨ ∃ b m, a = some ⟨b, 0, none⟩ ∧ lo ≤ b ∧ b < hi ∧ Own w b m T ∧ n * sz ≤ m
theorem FlatSh.marks {T : TypeId} {sz lo hi lo' hi' n : Nat} {w w' : World} {a : Option Addr} (h : FlatSh T sz w lo hi a n) (hk : MarksG lo' hi' w w') : FlatSh T sz w' lo hi a n := by
  rcases h with h | ⟨b, m, rfl, h3, h4, h5, h6⟩
  · exact .inl h
  · exact .inr ⟨b, m, rfl, h3, h4, hk.own _ _ _ h5, h6⟩
theorem FlatSh.keep {T : TypeId} {sz lo hi n : Nat} {w w' : World} {a : Option Addr} (h : FlatSh T sz w lo hi a n) (hk : Below hi w w') : FlatSh T sz w' lo hi a n := by
  rcases h with h | ⟨b, m, rfl, h3, h4, h5, h6⟩
  · exact .inl h
  · exact .inr ⟨b, m, rfl, h3, h4, h5.below hk h4, h6⟩
end Go.Proofs.Ytbalfmlmgbmneaa
