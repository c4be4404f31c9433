/- Whole structs out of and into blocks of their own, whatever their cells are. -/
import Derived.Test.YtembifoimiochaaGreatDoorPaOne
import Derived.Deep.MidRow
namespace Go.Proofs.YtembifoimiochaaGreatDoor
open Go.ChangeShapes Go.WideShapes Go.ChangeAt Go.RowKit Go.Deep
set_option linter.unusedVariables false

theorem setRow_rec {w : World} {g : Nat} {T : TypeId} {vs : List Value} (h : Rec w g T vs) (C : Array Value) : Rec (w.setRow g C) g T C.toList := by
 have := setRow_heap w g vs.toArray C T (0, 0) h
 simpa [Rec] using this
theorem setRow_other (w : World) (g : Nat) (C : Array Value) {k : Nat} (hk : k ≠ g) : (w.setRow g C).heap[k]? = w.heap[k]? := by
 simp only [World.setRow, Array.getElem?_modify]
 rw [if_neg (fun e => hk e.symm)]
theorem setRow_size (w : World) (g : Nat) (C : Array Value) : (w.setRow g C).heap.size = w.heap.size := by simp [World.setRow]
theorem setRow_below (w : World) (g B : Nat) (C : Array Value) (hB : B ≤ g) : Below B w (w.setRow g C) :=
 ⟨rfl, rfl, rfl, Nat.le_of_eq (setRow_size w g C).symm, fun k hk => setRow_other w g C (by omega)⟩
theorem Rec.range {w : World} {g : Nat} {T : TypeId} {vs : List Value} (h : Rec w g T vs) : w.rangeAt g 0 vs := fun j v hv => by
 rw [Nat.zero_add]
 exact h.cell hv

theorem wp_store_rec {o : Oper} {a : Act} {w : World} {K : Act → World → Prop} {Q : Exit → Act → World → Prop} (ty : TypeId) (x y : Operand) (ho : o.op = .store ty x y)
  (g : Nat) (C : Array Value) (T : TypeId) (vs : List Value) (hx : a.eval x = .pointer (some ⟨g, 0, none⟩)) (hy : a.eval y = .agg C) (hr : Rec w g T vs) (hi : (Tryz.prog.info? ty).map (·.size) = some C.size) (hold : vs.length = C.size) (h1 : C.all (·.oneCell') = true)
  (h : ∀ w', Rec w' g T C.toList → (∀ k, k ≠ g → w'.heap[k]? = w.heap[k]?) → w'.heap.size = w.heap.size → Below g w w' → K (a.put o.dst undef) w') : o.wp Tryz.prog a w K Q :=
 wp_store_row ty x y ho g C hx hy T vs.toArray hr hi (by simpa using hold) h1 (h _ (setRow_rec hr C) (fun k hk => setRow_other w g C hk) (setRow_size w g C) (setRow_below w g g C (Nat.le_refl _)))
theorem wpList_store_rec {ops : Array Oper} {rest : List Oper} {o : Oper} {a : Act} {w : World} {Q : Exit → Act → World → Prop} (hgd : o.guard = none) (ty : TypeId) (x y : Operand) (ho : o.op = .store ty x y)
  (g : Nat) (C : Array Value) (T : TypeId) (vs : List Value) (hx : a.eval x = .pointer (some ⟨g, 0, none⟩)) (hy : a.eval y = .agg C) (hr : Rec w g T vs) (hi : (Tryz.prog.info? ty).map (·.size) = some C.size) (hold : vs.length = C.size) (h1 : C.all (·.oneCell') = true)
  (h : ∀ w', Rec w' g T C.toList → (∀ k, k ≠ g → w'.heap[k]? = w.heap[k]?) → w'.heap.size = w.heap.size → Below g w w' → wpList Tryz.prog ops Q rest (a.put o.dst undef) w') : wpList Tryz.prog ops Q (o :: rest) a w :=
 wpList_plain hgd fun _ hK => wp_store_rec ty x y ho g C T vs hx hy hr hi hold h1 fun w' q1 q2 q3 q4 => hK _ _ (h w' q1 q2 q3 q4)
theorem step_store_rec {ops : Array Oper} {o : Oper} {a : Act} {w : World} {K : Act → World → Prop} {Q : Exit → Act → World → Prop} {E : Prop} (hgd : o.guard = none) (ty : TypeId) (x y : Operand) (ho : o.op = .store ty x y)
  (g : Nat) (C : Array Value) (T : TypeId) (vs : List Value) (hx : a.eval x = .pointer (some ⟨g, 0, none⟩)) (hy : a.eval y = .agg C) (hr : Rec w g T vs) (hi : (Tryz.prog.info? ty).map (·.size) = some C.size) (hold : vs.length = C.size) (h1 : C.all (·.oneCell') = true)
  (h : ∀ w', Rec w' g T C.toList → (∀ k, k ≠ g → w'.heap[k]? = w.heap[k]?) → w'.heap.size = w.heap.size → Below g w w' → K (a.put o.dst undef) w') : if Region.wanted o (yielded ops a.tmps) = true then Oper.wp Tryz.prog o a w K Q else E := by
 have hw : Region.wanted o (yielded ops a.tmps) = true := by simp [Region.wanted, hgd]
 rw [if_pos hw]
 exact wp_store_rec ty x y ho g C T vs hx hy hr hi hold h1 h
theorem wpList_load_rec {ops : Array Oper} {rest : List Oper} {o : Oper} {a : Act} {w : World} {Q : Exit → Act → World → Prop} (hgd : o.guard = none) (ty : TypeId) (x : Operand) (ho : o.op = .load ty x)
  (g : Nat) (T : TypeId) (vs : List Value) (d : TypeDesc) (hx : a.eval x = .pointer (some ⟨g, 0, none⟩)) (hr : Rec w g T vs) (hu : Tryz.prog.underlying ty = some d) (hd : d.isRow = true) (hi : (Tryz.prog.info? ty).map (·.size) = some vs.length)
  (h : wpList Tryz.prog ops Q rest (a.put o.dst (.agg vs.toArray)) w) : wpList Tryz.prog ops Q (o :: rest) a w :=
 wpList_load_mid hgd ty x ho g 0 hx vs d hr.range hu hd hi h
end Go.Proofs.YtembifoimiochaaGreatDoor
