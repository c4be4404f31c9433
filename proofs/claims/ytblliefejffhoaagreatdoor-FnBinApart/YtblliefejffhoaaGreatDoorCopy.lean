/- A list of fields appended to an empty one: the same fields, in new memory. -/
import Derived.Test.YtblliefejffhoaaGreatDoorRowFlat
import Derived.Deep.AppendSrc
import Derived.Deep.DeepAppendWide
namespace Go.Proofs.YtblliefejffhoaaGreatDoor
open Go.ChangeShapes Go.WideShapes Go.ChangeAt Go.RowKit Go.Deep
set_option linter.unusedVariables false

def fcell (f : Fd) : Nat → Value
  | 0 => .int .i64 f.kind
  | 1 => .int .i64 f.of
  | _ => .bool f.mt
def fcells (fs : List Fd) : List Value := (List.range (fs.length * 3)).map fun j => fcell (fdAt fs (j / 3)) (j % 3)
theorem fcells_get (fs : List Fd) (j : Nat) (h : j < fs.length * 3) : (fcells fs)[j]? = some (fcell (fdAt fs (j / 3)) (j % 3)) := by
  simp [fcells, h]
theorem fcells_length (fs : List Fd) : (fcells fs).length = fs.length * 3 := by simp [fcells]
theorem fcells_one (fs : List Fd) : ∀ u ∈ fcells fs, u.oneCell' = true := by
  intro u hu
  simp only [fcells, List.mem_map] at hu
  obtain ⟨j, _, rfl⟩ := hu
  generalize j % 3 = r
  match r with
  | 0 => rfl
  | 1 => rfl
  | (k + 2) => rfl
theorem fieldAt_cell {w : World} {b off : Nat} {fs : List Fd} (h : ∀ i, i < fs.length → FieldAt w b (off + i * 3) (fdAt fs i)) (j : Nat) (hj : j < fs.length * 3) :
    w.cell? ⟨b, off + j, none⟩ = some (fcell (fdAt fs (j / 3)) (j % 3)) := by
  obtain ⟨a0, a1, a2⟩ := h (j / 3) (by omega)
  have e : off + j = off + j / 3 * 3 + j % 3 := by omega
  rw [e]
  have hr : j % 3 = 0 ∨ j % 3 = 1 ∨ j % 3 = 2 := by omega
  rcases hr with hr | hr | hr <;> rw [hr]
  · exact a0
  · exact a1
  · exact a2
theorem fieldAt_of {w : World} {b off : Nat} {fs : List Fd} (h : ∀ j, j < fs.length * 3 → w.cell? ⟨b, off + j, none⟩ = some (fcell (fdAt fs (j / 3)) (j % 3))) : ∀ i, i < fs.length → FieldAt w b (off + i * 3) (fdAt fs i) := by
  intro i hi
  have h0 := h (i * 3) (by omega)
  have h1 := h (i * 3 + 1) (by omega)
  have h2 := h (i * 3 + 2) (by omega)
  rw [show (i * 3) / 3 = i by omega, show (i * 3) % 3 = 0 by omega] at h0
  rw [show (i * 3 + 1) / 3 = i by omega, show (i * 3 + 1) % 3 = 1 by omega] at h1
  rw [show (i * 3 + 2) / 3 = i by omega, show (i * 3 + 2) % 3 = 2 by omega] at h2
  exact ⟨h0, by rw [Nat.add_assoc]; exact h1, by rw [Nat.add_assoc]; exact h2⟩

/-- append of the fields fs to an empty list. -/
theorem run_append_copy (ty : TypeId) (base : Option Addr) (hbase : base = none ∨ ∃ B, base = some ⟨B, 0, none⟩) (fa : Option Addr) (fc lo hi : Nat) (fs : List Fd) (w : World) (hn : fs.length ≤ 1048576) (hx : FieldsIn w lo hi fa fs) :
    ∃ na nc w', (Builtin.append_ #[24, 24] ty #[.slice base 0 0, .slice fa fs.length fc]).run Tryz.prog w = .ok (.slice na fs.length nc) w' ∧ FieldsNew w' w.heap.size w'.heap.size na fs ∧ Below w.heap.size w w' := by
  obtain ⟨i0, hi0, hzz⟩ := Option.map_eq_some_iff.1 Tryz.infoField
  simp only [Prod.mk.injEq] at hzz
  obtain ⟨hz0, hs0, hb0⟩ := hzz
  have hu := Tryz.underlying24
  by_cases h0 : fs = []
  · subst h0
    refine ⟨base, 0, w, ?_, ⟨.inl rfl, .inl rfl⟩, Below.refl _ _⟩
    · have e1 : (Builtin.firstCells i0.size 0 (.slice fa 0 fc)).run Tryz.prog w = .ok #[] w := by
        cases fa with
        | none => exact run_firstCells_none w i0.size 0 0 fc
        | some ad => exact run_firstCells_some w i0.size 0 ad 0 fc [] (by simp) (fun j u h => by simp at h)
      rcases hbase with rfl | ⟨B, rfl⟩
      · simp [Builtin.append_, run_underlying hu, sizeOf, typeInfo, hi0, Builtin.lenOf, e1]
      · simp [Builtin.append_, run_underlying hu, sizeOf, typeInfo, hi0, Builtin.lenOf, e1, storeCells]
  · rcases hx with rfl | ⟨b, off, rfl, h1, h2, h3⟩
    · exact absurd rfl h0
    have hpos : 0 < fs.length := List.length_pos_iff.2 h0
    have hsrc : Src Tryz.prog i0.size 24 (.slice (some ⟨b, off, none⟩) fs.length fc) fs.length (fcells fs) w :=
      Src.ofSlice w hu ⟨b, off, none⟩ fs.length fc (fcells fs) (by rw [fcells_length, hs0]) (fun j u hj => by
        have hlt : j < fs.length * 3 := by have := (List.getElem?_eq_some_iff.1 hj).1; rwa [fcells_length] at this
        rw [fcells_get _ _ hlt] at hj
        rw [add_plain, fieldAt_cell h3 j hlt]
        exact hj) (fcells_one fs)
    have hold : (Builtin.firstCells i0.size 0 (.slice base 0 0)).run Tryz.prog w.drew = .ok ([] : List Value).toArray w.drew := by
      cases base with
      | none => exact run_firstCells_none w.drew i0.size 0 0 0
      | some ad => exact run_firstCells_some w.drew i0.size 0 ad 0 0 [] (by simp) (fun j u h => by simp at h)
    have hrun := run_append_grow_src (P := Tryz.prog) w 24 24 ty 33 i0 _ hu hi0 hz0 base 0 0 [] hold _ fs.length (fcells fs) hsrc (by omega) (by omega)
      (growslice_fits_wide (by omega) (by rw [hb0]; omega))
    rw [Nat.zero_add] at hrun
    refine ⟨_, _, _, hrun, ⟨.inr ⟨_, 0, rfl, Nat.le_refl _, by simp, ?_⟩, .inr ⟨_, _, rfl, Nat.le_refl _, by simp, ⟨_, blk_alloc_new w.drew _, rfl⟩, ?_⟩⟩, ?_⟩
    · refine fieldAt_of fun j hj => ?_
      rw [Nat.zero_add]
      generalize hc : (([] ++ fcells fs).toArray ++ _ : Array Value) = c
      have hb' : (w.drew.alloc (.cells c 33)).heap[w.heap.size]? = some (.cells c 33 (0, 0)) := blk_alloc_new w.drew _
      simp only [World.cell?, hb']
      subst hc
      rw [← fcells_get fs j hj]
      have hl := fcells_length fs
      simp [Array.getElem?_append, hl, hj]
    · have hl := fcells_length fs
      simp [hl]
    · exact (Below.refl _ _).drew.alloc (Nat.le_refl _) _

end Go.Proofs.YtblliefejffhoaaGreatDoor
