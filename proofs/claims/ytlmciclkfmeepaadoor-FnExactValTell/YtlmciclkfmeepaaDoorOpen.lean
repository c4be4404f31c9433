/- A reading of groups of types that came in, as the walks want it. -/
import Derived.Test.YtlmciclkfmeepaaDoorSz
import Derived.Deep.Slices
import Derived.Deep.Strs
namespace Go.Proofs.YtlmciclkfmeepaaDoor
open Go.ChangeShapes Go.WideShapes Go.ChangeAt Go.RowKit Go.Joins Go.Deep
set_option linter.unusedVariables false

section
variable {H : Type} {enc : TypeId × Value → H} {W : World} {hd : Bool} {fuel : Nat}

set_option maxRecDepth 100000 in
theorem fields_open {v : Value} {x : DataW H × List MemPlace} (h : DataW.trod enc Tryd.prog W 0 (fun _ => true) hd fuel 73 [v] = some x) :
    ∃ fa fs fc, v = .slice fa fs.length fc ∧ FieldsIn W 0 W.heap.size fa fs ∧ fs.length ≤ 9223372036854775807 := by
  rcases open_slice Tryd.underlying73 h with ⟨hcs, _⟩ | ⟨a, len, cap, m, n, D, Pl, hcs, _, hl, hm, hmm, _, hx⟩
  · simp at hcs
    exact ⟨none, [], 0, hcs, .inl rfl, by simp⟩
  · simp at hcs
    subst hcs
    simp at hmm
    subst hmm
    unfold maxLen at hm
    have ce : Tryd.prog.cellsOf 27 = 3 := by kernel_rfl
    by_cases h0 : len = 0
    · subst h0
      exact ⟨some a, [], m, rfl, .inl rfl, by simp⟩
    obtain ⟨b, off, spot⟩ := a
    obtain ⟨rfl, s1⟩ : spot = none ∧ b < W.heap.size := by
      obtain ⟨cs0, h10, _⟩ := hx 0 (by omega)
      exact head_plain h10 (by omega)
    have each : ∀ i, i < len → ∃ f : Fd, FieldAt W b (off + i * 3) f := by
      intro i hi
      obtain ⟨cs', h1, h2⟩ := hx i (by omega)
      rw [ce] at h1
      obtain ⟨_, hlen, hcell⟩ := World.cells?_some h1
      obtain ⟨y0, y1, y2, k, _, _, t0, t1, t2⟩ := trod_struct3 Tryd.underlying27 h2
      match cs', hlen with
      | [v0, v1, v2], _ =>
        have e0 := hcell 0 (by omega)
        have e1 := hcell 1 (by omega)
        have e2 := hcell 2 (by omega)
        rw [add_add] at e0 e1 e2
        obtain ⟨a0, g0, _, _⟩ := DataW.trod_int Tryd.underlying3 t0
        obtain ⟨a1, g1, _, _⟩ := DataW.trod_int Tryd.underlying3 t1
        obtain ⟨a2, g2, _⟩ := DataW.trod_bool Tryd.underlying4 t2
        have c1 : Tryd.prog.cellsOf 3 = 1 := by kernel_rfl
        have c2 : Tryd.prog.cellsOf 4 = 1 := by kernel_rfl
        simp [c1, c2] at g0 g1 g2
        subst g0 g1 g2
        simp at e0 e1 e2
        refine ⟨⟨a0, a1, a2⟩, ?_, ?_, ?_⟩
        · exact add_none e0 rfl
        · have := add_none e1 rfl; rwa [← Nat.add_assoc] at this
        · have := add_none e2 rfl; rwa [← Nat.add_assoc] at this
    obtain ⟨fs, hfl, hfs⟩ := list_of (⟨0, 0, false⟩ : Fd) each
    subst hfl
    exact ⟨_, fs, m, rfl, .inr ⟨b, off, rfl, Nat.zero_le _, s1, hfs⟩, by omega⟩

set_option maxRecDepth 100000 in
theorem types_open {v : Value} {x : DataW H × List MemPlace} (h : DataW.trod enc Tryd.prog W 0 (fun _ => true) hd fuel 45 [v] = some x) :
    ∃ ta ts tc, v = .slice ta ts.length tc ∧ TypesIn W 0 W.heap.size ta ts ∧ ts.length ≤ 9223372036854775807 ∧ ∀ i, i < ts.length → (tyAt ts i).fields.length ≤ 9223372036854775807 := by
  rcases open_slice Tryd.underlying45 h with ⟨hcs, _⟩ | ⟨a, len, cap, m, n, D, Pl, hcs, _, hl, hm, hmm, _, hx⟩
  · simp at hcs
    exact ⟨none, [], 0, hcs, .inl rfl, by simp, fun i hi => absurd hi (Nat.not_lt_zero _)⟩
  · simp at hcs
    subst hcs
    simp at hmm
    subst hmm
    unfold maxLen at hm
    have ce : Tryd.prog.cellsOf 75 = 4 := by kernel_rfl
    by_cases h0 : len = 0
    · subst h0
      exact ⟨some a, [], m, rfl, .inl rfl, by simp, fun i hi => absurd hi (Nat.not_lt_zero _)⟩
    obtain ⟨b, off, spot⟩ := a
    obtain ⟨rfl, s1⟩ : spot = none ∧ b < W.heap.size := by
      obtain ⟨cs0, h10, _⟩ := hx 0 (by omega)
      exact head_plain h10 (by omega)
    have each : ∀ i, i < len → ∃ t : Ty, TypeAt W 0 W.heap.size b (off + i * 4) t ∧ t.fields.length ≤ 9223372036854775807 := by
      intro i hi
      obtain ⟨cs', h1, h2⟩ := hx i (by omega)
      rw [ce] at h1
      obtain ⟨_, hlen, hcell⟩ := World.cells?_some h1
      obtain ⟨y0, y1, y2, y3, k, _, _, t0, t1, t2, t3⟩ := trod_struct4 Tryd.underlying75 h2
      match cs', hlen with
      | [v0, v1, v2, v3], _ =>
        have e0 := hcell 0 (by omega)
        have e1 := hcell 1 (by omega)
        have e2 := hcell 2 (by omega)
        have e3 := hcell 3 (by omega)
        rw [add_add] at e0 e1 e2 e3
        have c1 : Tryd.prog.cellsOf 3 = 1 := by kernel_rfl
        have c2 : Tryd.prog.cellsOf 4 = 1 := by kernel_rfl
        have c3 : Tryd.prog.cellsOf 73 = 1 := by kernel_rfl
        simp [c1, c2, c3] at t0 t1 t2 t3
        obtain ⟨a0, g0, _, _⟩ := DataW.trod_int Tryd.underlying3 t0
        obtain ⟨a1, g1, _, _⟩ := DataW.trod_int Tryd.underlying3 t1
        obtain ⟨a2, g2, _⟩ := DataW.trod_bool Tryd.underlying4 t2
        obtain ⟨fa, fs, fc, g3, hfs, hfl⟩ := fields_open t3
        simp at g0 g1 g2
        subst g0 g1 g2 g3
        simp at e0 e1 e2 e3
        refine ⟨⟨a0, a1, a2, fs⟩, ⟨?_, ?_, ?_, fa, fc, ?_, hfs⟩, hfl⟩
        · exact add_none e0 rfl
        · have := add_none e1 rfl; rwa [← Nat.add_assoc] at this
        · have := add_none e2 rfl; rwa [← Nat.add_assoc] at this
        · have := add_none e3 rfl; rwa [← Nat.add_assoc] at this
    obtain ⟨ts, hfl, hfs⟩ := list_of (⟨0, 0, false, []⟩ : Ty) each
    subst hfl
    exact ⟨_, ts, m, rfl, .inr ⟨b, off, rfl, Nat.zero_le _, s1, fun i hi => (hfs i hi).1⟩, by omega, fun i hi => (hfs i hi).2⟩

set_option maxRecDepth 100000 in
theorem groups_open {a : Option Addr} {len cap : Nat} {d : DataW H} {p : List MemPlace} (h : DataW.Trod enc Tryd.prog W 0 (fun _ => true) hd 22 (.slice a len cap) d p) :
    ∃ gs : List (List Ty), gs.length = len ∧ GroupsIn W 0 W.heap.size a gs ∧ Lens gs := by
  obtain ⟨fuel, hf⟩ := h
  rcases open_slice1 Tryd.underlying22 (by kernel_rfl) hf with ⟨hcs, _⟩ | ⟨x, l, c, m, n, V, D, Pl, hcs, _, hl, hm, hmm, _, hx⟩
  · simp [Value.cells] at hcs
    obtain ⟨rfl, rfl, rfl⟩ := hcs
    exact ⟨[], rfl, .inl rfl, by simp, fun i hi => absurd hi (Nat.not_lt_zero _)⟩
  · simp [Value.cells] at hcs
    obtain ⟨rfl, rfl, rfl⟩ := hcs
    simp at hmm
    subst hmm
    unfold maxLen at hm
    by_cases h0 : len = 0
    · exact ⟨[], h0.symm, .inl rfl, by simp, fun i hi => absurd hi (Nat.not_lt_zero _)⟩
    obtain ⟨b, off, spot⟩ := x
    have hc := (hx 0 (by omega)).1
    have hspot : spot = none := by simpa [Addr.add] using World.cell?_spot hc
    subst hspot
    have s1 : b < W.heap.size := cell_lt hc
    have each : ∀ i, i < len → ∃ g : List Ty, GroupAt W 0 W.heap.size b (off + i) g ∧ g.length ≤ 9223372036854775807 ∧ ∀ j, j < g.length → (tyAt g j).fields.length ≤ 9223372036854775807 := by
      intro i hi
      obtain ⟨e0, t0⟩ := hx i (by omega)
      obtain ⟨ta, ts, tc, g0, hts, q1, q2⟩ := types_open t0
      rw [g0] at e0
      exact ⟨ts, ⟨ta, tc, add_none e0 rfl, hts⟩, q1, q2⟩
    obtain ⟨gs, hgl, hgs⟩ := list_of ([] : List Ty) each
    subst hgl
    exact ⟨gs, rfl, .inr ⟨b, off, rfl, Nat.zero_le _, s1, fun i hi => (hgs i hi).1⟩, by omega, fun i hi => (hgs i hi).2⟩
end
end Go.Proofs.YtlmciclkfmeepaaDoor
