/- Readings of what came in, as the walks want it. Written by tools/genopen.py. -/
import Derived.Test.YtlmciclkfmeepaaDoorGenThing
namespace Go.Proofs.YtlmciclkfmeepaaDoor
open Go.ChangeShapes Go.WideShapes Go.ChangeAt Go.RowKit Go.Joins Go.Deep
set_option linter.unusedVariables false
section
variable {H : Type} {enc : TypeId × Value → H} {W : World} {hd : Bool} {fuel : Nat}

set_option maxRecDepth 100000 in
theorem vals_open {v : Value} {x : DataW H × List MemPlace} (h : DataW.trod enc Tryd.prog W 0 (fun _ => true) hd fuel 47 [v] = some x) :
    ∃ fa fs fc, v = .slice fa fs.length fc ∧ ValsM false W 0 W.heap.size fa fs ∧ ValsB 9223372036854775807 fs := by
  rcases open_slice Tryd.underlying47 h with ⟨hcs, _⟩ | ⟨a, len, cap, m, n, D, Pl, hcs, _, hl, hm, hmm, _, hx⟩
  · simp at hcs
    exact ⟨none, [], 0, hcs, .inl rfl, Nat.zero_le _⟩
  · simp at hcs
    subst hcs
    simp at hmm
    subst hmm
    unfold maxLen at hm
    have ce : Tryd.prog.cellsOf 25 = 2 := by kernel_rfl
    by_cases h0 : len = 0
    · subst h0
      exact ⟨some a, [], m, rfl, .inl rfl, Nat.zero_le _⟩
    obtain ⟨b, off, spot⟩ := a
    obtain ⟨rfl, s1⟩ : spot = none ∧ b < W.heap.size := by
      obtain ⟨cs0, h10, _⟩ := hx 0 (by omega)
      exact head_plain h10 (by omega)
    have each : ∀ i, i < len → ∃ f : GVal, ValAt false W 0 W.heap.size b (off + i * 2) f := by
      intro i hi
      obtain ⟨cs', h1, h2⟩ := hx i (by omega)
      rw [ce] at h1
      obtain ⟨_, hlen, hcell⟩ := World.cells?_some h1
      obtain ⟨y0, y1, k, _, _, t0, t1⟩ := trod_struct2 Tryd.underlying25 h2
      match cs', hlen with
      | [v0, v1], _ =>
        have e0 := hcell 0 (by omega)
        have e1 := hcell 1 (by omega)
        rw [add_add] at e0 e1
        have c0 : Tryd.prog.cellsOf 3 = 1 := by kernel_rfl
        simp [c0] at t0 t1
        obtain ⟨a0, g0, _, _⟩ := DataW.trod_int Tryd.underlying3 t0
        obtain ⟨a1, g1, _, _⟩ := DataW.trod_int Tryd.underlying3 t1
        simp at g0 g1
        subst g0 g1
        simp at e0 e1
        refine ⟨⟨a0, a1⟩, ⟨?_, ?_⟩⟩
        · exact add_none e0 rfl
        · have := add_none e1 rfl; rwa [← Nat.add_assoc] at this
    obtain ⟨fs, hfl, hfs⟩ := list_of GVal.d each
    subst hfl
    exact ⟨_, fs, m, rfl, .inr ⟨b, off, rfl, Nat.zero_le _, s1, (fun e => by cases e), hfs⟩, (by unfold ValsB; omega)⟩

set_option maxRecDepth 100000 in
theorem things_open {v : Value} {x : DataW H × List MemPlace} (h : DataW.trod enc Tryd.prog W 0 (fun _ => true) hd fuel 23 [v] = some x) :
    ∃ fa fs fc, v = .slice fa fs.length fc ∧ ThingsM false W 0 W.heap.size fa fs ∧ ThingsB 9223372036854775807 fs := by
  rcases open_slice Tryd.underlying23 h with ⟨hcs, _⟩ | ⟨a, len, cap, m, n, D, Pl, hcs, _, hl, hm, hmm, _, hx⟩
  · simp at hcs
    exact ⟨none, [], 0, hcs, .inl rfl, Nat.zero_le _, fun i hi => absurd hi (Nat.not_lt_zero _)⟩
  · simp at hcs
    subst hcs
    simp at hmm
    subst hmm
    unfold maxLen at hm
    have ce : Tryd.prog.cellsOf 49 = 2 := by kernel_rfl
    by_cases h0 : len = 0
    · subst h0
      exact ⟨some a, [], m, rfl, .inl rfl, Nat.zero_le _, fun i hi => absurd hi (Nat.not_lt_zero _)⟩
    obtain ⟨b, off, spot⟩ := a
    obtain ⟨rfl, s1⟩ : spot = none ∧ b < W.heap.size := by
      obtain ⟨cs0, h10, _⟩ := hx 0 (by omega)
      exact head_plain h10 (by omega)
    have each : ∀ i, i < len → ∃ f : GThing, ThingAt false W 0 W.heap.size b (off + i * 2) f ∧ ThingB 9223372036854775807 f := by
      intro i hi
      obtain ⟨cs', h1, h2⟩ := hx i (by omega)
      rw [ce] at h1
      obtain ⟨_, hlen, hcell⟩ := World.cells?_some h1
      obtain ⟨y0, y1, k, _, _, t0, t1⟩ := trod_struct2 Tryd.underlying49 h2
      match cs', hlen with
      | [v0, v1], _ =>
        have e0 := hcell 0 (by omega)
        have e1 := hcell 1 (by omega)
        rw [add_add] at e0 e1
        have c0 : Tryd.prog.cellsOf 3 = 1 := by kernel_rfl
        have c1 : Tryd.prog.cellsOf 47 = 1 := by kernel_rfl
        simp [c0, c1] at t0 t1
        obtain ⟨a0, g0, _, _⟩ := DataW.trod_int Tryd.underlying3 t0
        obtain ⟨fa1, fs1, fc1, g1, hs1, hl1⟩ := vals_open t1
        simp at g0
        subst g0 g1
        simp at e0 e1
        refine ⟨⟨a0, fs1⟩, ⟨fa1, fc1, ?_, ?_, hs1⟩, hl1⟩
        · exact add_none e0 rfl
        · have := add_none e1 rfl; rwa [← Nat.add_assoc] at this
    obtain ⟨fs, hfl, hfs⟩ := list_of GThing.d each
    subst hfl
    exact ⟨_, fs, m, rfl, .inr ⟨b, off, rfl, Nat.zero_le _, s1, (fun e => by cases e), fun i hi => (hfs i hi).1⟩, by omega, fun i hi => (hfs i hi).2⟩
end
end Go.Proofs.YtlmciclkfmeepaaDoor
