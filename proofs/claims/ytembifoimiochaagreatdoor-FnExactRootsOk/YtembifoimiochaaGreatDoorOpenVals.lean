/- Values that came in. Cut out of OpenThing. -/
import Derived.Test.YtembifoimiochaaGreatDoorPhWord
import Derived.Test.YtembifoimiochaaGreatDoorPaOne
namespace Go.Proofs.YtembifoimiochaaGreatDoor
open Go.ChangeShapes Go.WideShapes Go.ChangeAt Go.RowKit Go.Joins Go.Deep
set_option linter.unusedVariables false
section
variable {H : Type} {enc : TypeId × Value → H} {W : World} {hd : Bool} {fuel : Nat}

set_option maxRecDepth 100000 in
theorem vals_open {v : Value} {x : DataW H × List MemPlace} (h : DataW.trod enc Tryz.prog W 0 (fun _ => true) hd fuel 26 [v] = some x) :
    ∃ fa fs fc, v = .slice fa fs.length fc ∧ ValsM false W 0 W.heap.size fa fs ∧ ValsB 9223372036854775807 fs := by
  rcases open_slice Tryz.underlying26 h with ⟨hcs, _⟩ | ⟨a, len, cap, m, n, D, Pl, hcs, _, hl, hm, hmm, _, hx⟩
  · simp at hcs
    exact ⟨none, [], 0, hcs, .inl rfl, Nat.zero_le _⟩
  · simp at hcs
    subst hcs
    simp at hmm
    subst hmm
    unfold maxLen at hm
    have ce : Tryz.prog.cellsOf 51 = 2 := by kernel_rfl
    by_cases h0 : len = 0
    · subst h0
      exact ⟨some a, [], m, rfl, .inl rfl, Nat.zero_le _⟩
    obtain ⟨b, off, spot⟩ := a
    obtain ⟨rfl, s1⟩ : spot = none ∧ b < W.heap.size := by
      obtain ⟨cs0, h10, _⟩ := hx 0 (by omega)
      exact head_plain h10 (by omega)
    have each : ∀ i, i < len → ∃ f : GVal, ValAt false W 0 W.heap.size b (off + i * 2) f := by
      intro i hi
      obtain ⟨cs', h1, h2⟩ := hx i (by omega)
      rw [ce] at h1
      obtain ⟨_, hlen, hcell⟩ := World.cells?_some h1
      obtain ⟨y0, y1, k, _, _, t0, t1⟩ := trod_struct2 Tryz.underlying51 h2
      match cs', hlen with
      | [v0, v1], _ =>
        have e0 := hcell 0 (by omega)
        have e1 := hcell 1 (by omega)
        rw [add_add] at e0 e1
        have c0 : Tryz.prog.cellsOf 3 = 1 := by kernel_rfl
        simp [c0] at t0 t1
        obtain ⟨a0, g0, _, _⟩ := DataW.trod_int Tryz.underlying3 t0
        obtain ⟨a1, g1, _, _⟩ := DataW.trod_int Tryz.underlying3 t1
        simp at g0 g1
        subst g0 g1
        simp at e0 e1
        refine ⟨⟨a0, a1⟩, ⟨?_, ?_⟩⟩
        · exact add_none e0 rfl
        · have := add_none e1 rfl; rwa [← Nat.add_assoc] at this
    obtain ⟨fs, hfl, hfs⟩ := list_of GVal.d each
    subst hfl
    exact ⟨_, fs, m, rfl, .inr ⟨b, off, rfl, Nat.zero_le _, s1, (fun e => by cases e), hfs⟩, (by unfold ValsB; omega)⟩

end
end Go.Proofs.YtembifoimiochaaGreatDoor
