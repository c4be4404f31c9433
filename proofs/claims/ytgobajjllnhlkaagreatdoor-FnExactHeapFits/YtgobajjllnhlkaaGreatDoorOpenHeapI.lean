/- A heap that came in: its lists, and that their numbers are of 64 bits. -/
import Derived.Test.YtgobajjllnhlkaaGreatDoorOpenHeap
import Derived.Test.YtgobajjllnhlkaaGreatDoorHpS1
namespace Go.Proofs.YtgobajjllnhlkaaGreatDoor
open Go.ChangeShapes Go.WideShapes Go.ChangeAt Go.RowKit Go.Joins Go.Deep
set_option linter.unusedVariables false

theorem i64_lit {n : Int} (h : (Lit.int .i64 n).wf = true) : i64 n := by
 simp [Lit.wf, IntKind.min, IntKind.max, IntKind.bits, IntKind.signed] at h
 unfold i64
 omega
/-- All that a heap says is of 64 bits. -/
structure HI (h : GHeap) : Prop where
 wb : ∀ i, i64 (nAt h.words i)
 lb : ∀ i, i64 (nAt h.log i)
 ob : i64 h.old
 ab : i64 h.oldAt
 yb : i64 h.youngAt
theorem i64_zero : i64 0 := by unfold i64; omega
theorem i64_all {xs : List Int} (h : ∀ i, i < xs.length → i64 (nAt xs i)) (i : Nat) : i64 (nAt xs i) := by
 by_cases hi : i < xs.length
 ·exact h i hi
 ·have : nAt xs i = 0 := by unfold nAt; rw [List.getD_eq_getElem?_getD, List.getElem?_eq_none (by omega)]; rfl
  rw [this]; exact i64_zero
section
variable {H : Type} {enc : TypeId × Value → H} {W : World} {hd : Bool} {fuel : Nat}

set_option maxRecDepth 100000 in
theorem numsI_open {v : Value} {x : DataW H × List MemPlace} (h : DataW.trod enc Tryz.prog W 0 (fun _ => true) hd fuel 23 [v] = some x) :
  ∃ fa fs fc, v = .slice fa fs.length fc ∧ NumsM false W 0 W.heap.size fa fs ∧ NumsB 9223372036854775807 fs ∧ ∀ i, i64 (nAt fs i) := by
 rcases open_slice Tryz.underlying23 h with ⟨hcs, _⟩ | ⟨a, len, cap, m, n, D, Pl, hcs, _, hl, hm, hmm, _, hx⟩
 ·simp at hcs
  exact ⟨none, [], 0, hcs, .inl rfl, Nat.zero_le _, i64_all fun i hi => absurd hi (Nat.not_lt_zero _)⟩
 ·simp at hcs
  subst hcs
  simp at hmm
  subst hmm
  unfold maxLen at hm
  have ce : Tryz.prog.cellsOf 3 = 1 := by kernel_rfl
  by_cases h0 : len = 0
  ·subst h0
   exact ⟨some a, [], m, rfl, .inl rfl, Nat.zero_le _, i64_all fun i hi => absurd hi (Nat.not_lt_zero _)⟩
  obtain ⟨b, off, spot⟩ := a
  obtain ⟨rfl, s1⟩ : spot = none ∧ b < W.heap.size := by
   obtain ⟨cs0, h10, _⟩ := hx 0 (by omega)
   exact head_plain h10 (by omega)
  have each : ∀ i, i < len → ∃ f : Int, W.cell? ⟨b, off + i, none⟩ = some (.int .i64 f) ∧ i64 f := by
   intro i hi
   obtain ⟨cs', h1, h2⟩ := hx i (by omega)
   rw [ce] at h1
   obtain ⟨_, hlen, hcell⟩ := World.cells?_some h1
   obtain ⟨a0, g0, _, q0⟩ := DataW.trod_int Tryz.underlying3 h2
   subst g0
   have e0 := hcell 0 (by omega)
   rw [add_add] at e0
   simp at e0
   exact ⟨a0, add_none e0 rfl, i64_lit q0⟩
  obtain ⟨fs, hfl, hfs⟩ := list_of (0 : Int) each
  subst hfl
  exact ⟨_, fs, m, rfl, .inr ⟨b, off, rfl, Nat.zero_le _, s1, (fun e => by cases e), fun i hi => (hfs i hi).1⟩, (by unfold NumsB; omega), i64_all fun i hi => (hfs i hi).2⟩
end
end Go.Proofs.YtgobajjllnhlkaaGreatDoor
