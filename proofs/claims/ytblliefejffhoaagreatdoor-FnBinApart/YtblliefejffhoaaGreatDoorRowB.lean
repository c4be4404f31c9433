/- Rows of the call's own, of whatever elements: what is known of them, and what keeps them. -/
import Derived.Test.YtblliefejffhoaaGreatDoorGenRoot
import Derived.Deep.AppendLies
namespace Go.Proofs.YtblliefejffhoaaGreatDoor
open Go.ChangeShapes Go.WideShapes Go.ChangeAt Go.RowKit Go.Deep
set_option linter.unusedVariables false

theorem owns_cells {w : World} {S e size n cap : Nat} {a : Option Addr} {xs : List Value} (h : w.ownsRow S e size (.slice a n cap) n xs) :
    n ≤ 0 ∨ ∃ g, a = some ⟨g, 0, none⟩ ∧ S ≤ g ∧ g < w.heap.size ∧ ∀ j, j < n * size → w.cell? ⟨g, j, none⟩ = xs[j]? := by
  rcases h.2 with ⟨_, h0⟩ | ⟨g, cap', cur, hv, hb, hg, h1, h2, h3, h4⟩
  · exact .inl (by omega)
  · simp at hv
    obtain ⟨rfl, rfl⟩ := hv
    refine .inr ⟨g, rfl, hb, (Array.getElem?_eq_some_iff.1 hg).1, fun j hj => ?_⟩
    rw [← h4]
    simp [World.cell?, hg, hj]
theorem owns_base {w : World} {S e size n : Nat} {v : Value} {xs : List Value} (h : w.ownsRow S e size v n xs) : ∀ k, v.ownBlock = some k → S ≤ k := by
  intro k hk
  rcases h.2 with ⟨rfl, _⟩ | ⟨g, cap', cur, rfl, hb, _⟩
  · simp [Value.ownBlock] at hk
  · simp [Value.ownBlock] at hk
    omega
theorem owns_of_block {w w' : World} {S e size n : Nat} {v : Value} {xs : List Value} (h : w.ownsRow S e size v n xs) (hb : ∀ k, v.ownBlock = some k → w'.heap[k]? = w.heap[k]?) : w'.ownsRow S e size v n xs := by
  refine ⟨h.1, ?_⟩
  rcases h.2 with h0 | ⟨g, cap', cur, rfl, hS, hg, h1, h2, h3, h4⟩
  · exact .inl h0
  · exact .inr ⟨g, cap', cur, rfl, hS, (hb g rfl).trans hg, h1, h2, h3, h4⟩
theorem owns_lt {w : World} {S e size n : Nat} {v : Value} {xs : List Value} (h : w.ownsRow S e size v n xs) : ∀ k, v.ownBlock = some k → k < w.heap.size := by
  intro k hk
  rcases h.2 with ⟨rfl, _⟩ | ⟨g, cap', cur, rfl, hS, hg, _⟩
  · simp [Value.ownBlock] at hk
  · simp [Value.ownBlock] at hk
    subst hk
    exact (Array.getElem?_eq_some_iff.1 hg).1
theorem owns_below {w w' : World} {S e size n : Nat} {v : Value} {xs : List Value} (h : w.ownsRow S e size v n xs) (hb : Below w.heap.size w w') : w'.ownsRow S e size v n xs :=
  owns_of_block h fun k hk => hb.block k (owns_lt h k hk)
theorem owns_lower {w : World} {S S' e size n : Nat} {v : Value} {xs : List Value} (h : w.ownsRow S e size v n xs) (hS : S' ≤ S) : w.ownsRow S' e size v n xs := by
  refine ⟨h.1, ?_⟩
  rcases h.2 with h0 | ⟨g, cap', cur, rfl, h1, h2⟩
  · exact .inl h0
  · exact .inr ⟨g, cap', cur, rfl, by omega, h2⟩
theorem owns_cap {w : World} {S e size n cap m : Nat} {a : Option Addr} {xs : List Value} (h : w.ownsRow S e size (.slice a n cap) m xs) : n ≤ cap := by
  rcases h.2 with ⟨h0, _⟩ | ⟨g, cap', cur, h0, h1, h2, h3, _⟩
  · simp at h0; omega
  · simp at h0
    obtain ⟨_, rfl, rfl⟩ := h0
    exact h3
theorem row_ne {w : World} {S e size n b : Nat} {v : Value} {xs : List Value} (h : w.ownsRow S e size v n xs) (hb : b < S) : some b ≠ v.ownBlock := fun e => by have := owns_base h b e.symm; omega
theorem Rec.grown {w w' : World} {b : Nat} {T : TypeId} {vs : List Value} {row : Option Nat} (h : Rec w b T vs) (hg : w.grownBy w' row) (hr : some b ≠ row) : Rec w' b T vs := (hg.block b h.lt hr).trans h
end Go.Proofs.YtblliefejffhoaaGreatDoor
