/- Rows of the call's own, kept where a reader turns. -/
import Derived.Test.YtblliefejffhoaaGreatDoorRowB
import Derived.Test.YtblliefejffhoaaGreatDoorDrawField0P
import Derived.Deep.AppendLies
namespace Go.Proofs.YtblliefejffhoaaGreatDoor
open Go.ChangeShapes Go.WideShapes Go.ChangeAt Go.RowKit Go.Deep
set_option linter.unusedVariables false

theorem owns_only {w w' : World} {S e size n g : Nat} {v : Value} {xs : List Value} (h : w.ownsRow S e size v n xs) (ho : Only g w w') (hg : g < S) : w'.ownsRow S e size v n xs :=
  owns_of_block h fun k hk => ho.block k (by have := owns_base h k hk; omega) (owns_lt h k hk)
theorem Only.same {g lo hi : Nat} {w w' : World} (h : Only g w w') (hg : g < lo) (hh : hi ≤ w.heap.size) : Same lo hi w w' := fun k h1 h2 => h.block k (by omega) (by omega)
theorem Only.grown {g : Nat} {a w w' : World} {row : Option Nat} (h : Only g a w) (hg : w.grownBy w' row) (hr : ∀ k, row = some k → a.heap.size ≤ k) : Only g a w' :=
  ⟨h.none.grown hg (Nat.zero_le _) (fun _ _ => Nat.zero_le _), fun k h1 h2 => (hg.block k (Nat.lt_of_lt_of_le h2 h.size) (by intro e; have := hr k e.symm; omega)).trans (h.block k h1 h2)⟩
end Go.Proofs.YtblliefejffhoaaGreatDoor
