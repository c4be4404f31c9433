/- Slices of ints: how they lie in memory. -/
import Derived.Test.YtblliefejffhoaaGreatDoorBase
namespace Go.Proofs.YtblliefejffhoaaGreatDoor
open Go.ChangeShapes Go.WideShapes Go.ChangeAt Go.RowKit

def nAt (l : List Int) (i : Nat) : Int := l.getD i 0

/-- The numbers xs lie at a, in blocks from lo on and below hi. -/
def IntsIn (w : World) (lo hi : Nat) (a : Option Addr) (xs : List Int) : Prop :=
  xs = [] ∨ ∃ b off, a = some ⟨b, off, none⟩ ∧ lo ≤ b ∧ b < hi ∧ ∀ i, i < xs.length → w.cell? ⟨b, off + i, none⟩ = some (.int .i64 (nAt xs i))

theorem IntsIn.keep {w w' : World} {lo hi : Nat} {a : Option Addr} {xs : List Int} (h : IntsIn w lo hi a xs) (hb : Below hi w w') : IntsIn w' lo hi a xs := by
  rcases h with rfl | ⟨b, off, rfl, h1, h2, h3⟩
  · exact .inl rfl
  · exact .inr ⟨b, off, rfl, h1, h2, fun i hi' => by rw [hb.cell (p := ⟨b, off + i, none⟩) h2]; exact h3 i hi'⟩

end Go.Proofs.YtblliefejffhoaaGreatDoor
