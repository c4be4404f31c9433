/- l3Spoil of the model: a program, now and then with one part turned. Written by tools/made/drawspoil.py. -/
import Derived.Test.YtblliefejffhoaaGreatDoorPbSpoil
import Derived.Test.YtblliefejffhoaaGreatDoorPbIns
import Derived.Test.YtblliefejffhoaaGreatDoorPbProg
import Derived.Deep.CutRange
namespace Go.Proofs.YtblliefejffhoaaGreatDoor
open Go.ChangeShapes Go.WideShapes Go.ChangeAt Go.RowKit Go.Deep
set_option linter.unusedVariables false

theorem Src3.only {w w' : World} {lo hi g : Nat} {a0 a1 a2 : Option Addr} {P : GProg} (h : Src3 w lo hi a0 a1 a2 P) (o : Only g w w') (hg : g < lo) : Src3 w' lo hi a0 a1 a2 P :=
  ⟨h.g0.same (o.same hg h.hh) (Nat.le_refl _) (Nat.le_refl _), h.g1.same (o.same hg h.hh) (Nat.le_refl _) (Nat.le_refl _), h.g2.same (o.same hg h.hh) (Nat.le_refl _) (Nat.le_refl _), Nat.le_trans h.hh o.size, h.s0, h.s1, h.s2, h.s3, h.s4⟩
theorem prog_type_ne {w : World} {S e size n qb : Nat} {v : Value} {xs vs : List Value} (hq : Rec w qb 27 vs) (ho : w.ownsRow S e size v n xs) (h : some qb = v.ownBlock) (hne : e ≠ 27 := by decide) : False := by
  rcases ho.2 with ⟨h0, _⟩ | ⟨g', cap', cur, h0, _, h2, _⟩
  · rw [h0] at h; simp [Value.ownBlock] at h
  · rw [h0] at h
    simp [Value.ownBlock] at h
    subst h
    unfold Rec at hq
    rw [h2] at hq
    simp at hq
    exact hne hq.2
end Go.Proofs.YtblliefejffhoaaGreatDoor
