/- Roots, plainly. -/
import Derived.Test.YtembifoimiochaaGreatDoorPhS
import Derived.Test.YtembifoimiochaaGreatDoorPhWord
namespace Go.Proofs.YtembifoimiochaaGreatDoor
open Go.ChangeShapes Go.WideShapes Go.ChangeAt Go.RowKit Go.Deep
set_option linter.unusedVariables false

/-- The sort a root is held against. -/
def rootS (k : Int) : Fd := if k = 1 then ⟨1, 0, false⟩ else ⟨2, -1, false⟩
def rootF (gs : List (List Ty)) (h : GHeap) (S : List Int) (v : GVal) : Bool := hfitF gs h S v.kind v.n (rootS v.kind)
def rootsF (gs : List (List Ty)) (h : GHeap) (rs : List GVal) : Bool := allTo (fun i => rootF gs h (startsF gs h) (valAt' rs i)) rs.length
/-- Values are right, from which things of a heap are reached. -/
def rootsOkF (gs : List (List Ty)) (h : GHeap) (rs : List GVal) : Bool := heapOkF gs h && rootsF gs h rs
theorem root_fits {gs : List (List Ty)} {h : GHeap} {S : List Int} (hS : StOk gs h S) (k n : Int) : (fitsV gs (stL h S) k n ⟨1, 0, false⟩ || fitsV gs (stL h S) k n ⟨2, -1, false⟩) = rootF gs h S ⟨k, n⟩ := by
 rw [hfit_fits hS, hfit_fits hS]
 have e1 : fieldOk 1 0 (kinCount gs : Nat) = true := by simp [fieldOk]
 have e2 : fieldOk 2 (-1) (kinCount gs : Nat) = true := by simp [fieldOk]
 rw [e1, e2, Bool.true_and, Bool.true_and]
 unfold rootF rootS hfitF
 by_cases hk : k = 1
 ·subst hk
  simp
 ·have hk' : (k == 1) = false := beq_eq_false_iff_ne.2 hk
  simp [hk, hk']
end Go.Proofs.YtembifoimiochaaGreatDoor
