/- What the laws on heaps make of their arguments. -/
import Derived.Test.YtgobajjllnhlkaaGreatDoorOpenHeapI
import Derived.Test.YtgobajjllnhlkaaGreatDoorPaOne
import Derived.Deep.RegionHeld3
namespace Go.Proofs.YtgobajjllnhlkaaGreatDoor
open Go.ChangeShapes Go.WideShapes Go.ChangeAt Go.RowKit Go.Deep
set_option linter.unusedVariables false

/-- Groups in blocks of their own, from lo on. -/
def GN (w : World) (lo : Nat) (n : Option Addr) (gs : List (List Ty)) : Prop := ∃ hi, lo ≤ hi ∧ hi ≤ w.heap.size ∧ GroupsNew w lo hi n gs
theorem GN.below {w w' : World} {lo : Nat} {n : Option Addr} {gs : List (List Ty)} (h : GN w lo n gs) (hb : Below w.heap.size w w') : GN w' lo n gs := by
 obtain ⟨hi, h1, h2, h3⟩ := h
 exact ⟨hi, h1, Nat.le_trans h2 hb.size, h3.keep (hb.mono h2)⟩
/-- A heap's lists, as they lie. -/
def PMh (md : Bool) (w : World) (lo hi : Nat) (a0 a4 : Option Addr) (x : GHeap) : Prop := NumsM md w lo hi a0 x.words ∧ NumsM md w lo hi a4 x.log
theorem PMh.keep {md : Bool} {w w' : World} {lo hi : Nat} {a0 a4 : Option Addr} {x : GHeap} (h : PMh md w lo hi a0 a4 x) (hb : Below hi w w') : PMh md w' lo hi a0 a4 x := ⟨h.1.keep hb, h.2.keep hb⟩
/-- A heap's lists in blocks of their own, from lo on. -/
def HN (w : World) (lo : Nat) (n0 n4 : Option Addr) (x : GHeap) : Prop := ∃ hi, lo ≤ hi ∧ hi ≤ w.heap.size ∧ PMh true w lo hi n0 n4 x
theorem HN.below {w w' : World} {lo : Nat} {n0 n4 : Option Addr} {x : GHeap} (h : HN w lo n0 n4 x) (hb : Below w.heap.size w w') : HN w' lo n0 n4 x := by
 obtain ⟨hi, h1, h2, h3⟩ := h
 exact ⟨hi, h1, Nat.le_trans h2 hb.size, h3.keep (hb.mono h2)⟩
theorem numsIn {md : Bool} {w : World} {lo hi : Nat} {a : Option Addr} {xs : List Int} (h : NumsM md w lo hi a xs) : IntsIn w 0 hi a xs := by
 rcases h with h | ⟨b, off, h1, h2, h3, _, h5⟩
 ·exact .inl h
 ·exact .inr ⟨b, off, h1, Nat.zero_le _, h3, h5⟩
theorem HN.hin {w : World} {lo : Nat} {n0 n4 : Option Addr} {x : GHeap} (h : HN w lo n0 n4 x) (hB : HeapB 1048576 x) (hI : HI x) : ∃ hi, HIn w 0 hi x n0 n4 x.words.length x.log.length := by
 obtain ⟨hi, h1, h2, h3, h4⟩ := h
 exact ⟨hi, numsIn h3, numsIn h4, hB.1, hB.2, Nat.le_refl _, Nat.le_refl _, hI.wb, hI.lb, hI.ob, hI.ab, hI.yb, h2⟩
end Go.Proofs.YtgobajjllnhlkaaGreatDoor
