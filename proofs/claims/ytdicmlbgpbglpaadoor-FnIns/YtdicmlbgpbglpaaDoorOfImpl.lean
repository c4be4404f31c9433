/- ofText of the program. -/
import Derived.Test.YtdicmlbgpbglpaaDoorItoa
namespace Go.Proofs.YtdicmlbgpbglpaaDoor
open Go.ChangeShapes Go.WideShapes Go.ChangeAt Go.RowKit
set_option linter.unusedVariables false

theorem grown_below (w : World) (k : Nat) (os : Array Obj) : Below w.heap.size w (Sort.grow (w.drewN k) os) := by
  refine ⟨rfl, rfl, rfl, ?_, fun i hi => ?_⟩
  · show w.heap.size ≤ (w.heap ++ os).size
    simp
  · show (w.heap ++ os)[i]? = w.heap[i]?
    rw [Array.getElem?_append_left hi]

theorem gPow : Tryd.prog.globalNamed "internal/strconv.uint64pow10" = some 4 := by kernel_rfl

def pow10 (w : World) : Prop := Lib.TabIs Tryd.prog w "internal/strconv.uint64pow10" .u64 Lib.pow10Tab

set_option maxHeartbeats 400000 in
theorem ofText_any (n : Int) (w : World) (h1 : -2 ≤ n) (h2 : n < 1000000) (ht : pow10 w) :
    Calls Tryd.prog 29 #[.int .i64 n] w fun e w' => e = .returned (.string ⟨(ofTxt n).toArray⟩) ∧ Below w.heap.size w w' := by
  by_cases ha : n = -1
  · subst ha
    go_enter Tryd.func29, Tryd.ntmps29
    go_wp2_with fail
    go_ret
    exact ⟨rfl, Below.refl _ _⟩
  by_cases hb : n = -2
  · subst hb
    go_enter Tryd.func29, Tryd.ntmps29
    go_wp2_with fail
    go_ret
    exact ⟨rfl, Below.refl _ _⟩
  have HO : Hid (ofTxt n = Lib.itoa n) := by simp only [Hid, ofTxt, Lib.itoa]; rw [if_neg ha, if_neg hb, if_neg (by omega)]
  have g1 : (n == -1) = false := by simp [ha]
  have g2 : (n == -2) = false := by simp [hb]
  go_enter Tryd.func29, Tryd.ntmps29
  go_wp2_with fail
  refine (Tryd.itoa n (by omega) (by omega) w ht).mono ?_
  rintro e w1 ⟨rfl, k, os, rfl⟩
  have b1 := grown_below w k os
  generalize Sort.grow (w.drewN k) os = w1 at b1 ⊢
  go_wp2_with fail
  go_ret
  exact ⟨by rw [HO.out]; rfl, b1⟩

theorem pow10_keep {w w' : World} (h : pow10 w) (hb : Below w.heap.size w w') : pow10 w' := Joins.tab_stays gPow h hb (Nat.le_refl _)

theorem ofText_at (n : Int) (l : List UInt8) (h : l = ofTxt n) (w : World) (h1 : -2 ≤ n) (h2 : n < 1000000) (ht : pow10 w) :
    Calls Tryd.prog 29 #[.int .i64 n] w fun e w' => e = .returned (.string ⟨l.toArray⟩) ∧ Below w.heap.size w w' := h ▸ ofText_any n w h1 h2 ht

theorem below_more {w v : World} (h : Below w.heap.size w v) (o : Obj) : Below w.heap.size w (v.alloc o) := h.alloc h.size o
end Go.Proofs.YtdicmlbgpbglpaaDoor
