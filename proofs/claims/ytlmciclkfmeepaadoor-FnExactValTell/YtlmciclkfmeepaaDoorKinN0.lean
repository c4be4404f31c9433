/- isType of the program's table. -/
import Derived.Test.YtlmciclkfmeepaaDoorKinM
namespace Go.Proofs.YtlmciclkfmeepaaDoor
open Go.ChangeShapes Go.WideShapes Go.ChangeAt Go.RowKit
set_option linter.unusedVariables false

def isTypeF (gs : List (List Ty)) (a : Int) : Bool := decide (0 ≤ a) && decide (a < (kinCount gs : Int))
def isRefF (gs : List (List Ty)) (a : Int) : Bool := decide (-2 ≤ a) && decide (a < (kinCount gs : Int))

set_option maxHeartbeats 400000 in
theorem isType_any (ra ca : Option Addr) (rc cc : Nat) (gs : List (List Ty)) (a : Int) (w : World) (hn : kinCount gs ≤ 1099511627776) :
    Calls Tryd.prog 55 #[.agg #[.slice ra (kinCount gs) rc, .slice ca (kinCount gs) cc], .int .i64 a] w fun e w' => e = .returned (.bool (isTypeF gs a)) ∧ Below w.heap.size w w' := by
  by_cases h : 0 ≤ a
  · have d : decide (0 ≤ a) = true := by simpa using h
    go_enter Tryd.func55, Tryd.ntmps55
    go_wp2_with fail
    go_ret
    exact ⟨ret_bool (by unfold isTypeF; simp [h]), (Below.refl _ _).alloc (Nat.le_refl _) _⟩
  · have d : decide (0 ≤ a) = false := by simpa using h
    go_enter Tryd.func55, Tryd.ntmps55
    go_wp2_with fail
    go_ret
    exact ⟨ret_bool (by unfold isTypeF; rw [d]; rfl), (Below.refl _ _).alloc (Nat.le_refl _) _⟩

theorem tab_alloc {w : World} {lo hi : Nat} {ra : Option Addr} {cb co : Nat} {gs : List (List Ty)} (h : TabIn w lo hi ra cb co gs) (hh : hi ≤ w.heap.size) (o : Obj) : TabIn (w.alloc o) lo hi ra cb co gs :=
  h.keep (((Below.refl w.heap.size w).alloc (Nat.le_refl _) o).mono hh)
end Go.Proofs.YtlmciclkfmeepaaDoor
