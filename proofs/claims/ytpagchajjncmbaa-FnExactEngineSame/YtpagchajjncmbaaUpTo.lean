/- Whether something holds of all numbers below one. -/
import Derived.Test.YtpagchajjncmbaaGenRoot
import Derived.Laws.StructEq
namespace Go.Proofs.Ytpagchajjncmbaa
open Go.ChangeShapes Go.WideShapes Go.ChangeAt Go.RowKit Go.Joins Go.Deep
set_option linter.unusedVariables false

/-- P holds of all numbers below n. -/
def upTo (P : Nat → Bool) : Nat → Bool
  | 0 => true
  | n + 1 => upTo P n && P n
theorem upTo_false {P : Nat → Bool} {k n : Nat} (h : k < n) (hk : P k = false) : upTo P n = false := by
  induction n with
  | zero => omega
  | succ n ih =>
    by_cases e : k = n
    · subst e; simp [upTo, hk]
    · simp [upTo, ih (by omega)]
theorem upTo_step {P : Nat → Bool} {k : Nat} (h : upTo P k = true) (hk : P k = true) : upTo P (k + 1) = true := by simp [upTo, h, hk]

theorem quiet_at {P : Program} {f : FuncId} {args : Array Value} {w : World} {q m : Nat} {v : Value} (h : Calls P f args (w.drewN (q + m)) fun e w' => e = .returned v ∧ ∃ j, w' = (w.drewN (q + m)).drewN j) : Calls P f args (w.drewN (q + m)) fun e w' => e = .returned v ∧ ∃ j, w' = w.drewN (q + j) :=
  h.mono fun _ _ ⟨he, j, hj⟩ => ⟨he, m + j, by rw [hj, World.drewN_drewN, Nat.add_assoc]⟩
end Go.Proofs.Ytpagchajjncmbaa
