/- eqIntS of the laws. -/
import Derived.Test.YtembifoimiochaaGreatDoorPaOne
namespace Go.Proofs.YtembifoimiochaaGreatDoor
open Go.ChangeShapes Go.WideShapes Go.ChangeAt Go.RowKit
set_option linter.unusedVariables false

set_option maxHeartbeats 400000 in
theorem eqIntS_core (a a' : Option Addr) (cap cap' n : Nat) (f : Nat → Int) (w : World)  (hn : n ≤ 1048576)
    (hx : n ≤ 0 ∨ ∃ b off b' off', a = some ⟨b, off, none⟩ ∧ a' = some ⟨b', off', none⟩ ∧ (∀ i, i < n → w.cell? ⟨b, off + i, none⟩ = some (.int .i64 (f i))) ∧ ∀ i, i < n → w.cell? ⟨b', off' + i, none⟩ = some (.int .i64 (f i))) :
    Calls Tryz.prog 24 #[.slice a n cap, .slice a' n cap'] w fun e w' => e = .returned (.bool true) ∧ ∃ m, w' = w.drewN m := by
  rcases hx with h0 | ⟨b, off, b', off', rfl, rfl, h3, h4⟩
  all_goals
    go_enter Tryz.func24, Tryz.ntmps24
    go_wp2
    go_loopw [5] (fun i wr => ∃ k : Nat, k ≤ n ∧ i = .int .i64 k ∧ ∃ m, wr = w.drewN m) (fun i wr => n - (intOf i).toNat)
    case atStart => exact ⟨0, Nat.zero_le _, rfl, 0, rfl⟩
    case round =>
      obtain ⟨k, hk, rfl, m, rfl⟩ := hrel
      by_cases hlt : k < n
      · first
        | (exfalso; omega)
        | (have hc := h3 k hlt
           have hd := h4 k hlt
           clear h3 h4
           go_wp2
           go_quiet (fail)
           go_wp2
           exact ⟨⟨k + 1, by omega, by go_num, _, rfl⟩, by simp [intOf]; omega⟩)
      · go_wp2
        go_ret
        exact ⟨rfl, _, rfl⟩

end Go.Proofs.YtembifoimiochaaGreatDoor
