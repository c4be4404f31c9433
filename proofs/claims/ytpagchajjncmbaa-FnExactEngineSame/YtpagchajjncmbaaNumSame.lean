/- Two lists of numbers held against one another, by the model and by the program. Written by tools/made/numsame.py. -/
import Derived.Test.YtpagchajjncmbaaGenNum
import Derived.Test.YtpagchajjncmbaaUpTo
namespace Go.Proofs.Ytpagchajjncmbaa
open Go.ChangeShapes Go.WideShapes Go.ChangeAt Go.RowKit Go.Joins Go.Deep
set_option linter.unusedVariables false

def numSame (a b : Int) : Bool := a == b
def numsSame (xs ys : List Int) : Bool := decide (xs.length = ys.length) && upTo (fun i => numSame (nAt xs i) (nAt ys i)) xs.length

set_option maxHeartbeats 400000 in
theorem l5Ints_core (a a' : Option Addr) (cap cap' n lo hi lo' hi' : Nat) (F G : Nat → Int) (w : World) (hn : n ≤ 1048576)
    (hx : n ≤ 0 ∨ ∃ b off b' off', a = some ⟨b, off, none⟩ ∧ a' = some ⟨b', off', none⟩ ∧ (∀ i, i < n → w.cell? ⟨b, off + i, none⟩ = some (.int .i64 (F i))) ∧ (∀ i, i < n → w.cell? ⟨b', off' + i, none⟩ = some (.int .i64 (G i)))) :
    Calls Try.prog 39 #[.slice a n cap, .slice a' n cap'] w fun e w' => e = .returned (.bool (upTo (fun i => numSame (F i) (G i)) n)) ∧ ∃ q, w' = w.drewN q := by
  rcases hx with h0 | ⟨b, off, b', off', rfl, rfl, h3, h4⟩
  all_goals
    go_enter Try.func39, Try.ntmps39
    go_wp2_with fail
    go_loopw [5] (fun i wr => ∃ k : Nat, k ≤ n ∧ i = .int .i64 k ∧ upTo (fun i => numSame (F i) (G i)) k = true ∧ ∃ q, wr = w.drewN q) (fun i wr => n - (intOf i).toNat)
    case atStart => exact ⟨0, Nat.zero_le _, rfl, rfl, 0, rfl⟩
    case round =>
      obtain ⟨k, hk, rfl, hu, q, rfl⟩ := hrel
      have HU := hide hu
      clear hu
      by_cases hlt : k < n
      · first
        | (exfalso; omega)
        | (have c0 := h3 k hlt
           have d0 := h4 k hlt
           have g1 : (0 : Int) ≤ (k : Int) := by omega
           have g2 : (k : Int) < (n : Int) := by omega
           clear h3 h4
           by_cases h0 : (F k) = (G k)
           · rw [← h0] at d0
             have hs : Hid (numSame (F k) (G k) = true) := by simp [Hid, numSame, h0]
             clear h0
             go_wp2_with fail
             go_quiet (fail)
             go_wp2_with fail
             exact ⟨⟨k + 1, by omega, by go_num, upTo_step HU.out hs.out, _, rfl⟩, by simp [intOf]; omega⟩
           · have HF : Hid (upTo (fun i => numSame (F i) (G i)) n = false) := upTo_false hlt (by simp [numSame, h0])
             go_wp2_with fail
             go_quiet (fail)
             go_wp2_with fail
             go_ret
             exact ⟨ret_bool HF.out.symm, _, World.drewN_drewN _ _ _⟩)
      · have hkn : Hid (k = n) := Nat.le_antisymm hk (Nat.le_of_not_lt hlt)
        go_wp2_with fail
        go_ret
        exact ⟨ret_bool (hkn.out ▸ HU.out).symm, _, rfl⟩

set_option maxHeartbeats 400000 in
theorem l5Ints_short (a a' : Option Addr) (cap cap' n m : Nat) (w : World) (hn : n ≤ 1048576) (hm : m ≤ 1048576) (hne : ¬ n = m) :
    Calls Try.prog 39 #[.slice a n cap, .slice a' m cap'] w fun e w' => e = .returned (.bool false) ∧ ∃ q, w' = w.drewN q := by
  have hb : ((n : Int) == (m : Int)) = false := by simp; omega
  have hd : ¬ ((n : Int) = (m : Int)) := by omega
  clear hne
  go_enter Try.func39, Try.ntmps39
  go_wp2_with fail
  go_ret
  exact ⟨rfl, 0, rfl⟩
theorem l5Ints_any {md md' : Bool} (a a' : Option Addr) (cap cap' lo hi lo' hi' : Nat) (xs ys : List Int) (w : World) (hn : xs.length ≤ 1048576) (hm : ys.length ≤ 1048576) (hx : NumsM md w lo hi a xs) (hy : NumsM md' w lo' hi' a' ys) :
    Calls Try.prog 39 #[.slice a xs.length cap, .slice a' ys.length cap'] w fun e w' => e = .returned (.bool (numsSame xs ys)) ∧ ∃ q, w' = w.drewN q := by
  by_cases hl : xs.length = ys.length
  · have e : numsSame xs ys = upTo (fun i => numSame (nAt xs i) (nAt ys i)) xs.length := by simp [numsSame, hl]
    rw [e, ← hl]
    refine l5Ints_core a a' cap cap' xs.length lo hi lo' hi' (nAt xs) (nAt ys) w hn ?_
    rcases hx.plain with rfl | ⟨b, off, rfl, h1, h2, _, h3⟩
    · exact .inl (Nat.le_refl _)
    · rcases hy.plain with rfl | ⟨b', off', rfl, h1', h2', _, h3'⟩
      · exact .inl (by rw [hl]; exact Nat.le_refl _)
      · exact .inr ⟨b, off, b', off', rfl, rfl, h3, fun i hi => h3' i (by omega)⟩
  · have e : numsSame xs ys = false := by simp [numsSame, hl]
    rw [e]
    exact l5Ints_short a a' cap cap' _ _ w hn hm hl

set_option maxHeartbeats 400000 in
theorem slicesEqualNum_core (a a' : Option Addr) (cap cap' n lo hi lo' hi' : Nat) (F G : Nat → Int) (w : World) (hn : n ≤ 1048576)
    (hx : n ≤ 0 ∨ ∃ b off b' off', a = some ⟨b, off, none⟩ ∧ a' = some ⟨b', off', none⟩ ∧ (∀ i, i < n → w.cell? ⟨b, off + i, none⟩ = some (.int .i64 (F i))) ∧ (∀ i, i < n → w.cell? ⟨b', off' + i, none⟩ = some (.int .i64 (G i)))) :
    Calls Try.prog 44 #[.slice a n cap, .slice a' n cap'] w fun e w' => e = .returned (.bool (upTo (fun i => numSame (F i) (G i)) n)) ∧ ∃ q, w' = w.drewN q := by
  rcases hx with h0 | ⟨b, off, b', off', rfl, rfl, h3, h4⟩
  all_goals
    go_enter Try.func44, Try.ntmps44
    go_wp2_with fail
    go_loopw [13] (fun i wr => ∃ k : Nat, k ≤ n ∧ i = .int .i64 k ∧ upTo (fun i => numSame (F i) (G i)) k = true ∧ ∃ q, wr = w.drewN q) (fun i wr => n - (intOf i).toNat)
    case atStart => exact ⟨0, Nat.zero_le _, rfl, rfl, 0, rfl⟩
    case round =>
      obtain ⟨k, hk, rfl, hu, q, rfl⟩ := hrel
      have HU := hide hu
      clear hu
      by_cases hlt : k < n
      · first
        | (exfalso; omega)
        | (have c0 := h3 k hlt
           have d0 := h4 k hlt
           have g1 : (0 : Int) ≤ (k : Int) := by omega
           have g2 : (k : Int) < (n : Int) := by omega
           clear h3 h4
           by_cases h0 : (F k) = (G k)
           · rw [← h0] at d0
             have hs : Hid (numSame (F k) (G k) = true) := by simp [Hid, numSame, h0]
             clear h0
             go_wp2_with fail
             go_quiet (fail)
             go_wp2_with fail
             exact ⟨⟨k + 1, by omega, by go_num, upTo_step HU.out hs.out, _, rfl⟩, by simp [intOf]; omega⟩
           · have HF : Hid (upTo (fun i => numSame (F i) (G i)) n = false) := upTo_false hlt (by simp [numSame, h0])
             go_wp2_with fail
             go_quiet (fail)
             go_wp2_with fail
             go_ret
             exact ⟨ret_bool HF.out.symm, _, World.drewN_drewN _ _ _⟩)
      · have hkn : Hid (k = n) := Nat.le_antisymm hk (Nat.le_of_not_lt hlt)
        go_wp2_with fail
        go_ret
        exact ⟨ret_bool (hkn.out ▸ HU.out).symm, _, rfl⟩

set_option maxHeartbeats 400000 in
theorem slicesEqualNum_short (a a' : Option Addr) (cap cap' n m : Nat) (w : World) (hn : n ≤ 1048576) (hm : m ≤ 1048576) (hne : ¬ n = m) :
    Calls Try.prog 44 #[.slice a n cap, .slice a' m cap'] w fun e w' => e = .returned (.bool false) ∧ ∃ q, w' = w.drewN q := by
  have hb : ((n : Int) == (m : Int)) = false := by simp; omega
  have hd : ¬ ((n : Int) = (m : Int)) := by omega
  clear hne
  go_enter Try.func44, Try.ntmps44
  go_wp2_with fail
  go_ret
  exact ⟨rfl, 0, rfl⟩
theorem slicesEqualNum_any {md md' : Bool} (a a' : Option Addr) (cap cap' lo hi lo' hi' : Nat) (xs ys : List Int) (w : World) (hn : xs.length ≤ 1048576) (hm : ys.length ≤ 1048576) (hx : NumsM md w lo hi a xs) (hy : NumsM md' w lo' hi' a' ys) :
    Calls Try.prog 44 #[.slice a xs.length cap, .slice a' ys.length cap'] w fun e w' => e = .returned (.bool (numsSame xs ys)) ∧ ∃ q, w' = w.drewN q := by
  by_cases hl : xs.length = ys.length
  · have e : numsSame xs ys = upTo (fun i => numSame (nAt xs i) (nAt ys i)) xs.length := by simp [numsSame, hl]
    rw [e, ← hl]
    refine slicesEqualNum_core a a' cap cap' xs.length lo hi lo' hi' (nAt xs) (nAt ys) w hn ?_
    rcases hx.plain with rfl | ⟨b, off, rfl, h1, h2, _, h3⟩
    · exact .inl (Nat.le_refl _)
    · rcases hy.plain with rfl | ⟨b', off', rfl, h1', h2', _, h3'⟩
      · exact .inl (by rw [hl]; exact Nat.le_refl _)
      · exact .inr ⟨b, off, b', off', rfl, rfl, h3, fun i hi => h3' i (by omega)⟩
  · have e : numsSame xs ys = false := by simp [numsSame, hl]
    rw [e]
    exact slicesEqualNum_short a a' cap cap' _ _ w hn hm hl
end Go.Proofs.Ytpagchajjncmbaa
