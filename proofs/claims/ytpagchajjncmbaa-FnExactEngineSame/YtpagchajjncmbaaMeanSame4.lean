/- MeanSame of the model: things. -/
import Derived.Test.YtpagchajjncmbaaMeanSame2
namespace Go.Proofs.Ytpagchajjncmbaa
open Go.ChangeShapes Go.WideShapes Go.ChangeAt Go.RowKit Go.Joins Go.Deep
set_option linter.unusedVariables false

set_option maxHeartbeats 3200000 in
theorem l5Things_core (a a' : Option Addr) (cap cap' n lo hi lo' hi' : Nat) (F G : Nat → GThing) (w : World) (hn : n ≤ 1048576) (hF : ∀ i, i < n → ThingB 1048576 (F i)) (hG : ∀ i, i < n → ThingB 1048576 (G i))
    (hx : n ≤ 0 ∨ ∃ b off b' off', a = some ⟨b, off, none⟩ ∧ a' = some ⟨b', off', none⟩ ∧ (lo ≤ b ∧ b < hi) ∧ (lo' ≤ b' ∧ b' < hi') ∧ (∀ i, i < n → ThingAt false w lo hi b (off + i * 2) (F i)) ∧ (∀ i, i < n → ThingAt false w lo' hi' b' (off' + i * 2) (G i))) :
    Calls Try.prog 41 #[.slice a n cap, .slice a' n cap'] w fun e w' => e = .returned (.bool (upTo (fun i => thingSame (F i) (G i)) n)) ∧ ∃ q, w' = w.drewN q := by
  have HLF := hide hF
  have HLG := hide hG
  clear hF hG
  rcases hx with h0 | ⟨b, off, b', off', rfl, rfl, t1, t2, h3, h4⟩
  all_goals
    go_enter Try.func41, Try.ntmps41
    go_wp2_with fail
    go_loopw [5] (fun i wr => ∃ k : Nat, k ≤ n ∧ i = .int .i64 k ∧ upTo (fun i => thingSame (F i) (G i)) k = true ∧ ∃ q, wr = w.drewN q) (fun i wr => n - (intOf i).toNat)
    case atStart => exact ⟨0, Nat.zero_le _, rfl, rfl, 0, rfl⟩
    case round =>
      obtain ⟨k, hk, rfl, hu, q, rfl⟩ := hrel
      have HU := hide hu
      clear hu
      by_cases hlt : k < n
      · first
        | (exfalso; omega)
        | (have g1 : (0 : Int) ≤ (k : Int) := by omega
           have g2 : (k : Int) < (n : Int) := by omega
           obtain ⟨m1, c1, e0, e1, l1⟩ := h3 k hlt
           obtain ⟨n1, d1, f0, f1, k1⟩ := h4 k hlt
           have M1 := hide l1
           have N1 := hide k1
           clear l1 k1 h3 h4
           have HC : Hid (∀ m, Calls Try.prog 40 #[.slice m1 (F k).vals.length c1, .slice n1 (G k).vals.length d1] (w.drewN (q + m)) fun e w' => e = .returned (.bool (valsSame (F k).vals (G k).vals)) ∧ ∃ j, w' = w.drewN (q + j)) := fun m =>
             quiet_at (l5Vals_any m1 n1 c1 d1 lo hi lo' hi' (F k).vals (G k).vals _ (HLF.out k hlt) (HLG.out k hlt) (show ValsM false w lo hi m1 (F k).vals from M1.out) (show ValsM false w lo' hi' n1 (G k).vals from N1.out))
           by_cases ht : (F k).typ = (G k).typ
           · rw [← ht] at f0
             by_cases h4 : valsSame (F k).vals (G k).vals = true
             · rw [h4] at HC
               have hs : Hid (thingSame (F k) (G k) = true) := by simp [Hid, thingSame, ht, h4]
               have HS := HC
               clear ht h4 HC
               go_wp2_with fail
               go_quiet ((go_at_call 40; exact HS.out _))
               go_wp2_with fail
               exact ⟨⟨k + 1, by omega, by go_num, upTo_step HU.out hs.out, _, rfl⟩, by simp [intOf]; omega⟩
             · have h4' : valsSame (F k).vals (G k).vals = false := by simpa using h4
               rw [h4'] at HC
               have HF : Hid (upTo (fun i => thingSame (F i) (G i)) n = false) := upTo_false hlt (by simp [thingSame, h4'])
               have HS := HC
               clear ht h4 h4' HC
               go_wp2_with fail
               go_quiet ((go_at_call 40; exact HS.out _))
               go_wp2_with fail
               go_ret
               exact ⟨ret_bool HF.out.symm, _, World.drewN_drewN _ _ _⟩
           · have HF : Hid (upTo (fun i => thingSame (F i) (G i)) n = false) := upTo_false hlt (by simp [thingSame, ht])
             have e2 : ((F k).typ != (G k).typ) = true := by simpa using ht
             clear HC ht
             go_wp2_with fail
             go_quiet (fail)
             go_wp2_with fail
             go_ret
             exact ⟨ret_bool HF.out.symm, _, World.drewN_drewN _ _ _⟩)
      · have hkn : Hid (k = n) := Nat.le_antisymm hk (Nat.le_of_not_lt hlt)
        go_wp2_with fail
        go_ret
        exact ⟨ret_bool (hkn.out ▸ HU.out).symm, _, rfl⟩

set_option maxHeartbeats 400000 in
theorem l5Things_short (a a' : Option Addr) (cap cap' n m : Nat) (w : World) (hn : n ≤ 1048576) (hm : m ≤ 1048576) (hne : ¬ n = m) :
    Calls Try.prog 41 #[.slice a n cap, .slice a' m cap'] w fun e w' => e = .returned (.bool false) ∧ ∃ q, w' = w.drewN q := by
  have hb : ((n : Int) == (m : Int)) = false := by simp; omega
  have hd : ¬ ((n : Int) = (m : Int)) := by omega
  clear hne
  go_enter Try.func41, Try.ntmps41
  go_wp2_with fail
  go_ret
  exact ⟨rfl, 0, rfl⟩

theorem l5Things_any {md md' : Bool} (a a' : Option Addr) (cap cap' lo hi lo' hi' : Nat) (xs ys : List GThing) (w : World) (hn : ThingsB 1048576 xs) (hm : ThingsB 1048576 ys) (hx : ThingsM md w lo hi a xs) (hy : ThingsM md' w lo' hi' a' ys) :
    Calls Try.prog 41 #[.slice a xs.length cap, .slice a' ys.length cap'] w fun e w' => e = .returned (.bool (thingsSame xs ys)) ∧ ∃ q, w' = w.drewN q := by
  by_cases hl : xs.length = ys.length
  · have e : thingsSame xs ys = upTo (fun i => thingSame (thingAt' xs i) (thingAt' ys i)) xs.length := by simp [thingsSame, hl]
    rw [e, ← hl]
    exact l5Things_core a a' cap cap' xs.length lo hi lo' hi' (thingAt' xs) (thingAt' ys) w hn.1 hn.2 (fun i hi => hm.2 i (by omega)) (hx.both hy hl.symm)
  · have e : thingsSame xs ys = false := by simp [thingsSame, hl]
    rw [e]
    exact l5Things_short a a' cap cap' _ _ w hn.1 hm.1 hl
end Go.Proofs.Ytpagchajjncmbaa
