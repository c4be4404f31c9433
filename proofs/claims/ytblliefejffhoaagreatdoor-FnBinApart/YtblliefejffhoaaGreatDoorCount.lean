/- KinCount of the program and of the model: how many types there are. -/
import Derived.Test.YtblliefejffhoaaGreatDoorTo0
namespace Go.Proofs.YtblliefejffhoaaGreatDoor
open Go.ChangeShapes Go.WideShapes Go.ChangeAt Go.RowKit
set_option linter.unusedVariables false

/-- How many types the first k groups have. -/
def countTo (G : Nat → List Ty) : Nat → Nat
  | 0 => 0
  | k + 1 => countTo G k + (G k).length

theorem countTo_le (G : Nat → List Ty) (n : Nat) (h : ∀ i, i < n → (G i).length ≤ 1048576) (k : Nat) (hk : k ≤ n) : countTo G k ≤ k * 1048576 := by
  induction k with
  | zero => simp [countTo]
  | succ k ih => have := ih (by omega); have := h k (by omega); simp only [countTo]; omega

set_option maxHeartbeats 400000 in
theorem specKinCount_core (a : Option Addr) (cap n lo hi : Nat) (G : Nat → List Ty) (w : World) (hn : n ≤ 1048576) (hm : ∀ i, i < n → (G i).length ≤ 1048576)
    (hx : n ≤ 0 ∨ ∃ b off, a = some ⟨b, off, none⟩ ∧ lo ≤ b ∧ b < hi ∧ ∀ i, i < n → GroupAt w lo hi b (off + i) (G i)) :
    Calls Tryz.prog 25 #[.slice a n cap] w fun e w' => e = .returned (.int .i64 (countTo G n : Nat)) ∧ w' = w := by
  have HM := hide hm
  clear hm
  rcases hx with h0 | ⟨b, off, rfl, h1, h2, h3⟩
  all_goals
    go_enter Tryz.func25, Tryz.ntmps25
    go_wp2_with fail
    go_loop [3, 4] (fun c i => ∃ k : Nat, k ≤ n ∧ i = .int .i64 k ∧ c = .int .i64 (countTo G k : Nat)) (fun c i => n - (intOf i).toNat)
    case atStart => exact ⟨0, Nat.zero_le _, rfl, rfl⟩
    case round =>
      obtain ⟨k, hk, rfl, rfl⟩ := hrel
      have q1 := countTo_le G n HM.out k hk
      by_cases hkn : k < n
      · first
        | (exfalso; omega)
        | (obtain ⟨ta, tc, c3, c4⟩ := h3 k hkn
           have q2 := HM.out k hkn
           clear h3 c4
           go_wp2_with fail
           refine ⟨⟨k + 1, by omega, by go_num, ?_⟩, by simp [intOf]; omega⟩
           simp [countTo])
      · have hkn' : Hid (k = n) := Nat.le_antisymm hk (Nat.le_of_not_lt hkn)
        go_wp2_with fail
        go_ret
        exact ⟨ret_int (by rw [hkn'.out]), rfl⟩

set_option maxHeartbeats 400000 in
theorem implKinCount_core (a : Option Addr) (cap n lo hi : Nat) (G : Nat → List Ty) (w : World) (hn : n ≤ 1048576) (hm : ∀ i, i < n → (G i).length ≤ 1048576)
    (hx : n ≤ 0 ∨ ∃ b off, a = some ⟨b, off, none⟩ ∧ lo ≤ b ∧ b < hi ∧ ∀ i, i < n → GroupAt w lo hi b (off + i) (G i)) :
    Calls Tryz.prog 10 #[.slice a n cap] w fun e w' => e = .returned (.int .i64 (countTo G n : Nat)) ∧ w' = w := by
  have HM := hide hm
  clear hm
  rcases hx with h0 | ⟨b, off, rfl, h1, h2, h3⟩
  all_goals
    go_enter Tryz.func10, Tryz.ntmps10
    go_wp2_with fail
    go_loop [3, 8] (fun c i => ∃ k : Nat, k ≤ n ∧ i = .int .i64 k ∧ c = .int .i64 (countTo G k : Nat)) (fun c i => n - (intOf i).toNat)
    case atStart => exact ⟨0, Nat.zero_le _, rfl, rfl⟩
    case round =>
      obtain ⟨k, hk, rfl, rfl⟩ := hrel
      have q1 := countTo_le G n HM.out k hk
      by_cases hkn : k < n
      · first
        | (exfalso; omega)
        | (obtain ⟨ta, tc, c3, c4⟩ := h3 k hkn
           have q2 := HM.out k hkn
           clear h3 c4
           go_wp2_with fail
           refine ⟨⟨k + 1, by omega, by go_num, ?_⟩, by simp [intOf]; omega⟩
           simp [countTo])
      · have hkn' : Hid (k = n) := Nat.le_antisymm hk (Nat.le_of_not_lt hkn)
        go_wp2_with fail
        go_ret
        exact ⟨ret_int (by rw [hkn'.out]), rfl⟩

/-- How many types there are. -/
def kinCount (gs : List (List Ty)) : Nat := countTo (grAt gs) gs.length

theorem specKinCount_any (a : Option Addr) (cap lo hi : Nat) (gs : List (List Ty)) (w : World) (hn : Few gs) (hx : GroupsIn w lo hi a gs) :
    Calls Tryz.prog 25 #[.slice a gs.length cap] w fun e w' => e = .returned (.int .i64 (kinCount gs : Nat)) ∧ w' = w := by
  refine specKinCount_core a cap gs.length lo hi (grAt gs) w hn.1 (fun i hi => (hn.2 i hi).1) ?_
  rcases hx with rfl | ⟨b, off, rfl, h1, h2, h3⟩
  · exact .inl (Nat.le_refl _)
  · exact .inr ⟨b, off, rfl, h1, h2, h3⟩

theorem implKinCount_any (a : Option Addr) (cap lo hi : Nat) (gs : List (List Ty)) (w : World) (hn : Few gs) (hx : GroupsIn w lo hi a gs) :
    Calls Tryz.prog 10 #[.slice a gs.length cap] w fun e w' => e = .returned (.int .i64 (kinCount gs : Nat)) ∧ w' = w := by
  refine implKinCount_core a cap gs.length lo hi (grAt gs) w hn.1 (fun i hi => (hn.2 i hi).1) ?_
  rcases hx with rfl | ⟨b, off, rfl, h1, h2, h3⟩
  · exact .inl (Nat.le_refl _)
  · exact .inr ⟨b, off, rfl, h1, h2, h3⟩

theorem kinCount_le {gs : List (List Ty)} (h : Few gs) : kinCount gs ≤ 1099511627776 := by
  have := countTo_le (grAt gs) gs.length (fun i hi => (h.2 i hi).1) gs.length (Nat.le_refl _)
  have h1 := h.1
  unfold kinCount
  omega
end Go.Proofs.YtblliefejffhoaaGreatDoor
