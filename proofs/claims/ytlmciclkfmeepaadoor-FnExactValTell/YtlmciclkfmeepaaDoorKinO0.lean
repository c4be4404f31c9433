/- l1Canon and l1Of of the model. -/
import Derived.Test.YtlmciclkfmeepaaDoorKinN0
namespace Go.Proofs.YtlmciclkfmeepaaDoor
open Go.ChangeShapes Go.WideShapes Go.ChangeAt Go.RowKit
set_option linter.unusedVariables false

set_option maxHeartbeats 800000 in
theorem l1Canon_any (ga : Option Addr) (gc lo hi : Nat) (gs : List (List Ty)) (m : Nat) (w : World) (hP : Parts gs) (hN : Few gs) (hc : gs.length ≤ gc) (hm : m < kinCount gs) (hh : hi ≤ w.heap.size) (hx : GroupsIn w lo hi ga gs) :
    Calls Tryd.prog 54 #[.slice ga gs.length gc, .int .i64 (m : Int)] w fun e w' => e = .returned (.int .i64 (canon gs m : Nat)) ∧ Below w.heap.size w w' := by
  have m8 := hP.2.1
  have HS := hide (fun i (hi : i < kinCount gs) w1 (hb : Below w.heap.size w w1) => l1Same_any ga gc lo _ gs i m w1 hP hN hc hi hm (Nat.le_trans hh hb.size) (hx.keep (hb.mono hh)))
  have sp := firstFrom_spec (fun i => same gs i m) m 0
  have HSp : Hid (∀ j, j ≤ m → (∀ i, i < j → same gs i m = false) → j = m ∨ same gs j m = true → canon gs m = j) := fun j hj hl he => by
    have h1 := canon_le gs m
    have h2 := canon_same gs m
    by_cases c1 : canon gs m < j
    · rw [hl _ c1] at h2; cases h2
    · by_cases c2 : j < canon gs m
      · have h3 := canon_least gs m j c2
        rcases he with rfl | he
        · omega
        · rw [he] at h3; cases h3
      · omega
  clear hP hN hx sp
  go_enter Tryd.func54, Tryd.ntmps54
  go_wp2_with fail
  go_loopw [5] (fun v wr => ∃ j : Nat, j ≤ m ∧ v = .int .i64 j ∧ (∀ i, i < j → same gs i m = false) ∧ Below w.heap.size w wr) (fun v wr => m - (intOf v).toNat)
  case atStart => exact ⟨0, Nat.zero_le _, rfl, fun i hi => absurd hi (Nat.not_lt_zero _), Below.refl _ _⟩
  case round =>
    obtain ⟨j, hj, rfl, hA, hb⟩ := hrel
    have HA := hide hA
    have HB := hide hb
    clear hA hb
    by_cases hjm : j < m
    · have HCall := hide (HS.out j (by omega) wr HB.out)
      have HT : Hid (same gs j m = true → canon gs m = j) := fun h => HSp.out j hj HA.out (.inr h)
      have HF : Hid (same gs j m = false → ∀ i, i < j + 1 → same gs i m = false) := fun h i hi => by
        by_cases e : i = j
        · subst e; exact h
        · exact HA.out i (by omega)
      generalize same gs j m = v at HCall HT HF
      go_wp2_with fail
      refine HCall.out.mono ?_
      rintro e w1 ⟨rfl, hb1⟩
      have B1 := hide (HB.out.trans (hb1.mono HB.out.size))
      clear hb1
      cases v with
      | true =>
        have hz := HT.out rfl
        clear HT HF
        have HZ := hide hz
        clear hz
        go_wp2_with fail
        go_ret
        exact ⟨ret_int (by rw [HZ.out]), B1.out⟩
      | false =>
        have hf := HF.out rfl
        clear HT HF
        have HF := hide hf
        clear hf
        go_wp2_with fail
        exact ⟨⟨j + 1, by omega, by go_num, HF.out, B1.out⟩, by simp [intOf]; omega⟩
    · have hje : Hid (j = m) := Nat.le_antisymm hj (Nat.le_of_not_lt hjm)
      go_wp2_with fail
      go_ret
      exact ⟨ret_int (by rw [HSp.out m (Nat.le_refl _) (hje.out ▸ HA.out) (.inl rfl)]), HB.out⟩

theorem l1Of_any (gs : List (List Ty)) (a : Int) (w : World) (hn : kinCount gs ≤ 1099511627776) :
    Calls Tryd.prog 40 #[.int .i64 a, .int .i64 (kinCount gs : Int)] w fun e w' => e = .returned (.bool (isRefF gs a)) ∧ w' = w := by
  by_cases h : -2 ≤ a
  · have d : decide (-2 ≤ a) = true := by simpa using h
    go_enter Tryd.func40, Tryd.ntmps40
    go_wp2_with fail
    go_ret
    exact ⟨ret_bool (by unfold isRefF; rw [d]; rfl), rfl⟩
  · have d : decide (-2 ≤ a) = false := by simpa using h
    go_enter Tryd.func40, Tryd.ntmps40
    go_wp2_with fail
    go_ret
    exact ⟨ret_bool (by unfold isRefF; rw [d]; rfl), rfl⟩
end Go.Proofs.YtlmciclkfmeepaaDoor
