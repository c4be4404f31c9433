/- What the program and the model reckon of two numbers: NumDo, at every kind and every two machine numbers. -/
import Derived.Test.YthnccdmkhllibaaBase
namespace Go.Proofs.Ythnccdmkhllibaa
open Go.ChangeShapes Go.WideShapes Go.ChangeAt Go.RowKit
set_option linter.unusedVariables false

theorem wr64 (n : Int) (h : -9223372036854775808 ≤ n ∧ n ≤ 9223372036854775807) : wrap64 n = n := by unfold wrap64; omega

/-- NumDo, plainly. -/
def numDo (op a b : Int) : Int :=
  if op = 7 then (a % 9973 + b % 9973) % 9973 else if op = 8 then (a % 9973 * (b % 9973)) % 9973 else if op = 9 then (if a % 9973 < b % 9973 then 1 else 0) else 0

theorem tmod_left (a : Int) : (if Int.tmod a 9973 < 0 then Int.tmod a 9973 + 9973 else Int.tmod a 9973) = a % 9973 := by
  rcases Int.le_total 0 a with h | h
  · rw [Int.tmod_eq_emod_of_nonneg h, if_neg (by omega)]
  · obtain ⟨b, rfl⟩ : ∃ b, a = -b := ⟨-a, by omega⟩
    rw [Int.neg_tmod, Int.tmod_eq_emod_of_nonneg (by omega)]
    split <;> omega

theorem tmod_bounds (a : Int) : -9973 < Int.tmod a 9973 ∧ Int.tmod a 9973 < 9973 := by
  rcases Int.le_total 0 a with h | h
  · rw [Int.tmod_eq_emod_of_nonneg h]; omega
  · obtain ⟨b, rfl⟩ : ∃ b, a = -b := ⟨-a, by omega⟩
    rw [Int.neg_tmod, Int.tmod_eq_emod_of_nonneg (by omega)]
    omega

set_option maxHeartbeats 400000 in
theorem numLeft_any (n : Int) (w : World) :
    Calls Try.prog 27 #[.int .i64 n] w fun e w' => e = .returned (.int .i64 (n % 9973)) ∧ w' = w := by
  have hl := hide (tmod_left n)
  have hb := hide (tmod_bounds n)
  go_enter Try.func27, Try.ntmps27
  go_wp2
  all_goals go_ret
  all_goals refine ⟨ret_int ?_, rfl⟩
  · rename_i h; rw [← hl.out, if_pos h]; exact wr64 _ (by have := hb.out; omega)
  · rename_i h; rw [← hl.out, if_neg (by omega)]

set_option maxHeartbeats 400000 in
theorem specMod_any (n : Int) (w : World) :
    Calls Try.prog 28 #[.int .i64 n] w fun e w' => e = .returned (.int .i64 (n % 9973)) ∧ w' = w := by
  have hl := hide (tmod_left n)
  have hb := hide (tmod_bounds n)
  go_enter Try.func28, Try.ntmps28
  go_wp2
  all_goals go_ret
  all_goals refine ⟨ret_int ?_, rfl⟩
  · rename_i h; rw [← hl.out, if_pos h]; exact wr64 _ (by have := hb.out; omega)
  · rename_i h; rw [← hl.out, if_neg (by omega)]

/-- The products and sums of what is left stay small. -/
theorem left_small (a b : Int) : wrap64 (a % 9973 + b % 9973) = a % 9973 + b % 9973 ∧ wrap64 (a % 9973 * (b % 9973)) = a % 9973 * (b % 9973) := by
  have h1 : 0 ≤ a % 9973 ∧ a % 9973 < 9973 := by omega
  have h2 : 0 ≤ b % 9973 ∧ b % 9973 < 9973 := by omega
  generalize a % 9973 = x at *
  generalize b % 9973 = y at *
  refine ⟨wr64 _ (by omega), wr64 _ ⟨?_, ?_⟩⟩
  · have := Int.mul_nonneg h1.1 h2.1; omega
  · have := Int.mul_le_mul (Int.le_of_lt h1.2) (Int.le_of_lt h2.2) h2.1 (by omega); omega

set_option maxHeartbeats 400000 in
theorem numSum_any (a b : Int) (w : World) :
    Calls Try.prog 24 #[.int .i64 (a % 9973), .int .i64 (b % 9973)] w fun e w' => e = .returned (.int .i64 (numDo 7 a b)) ∧ w' = w := by
  have hs := hide (left_small a b)
  go_enter Try.func24, Try.ntmps24
  go_wp2_with fail
  refine (numLeft_any _ _).mono ?_
  rintro e w' ⟨rfl, rfl⟩
  go_wp2_with fail
  go_ret
  exact ⟨ret_int (by (try rw [hs.out.1]); simp [numDo]), rfl⟩

set_option maxHeartbeats 400000 in
theorem numProduct_any (a b : Int) (w : World) :
    Calls Try.prog 25 #[.int .i64 (a % 9973), .int .i64 (b % 9973)] w fun e w' => e = .returned (.int .i64 (numDo 8 a b)) ∧ w' = w := by
  have hs := hide (left_small a b)
  go_enter Try.func25, Try.ntmps25
  go_wp2_with fail
  refine (numLeft_any _ _).mono ?_
  rintro e w' ⟨rfl, rfl⟩
  go_wp2_with fail
  go_ret
  exact ⟨ret_int (by (try rw [hs.out.2]); simp [numDo]), rfl⟩

set_option maxHeartbeats 400000 in
theorem numLess_any (a b : Int) (w : World) :
    Calls Try.prog 26 #[.int .i64 (a % 9973), .int .i64 (b % 9973)] w fun e w' => e = .returned (.int .i64 (numDo 9 a b)) ∧ w' = w := by
  go_enter Try.func26, Try.ntmps26
  go_wp2
  all_goals go_ret
  all_goals exact ⟨ret_int (by simp [numDo]; omega), rfl⟩

set_option maxHeartbeats 800000 in
theorem specNumDo_any (op a b : Int) (w : World) :
    Calls Try.prog 15 #[.int .i64 op, .int .i64 a, .int .i64 b] w fun e w' => e = .returned (.int .i64 (numDo op a b)) ∧ w' = w := by
  have hs := hide (left_small a b)
  go_enter Try.func15, Try.ntmps15
  go_wp2_with (go_at_call 28; refine (specMod_any _ _).mono ?_; rintro e w' ⟨rfl, rfl⟩)
  all_goals go_ret
  all_goals refine ⟨ret_int ?_, rfl⟩
  all_goals (try rw [hs.out.1]); (try rw [hs.out.2])
  all_goals (simp_all [numDo])
  all_goals omega
end Go.Proofs.Ythnccdmkhllibaa
