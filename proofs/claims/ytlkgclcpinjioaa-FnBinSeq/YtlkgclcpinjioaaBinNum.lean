/- Numbers as bytes: BinNumAt of the program and of the model, and the exact laws of BinOfNum and BinNumAt, walked. -/
import Derived.Test.YtlkgclcpinjioaaBin
namespace Go.Proofs.Ytlkgclcpinjioaa
open Go.ChangeShapes Go.WideShapes Go.ChangeAt Go.RowKit
set_option linter.unusedVariables false


set_option maxRecDepth 20000 in
set_option maxHeartbeats 1000000 in
theorem implBinNumAt_any (s : ByteArray) (a : Int) (w : World) (hs : s.size ≤ 1152921504606846976) :
    Calls Try.prog 10 #[.string s, .int .i64 a] w fun e w' => e = .returned (binT (binAt s.data.toList a)) ∧ w' = w := by
  have hs' : (s.size : Int) ≤ 1152921504606846976 := by omega
  by_cases h0 : a < 0
  · have E := hide (binAt_out (s := s) (a := a) (.inl h0))
    go_enter Try.func10, Try.ntmps10
    go_wp2_with fail
    refine bodyPost_ret (v := .tuple #[.int .i64 0, .int .i64 0, .int .i64 2]) (by simp [results, Try.results10, go_sem]) rfl ⟨by rw [E.out]; rfl, rfl⟩
  have g0 : decide (a < 0) = false := by simpa using h0
  obtain ⟨k, rfl⟩ := Int.eq_ofNat_of_zero_le (show 0 ≤ a by omega)
  by_cases h1 : k < s.size
  case neg =>
    have E := hide (binAt_out (s := s) (a := (k : Int)) (.inr (by omega)))
    have g1 : (s.size : Int) ≤ (k : Int) := by omega
    go_enter Try.func10, Try.ntmps10
    go_wp2_with fail
    refine bodyPost_ret (v := .tuple #[.int .i64 0, .int .i64 0, .int .i64 2]) (by simp [results, Try.results10, go_sem]) rfl ⟨by rw [E.out]; rfl, rfl⟩
  have g1 : (k : Int) < (s.size : Int) := by omega
  by_cases h2 : (s[k].toNat : Int) < 128
  · have E := hide (binAt_one h1 h2)
    go_enter Try.func10, Try.ntmps10
    go_wp2_with fail
    refine bodyPost_ret (v := .tuple #[.int .i64 (s[k].toNat : Int), .int .i64 ((k : Int) + 1), .int .i64 0]) (by simp [results, Try.results10, go_sem]) rfl ⟨by rw [E.out]; rfl, rfl⟩
  have g2 : decide ((s[k].toNat : Int) < 128) = false := by simpa using h2
  have p2 : 128 ≤ (s[k].toNat : Int) := by omega
  have u2 : (s[k].toNat : Int) < 256 := by have := s[k].toNat_lt; omega
  by_cases h3 : k + 1 = s.size
  · have E := hide (binAt_end h1 h2 h3)
    have g3 : ((k : Int) + 1 == (s.size : Int)) = true := by simp; omega
    have g3' : (s.size : Int) ≤ (k : Int) + 1 := by omega
    have g3'' : (k : Int) + 1 = (s.size : Int) := by omega
    clear h3 
    go_enter Try.func10, Try.ntmps10
    go_wp2_with fail
    refine bodyPost_ret (v := .tuple #[.int .i64 0, .int .i64 0, .int .i64 2]) (by simp [results, Try.results10, go_sem]) rfl ⟨by rw [E.out]; rfl, rfl⟩
  have h3' : k + 1 < s.size := by omega
  have g3 : ((k : Int) + 1 == (s.size : Int)) = false := by simp; omega
  have g3' : (k : Int) + 1 < (s.size : Int) := by omega
  have u3 : (s[k + 1].toNat : Int) < 256 := by have := s[k + 1].toNat_lt; omega
  by_cases h4 : (s[k + 1].toNat : Int) = 0
  · have E := hide (binAt_bad h3' h2 (.inl h4))
    have g4 : ((s[k + 1].toNat : Int) == 0) = true := by simpa using h4
    go_enter Try.func10, Try.ntmps10
    go_wp2_with fail
    refine bodyPost_ret (v := .tuple #[.int .i64 0, .int .i64 0, .int .i64 3]) (by simp [results, Try.results10, go_sem]) rfl ⟨by rw [E.out]; rfl, rfl⟩
  have g4 : ((s[k + 1].toNat : Int) == 0) = false := by simpa using h4
  by_cases h5 : 127 < (s[k + 1].toNat : Int)
  · have E := hide (binAt_bad h3' h2 (.inr h5))
    have g5 : 128 ≤ (s[k + 1].toNat : Int) := by omega
    go_enter Try.func10, Try.ntmps10
    go_wp2_with fail
    refine bodyPost_ret (v := .tuple #[.int .i64 0, .int .i64 0, .int .i64 3]) (by simp [results, Try.results10, go_sem]) rfl ⟨by rw [E.out]; rfl, rfl⟩
  have g5 : decide (127 < (s[k + 1].toNat : Int)) = false := by simpa using h5
  have g5' : decide (128 ≤ (s[k + 1].toNat : Int)) = false := by simp; omega
  have E := hide (binAt_two h3' h2 (by omega))
  have p5 : (s[k + 1].toNat : Int) ≤ 127 := by omega
  go_enter Try.func10, Try.ntmps10
  go_wp2_with fail
  refine bodyPost_ret (v := .tuple #[.int .i64 ((s[k].toNat : Int) - 128 + (s[k + 1].toNat : Int) * 128), .int .i64 ((k : Int) + 2), .int .i64 0]) (by simp [results, Try.results10, go_sem]) rfl ⟨by rw [E.out]; rfl, rfl⟩


set_option maxRecDepth 20000 in
set_option maxHeartbeats 1000000 in
theorem specBinNumAt_any (s : ByteArray) (a : Int) (w : World) (hs : s.size ≤ 1152921504606846976) :
    Calls Try.prog 11 #[.string s, .int .i64 a] w fun e w' => e = .returned (binT (binAt s.data.toList a)) ∧ w' = w := by
  have hs' : (s.size : Int) ≤ 1152921504606846976 := by omega
  by_cases h0 : a < 0
  · have E := hide (binAt_out (s := s) (a := a) (.inl h0))
    go_enter Try.func11, Try.ntmps11
    go_wp2_with fail
    refine bodyPost_ret (v := .tuple #[.int .i64 0, .int .i64 0, .int .i64 2]) (by simp [results, Try.results11, go_sem]) rfl ⟨by rw [E.out]; rfl, rfl⟩
  have g0 : decide (a < 0) = false := by simpa using h0
  obtain ⟨k, rfl⟩ := Int.eq_ofNat_of_zero_le (show 0 ≤ a by omega)
  by_cases h1 : k < s.size
  case neg =>
    have E := hide (binAt_out (s := s) (a := (k : Int)) (.inr (by omega)))
    have g1 : (s.size : Int) ≤ (k : Int) := by omega
    go_enter Try.func11, Try.ntmps11
    go_wp2_with fail
    refine bodyPost_ret (v := .tuple #[.int .i64 0, .int .i64 0, .int .i64 2]) (by simp [results, Try.results11, go_sem]) rfl ⟨by rw [E.out]; rfl, rfl⟩
  have g1 : (k : Int) < (s.size : Int) := by omega
  by_cases h2 : (s[k].toNat : Int) < 128
  · have E := hide (binAt_one h1 h2)
    go_enter Try.func11, Try.ntmps11
    go_wp2_with fail
    refine bodyPost_ret (v := .tuple #[.int .i64 (s[k].toNat : Int), .int .i64 ((k : Int) + 1), .int .i64 0]) (by simp [results, Try.results11, go_sem]) rfl ⟨by rw [E.out]; rfl, rfl⟩
  have g2 : decide ((s[k].toNat : Int) < 128) = false := by simpa using h2
  have p2 : 128 ≤ (s[k].toNat : Int) := by omega
  have u2 : (s[k].toNat : Int) < 256 := by have := s[k].toNat_lt; omega
  by_cases h3 : k + 1 = s.size
  · have E := hide (binAt_end h1 h2 h3)
    have g3 : ((k : Int) + 1 == (s.size : Int)) = true := by simp; omega
    have g3' : (s.size : Int) ≤ (k : Int) + 1 := by omega
    have g3'' : (k : Int) + 1 = (s.size : Int) := by omega
    clear h3 
    go_enter Try.func11, Try.ntmps11
    go_wp2_with fail
    refine bodyPost_ret (v := .tuple #[.int .i64 0, .int .i64 0, .int .i64 2]) (by simp [results, Try.results11, go_sem]) rfl ⟨by rw [E.out]; rfl, rfl⟩
  have h3' : k + 1 < s.size := by omega
  have g3 : ((k : Int) + 1 == (s.size : Int)) = false := by simp; omega
  have g3' : (k : Int) + 1 < (s.size : Int) := by omega
  have u3 : (s[k + 1].toNat : Int) < 256 := by have := s[k + 1].toNat_lt; omega
  by_cases h4 : (s[k + 1].toNat : Int) = 0
  · have E := hide (binAt_bad h3' h2 (.inl h4))
    have g4 : ((s[k + 1].toNat : Int) == 0) = true := by simpa using h4
    go_enter Try.func11, Try.ntmps11
    go_wp2_with fail
    refine bodyPost_ret (v := .tuple #[.int .i64 0, .int .i64 0, .int .i64 3]) (by simp [results, Try.results11, go_sem]) rfl ⟨by rw [E.out]; rfl, rfl⟩
  have g4 : ((s[k + 1].toNat : Int) == 0) = false := by simpa using h4
  by_cases h5 : 127 < (s[k + 1].toNat : Int)
  · have E := hide (binAt_bad h3' h2 (.inr h5))
    have g5 : 128 ≤ (s[k + 1].toNat : Int) := by omega
    go_enter Try.func11, Try.ntmps11
    go_wp2_with fail
    refine bodyPost_ret (v := .tuple #[.int .i64 0, .int .i64 0, .int .i64 3]) (by simp [results, Try.results11, go_sem]) rfl ⟨by rw [E.out]; rfl, rfl⟩
  have g5 : decide (127 < (s[k + 1].toNat : Int)) = false := by simpa using h5
  have g5' : decide (128 ≤ (s[k + 1].toNat : Int)) = false := by simp; omega
  have E := hide (binAt_two h3' h2 (by omega))
  have p5 : (s[k + 1].toNat : Int) ≤ 127 := by omega
  go_enter Try.func11, Try.ntmps11
  go_wp2_with fail
  refine bodyPost_ret (v := .tuple #[.int .i64 ((s[k].toNat : Int) - 128 + (s[k + 1].toNat : Int) * 128), .int .i64 ((k : Int) + 2), .int .i64 0]) (by simp [results, Try.results11, go_sem, Int.mul_comm]) rfl ⟨by rw [E.out]; rfl, rfl⟩


theorem ret_str {a b : ByteArray} (h : a = b) : Ending.returned (.string a) = .returned (.string b) := by rw [h]

set_option maxHeartbeats 400000 in
theorem fnExactBinOfNum_walk (n : Int) (_ : (Lit.int .i64 n).wf = true) (w : World) :
    Calls Try.prog 5 #[.int .i64 n] w fun e w' => e = .returned (.bool true) ∧ Below w.heap.size w w' := by
  go_enter Try.func5, Try.ntmps5
  go_wp2_with fail
  refine (specBinOfNum_any _ _).mono ?_
  rintro e w1 ⟨rfl, b1⟩
  go_wp2_with fail
  refine (implBinOfNum_any _ _).mono ?_
  rintro e w2 ⟨rfl, b2⟩
  have b3 := b1.trans (b2.mono b1.size)
  clear b1 b2
  go_wp2_with fail
  go_ret
  exact ⟨rfl, b3⟩

set_option maxHeartbeats 400000 in
theorem fnExactBinNumAt_walk (s : ByteArray) (hs : s.size ≤ maxLen) (a : Int) (_ : (Lit.int .i64 a).wf = true) (w : World) :
    Calls Try.prog 6 #[.string s, .int .i64 a] w fun e w' => e = .returned (.bool true) ∧ Below w.heap.size w w' := by
  unfold maxLen at hs
  by_cases h0 : 1048576 < s.size
  · have k0 : (1048576 : Int) < (s.size : Int) := by omega
    go_enter Try.func6, Try.ntmps6
    go_wp2_with fail
    go_ret
    exact ⟨rfl, Below.refl _ _⟩
  have k0 : (s.size : Int) ≤ 1048576 := by omega
  obtain ⟨⟨x, y, z⟩, hr⟩ : ∃ r, binAt s.data.toList a = r := ⟨_, rfl⟩
  have HR := hide hr
  clear hr
  go_enter Try.func6, Try.ntmps6
  go_wp2_with fail
  refine (specBinNumAt_any _ _ _ (by omega)).mono ?_
  rintro e w1 ⟨rfl, rfl⟩
  rw [HR.out, binT]
  go_wp2_with fail
  refine (implBinNumAt_any _ _ _ (by omega)).mono ?_
  rintro e w1 ⟨rfl, rfl⟩
  rw [HR.out, binT]
  go_wp2_with fail
  go_ret
  exact ⟨rfl, Below.refl _ _⟩

end Go.Proofs.Ytlkgclcpinjioaa
