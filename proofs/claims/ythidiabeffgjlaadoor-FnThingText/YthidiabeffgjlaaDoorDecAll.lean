/- Numbers in decimals, as the model writes them: every number of 64 bits. -/
import Derived.Test.YthidiabeffgjlaaDoorDec
import Derived.Lib.ItoaLen
namespace Go.Proofs.YthidiabeffgjlaaDoor
open Go.ChangeShapes Go.WideShapes Go.ChangeAt Go.RowKit
set_option linter.unusedVariables false

theorem decDigits_len20 (n : Nat) (h : n < 18446744073709551616) : (Lib.decDigits n).length ≤ 20 := by
  rw [Lib.decDigits_length]; exact Lib.nDigits_le20 n h

set_option maxHeartbeats 1000000 in
theorem decPos_any (a : Int) (w : World) (h1 : 0 ≤ a) (h2 : a ≤ 9223372036854775807) :
    Calls Tryd.prog 18 #[.int .i64 a] w fun e w' => e = .returned (.string ⟨(Lib.decDigits a.toNat).toArray⟩) ∧ Below w.heap.size w w' := by
  have h4 : decide (a < -9223372036854775807) = false := by simp; omega
  have h5 : decide (a < 0) = false := by simp; omega
  have HN : Hid ((Lib.decDigits a.toNat).length ≤ 20) := decDigits_len20 _ (by omega)
  go_enter Tryd.func18, Tryd.ntmps18
  go_wp2_with fail
  go_loopw [0, 3] (fun n o wr => ∃ (m : Int) (rest : List UInt8), n = .int .i64 m ∧ 0 ≤ m ∧ m ≤ 9223372036854775807 ∧ o = .string ⟨rest.toArray⟩ ∧ Lib.decDigits a.toNat = Lib.decDigits m.toNat ++ rest ∧ Below w.heap.size w wr) (fun n o wr => (intOf n).toNat)
  case atStart => exact ⟨a, [], rfl, h1, h2, rfl, by simp, Below.refl _ _⟩
  case round =>
    obtain ⟨m, rest, rfl, m0, m1, rfl, hd, hb⟩ := hrel
    have hl : rest.length ≤ 20 := by
      have := HN.out
      rw [hd, List.length_append] at this
      omega
    by_cases h9 : 9 < m
    · obtain ⟨r, hr⟩ : ∃ r, m % 10 = r := ⟨_, rfl⟩
      obtain ⟨q, hq⟩ : ∃ q, m / 10 = q := ⟨_, rfl⟩
      have hr0 : 0 ≤ r := by omega
      have hr1 : r < 10 := by omega
      obtain ⟨d, hd8⟩ : ∃ d, UInt8.ofNat (48 + r).toNat = d := ⟨_, rfl⟩
      have hcv := Tryd.one_byte (wr.alloc (.cells #[.int .u8 (48 + r)] 5)) wr.heap.size (48 + r) (by simp)
      rw [hd8] at hcv
      have hadd := run_string_add_lists (P := Tryd.prog) (wr.alloc (.cells #[.int .u8 (48 + r)] 5)) [d] rest (by simp) (by omega)
      have HD : Hid (Lib.decDigits a.toNat = Lib.decDigits q.toNat ++ (d :: rest)) := by
        have e1 : m.toNat / 10 = q.toNat := by omega
        have e2 : 48 + m.toNat % 10 = (48 + r).toNat := by omega
        rw [Hid, hd, Lib.decDigits, dif_neg (by omega), e1, e2, hd8]
        simp
      have HL : Hid (0 ≤ q ∧ q < m) := by simp only [Hid]; omega
      clear hd hd8 hl
      go_wp2_with fail
      obtain ⟨l2, l3⟩ := HL.out
      rw [hq]
      exact ⟨⟨q, d :: rest, rfl, l2, by omega, rfl, HD.out, hb.alloc hb.size _⟩, by simp [intOf]; omega⟩
    · have g9 : decide (9 < m) = false := by simp; omega
      have hm9 : m < 10 := by omega
      obtain ⟨d, hd8⟩ : ∃ d, UInt8.ofNat (48 + m).toNat = d := ⟨_, rfl⟩
      have hcv := Tryd.one_byte (wr.alloc (.cells #[.int .u8 (48 + m)] 5)) wr.heap.size (48 + m) (by simp)
      rw [hd8] at hcv
      have hadd := run_string_add_lists (P := Tryd.prog) (wr.alloc (.cells #[.int .u8 (48 + m)] 5)) [d] rest (by simp) (by omega)
      have HD : Hid (Lib.decDigits a.toNat = d :: rest) := by
        have e2 : 48 + m.toNat = (48 + m).toNat := by omega
        rw [Hid, hd, Lib.decDigits_one (by omega), e2, hd8]
        rfl
      clear hd hd8 hl
      go_wp2_with fail
      go_ret
      exact ⟨by rw [HD.out]; rfl, hb.alloc hb.size _⟩

theorem itoa_least : Lib.itoa (-9223372036854775808) = [45, 57, 50, 50, 51, 51, 55, 50, 48, 51, 54, 56, 53, 52, 55, 55, 53, 56, 48, 56] := by
  simp [Lib.itoa, Lib.decDigits]

theorem itoa_len (n : Int) (h1 : -9223372036854775808 ≤ n) (h2 : n ≤ 9223372036854775807) : (Lib.itoa n).length ≤ 21 := by
  unfold Lib.itoa
  split
  · have := decDigits_len20 n.natAbs (by omega); simp; omega
  · have := decDigits_len20 n.toNat (by omega); omega

set_option maxHeartbeats 1000000 in
theorem decAll_any (n : Int) (w : World) (h1 : -9223372036854775808 ≤ n) (h2 : n ≤ 9223372036854775807) :
    Calls Tryd.prog 18 #[.int .i64 n] w fun e w' => e = .returned (.string ⟨(Lib.itoa n).toArray⟩) ∧ Below w.heap.size w w' := by
  by_cases h0 : 0 ≤ n
  · have e : Lib.itoa n = Lib.decDigits n.toNat := by unfold Lib.itoa; rw [if_neg (by omega)]
    rw [e]
    exact decPos_any n w h0 h2
  by_cases hm : n = -9223372036854775808
  · subst hm
    rw [itoa_least]
    go_enter Tryd.func18, Tryd.ntmps18
    go_wp2_with fail
    go_ret
    exact ⟨rfl, Below.refl _ _⟩
  have h4 : decide (n < -9223372036854775807) = false := by simp; omega
  have h5 : decide (n < 0) = true := by simp; omega
  have HE : Hid (Lib.itoa n = 45 :: Lib.decDigits (-n).toNat) := by
    unfold Hid Lib.itoa; rw [if_pos (by omega)]; congr 2; omega
  have hl := decDigits_len20 (-n).toNat (by omega)
  go_enter Tryd.func18, Tryd.ntmps18
  go_wp2_with fail
  refine (decPos_any (-n) _ (by omega) (by omega)).mono ?_
  rintro e w1 ⟨rfl, b1⟩
  obtain ⟨l, hl2⟩ : ∃ l, l = Lib.decDigits (-n).toNat := ⟨_, rfl⟩
  rw [← hl2] at hl ⊢
  have HL2 := hide hl2
  clear hl2
  have hadd := run_string_add_lists (P := Tryd.prog) w1 [45] l (by simp) (by omega)
  go_wp2_with fail
  go_ret
  exact ⟨by rw [HE.out, HL2.out]; rfl, b1⟩
end Go.Proofs.YthidiabeffgjlaaDoor
