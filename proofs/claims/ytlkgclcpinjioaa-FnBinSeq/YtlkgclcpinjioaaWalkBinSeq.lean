/- FnBinSeq, walked. -/
import Derived.Test.YtlkgclcpinjioaaBinMath
import Derived.Test.YtlkgclcpinjioaaDrawBin
namespace Go.Proofs.Ytlkgclcpinjioaa
open Go.ChangeShapes Go.WideShapes Go.ChangeAt Go.RowKit
set_option linter.unusedVariables false

set_option maxRecDepth 20000 in
set_option maxHeartbeats 2000000 in
theorem fnBinSeq_walk (a0 : Option Addr) (cap0 n0 : Nat) (hc0 : n0 ≤ cap0) (a1 : Option Addr) (cap1 n1 : Nat) (hc1 : n1 ≤ cap1) (w : World) (h0 : BytesIn w w.heap.size a0 n0) (h1 : BytesIn w w.heap.size a1 n1) :
    Calls Try.prog 4 #[.slice a0 n0 cap0, .slice a1 n1 cap1] w fun e w' => e = .returned (.bool true) ∧ Below w.heap.size w w' := by
  by_cases l0 : 1048576 < n0
  · have k0 : (1048576 : Int) < (n0 : Int) := by omega
    go_enter Try.func4, Try.ntmps4
    go_wp2_with fail
    go_ret
    exact ⟨rfl, Below.refl _ _⟩
  have k0 : (n0 : Int) ≤ 1048576 := by omega
  by_cases l1 : 1048576 < n1
  · have k1 : (1048576 : Int) < (n1 : Int) := by omega
    go_enter Try.func4, Try.ntmps4
    go_wp2_with fail
    go_ret
    exact ⟨rfl, Below.refl _ _⟩
  have k1 : (n1 : Int) ≤ 1048576 := by omega
  go_enter Try.func4, Try.ntmps4
  go_wp2_with fail
  refine (drawBinOfNum_any a0 cap0 n0 w hc0 h0).mono ?_
  rintro e w1 ⟨a, rfl, alo, ahi, b1⟩
  go_wp2_with fail
  refine (drawBinOfNum_any a1 cap1 n1 w1 hc1 ((h1.keep b1).wider b1.size)).mono ?_
  rintro e w2 ⟨b, rfl, blo, bhi, b2'⟩
  have b2 := b1.trans (b2'.mono b1.size)
  clear b1 b2'
  obtain ⟨s, hs⟩ : ∃ s, binB a = s := ⟨_, rfl⟩
  have HS := hide hs
  obtain ⟨t, ht⟩ : ∃ s, binB b = s := ⟨_, rfl⟩
  have HT := hide ht
  go_wp2_with fail
  refine (implBinOfNum_l a _ HS.out).mono ?_
  rintro e w3 ⟨rfl, b3'⟩
  have b3 := b2.trans (b3'.mono b2.size)
  clear b2 b3'
  go_wp2_with fail
  refine (implBinOfNum_l b _ HT.out).mono ?_
  rintro e w4 ⟨rfl, b4'⟩
  have b4 := b3.trans (b4'.mono b3.size)
  clear b3 b4'
  go_wp2_with fail
  refine (specBinOfNum_l a _ HS.out).mono ?_
  rintro e w5 ⟨rfl, b5'⟩
  have b5 := b4.trans (b5'.mono b4.size)
  clear b4 b5'
  go_wp2_with fail
  refine (specBinOfNum_l b _ HT.out).mono ?_
  rintro e w6 ⟨rfl, b6'⟩
  have b6 := hide (b5.trans (b6'.mono b5.size))
  clear b5 b6'
  have S6 := hide b6.out.size
  have SL := binB_le a
  have TL := binB_le b
  rw [hs] at SL
  rw [ht] at TL
  by_cases ha : 0 ≤ a ∧ a ≤ 16383
  case neg =>
    rw [binB_none (by omega)] at hs
    subst hs
    clear ht
    go_wp2_with fail
    refine (specBinOfNum_l a _ HS.out).mono ?_
    rintro e w7 ⟨rfl, b7'⟩
    have b7 := b6.out.trans (b7'.mono S6.out)
    clear b7'
    go_wp2_with fail
    refine (specBinOfNum_l b _ HT.out).mono ?_
    rintro e w8 ⟨rfl, b8'⟩
    have b8 := hide (b7.trans (b8'.mono b7.size))
    clear b7 b8'
    go_wp2_with fail
    go_ret
    exact ⟨rfl, b8.out⟩
  by_cases hb : 0 ≤ b ∧ b ≤ 16383
  case neg =>
    rw [binB_none (by omega)] at ht
    subst ht
    clear hs
    by_cases hs0 : s = []
    · subst hs0
      go_wp2_with fail
      refine (specBinOfNum_l a _ HS.out).mono ?_
      rintro e w7 ⟨rfl, b7'⟩
      have b7 := b6.out.trans (b7'.mono S6.out)
      clear b7'
      go_wp2_with fail
      refine (specBinOfNum_l b _ HT.out).mono ?_
      rintro e w8 ⟨rfl, b8'⟩
      have b8 := hide (b7.trans (b8'.mono b7.size))
      clear b7 b8'
      go_wp2_with fail
      go_ret
      exact ⟨rfl, b8.out⟩
    · go_wp2_with fail
      refine (specBinOfNum_l a _ HS.out).mono ?_
      rintro e w7 ⟨rfl, b7'⟩
      have b7 := b6.out.trans (b7'.mono S6.out)
      clear b7'
      go_wp2_with fail
      refine (specBinOfNum_l b _ HT.out).mono ?_
      rintro e w8 ⟨rfl, b8'⟩
      have b8 := hide (b7.trans (b8'.mono b7.size))
      clear b7 b8'
      go_wp2_with fail
      go_ret
      exact ⟨rfl, b8.out⟩
  have s0 := binB_pos ha.1 ha.2
  have t0 := binB_pos hb.1 hb.2
  rw [hs] at s0
  rw [ht] at t0
  have X1 : Hid (binAt (s ++ t) 0 = (a, (s.length : Int), 0)) := by
    have := binAt_read [] t ha.1 ha.2
    rw [hs] at this
    simpa [Hid] using this
  have X2 : Hid (binAt (s ++ t) (s.length : Int) = (b, (s.length : Int) + (t.length : Int), 0)) := by
    have := binAt_read s [] hb.1 hb.2
    rw [ht] at this
    simpa [Hid] using this
  have X3 : Hid (binAt (s ++ t) ((s.length : Int) + (t.length : Int)) = (0, 0, 2)) := by
    rw [Hid, binAt, if_pos (by simp)]
  have EX := extract_of t 0 s.length
  have PR : Hid (t.take s.length = s ↔ a = b) := by
    constructor
    · intro h
      refine binB_pre ha.1 ha.2 hb.1 hb.2 (t.drop s.length) ?_
      rw [hs, ht]
      conv => lhs; rw [← List.take_append_drop s.length t, h]
    · rintro rfl
      rw [← hs, ← ht, List.take_length]
  have hadd := fun W => run_string_add_lists (P := Try.prog) W s t (by omega) (by omega)
  have ns : s.isEmpty = false := by cases s <;> simp at s0 ⊢
  have nt : t.isEmpty = false := by cases t <;> simp at t0 ⊢
  clear hs ht
  go_wp2_with fail
  refine (implBinNumAt_l (s ++ t) 0 _ (by simp; omega) X1.out).mono ?_
  rintro e w' ⟨rfl, rfl⟩
  go_wp2_with fail
  refine (implBinNumAt_l (s ++ t) _ _ (by simp; omega) X2.out).mono ?_
  rintro e w' ⟨rfl, rfl⟩
  go_wp2_with fail
  refine (implBinNumAt_l (s ++ t) _ _ (by simp; omega) X3.out).mono ?_
  rintro e w' ⟨rfl, rfl⟩
  go_wp2_with fail
  · go_ret
    refine ⟨ret_bool ?_, b6.out⟩
    have := PR.out
    rw [beq_iff_eq, Bool.eq_iff_iff, beq_iff_eq, beq_iff_eq]
    exact this
  · rename_i hlt
    go_ret
    refine ⟨ret_bool ?_, b6.out⟩
    have e : ¬ a = b := by
      rintro rfl
      have := HS.out.symm.trans HT.out
      subst this
      exact hlt (Nat.le_refl _)
    simp [e]
end Go.Proofs.Ytlkgclcpinjioaa
