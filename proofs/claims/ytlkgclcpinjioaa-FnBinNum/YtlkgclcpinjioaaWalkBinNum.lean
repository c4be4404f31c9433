/- FnBinNum and FnBinSeq, walked. -/
import Derived.Test.YtlkgclcpinjioaaBinMath
import Derived.Test.YtlkgclcpinjioaaDrawBin
import Derived.Deep.RegionWith
namespace Go.Proofs.Ytlkgclcpinjioaa
open Go.ChangeShapes Go.WideShapes Go.ChangeAt Go.RowKit
set_option linter.unusedVariables false

set_option maxRecDepth 20000 in
set_option maxHeartbeats 2000000 in
theorem fnBinNum_walk (a0 : Option Addr) (cap0 n0 : Nat) (hc0 : n0 ≤ cap0) (a1 : Option Addr) (cap1 n1 : Nat) (hc1 : n1 ≤ cap1) (w : World) (h0 : BytesIn w w.heap.size a0 n0) (h1 : BytesIn w w.heap.size a1 n1) :
    Calls Try.prog 3 #[.slice a0 n0 cap0, .slice a1 n1 cap1] w fun e w' => e = .returned (.bool true) ∧ Below w.heap.size w w' := by
  by_cases l0 : 1048576 < n0
  · have k0 : (1048576 : Int) < (n0 : Int) := by omega
    go_enter Try.func3, Try.ntmps3
    go_wp2_with fail
    go_ret
    exact ⟨rfl, Below.refl _ _⟩
  have k0 : (n0 : Int) ≤ 1048576 := by omega
  by_cases l1 : 1048576 < n1
  · have k1 : (1048576 : Int) < (n1 : Int) := by omega
    go_enter Try.func3, Try.ntmps3
    go_wp2_with fail
    go_ret
    exact ⟨rfl, Below.refl _ _⟩
  have k1 : (n1 : Int) ≤ 1048576 := by omega
  go_enter Try.func3, Try.ntmps3
  go_wp2_with fail
  refine (drawBinOfNum_any a0 cap0 n0 w hc0 h0).mono ?_
  rintro e w1 ⟨n, rfl, nlo, nhi, b1⟩
  obtain ⟨s, hs⟩ : ∃ s, binB n = s := ⟨_, rfl⟩
  have HS := hide hs
  go_wp2_with fail
  refine (implBinOfNum_l n _ HS.out).mono ?_
  rintro e w2 ⟨rfl, b2'⟩
  have b2 := b1.trans (b2'.mono b1.size)
  go_wp2_with fail
  refine (drawBinNumAt_any a1 cap1 n1 w2 hc1 ((h1.keep b2).wider b2.size)).mono ?_
  rintro e w3 ⟨l, a, rfl, ll, alo, ahi, b3'⟩
  have b3 := hide (b2.trans (b3'.mono b2.size))
  clear b1 b2' b2 b3'
  obtain ⟨⟨x, y, c⟩, hr⟩ : ∃ r, binAt l a = r := ⟨_, rfl⟩
  have HR := hide hr
  have SL := binB_le n
  rw [hs] at SL
  clear hs hr
  have S3 := hide b3.out.size
  go_wp2_with fail
  refine (implBinNumAt_l l a _ (by omega) HR.out).mono ?_
  rintro e w' ⟨rfl, rfl⟩
  go_wp2_with fail
  refine (specBinNumAt_l l a _ (by omega) HR.out).mono ?_
  rintro e w' ⟨rfl, rfl⟩
  go_wp2_with fail
  refine (specBinOfNum_l n _ HS.out).mono ?_
  rintro e w4 ⟨rfl, b4'⟩
  have b4 := hide (b3.out.trans (b4'.mono S3.out))
  have S4 := hide b4.out.size
  clear b3 b4' S3
  have hadd := fun W => run_string_add_lists (P := Try.prog) W s l (by omega) (by omega)
  by_cases hin : 0 ≤ n ∧ n ≤ 16383
  · obtain ⟨hn0, hn1⟩ := hin
    have HA : Hid (binAt (s ++ l) 0 = (n, (s.length : Int), 0)) := by
      have := binAt_read [] l hn0 hn1
      rw [HS.out] at this
      simpa [Hid] using this
    go_wp2_with fail
    refine (implBinNumAt_l (s ++ l) 0 _ (by simp; omega) HA.out).mono ?_
    rintro e w' ⟨rfl, rfl⟩
    by_cases hc : c = 0
    · obtain ⟨k, j, rfl, rfl, hkj, hj, hB, x0, x1⟩ := binAt_back HR.out hc
      subst hc
      obtain ⟨v, hv⟩ : ∃ v, binB x = v := ⟨_, rfl⟩
      have HV := hide hv
      have hex := extract_of l k j
      rw [hB, hv] at hex
      clear hB hv
      have hkj' : (k : Int) ≤ (j : Int) := by omega
      have hj' : (j : Int) ≤ (l.length : Int) := by omega
      go_wp2_with fail
      go_region_held3 (fun _ => True) (trivial) ((go_at_call 8; refine (implBinOfNum_l x _ HV.out).mono ?_; rintro e w5 ⟨rfl, b5'⟩; have b5 := hide ((Below.drew b4.out).trans (b5'.mono (by simpa using S4.out)))))
      go_wp2_with fail
      go_ret
      exact ⟨rfl, b5.out⟩
    · obtain ⟨rfl, rfl⟩ := binAt_no HR.out hc
      have gc : (c != 0) = true := by simpa using hc
      go_wp2_with fail
      go_ret
      exact ⟨rfl, b4.out⟩
  · have HA : Hid (s = []) := by rw [Hid, ← HS.out, binB_none (by omega)]
    obtain rfl := HA.out
    have gn : decide (0 ≤ n) = false ∨ (0 ≤ n ∧ decide (n ≤ 16383) = false) := by simp; omega
    clear hin
    rcases gn with gn | ⟨gm, gn⟩
    all_goals
      by_cases hc : c = 0
      · obtain ⟨k, j, rfl, rfl, hkj, hj, hB, x0, x1⟩ := binAt_back HR.out hc
        subst hc
        obtain ⟨v, hv⟩ : ∃ v, binB x = v := ⟨_, rfl⟩
        have HV := hide hv
        have hex := extract_of l k j
        rw [hB, hv] at hex
        clear hB hv
        have hkj' : (k : Int) ≤ (j : Int) := by omega
        have hj' : (j : Int) ≤ (l.length : Int) := by omega
        go_wp2_with fail
        go_region_held3 (fun _ => True) (trivial) ((go_at_call 8; refine (implBinOfNum_l x _ HV.out).mono ?_; rintro e w5 ⟨rfl, b5'⟩; have b5 := hide ((Below.drew b4.out).trans (b5'.mono (by simpa using S4.out)))))
        go_wp2_with fail
        go_ret
        exact ⟨rfl, b5.out⟩
      · obtain ⟨rfl, rfl⟩ := binAt_no HR.out hc
        have gc : (c != 0) = true := by simpa using hc
        go_wp2_with fail
        go_ret
        exact ⟨rfl, b4.out⟩
end Go.Proofs.Ytlkgclcpinjioaa
