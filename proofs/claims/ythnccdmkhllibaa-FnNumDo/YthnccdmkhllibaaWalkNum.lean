/- The laws of NumDo on drawn numbers: a ring of remainders; less-than is an order. -/
import Derived.Test.YthnccdmkhllibaaNumDo
import Derived.Test.YthnccdmkhllibaaDrawNum
namespace Go.Proofs.Ythnccdmkhllibaa
open Go.ChangeShapes Go.WideShapes Go.ChangeAt Go.RowKit
set_option linter.unusedVariables false

theorem numDo_lo (o a b : Int) : 0 ≤ numDo o a b ∧ numDo o a b < 9973 := by
  unfold numDo
  split
  · omega
  · split
    · omega
    · split
      · split <;> omega
      · omega

theorem numDo_comm (o a b : Int) (h : o ≠ 9) : numDo o a b = numDo o b a := by
  unfold numDo
  rw [if_neg h, if_neg h, Int.add_comm, Int.mul_comm]

theorem add_eq (a b : Int) : numDo 7 a b = (a + b) % 9973 := by simp [numDo, Int.add_emod]
theorem mul_eq (a b : Int) : numDo 8 a b = (a * b) % 9973 := by simp [numDo, Int.mul_emod]
theorem less_eq (a b : Int) : numDo 9 a b = if a % 9973 < b % 9973 then 1 else 0 := by simp [numDo]

theorem ring1 (a b c : Int) : numDo 8 c (numDo 7 a b) = numDo 7 (numDo 8 c a) (numDo 8 c b) := by
  simp only [add_eq, mul_eq]
  rw [Int.mul_emod, Int.emod_emod, ← Int.mul_emod, ← Int.add_emod, Int.mul_add]
theorem ring2 (a b d : Int) : numDo 7 (numDo 7 a b) d = numDo 7 a (numDo 7 b d) := by
  simp only [add_eq]
  omega
theorem ring3 (x : Int) (h : 0 ≤ x ∧ x < 9973) : numDo 8 x 1 = x ∧ numDo 7 x 0 = x ∧ numDo 8 x 0 = 0 := by
  simp only [add_eq, mul_eq]
  omega
theorem implNumDo_at (op a b v : Int) (h : numDo op a b = v) (w : World) :
    Calls Try.prog 14 #[.int .i64 op, .int .i64 a, .int .i64 b] w fun e w' => e = .returned (.int .i64 v) ∧ Below w.heap.size w w' := h ▸ implNumDo_any op a b w

theorem specNumDo_at (op a b v : Int) (h : numDo op a b = v) (w : World) :
    Calls Try.prog 15 #[.int .i64 op, .int .i64 a, .int .i64 b] w fun e w' => e = .returned (.int .i64 v) ∧ w' = w := h ▸ specNumDo_any op a b w

set_option maxHeartbeats 1000000 in
theorem fnNumDo_walk (a0 : Option Addr) (cap0 n0 : Nat) (hc0 : n0 ≤ cap0) (a1 : Option Addr) (cap1 n1 : Nat) (hc1 : n1 ≤ cap1) (w : World) (h0 : BytesIn w w.heap.size a0 n0) (h1 : BytesIn w w.heap.size a1 n1) :
    Calls Try.prog 4 #[.slice a0 n0 cap0, .slice a1 n1 cap1] w fun e w' => e = .returned (.bool true) ∧ Below w.heap.size w w' := by
  by_cases l0 : 1048576 < n0
  · have k0 : (1048576 : Int) < (n0 : Int) := by omega
    go_enter Try.func4, Try.ntmps4
    go_wp2_with fail
    go_ret
    exact ⟨rfl, Below.refl _ _⟩
  have k0 : (n0 : Int) ≤ 1048576 := by omega
  by_cases l1 : 1048576 < n1
  · have k1 : (1048576 : Int) < (n1 : Int) := by omega
    go_enter Try.func4, Try.ntmps4
    go_wp2_with fail
    go_ret
    exact ⟨rfl, Below.refl _ _⟩
  have k1 : (n1 : Int) ≤ 1048576 := by omega
  go_enter Try.func4, Try.ntmps4
  go_wp2_with fail
  refine (drawNumDo_any a0 cap0 n0 w hc0 h0).mono ?_
  rintro e w1 ⟨o, a, b, rfl, b1⟩
  go_wp2_with fail
  refine (drawNumDo_any a1 cap1 n1 w1 hc1 ((h1.keep b1).wider b1.size)).mono ?_
  rintro e w2 ⟨o', c, d, rfl, b2'⟩
  have b2 := b1.trans (b2'.mono b1.size)
  clear b2'
  obtain ⟨n, hn⟩ : ∃ n, n = numDo o a b := ⟨_, rfl⟩
  obtain ⟨u, hu⟩ : ∃ u, u = numDo 7 a b := ⟨_, rfl⟩
  obtain ⟨x, hx⟩ : ∃ x, x = numDo 8 c u := ⟨_, rfl⟩
  obtain ⟨y, hy⟩ : ∃ y, y = numDo 8 c a := ⟨_, rfl⟩
  obtain ⟨z, hz⟩ : ∃ z, z = numDo 8 c b := ⟨_, rfl⟩
  obtain ⟨s, hs⟩ : ∃ s, s = numDo 7 u d := ⟨_, rfl⟩
  obtain ⟨v, hv⟩ : ∃ v, v = numDo 7 b d := ⟨_, rfl⟩
  have nb := numDo_lo o a b
  rw [← hn] at nb
  obtain ⟨nb0, nb1⟩ := nb
  have e1 := hide (show numDo 7 y z = x by rw [hx, hy, hz, hu, ring1])
  have e2 := hide (show numDo 7 a v = s by rw [hs, hv, hu, ring2])
  have xb := numDo_lo 8 c u
  rw [← hx] at xb
  have e3 := hide (ring3 x xb)
  have Hn := hide hn
  have Hu := hide hu
  have Hx := hide hx
  have Hy := hide hy
  have Hz := hide hz
  have Hs := hide hs
  have Hv := hide hv
  have e4 : Hid (o ≠ 9 → numDo o b a = n) := by intro h; rw [hn, numDo_comm o a b h]
  clear hn hu hx hy hz hs hv xb
  by_cases ho : o = 9
  · subst ho
    go_wp2_with fail
    refine (implNumDo_at _ _ _ _ (Hn.out.symm) _).mono ?_
    rintro e w3 ⟨rfl, c3⟩
    have b3 := b2.trans (c3.mono b2.size)
    clear c3
    go_wp2_with fail
    refine (specNumDo_at _ _ _ _ (Hn.out.symm) _).mono ?_
    rintro e w' ⟨rfl, rfl⟩
    have b4 := b3
    go_wp2_with fail
    refine (implNumDo_at _ _ _ _ (Hu.out.symm) _).mono ?_
    rintro e w5 ⟨rfl, c5⟩
    have b5 := b4.trans (c5.mono b4.size)
    clear c5
    go_wp2_with fail
    refine (implNumDo_at _ _ _ _ (Hx.out.symm) _).mono ?_
    rintro e w6 ⟨rfl, c6⟩
    have b6 := b5.trans (c6.mono b5.size)
    clear c6
    go_wp2_with fail
    refine (implNumDo_at _ _ _ _ (Hy.out.symm) _).mono ?_
    rintro e w7 ⟨rfl, c7⟩
    have b7 := b6.trans (c7.mono b6.size)
    clear c7
    go_wp2_with fail
    refine (implNumDo_at _ _ _ _ (Hz.out.symm) _).mono ?_
    rintro e w8 ⟨rfl, c8⟩
    have b8 := b7.trans (c8.mono b7.size)
    clear c8
    go_wp2_with fail
    refine (implNumDo_at _ _ _ _ (e1.out) _).mono ?_
    rintro e w9 ⟨rfl, c9⟩
    have b9 := b8.trans (c9.mono b8.size)
    clear c9
    go_wp2_with fail
    refine (implNumDo_at _ _ _ _ (Hu.out.symm) _).mono ?_
    rintro e w10 ⟨rfl, c10⟩
    have b10 := b9.trans (c10.mono b9.size)
    clear c10
    go_wp2_with fail
    refine (implNumDo_at _ _ _ _ (Hs.out.symm) _).mono ?_
    rintro e w11 ⟨rfl, c11⟩
    have b11 := b10.trans (c11.mono b10.size)
    clear c11
    go_wp2_with fail
    refine (implNumDo_at _ _ _ _ (Hv.out.symm) _).mono ?_
    rintro e w12 ⟨rfl, c12⟩
    have b12 := b11.trans (c12.mono b11.size)
    clear c12
    go_wp2_with fail
    refine (implNumDo_at _ _ _ _ (e2.out) _).mono ?_
    rintro e w13 ⟨rfl, c13⟩
    have b13 := b12.trans (c13.mono b12.size)
    clear c13
    go_wp2_with fail
    refine (implNumDo_at _ _ _ _ (e3.out.1) _).mono ?_
    rintro e w14 ⟨rfl, c14⟩
    have b14 := b13.trans (c14.mono b13.size)
    clear c14
    go_wp2_with fail
    refine (implNumDo_at _ _ _ _ (e3.out.2.1) _).mono ?_
    rintro e w15 ⟨rfl, c15⟩
    have b15 := b14.trans (c15.mono b14.size)
    clear c15
    go_wp2_with fail
    refine (implNumDo_at _ _ _ _ (e3.out.2.2) _).mono ?_
    rintro e w16 ⟨rfl, c16⟩
    have b16 := b15.trans (c16.mono b15.size)
    clear c16
    go_wp2_with fail
    go_ret
    exact ⟨rfl, b16⟩
  · have go : (o != 9) = true := by simp [ho]
    go_wp2_with fail
    refine (implNumDo_at _ _ _ _ (Hn.out.symm) _).mono ?_
    rintro e w3 ⟨rfl, c3⟩
    have b3 := b2.trans (c3.mono b2.size)
    clear c3
    go_wp2_with fail
    refine (specNumDo_at _ _ _ _ (Hn.out.symm) _).mono ?_
    rintro e w' ⟨rfl, rfl⟩
    go_wp2_with fail
    refine (implNumDo_at _ _ _ _ (e4.out ho) _).mono ?_
    rintro e w4 ⟨rfl, c4⟩
    have b4 := b3.trans (c4.mono b3.size)
    clear c4
    go_wp2_with fail
    refine (implNumDo_at _ _ _ _ (Hu.out.symm) _).mono ?_
    rintro e w5 ⟨rfl, c5⟩
    have b5 := b4.trans (c5.mono b4.size)
    clear c5
    go_wp2_with fail
    refine (implNumDo_at _ _ _ _ (Hx.out.symm) _).mono ?_
    rintro e w6 ⟨rfl, c6⟩
    have b6 := b5.trans (c6.mono b5.size)
    clear c6
    go_wp2_with fail
    refine (implNumDo_at _ _ _ _ (Hy.out.symm) _).mono ?_
    rintro e w7 ⟨rfl, c7⟩
    have b7 := b6.trans (c7.mono b6.size)
    clear c7
    go_wp2_with fail
    refine (implNumDo_at _ _ _ _ (Hz.out.symm) _).mono ?_
    rintro e w8 ⟨rfl, c8⟩
    have b8 := b7.trans (c8.mono b7.size)
    clear c8
    go_wp2_with fail
    refine (implNumDo_at _ _ _ _ (e1.out) _).mono ?_
    rintro e w9 ⟨rfl, c9⟩
    have b9 := b8.trans (c9.mono b8.size)
    clear c9
    go_wp2_with fail
    refine (implNumDo_at _ _ _ _ (Hu.out.symm) _).mono ?_
    rintro e w10 ⟨rfl, c10⟩
    have b10 := b9.trans (c10.mono b9.size)
    clear c10
    go_wp2_with fail
    refine (implNumDo_at _ _ _ _ (Hs.out.symm) _).mono ?_
    rintro e w11 ⟨rfl, c11⟩
    have b11 := b10.trans (c11.mono b10.size)
    clear c11
    go_wp2_with fail
    refine (implNumDo_at _ _ _ _ (Hv.out.symm) _).mono ?_
    rintro e w12 ⟨rfl, c12⟩
    have b12 := b11.trans (c12.mono b11.size)
    clear c12
    go_wp2_with fail
    refine (implNumDo_at _ _ _ _ (e2.out) _).mono ?_
    rintro e w13 ⟨rfl, c13⟩
    have b13 := b12.trans (c13.mono b12.size)
    clear c13
    go_wp2_with fail
    refine (implNumDo_at _ _ _ _ (e3.out.1) _).mono ?_
    rintro e w14 ⟨rfl, c14⟩
    have b14 := b13.trans (c14.mono b13.size)
    clear c14
    go_wp2_with fail
    refine (implNumDo_at _ _ _ _ (e3.out.2.1) _).mono ?_
    rintro e w15 ⟨rfl, c15⟩
    have b15 := b14.trans (c15.mono b14.size)
    clear c15
    go_wp2_with fail
    refine (implNumDo_at _ _ _ _ (e3.out.2.2) _).mono ?_
    rintro e w16 ⟨rfl, c16⟩
    have b16 := b15.trans (c16.mono b15.size)
    clear c16
    go_wp2_with fail
    go_ret
    exact ⟨rfl, b16⟩
set_option maxHeartbeats 1000000 in
theorem fnNumLess_walk (a0 : Option Addr) (cap0 n0 : Nat) (hc0 : n0 ≤ cap0) (a1 : Option Addr) (cap1 n1 : Nat) (hc1 : n1 ≤ cap1) (w : World) (h0 : BytesIn w w.heap.size a0 n0) (h1 : BytesIn w w.heap.size a1 n1) :
    Calls Try.prog 5 #[.slice a0 n0 cap0, .slice a1 n1 cap1] w fun e w' => e = .returned (.bool true) ∧ Below w.heap.size w w' := by
  by_cases l0 : 1048576 < n0
  · have k0 : (1048576 : Int) < (n0 : Int) := by omega
    go_enter Try.func5, Try.ntmps5
    go_wp2_with fail
    go_ret
    exact ⟨rfl, Below.refl _ _⟩
  have k0 : (n0 : Int) ≤ 1048576 := by omega
  by_cases l1 : 1048576 < n1
  · have k1 : (1048576 : Int) < (n1 : Int) := by omega
    go_enter Try.func5, Try.ntmps5
    go_wp2_with fail
    go_ret
    exact ⟨rfl, Below.refl _ _⟩
  have k1 : (n1 : Int) ≤ 1048576 := by omega
  go_enter Try.func5, Try.ntmps5
  go_wp2_with fail
  refine (drawNumDo_any a0 cap0 n0 w hc0 h0).mono ?_
  rintro e w1 ⟨o, a, b, rfl, b1⟩
  go_wp2_with fail
  refine (drawNumDo_any a1 cap1 n1 w1 hc1 ((h1.keep b1).wider b1.size)).mono ?_
  rintro e w2 ⟨o', c, d, rfl, b2'⟩
  have b2 := b1.trans (b2'.mono b1.size)
  clear b2'
  obtain ⟨n, hn⟩ : ∃ n, n = numDo o a b := ⟨_, rfl⟩
  obtain ⟨A, hA⟩ : ∃ A, A = numDo 7 a 0 := ⟨_, rfl⟩
  obtain ⟨B, hB⟩ : ∃ B, B = numDo 7 b 0 := ⟨_, rfl⟩
  obtain ⟨C, hC⟩ : ∃ C, C = numDo 7 c 0 := ⟨_, rfl⟩
  have Hn := hide hn
  have HA := hide hA
  have HB := hide hB
  have HC := hide hC
  have bA := numDo_lo 7 a 0
  have bB := numDo_lo 7 b 0
  have bC := numDo_lo 7 c 0
  rw [← hA] at bA
  rw [← hB] at bB
  rw [← hC] at bC
  have EX : Hid (numDo 9 A B = if A < B then 1 else 0) := by rw [less_eq, Int.emod_eq_of_lt bA.1 bA.2, Int.emod_eq_of_lt bB.1 bB.2]; exact rfl
  have EY : Hid (numDo 9 B A = if B < A then 1 else 0) := by rw [less_eq, Int.emod_eq_of_lt bA.1 bA.2, Int.emod_eq_of_lt bB.1 bB.2]; exact rfl
  have EZ : Hid (numDo 9 B C = if B < C then 1 else 0) := by rw [less_eq, Int.emod_eq_of_lt bC.1 bC.2, Int.emod_eq_of_lt bB.1 bB.2]; exact rfl
  have EW : Hid (numDo 9 A C = if A < C then 1 else 0) := by rw [less_eq, Int.emod_eq_of_lt bA.1 bA.2, Int.emod_eq_of_lt bC.1 bC.2]; exact rfl
  clear hn hA hB hC bA bB bC
  go_wp2_with fail
  refine (implNumDo_at _ _ _ _ (Hn.out.symm) _).mono ?_
  rintro e w3 ⟨rfl, c3⟩
  have b3 := b2.trans (c3.mono b2.size)
  clear c3
  go_wp2_with fail
  refine (specNumDo_at _ _ _ _ (Hn.out.symm) _).mono ?_
  rintro e w' ⟨rfl, rfl⟩
  go_wp2_with fail
  refine (implNumDo_at _ _ _ _ (HA.out.symm) _).mono ?_
  rintro e w4 ⟨rfl, c4⟩
  have b4 := b3.trans (c4.mono b3.size)
  clear c4
  go_wp2_with fail
  refine (implNumDo_at _ _ _ _ (HB.out.symm) _).mono ?_
  rintro e w5 ⟨rfl, c5⟩
  have b5 := b4.trans (c5.mono b4.size)
  clear c5
  go_wp2_with fail
  refine (implNumDo_at _ _ _ _ (HC.out.symm) _).mono ?_
  rintro e w6 ⟨rfl, c6⟩
  have b6 := b5.trans (c6.mono b5.size)
  clear c6
  rcases Int.lt_trichotomy A B with hAB | hAB | hAB
  · have X : Hid (numDo 9 A B = 1) := by rw [Hid, EX.out, if_pos hAB]
    have Y : Hid (numDo 9 B A = 0) := by rw [Hid, EY.out, if_neg (by omega)]
    have n1 : (A == B) = false := by simp; omega
    by_cases hBC : B < C
    · have Z : Hid (numDo 9 B C = 1) := by rw [Hid, EZ.out, if_pos hBC]
      have V : Hid (numDo 9 A C = 1) := by rw [Hid, EW.out, if_pos (by omega)]
      go_wp2_with fail
      refine (implNumDo_at _ _ _ _ (X.out) _).mono ?_
      rintro e w7 ⟨rfl, c7⟩
      have b7 := b6.trans (c7.mono b6.size)
      clear c7
      go_wp2_with fail
      refine (implNumDo_at _ _ _ _ (Y.out) _).mono ?_
      rintro e w8 ⟨rfl, c8⟩
      have b8 := b7.trans (c8.mono b7.size)
      clear c8
      go_wp2_with fail
      refine (implNumDo_at _ _ _ _ (Z.out) _).mono ?_
      rintro e w9 ⟨rfl, c9⟩
      have b9 := b8.trans (c9.mono b8.size)
      clear c9
      go_wp2_with fail
      refine (implNumDo_at _ _ _ _ (V.out) _).mono ?_
      rintro e w10 ⟨rfl, c10⟩
      have b10 := b9.trans (c10.mono b9.size)
      clear c10
      go_wp2_with fail
      go_ret
      exact ⟨rfl, b10⟩
    · have Z : Hid (numDo 9 B C = 0) := by rw [Hid, EZ.out, if_neg hBC]
      go_wp2_with fail
      refine (implNumDo_at _ _ _ _ (X.out) _).mono ?_
      rintro e w7 ⟨rfl, c7⟩
      have b7 := b6.trans (c7.mono b6.size)
      clear c7
      go_wp2_with fail
      refine (implNumDo_at _ _ _ _ (Y.out) _).mono ?_
      rintro e w8 ⟨rfl, c8⟩
      have b8 := b7.trans (c8.mono b7.size)
      clear c8
      go_wp2_with fail
      refine (implNumDo_at _ _ _ _ (Z.out) _).mono ?_
      rintro e w9 ⟨rfl, c9⟩
      have b9 := b8.trans (c9.mono b8.size)
      clear c9
      go_wp2_with fail
      go_ret
      exact ⟨rfl, b9⟩
  · subst hAB
    have X : Hid (numDo 9 A A = 0) := by rw [Hid, EX.out, if_neg (by omega)]
    by_cases hBC : A < C
    · have Z : Hid (numDo 9 A C = 1) := by rw [Hid, EZ.out, if_pos hBC]
      go_wp2_with fail
      refine (implNumDo_at _ _ _ _ (X.out) _).mono ?_
      rintro e w7 ⟨rfl, c7⟩
      have b7 := b6.trans (c7.mono b6.size)
      clear c7
      go_wp2_with fail
      refine (implNumDo_at _ _ _ _ (X.out) _).mono ?_
      rintro e w8 ⟨rfl, c8⟩
      have b8 := b7.trans (c8.mono b7.size)
      clear c8
      go_wp2_with fail
      refine (implNumDo_at _ _ _ _ (Z.out) _).mono ?_
      rintro e w9 ⟨rfl, c9⟩
      have b9 := b8.trans (c9.mono b8.size)
      clear c9
      go_wp2_with fail
      go_ret
      exact ⟨rfl, b9⟩
    · have Z : Hid (numDo 9 A C = 0) := by rw [Hid, EZ.out, if_neg hBC]
      go_wp2_with fail
      refine (implNumDo_at _ _ _ _ (X.out) _).mono ?_
      rintro e w7 ⟨rfl, c7⟩
      have b7 := b6.trans (c7.mono b6.size)
      clear c7
      go_wp2_with fail
      refine (implNumDo_at _ _ _ _ (X.out) _).mono ?_
      rintro e w8 ⟨rfl, c8⟩
      have b8 := b7.trans (c8.mono b7.size)
      clear c8
      go_wp2_with fail
      refine (implNumDo_at _ _ _ _ (Z.out) _).mono ?_
      rintro e w9 ⟨rfl, c9⟩
      have b9 := b8.trans (c9.mono b8.size)
      clear c9
      go_wp2_with fail
      go_ret
      exact ⟨rfl, b9⟩
  · have X : Hid (numDo 9 A B = 0) := by rw [Hid, EX.out, if_neg (by omega)]
    have Y : Hid (numDo 9 B A = 1) := by rw [Hid, EY.out, if_pos hAB]
    have n1 : (A == B) = false := by simp; omega
    have n2 : decide (A < B) = false := by simp; omega
    by_cases hBC : B < C
    · have Z : Hid (numDo 9 B C = 1) := by rw [Hid, EZ.out, if_pos hBC]
      go_wp2_with fail
      refine (implNumDo_at _ _ _ _ (X.out) _).mono ?_
      rintro e w7 ⟨rfl, c7⟩
      have b7 := b6.trans (c7.mono b6.size)
      clear c7
      go_wp2_with fail
      refine (implNumDo_at _ _ _ _ (Y.out) _).mono ?_
      rintro e w8 ⟨rfl, c8⟩
      have b8 := b7.trans (c8.mono b7.size)
      clear c8
      go_wp2_with fail
      refine (implNumDo_at _ _ _ _ (Z.out) _).mono ?_
      rintro e w9 ⟨rfl, c9⟩
      have b9 := b8.trans (c9.mono b8.size)
      clear c9
      go_wp2_with fail
      go_ret
      exact ⟨rfl, b9⟩
    · have Z : Hid (numDo 9 B C = 0) := by rw [Hid, EZ.out, if_neg hBC]
      go_wp2_with fail
      refine (implNumDo_at _ _ _ _ (X.out) _).mono ?_
      rintro e w7 ⟨rfl, c7⟩
      have b7 := b6.trans (c7.mono b6.size)
      clear c7
      go_wp2_with fail
      refine (implNumDo_at _ _ _ _ (Y.out) _).mono ?_
      rintro e w8 ⟨rfl, c8⟩
      have b8 := b7.trans (c8.mono b7.size)
      clear c8
      go_wp2_with fail
      refine (implNumDo_at _ _ _ _ (Z.out) _).mono ?_
      rintro e w9 ⟨rfl, c9⟩
      have b9 := b8.trans (c9.mono b8.size)
      clear c9
      go_wp2_with fail
      go_ret
      exact ⟨rfl, b9⟩
end Go.Proofs.Ythnccdmkhllibaa
