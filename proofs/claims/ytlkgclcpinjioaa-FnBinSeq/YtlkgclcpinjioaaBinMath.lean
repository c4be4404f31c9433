/- The mathematics of bytes of numbers: read back, and told apart. -/
import Derived.Test.YtlkgclcpinjioaaBinNum
namespace Go.Proofs.Ytlkgclcpinjioaa
open Go.ChangeShapes Go.WideShapes Go.ChangeAt Go.RowKit
set_option linter.unusedVariables false

theorem implBinNumAt_l (l : List UInt8) (a : Int) (w : World) (hs : l.length ≤ 1152921504606846976) {x y z : Int} (h : binAt l a = (x, y, z)) :
    Calls Try.prog 10 #[.string ⟨l.toArray⟩, .int .i64 a] w fun e w' => e = .returned (.tuple #[.int .i64 x, .int .i64 y, .int .i64 z]) ∧ w' = w := by
  refine (implBinNumAt_any ⟨l.toArray⟩ a w (by simpa [ByteArray.size] using hs)).mono ?_
  rintro e w' ⟨rfl, rfl⟩
  simp [h, binT]
theorem specBinNumAt_l (l : List UInt8) (a : Int) (w : World) (hs : l.length ≤ 1152921504606846976) {x y z : Int} (h : binAt l a = (x, y, z)) :
    Calls Try.prog 11 #[.string ⟨l.toArray⟩, .int .i64 a] w fun e w' => e = .returned (.tuple #[.int .i64 x, .int .i64 y, .int .i64 z]) ∧ w' = w := by
  refine (specBinNumAt_any ⟨l.toArray⟩ a w (by simpa [ByteArray.size] using hs)).mono ?_
  rintro e w' ⟨rfl, rfl⟩
  simp [h, binT]
theorem implBinOfNum_l (n : Int) (w : World) {l : List UInt8} (h : binB n = l) :
    Calls Try.prog 8 #[.int .i64 n] w fun e w' => e = .returned (.string ⟨l.toArray⟩) ∧ Below w.heap.size w w' := by
  rw [← h]; exact implBinOfNum_any n w
theorem specBinOfNum_l (n : Int) (w : World) {l : List UInt8} (h : binB n = l) :
    Calls Try.prog 12 #[.int .i64 n] w fun e w' => e = .returned (.string ⟨l.toArray⟩) ∧ Below w.heap.size w w' := by
  rw [← h]; exact specBinOfNum_any n w

theorem u8_of (n : Nat) (h : n < 256) : (UInt8.ofNat n).toNat = n := by simp; omega

theorem binB_le (n : Int) : (binB n).length ≤ 2 := by
  unfold binB; split
  · simp
  · split <;> simp
theorem binB_pos {n : Int} (h0 : 0 ≤ n) (h1 : n ≤ 16383) : 0 < (binB n).length := by
  unfold binB; rw [if_neg (by omega)]; split <;> simp

/-- A number is read from its bytes, whatever stands ahead and behind. -/
theorem binAt_read (u t : List UInt8) {n : Int} (h0 : 0 ≤ n) (h1 : n ≤ 16383) : binAt (u ++ (binB n ++ t)) u.length = (n, (u.length : Int) + (binB n).length, 0) := by
  by_cases h2 : n < 128
  · rw [binB_one h0 h2, binAt, if_neg (by simp; omega), Int.toNat_natCast]
    have e : (u ++ ([UInt8.ofNat n.toNat] ++ t)).getD u.length 0 = UInt8.ofNat n.toNat := by simp
    rw [e, u8_of _ (by omega), if_pos (by omega)]
    simp; omega
  · rw [binB_two (by omega) h1, binAt, if_neg (by simp; omega), Int.toNat_natCast]
    have e : (u ++ ([UInt8.ofNat (128 + n % 128).toNat, UInt8.ofNat (n / 128).toNat] ++ t)).getD u.length 0 = UInt8.ofNat (128 + n % 128).toNat := by simp
    have e' : (u ++ ([UInt8.ofNat (128 + n % 128).toNat, UInt8.ofNat (n / 128).toNat] ++ t)).getD (u.length + 1) 0 = UInt8.ofNat (n / 128).toNat := by
      rw [List.getD_eq_getElem?_getD, List.getElem?_append_right (by omega)]; simp
    rw [e, e', u8_of _ (by omega), u8_of _ (by omega), if_neg (by omega), if_neg (by simp; omega), if_neg (by omega)]
    simp; omega

/-- What is read has those bytes. -/
theorem binAt_back {l : List UInt8} {a x y z : Int} (h : binAt l a = (x, y, z)) (hz : z = 0) :
    ∃ k j : Nat, a = k ∧ y = j ∧ k ≤ j ∧ j ≤ l.length ∧ (l.drop k).take (j - k) = binB x ∧ 0 ≤ x ∧ x ≤ 16383 := by
  subst hz
  unfold binAt at h
  split at h
  · simp at h
  rename_i h0
  obtain ⟨k, rfl⟩ := Int.eq_ofNat_of_zero_le (show 0 ≤ a by omega)
  have hk : k < l.length := by omega
  rw [Int.toNat_natCast] at h
  have e0 : l.getD k 0 = l[k] := by simp [hk]
  rw [e0] at h
  split at h
  · rename_i h1
    simp at h
    obtain ⟨rfl, rfl⟩ := h
    refine ⟨k, k + 1, rfl, by omega, by omega, by omega, ?_, by omega, by omega⟩
    rw [binB_one (by omega) (by omega), List.drop_eq_getElem_cons hk, show k + 1 - k = 1 by omega]
    simp only [List.take_succ_cons, List.take_zero, UInt8.ofNat_toNat, Int.toNat_natCast]
  rename_i h1
  split at h
  · simp at h
  rename_i h2
  have hk2 : k + 1 < l.length := by omega
  have e1 : l.getD (k + 1) 0 = l[k + 1] := by simp [hk2]
  rw [e1] at h
  split at h
  · simp at h
  rename_i h3
  simp at h
  obtain ⟨rfl, rfl⟩ := h
  have u1 := l[k].toNat_lt
  have u2 := l[k + 1].toNat_lt
  refine ⟨k, k + 2, rfl, by omega, by omega, by omega, ?_, by omega, by omega⟩
  rw [binB_two (by omega) (by omega), List.drop_eq_getElem_cons hk, List.drop_eq_getElem_cons hk2, show k + 2 - k = 2 by omega]
  have q1 : (128 + ((l[k].toNat : Int) - 128 + (l[k + 1].toNat : Int) * 128) % 128).toNat = l[k].toNat := by omega
  have q2 : (((l[k].toNat : Int) - 128 + (l[k + 1].toNat : Int) * 128) / 128).toNat = l[k + 1].toNat := by omega
  rw [q1, q2]
  simp only [List.take_succ_cons, List.take_zero, UInt8.ofNat_toNat]

theorem binAt_no {l : List UInt8} {a x y z : Int} (h : binAt l a = (x, y, z)) (hz : ¬ z = 0) : x = 0 ∧ y = 0 := by
  unfold binAt at h
  repeat' (split at h)
  all_goals (simp only [Prod.mk.injEq] at h; obtain ⟨h1, h2, h3⟩ := h; first | exact ⟨h1.symm, h2.symm⟩ | exact absurd h3.symm hz)

/-- The bytes of a number begin with those of another one only if they are the same. -/
theorem binB_pre {a b : Int} (a0 : 0 ≤ a) (a1 : a ≤ 16383) (b0 : 0 ≤ b) (b1 : b ≤ 16383) (t : List UInt8) (h : binB b = binB a ++ t) : a = b := by
  have e1 := binAt_read [] t a0 a1
  have e2 := binAt_read [] [] b0 b1
  simp at e1 e2
  rw [← h, e2] at e1
  simp at e1
  exact e1.1.symm

theorem extract_of (l : List UInt8) (k j : Nat) : (⟨l.toArray⟩ : ByteArray).extract k j = ⟨((l.drop k).take (j - k)).toArray⟩ := by
  apply ByteArray.ext
  simp [ByteArray.data_extract]
end Go.Proofs.Ytlkgclcpinjioaa
