/- Numbers as bytes: BinOfNum and BinNumAt, of the program and of the model. -/
import Derived.Test.YtlkgclcpinjioaaBase
import Derived.Laws.BytesString
namespace Go.Proofs.Ytlkgclcpinjioaa
open Go.ChangeShapes Go.WideShapes Go.ChangeAt Go.RowKit
set_option linter.unusedVariables false

theorem Try.bin1 (W : World) (b : Nat) (v : Int) (h : W.cell? ⟨b, 0, none⟩ = some (.int .u8 v)) :
    (convert 22 9 (.slice (some ⟨b, 0, none⟩) 1 1)).run Try.prog W = .ok (.string ⟨#[UInt8.ofNat v.toNat]⟩) W := by
  rw [run_convert_bytes_string W _ _ _ _ _ _ Try.underlying22 Try.underlying5 Try.underlying9]
  refine run_bytesToString W ⟨b, 0, none⟩ 1 1 [v] ?_
  simp [loadCells, go_sem, h]

theorem Try.bin2 (W : World) (b : Nat) (v u : Int) (h : W.cell? ⟨b, 0, none⟩ = some (.int .u8 v)) (k : W.cell? ⟨b, 1, none⟩ = some (.int .u8 u)) :
    (convert 22 9 (.slice (some ⟨b, 0, none⟩) 2 2)).run Try.prog W = .ok (.string ⟨#[UInt8.ofNat v.toNat, UInt8.ofNat u.toNat]⟩) W := by
  rw [run_convert_bytes_string W _ _ _ _ _ _ Try.underlying22 Try.underlying5 Try.underlying9]
  refine run_bytesToString W ⟨b, 0, none⟩ 2 2 [v, u] ?_
  simp [loadCells, go_sem, h, k]

/-- The bytes of a number. -/
def binB (n : Int) : List UInt8 :=
  if n < 0 ∨ 16383 < n then [] else if n < 128 then [UInt8.ofNat n.toNat] else [UInt8.ofNat (128 + n % 128).toNat, UInt8.ofNat (n / 128).toNat]

theorem binB_none {n : Int} (h : n < 0 ∨ 16383 < n) : binB n = [] := by rw [binB, if_pos h]
theorem binB_one {n : Int} (h0 : 0 ≤ n) (h : n < 128) : binB n = [UInt8.ofNat n.toNat] := by rw [binB, if_neg (by omega), if_pos h]
theorem binB_two {n : Int} (h0 : 128 ≤ n) (h : n ≤ 16383) : binB n = [UInt8.ofNat (128 + n % 128).toNat, UInt8.ofNat (n / 128).toNat] := by rw [binB, if_neg (by omega), if_neg (by omega)]

/-- The number whose bytes stand at a place. -/
def binAt (l : List UInt8) (a : Int) : Int × Int × Int :=
  if a < 0 ∨ (l.length : Int) ≤ a then (0, 0, 2)
  else if (l.getD a.toNat 0).toNat < 128 then (((l.getD a.toNat 0).toNat : Int), a + 1, 0)
  else if (l.length : Int) ≤ a + 1 then (0, 0, 2)
  else if (l.getD (a.toNat + 1) 0).toNat = 0 ∨ 127 < (l.getD (a.toNat + 1) 0).toNat then (0, 0, 3)
  else (((l.getD a.toNat 0).toNat : Int) - 128 + ((l.getD (a.toNat + 1) 0).toNat : Int) * 128, a + 2, 0)

set_option maxHeartbeats 1000000 in
theorem implBinOfNum_any (n : Int) (w : World) :
    Calls Try.prog 8 #[.int .i64 n] w fun e w' => e = .returned (.string ⟨(binB n).toArray⟩) ∧ Below w.heap.size w w' := by
  by_cases h0 : n < 0
  · have E := hide (binB_none (n := n) (.inl h0))
    go_enter Try.func8, Try.ntmps8
    go_wp2_with fail
    go_ret
    exact ⟨by rw [E.out]; rfl, Below.refl _ _⟩
  have g0 : decide (n < 0) = false := by simpa using h0
  by_cases h1 : 16383 < n
  · have E := hide (binB_none (n := n) (.inr h1))
    go_enter Try.func8, Try.ntmps8
    go_wp2_with fail
    go_ret
    exact ⟨by rw [E.out]; rfl, Below.refl _ _⟩
  have g1 : decide (16383 < n) = false := by simpa using h1
  have p0 : 0 ≤ n := by omega
  have p1 : n ≤ 16383 := by omega
  by_cases h2 : n < 128
  · have E := hide (binB_one p0 h2)
    have hcv := Try.bin1 (w.alloc (.cells #[.int .u8 n] 5)) w.heap.size n (by simp)
    go_enter Try.func8, Try.ntmps8
    go_wp2_with fail
    go_ret
    exact ⟨by rw [E.out]; rfl, (Below.refl _ _).alloc (Nat.le_refl _) _⟩
  have g2 : decide (n < 128) = false := by simpa using h2
  have p2 : 128 ≤ n := by omega
  have E := hide (binB_two p2 p1)
  obtain ⟨r, hr⟩ : ∃ r, n % 128 = r := ⟨_, rfl⟩
  obtain ⟨q, hq⟩ : ∃ q, n / 128 = q := ⟨_, rfl⟩
  rw [hr, hq] at E
  have r0 : 0 ≤ r := by omega
  have r1 : r < 128 := by omega
  have q0 : 0 ≤ q := by omega
  have q1 : q < 128 := by omega
  have hcv := Try.bin2 (w.alloc (.cells #[.int .u8 (128 + r), .int .u8 q] 5)) w.heap.size (128 + r) q (by simp) (by simp)
  go_enter Try.func8, Try.ntmps8
  go_wp2_with fail
  go_ret
  exact ⟨by rw [E.out]; rfl, (Below.refl _ _).alloc (Nat.le_refl _) _⟩

set_option maxHeartbeats 1000000 in
theorem specBinOfNum_any (n : Int) (w : World) :
    Calls Try.prog 12 #[.int .i64 n] w fun e w' => e = .returned (.string ⟨(binB n).toArray⟩) ∧ Below w.heap.size w w' := by
  by_cases h0 : n < 0
  · have E := hide (binB_none (n := n) (.inl h0))
    go_enter Try.func12, Try.ntmps12
    go_wp2_with fail
    go_ret
    exact ⟨by rw [E.out]; rfl, Below.refl _ _⟩
  have g0 : decide (n < 0) = false := by simpa using h0
  by_cases h1 : 16383 < n
  · have E := hide (binB_none (n := n) (.inr h1))
    go_enter Try.func12, Try.ntmps12
    go_wp2_with fail
    go_ret
    exact ⟨by rw [E.out]; rfl, Below.refl _ _⟩
  have g1 : decide (16383 < n) = false := by simpa using h1
  have p0 : 0 ≤ n := by omega
  have p1 : n ≤ 16383 := by omega
  by_cases h2 : n < 128
  · have E := hide (binB_one p0 h2)
    have hcv := Try.bin1 (w.alloc (.cells #[.int .u8 n] 5)) w.heap.size n (by simp)
    go_enter Try.func12, Try.ntmps12
    go_wp2_with fail
    go_ret
    exact ⟨by rw [E.out]; rfl, (Below.refl _ _).alloc (Nat.le_refl _) _⟩
  have g2 : decide (n < 128) = false := by simpa using h2
  have p2 : 128 ≤ n := by omega
  have E := hide (binB_two p2 p1)
  obtain ⟨r, hr⟩ : ∃ r, n % 128 = r := ⟨_, rfl⟩
  obtain ⟨q, hq⟩ : ∃ q, n / 128 = q := ⟨_, rfl⟩
  rw [hr, hq] at E
  have r0 : 0 ≤ r := by omega
  have r1 : r < 128 := by omega
  have q0 : 0 ≤ q := by omega
  have q1 : q < 128 := by omega
  have hcv := Try.bin2 (w.alloc (.cells #[.int .u8 (128 + r), .int .u8 q] 5)) w.heap.size (128 + r) q (by simp) (by simp)
  go_enter Try.func12, Try.ntmps12
  go_wp2_with fail
  go_ret
  exact ⟨by rw [E.out]; rfl, (Below.refl _ _).alloc (Nat.le_refl _) _⟩

def binT (r : Int × Int × Int) : Value := .tuple #[.int .i64 r.1, .int .i64 r.2.1, .int .i64 r.2.2]

theorem binAt_out {s : ByteArray} {a : Int} (h : a < 0 ∨ (s.size : Int) ≤ a) : binAt s.data.toList a = (0, 0, 2) := by
  rw [binAt, if_pos (by simpa using h)]
theorem binAt_at {s : ByteArray} {k : Nat} (h : k < s.size) : s.data.toList.getD k 0 = s[k] := by
  rw [List.getD_eq_getElem?_getD, List.getElem?_eq_getElem (by simpa using h)]; rfl
theorem binAt_one {s : ByteArray} {k : Nat} (h : k < s.size) (h1 : (s[k].toNat : Int) < 128) : binAt s.data.toList k = ((s[k].toNat : Int), (k : Int) + 1, 0) := by
  rw [binAt, if_neg (by simp; exact h), Int.toNat_natCast, binAt_at h, if_pos (by omega)]
theorem binAt_end {s : ByteArray} {k : Nat} (h : k < s.size) (h1 : ¬ (s[k].toNat : Int) < 128) (h2 : k + 1 = s.size) : binAt s.data.toList k = (0, 0, 2) := by
  rw [binAt, if_neg (by simp; exact h), Int.toNat_natCast, binAt_at h, if_neg (by omega), if_pos (by simp; omega)]
theorem binAt_bad {s : ByteArray} {k : Nat} (h : k + 1 < s.size) (h1 : ¬ (s[k].toNat : Int) < 128) (h2 : (s[k + 1].toNat : Int) = 0 ∨ 127 < (s[k + 1].toNat : Int)) : binAt s.data.toList k = (0, 0, 3) := by
  rw [binAt, if_neg (by simp; omega), Int.toNat_natCast, binAt_at (show k < s.size by omega), binAt_at h, if_neg (by omega), if_neg (by simp; omega), if_pos (by omega)]
theorem binAt_two {s : ByteArray} {k : Nat} (h : k + 1 < s.size) (h1 : ¬ (s[k].toNat : Int) < 128) (h2 : ¬ ((s[k + 1].toNat : Int) = 0 ∨ 127 < (s[k + 1].toNat : Int))) : binAt s.data.toList k = ((s[k].toNat : Int) - 128 + (s[k + 1].toNat : Int) * 128, (k : Int) + 2, 0) := by
  rw [binAt, if_neg (by simp; omega), Int.toNat_natCast, binAt_at (show k < s.size by omega), binAt_at h, if_neg (by omega), if_neg (by simp; omega), if_neg (by omega)]
end Go.Proofs.Ytlkgclcpinjioaa
