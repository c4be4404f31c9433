/- What is drawn of bytes of numbers: a number; bytes and a place. -/
import Derived.Test.YtlkgclcpinjioaaDrawList
import Derived.Test.YtlkgclcpinjioaaBin
namespace Go.Proofs.Ytlkgclcpinjioaa
open Go.ChangeShapes Go.WideShapes Go.ChangeAt Go.RowKit
set_option linter.unusedVariables false

theorem nAt_mem_bd (l : List Int) (lo hi : Int) (h : ∀ x ∈ l, lo ≤ x ∧ x ≤ hi) (k : Nat) (hk : k < l.length) : lo ≤ nAt l k ∧ nAt l k ≤ hi := by
  have : nAt l k ∈ l := by simp [nAt, hk]
  exact h _ this

set_option maxRecDepth 20000 in
set_option maxHeartbeats 1000000 in
theorem drawBinOfNum_any (a : Option Addr) (cap n : Nat) (w : World) (hc : n ≤ cap) (h : BytesIn w w.heap.size a n) :
    Calls Try.prog 7 #[.slice a n cap] w fun e w' => ∃ x : Int, e = .returned (.int .i64 x) ∧ -1 ≤ x ∧ x ≤ 9223372036854775807 ∧ Below w.heap.size w w' := by
  go_enter Try.func7, Try.ntmps7
  go_wp2_with fail
  refine (open_any a cap n w hc h).mono ?_
  rintro e w1 ⟨rfl, r1, b1, s1⟩
  go_wp2_with fail
  refine (num_list [0, 1, 127, 128, 129, 255, 256, 300, 9972, 16383, 16384, -1, 9223372036854775807] w.heap.size 0 _ _ _ (by simp [s1]) (by omega) r1 (by simp) (by simp)).mono ?_
  rintro e w2 ⟨k2, hk2, rfl, r2, o2, s2⟩
  have hb := hide (nAt_mem_bd [0, 1, 127, 128, 129, 255, 256, 300, 9972, 16383, 16384, -1, 9223372036854775807] (-1) 9223372036854775807 (by decide) k2 hk2)
  go_wp2_with fail
  go_ret
  exact ⟨_, rfl, hb.out.1, hb.out.2, b1.trans (o2.below (Nat.le_refl _) (by omega))⟩

theorem add_bytes {P : Program} (W : World) (l : List UInt8) (d : UInt8) (h : l.length < 1000000) : (Op.stringOp .add ⟨l.toArray⟩ ⟨#[d]⟩).run P W = .ok (.string ⟨(l ++ [d]).toArray⟩) W :=
  run_string_add_lists (P := P) W l [d] (by omega) (by simp)

set_option maxRecDepth 20000 in
set_option maxHeartbeats 1000000 in
theorem drawBinNumAt_any (a : Option Addr) (cap n : Nat) (w : World) (hc : n ≤ cap) (h : BytesIn w w.heap.size a n) :
    Calls Try.prog 9 #[.slice a n cap] w fun e w' => ∃ (l : List UInt8) (x : Int), e = .returned (.tuple #[.string ⟨l.toArray⟩, .int .i64 x]) ∧ l.length ≤ 5 ∧ -1 ≤ x ∧ x ≤ 9223372036854775807 ∧ Below w.heap.size w w' := by
  go_enter Try.func9, Try.ntmps9
  go_wp2_with fail
  refine (open_any a cap n w hc h).mono ?_
  rintro e w1 ⟨rfl, r1, b1, s1⟩
  go_wp2_with fail
  refine (pick_only _ _ _ _ (by omega) r1).mono ?_
  rintro e w2 ⟨k2, rfl, _, p2, q2, r2, o2, s2⟩
  have q2' : k2 < 5 := q2 (by omega)
  have B2 := hide (b1.trans (o2.below (Nat.le_refl _) (by omega)))
  have S2 : w.heap.size < w2.heap.size := by omega
  clear q2 b1 o2 r1 s2
  go_wp2_with fail
  go_loopw [5, 6] (fun o i wr => ∃ (l : List UInt8) (m p : Nat), o = .string ⟨l.toArray⟩ ∧ i = .int .i64 (m : Int) ∧ m < 5 ∧ l.length + m < 5 ∧ p + 2 * m < 100 ∧ Rd wr w.heap.size p ∧ Below w.heap.size w wr ∧ w.heap.size < wr.heap.size) (fun o i wr => (intOf i).toNat)
  case atStart =>
    obtain ⟨m, rfl⟩ := Int.eq_ofNat_of_zero_le p2
    exact ⟨[], m, _, rfl, rfl, by omega, by simp; omega, by omega, r2, B2.out, S2⟩
  case round =>
    obtain ⟨l, m, p, rfl, rfl, hm, hl, hp, hr, hb, hs⟩ := hrel
    by_cases h0 : m = 0
    · subst h0
      have hl' : l.length < 5 := by omega
      clear hl hm
      go_wp2_with fail
      refine (num_list [0, 0, 0, 1, 2, -1, 9223372036854775807] w.heap.size p _ _ _ rfl (by omega) hr (by simp) (by simp)).mono ?_
      rintro e w3 ⟨k3, hk3, rfl, r3, o3, s3⟩
      have hx := hide (nAt_mem_bd [0, 0, 0, 1, 2, -1, 9223372036854775807] (-1) 9223372036854775807 (by decide) k3 hk3)
      go_wp2_with fail
      refine bodyPost_ret (v := .tuple #[.string ⟨l.toArray⟩, .int .i64 (nAt [0, 0, 0, 1, 2, -1, 9223372036854775807] k3)]) (by simp [results, Try.results9, go_sem]) rfl ⟨l, _, rfl, by omega, hx.out.1, hx.out.2, hb.trans (o3.below (Nat.le_refl _) (by omega))⟩
    · have hm0 : (0 : Int) < (m : Int) := by omega
      go_wp2_with fail
      refine (pick_only _ _ _ _ (by omega) hr).mono ?_
      rintro e w3 ⟨k3, rfl, _, p3, q3, r3, o3, s3⟩
      have q3' : k3 < 256 := q3 (by omega)
      have S3 := hide s3
      clear q3 s3
      go_wp2_with fail
      refine (num_list [0, 1, 127, 128, 129, 200, 255, k3] w.heap.size (p + 1) _ _ _ rfl (by omega) r3 (by simp) (by simp)).mono ?_
      rintro e w4 ⟨k4, hk4, rfl, r4, o4, s4⟩
      have hx := (nAt_mem_bd [0, 1, 127, 128, 129, 200, 255, k3] 0 255 (by simp; omega) k4 hk4)
      generalize nAt [0, 1, 127, 128, 129, 200, 255, k3] k4 = y at hx ⊢
      obtain ⟨y0, y1⟩ := hx
      have y1' : y < 256 := by omega
      have B4 := hide (hb.trans ((o3.below (Nat.le_refl _) (by omega)).trans (o4.below (Nat.le_refl _) (by have := S3.out; omega))))
      have S4 : w.heap.size < w4.heap.size := by have := S3.out; omega
      have hcv := Try.bin1 (w4.alloc (.cells #[.int .u8 y] 5)) w4.heap.size y (by simp)
      have hadd := add_bytes (P := Try.prog) (w4.alloc (.cells #[.int .u8 y] 5)) l (UInt8.ofNat y.toNat) (by omega)
      clear o3 o4 hb S3 s4 r3
      go_wp2_with fail
      exact ⟨⟨l ++ [UInt8.ofNat y.toNat], m - 1, p + 2, rfl, by rw [show ((m - 1 : Nat) : Int) = (m : Int) - 1 by omega], by omega, by simp; omega, by omega, r4.alloc _, B4.out.alloc (by omega) _, by simp; omega⟩, by simp [intOf]; omega⟩
end Go.Proofs.Ytlkgclcpinjioaa
