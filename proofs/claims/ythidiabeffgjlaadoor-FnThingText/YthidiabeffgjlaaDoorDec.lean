/- Numbers in decimals, as the model writes them. -/
import Derived.Test.YthidiabeffgjlaaDoorBase
import Derived.Lib.ItoaNum
import Derived.LoopN
import Derived.Laws.BytesString
namespace Go.Proofs.YthidiabeffgjlaaDoor
open Go.ChangeShapes Go.WideShapes Go.ChangeAt Go.RowKit
set_option linter.unusedVariables false

theorem Tryd.one_byte (W : World) (b : Nat) (v : Int) (h : W.cell? ⟨b, 0, none⟩ = some (.int .u8 v)) :
    (convert 22 9 (.slice (some ⟨b, 0, none⟩) 1 1)).run Tryd.prog W = .ok (.string ⟨#[UInt8.ofNat v.toNat]⟩) W := by
  rw [run_convert_bytes_string W _ _ _ _ _ _ Tryd.underlying22 Tryd.underlying5 Tryd.underlying9]
  refine run_bytesToString W ⟨b, 0, none⟩ 1 1 [v] ?_
  simp [loadCells, go_sem, h]

set_option maxHeartbeats 1000000 in
theorem dec_any (a : Int) (w : World) (h1 : 0 ≤ a) (h2 : a < 1000000) :
    Calls Tryd.prog 18 #[.int .i64 a] w fun e w' => e = .returned (.string ⟨(Lib.decDigits a.toNat).toArray⟩) ∧ Below w.heap.size w w' := by
  have h4 : decide (a < -9223372036854775807) = false := by simp; omega
  have h5 : decide (a < 0) = false := by simp; omega
  go_enter Tryd.func18, Tryd.ntmps18
  go_wp2_with fail
  go_loopw [0, 3] (fun n o wr => ∃ (m : Int) (rest : List UInt8), n = .int .i64 m ∧ 0 ≤ m ∧ m < 1000000 ∧ o = .string ⟨rest.toArray⟩ ∧ Lib.decDigits a.toNat = Lib.decDigits m.toNat ++ rest ∧ rest.length ≤ 1000000 - m.toNat ∧ Below w.heap.size w wr) (fun n o wr => (intOf n).toNat)
  case atStart => exact ⟨a, [], rfl, h1, h2, rfl, by simp, by simp, Below.refl _ _⟩
  case round =>
    obtain ⟨m, rest, rfl, m0, m1, rfl, hd, hl, hb⟩ := hrel
    by_cases h9 : 9 < m
    · obtain ⟨r, hr⟩ : ∃ r, m % 10 = r := ⟨_, rfl⟩
      obtain ⟨q, hq⟩ : ∃ q, m / 10 = q := ⟨_, rfl⟩
      have hr0 : 0 ≤ r := by omega
      have hr1 : r < 10 := by omega
      obtain ⟨d, hd8⟩ : ∃ d, UInt8.ofNat (48 + r).toNat = d := ⟨_, rfl⟩
      have hcv := Tryd.one_byte (wr.alloc (.cells #[.int .u8 (48 + r)] 5)) wr.heap.size (48 + r) (by simp)
      rw [hd8] at hcv
      have hadd := run_string_add_lists (P := Tryd.prog) (wr.alloc (.cells #[.int .u8 (48 + r)] 5)) [d] rest (by simp) (by omega)
      have HD : Hid (Lib.decDigits a.toNat = Lib.decDigits q.toNat ++ (d :: rest)) := by
        have e1 : m.toNat / 10 = q.toNat := by omega
        have e2 : 48 + m.toNat % 10 = (48 + r).toNat := by omega
        rw [Hid, hd, Lib.decDigits, dif_neg (by omega), e1, e2, hd8]
        simp
      have HL : Hid (rest.length + 1 ≤ 1000000 - q.toNat ∧ 0 ≤ q ∧ q < m) := by simp only [Hid]; omega
      clear hd hd8 hl
      go_wp2_with fail
      obtain ⟨l1, l2, l3⟩ := HL.out
      rw [hq]
      exact ⟨⟨q, d :: rest, rfl, l2, by omega, rfl, HD.out, by simp; omega, hb.alloc hb.size _⟩, by simp [intOf]; omega⟩
    · have g9 : decide (9 < m) = false := by simp; omega
      have hm9 : m < 10 := by omega
      obtain ⟨d, hd8⟩ : ∃ d, UInt8.ofNat (48 + m).toNat = d := ⟨_, rfl⟩
      have hcv := Tryd.one_byte (wr.alloc (.cells #[.int .u8 (48 + m)] 5)) wr.heap.size (48 + m) (by simp)
      rw [hd8] at hcv
      have hadd := run_string_add_lists (P := Tryd.prog) (wr.alloc (.cells #[.int .u8 (48 + m)] 5)) [d] rest (by simp) (by omega)
      have HD : Hid (Lib.decDigits a.toNat = d :: rest) := by
        have e2 : 48 + m.toNat = (48 + m).toNat := by omega
        rw [Hid, hd, Lib.decDigits_one (by omega), e2, hd8]
        rfl
      clear hd hd8 hl
      go_wp2_with fail
      go_ret
      exact ⟨by rw [HD.out]; rfl, hb.alloc hb.size _⟩
end Go.Proofs.YthidiabeffgjlaaDoor
