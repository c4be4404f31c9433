/- Small functions of the program's heap: size, place, isClear, heapSizesOk. -/
import Derived.Test.YtembifoimiochaaGreatDoorHpI3
namespace Go.Proofs.YtembifoimiochaaGreatDoor
open Go.ChangeShapes Go.WideShapes Go.ChangeAt Go.RowKit Go.Deep
set_option linter.unusedVariables false
set_option linter.unusedSimpArgs false

set_option maxHeartbeats 400000 in
theorem thSize_any (a t : Int) (fa wa : Option Addr) (fn fc n wc : Nat) (w : World) (hn : n ≤ 1000) :
 Calls Tryz.prog 76 #[.agg #[.int .i64 a, .int .i64 t, .slice fa fn fc, .slice wa n wc]] w fun e w' => e = .returned (.int .i64 (1 + (n : Int))) ∧ Below w.heap.size w w' := by
 have h1 : (n : Int) ≤ 1000 := by omega
 have h0 : (0 : Int) ≤ (n : Int) := by omega
 go_enter Tryz.func76, Tryz.ntmps76
 go_wp2
 go_ret
 exact ⟨rfl, two_b _ _⟩
set_option maxHeartbeats 400000 in
theorem thPlace_any (a i : Nat) (t : Int) (fa wa : Option Addr) (fn fc n wc : Nat) (w : World) (ha : a ≤ 1000) (hi : i ≤ 1000) :
 Calls Tryz.prog 82 #[.agg #[.int .i64 (a : Int), .int .i64 t, .slice fa fn fc, .slice wa n wc], .int .i64 (i : Int)] w fun e w' => e = .returned (.int .i64 ((a + 1 + i : Nat) : Int)) ∧ Below w.heap.size w w' := by
 have h1 : (a : Int) ≤ 1000 := by omega
 have h2 : (i : Int) ≤ 1000 := by omega
 have h3 : (0 : Int) ≤ (a : Int) := by omega
 have h4 : (0 : Int) ≤ (i : Int) := by omega
 go_enter Tryz.func82, Tryz.ntmps82
 go_wp2
 go_ret
 exact ⟨by go_num, two_b _ _⟩
/-- From there on all is 0. -/
def clearF (ws : List Int) (fr to : Nat) : Bool := allTo (fun i => decide (nAt ws (fr + i) = 0)) (to - fr)
set_option maxHeartbeats 1600000 in
set_option maxRecDepth 100000 in
theorem isClear_any (sb wc f wn u : Nat) (f' : Int) (ws : List Int) (w : World) (hW : WordsAt w sb ws) (hsb : sb < w.heap.size) (hu : u ≤ wn) (hf : f + wn ≤ ws.length) (h160 : ws.length ≤ 160) (hwc : wn ≤ wc) (hwc' : wc ≤ 1000) :
 Calls Tryz.prog 77 #[.agg #[.slice (some ⟨sb, 2 + f, none⟩) wn wc, .int .i64 f', .int .i64 (u : Int)]] w fun e w' => e = .returned (.bool (clearF ws (f + u) (f + wn))) ∧ Below w.heap.size w w' := by
 have B1 := hide (two_b w (.cells #[.slice (some ⟨sb, 2 + f, none⟩) wn wc, .int .i64 f', .int .i64 (u : Int)] 98))
 have HW := hide (fun j (hj : j < wn - u) => (B1.out.cell (p := ⟨sb, 2 + (f + u + j), none⟩) hsb).trans (hW (f + u + j) (by omega)))
 have HCF : Hid (clearF ws (f + u) (f + wn) = allTo (fun i => decide (nAt ws (f + u + i) = 0)) (wn - u)) := by show _ = _; unfold clearF; rw [show f + wn - (f + u) = wn - u by omega]
 have HS1 : Hid (∀ j, allTo (fun i => decide (nAt ws (f + u + i) = 0)) (j + 1) = (allTo (fun i => decide (nAt ws (f + u + i) = 0)) j && decide (nAt ws (f + u + j) = 0))) := fun _ => rfl
 have HS2 : Hid (∀ j, j < wn - u → nAt ws (f + u + j) ≠ 0 → allTo (fun i => decide (nAt ws (f + u + i) = 0)) (wn - u) = false) := fun j hj h => allTo_false hj (decide_eq_false h)
 rw [HCF.out]
 have HS0 : Hid (allTo (fun i => decide (nAt ws (f + u + i) = 0)) 0 = true) := rfl
 clear hW HCF
 generalize allTo (fun i => decide (nAt ws (f + u + i) = 0)) = AL at *
 have z1 : (0 : Int) ≤ (u : Int) := by omega
 have z2 : (u : Int) ≤ (wn : Int) := by omega
 by_cases hcw : wc = u
 ·have hwu : wn - u = 0 := by omega
  have HE : Hid (AL (wn - u) = true) := by show _ = _; rw [hwu]; exact HS0.out
  rw [HE.out]
  obtain rfl : wn = u := by omega
  subst hcw
  clear HW HS1 HS2 HS0 HE hwu
  go_enter Tryz.func77, Tryz.ntmps77
  go_wp2_with fail
  go_loop [11] (fun i => i = .int .i64 0) (fun i => 0)
  case atStart => rfl
  case round =>
   subst hrel
   go_wp2_with fail
   go_ret
   exact ⟨rfl, B1.out⟩
 ·go_enter Tryz.func77, Tryz.ntmps77
  go_wp2_with fail
  go_loop [11] (fun i => ∃ j : Nat, j ≤ wn - u ∧ i = .int .i64 (j : Int) ∧ Hid (AL j = true)) (fun i => wn - u - (intOf i).toNat)
  case atStart => exact ⟨0, Nat.zero_le _, rfl, HS0⟩
  case round =>
   obtain ⟨j, hj, rfl, HA⟩ := hrel
   by_cases hlt : j < wn - u
   ·have cj := HW.out j hlt
    have e1 := HS1.out j
    have HS2j := hide (HS2.out j hlt)
    rw [show 2 + (f + u + j) = 2 + f + u + j by omega] at cj
    have q1 : (0 : Int) ≤ (j : Int) := by omega
    have q2 : (j : Int) < (wn : Int) - (u : Int) := by omega
    have q3 : j < wn - u := hlt
    generalize nAt ws (f + u + j) = x at *
    by_cases hx : x = 0
    ·have HN : Hid (AL (j + 1) = true) := by show _ = _; rw [e1, HA.out, hx]; rfl
     have e2 : (x != 0) = false := by simp [hx]
     clear e1 HS2j hx
     go_wp2_with fail
     exact ⟨⟨j + 1, by omega, by go_num, HN⟩, by simp [intOf]; omega⟩
    ·have HN : Hid (AL (wn - u) = false) := HS2j.out hx
     have e2 : (x != 0) = true := by simpa using hx
     clear e1 HS2j hx
     go_wp2_with fail
     go_ret
     exact ⟨ret_bool HN.out.symm, B1.out⟩
   ·have HN : Hid (AL (wn - u) = true) := by show _ = _; rw [← show j = wn - u by omega]; exact HA.out
    have q2 : ¬ (j : Int) < (wn : Int) - (u : Int) := by omega
    go_wp2_with fail
    go_ret
    exact ⟨ret_bool HN.out.symm, B1.out⟩
set_option maxHeartbeats 1600000 in
theorem implHeapSizesOk_any (h : GHeap) (wa la : Option Addr) (wc lc lo hi : Nat) (w : World) (hl : h.words.length ≤ 1048576) (ho : -9223372036854775808 ≤ h.old ∧ h.old ≤ 9223372036854775807) (ha : -9223372036854775808 ≤ h.oldAt ∧ h.oldAt ≤ 9223372036854775807) (hy : -9223372036854775808 ≤ h.youngAt ∧ h.youngAt ≤ 9223372036854775807) :
 Calls Tryz.prog 53 #[.agg #[.slice wa h.words.length wc, .int .i64 h.old, .int .i64 h.oldAt, .int .i64 h.youngAt, .slice la h.log.length lc]] w fun e w' => e = .returned (.bool (sizeF h)) ∧ Below w.heap.size w w' := by
 have HF : Hid (sizeF h = decide (1 ≤ h.old ∧ h.old ≤ 120 ∧ 0 ≤ (h.words.length : Int) - h.old ∧ (h.words.length : Int) - h.old ≤ 40 ∧ 0 ≤ h.oldAt ∧ h.oldAt ≤ h.old ∧ 0 ≤ h.youngAt ∧ h.youngAt ≤ (h.words.length : Int) - h.old)) := rfl
 generalize sizeF h = R at *
 obtain ⟨W, old, oa, ya, lg⟩ := h
 simp only at *
 go_enter Tryz.func53, Tryz.ntmps53
 go_wp2
 all_goals go_ret
 all_goals refine ⟨ret_bool ?_, two_b _ _⟩
 all_goals rw [HF.out, Bool.eq_iff_iff]
 all_goals simp at *
 all_goals omega
end Go.Proofs.YtembifoimiochaaGreatDoor
