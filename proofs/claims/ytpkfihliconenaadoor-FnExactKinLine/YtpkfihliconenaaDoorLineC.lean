/- KinLine of the program, of any groups. -/
import Derived.Test.YtpkfihliconenaaDoorLineB
import Derived.Test.YtpkfihliconenaaDoorKinM
namespace Go.Proofs.YtpkfihliconenaaDoor
open Go.ChangeShapes Go.WideShapes Go.ChangeAt Go.RowKit
set_option linter.unusedVariables false

theorem lineF_len (gs : List (List Ty)) (a : Int) : (lineF gs a).length = if isTypeF gs a && kinOkF gs then (lineUp gs a (kinCount gs + 1)).length else 0 := by
  unfold lineF; split <;> simp

set_option maxHeartbeats 1600000 in
theorem implKinLine_any (ga : Option Addr) (gc lo hi : Nat) (gs : List (List Ty)) (a : Int) (w : World) (hN : Few gs) (hl : lo ≤ hi) (hh : hi ≤ w.heap.size) (hx : GroupsIn w lo hi ga gs) (hp : pow10 w) :
    Calls Tryd.prog 21 #[.slice ga gs.length gc, .int .i64 a] w fun e w' => ∃ ad cap, e = .returned (.slice ad (lineF gs a).length cap) ∧ LineIn w' w.heap.size ad (lineF gs a) ∧ Below w.heap.size w w' := by
  have n2 := kinCount_le hN
  cases hk : kinOkF gs with
  | false =>
    have HC := hide (kinTableOf_no ga gc lo hi gs w hN hl hh hx hp hk)
    have HZ : Hid (lineF gs a = []) := by show _ = _; simp [lineF, hk]
    clear hN hx hp hk
    go_enter Tryd.func21, Tryd.ntmps21
    go_wp2_with fail
    refine HC.out.mono ?_
    rintro e w1 ⟨rfl, hb1⟩
    have B1 := hide hb1
    clear hb1
    go_wp2_with fail
    go_ret
    rw [HZ.out]
    exact ⟨none, 0, rfl, .inl rfl, B1.out.alloc B1.out.size _⟩
  | true =>
    have HC := hide (kinTableOf_ok ga gc lo hi gs w hN hl hh hx hp hk)
    have hP := kinOk_parts hk
    cases ht : isTypeF gs a with
    | false =>
      have HZ : Hid (lineF gs a = []) := by show _ = _; simp [lineF, ht]
      have HI := hide (fun ra ca rc cc W => isType_any ra ca rc cc gs a W n2)
      rw [ht] at HI
      clear hN hx hp hk hP ht
      go_enter Tryd.func21, Tryd.ntmps21
      go_wp2_with fail
      refine HC.out.mono ?_
      rintro e w1 ⟨ra, rc, cb, rfl, _, hb1⟩
      have B1 := hide hb1
      clear hb1
      go_wp2_with fail
      refine (HI.out ra _ rc _ _).mono ?_
      rintro e w2 ⟨rfl, hb2⟩
      have B2 := hide ((B1.out.alloc B1.out.size (.cells #[.slice ra (kinCount gs) rc, .slice (some ⟨cb, 0, none⟩) (kinCount gs) (kinCount gs)] 54)).trans (hb2.mono (by have := B1.out.size; simp; omega)))
      clear hb2
      go_wp2_with fail
      go_ret
      rw [HZ.out]
      exact ⟨none, 0, rfl, .inl rfl, B2.out⟩
    | true =>
      have hr : 0 ≤ a ∧ a < (kinCount gs : Int) := by simpa [isTypeF] using ht
      obtain ⟨p, rfl⟩ := Int.eq_ofNat_of_zero_le hr.1
      have hZ : lineF gs p = ((upL (fun i => (tyN gs i).up) (kinCount gs) (kinCount gs + 1) p).map fun x => (canon gs x.val : Int)).reverse := by simp [lineF, hk, ht, lineUp]
      refine (callsIn_wide (n := 4)).1 ?_
      refine (line_walk ga gc gs.length (kinCount gs) (fun i => (tyN gs i).up) (canon gs) p w (HC.out.mono ?_) (fun ra ca rc cc W => by have := isType_any ra ca rc cc gs p W n2; rwa [ht] at this) hP.2.1 (by omega) (fun i hi => (parts_flat hP hi).2.1)).mono ?_
      · rintro e w' ⟨ra, rc, cb, rfl, hT, hb⟩
        obtain ⟨hR, hcb, hCc⟩ := hT
        rcases hR with h0 | ⟨rb, ro, rfl, r1, r2, r3⟩
        · have := rows_len gs
          rw [h0] at this
          simp at this
          omega
        · refine ⟨rb, ro, rc, cb, _, rfl, ⟨r2, fun i hi => ?_⟩, hcb, hCc, hb⟩
          have h := (r3 i (by rw [rows_len]; exact hi)).1.2.1
          rw [rows_ty gs hi] at h
          exact h
      · rintro e w' ⟨ad, cap, rfl, hL, hb⟩
        rw [hZ]
        exact ⟨ad, cap, by simp, hL, hb⟩
end Go.Proofs.YtpkfihliconenaaDoor
