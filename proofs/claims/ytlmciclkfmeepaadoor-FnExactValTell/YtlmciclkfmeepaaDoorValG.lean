/- ValTell of the model. -/
import Derived.Test.YtlmciclkfmeepaaDoorValF
namespace Go.Proofs.YtlmciclkfmeepaaDoor
open Go.ChangeShapes Go.WideShapes Go.ChangeAt Go.RowKit
set_option linter.unusedVariables false

set_option maxHeartbeats 1600000 in
theorem l5Tell_any {md : Bool} (ga : Option Addr) (gc lo hi : Nat) (ta : Option Addr) (tc lo' hi' : Nat) (gs : List (List Ty)) (xs : List GThing) (k n : Int) (w : World) (hP : Parts gs) (hN : Few gs) (hc : gs.length ≤ gc) (hh : hi ≤ w.heap.size) (hx : GroupsIn w lo hi ga gs) (hm : xs.length ≤ 1048576) (hy : ThingsM md w lo' hi' ta xs) (hh' : hi' ≤ w.heap.size) (hv : valOkF gs xs k n = true) :
    Calls Tryd.prog 30 #[.slice ga gs.length gc, .slice ta xs.length tc, .agg #[.int .i64 k, .int .i64 n]] w fun e w' => e = .returned (.int .i64 (tellV gs xs k n)) ∧ Below w.heap.size w w' := by
  have m8 := hP.2.1
  obtain ⟨hv1, hv2⟩ := valOkF_form hv
  have b0 : Below w.heap.size w (w.alloc (.cells #[.int .i64 k, .int .i64 n] 35)) := (Below.refl _ _).alloc (Nat.le_refl _) _
  have B0 := hide b0
  clear b0 hv
  rcases valForm_kinds hv1 with rfl | rfl | rfl | rfl
  · have HZ : Hid (tellV gs xs 1 n = n) := by show _ = _; simp [tellV]
    clear hx hy hN hP hv1 hv2
    go_enter Tryd.func30, Tryd.ntmps30
    go_wp2_with fail
    go_ret
    exact ⟨ret_int HZ.out.symm, B0.out⟩
  · have HZ : Hid (tellV gs xs 2 n = -1) := by show _ = _; simp [tellV]
    clear hx hy hN hP hv1 hv2
    go_enter Tryd.func30, Tryd.ntmps30
    go_wp2_with fail
    go_ret
    exact ⟨ret_int HZ.out.symm, B0.out⟩
  · have HZ : Hid (tellV gs xs 3 n = -2 - n) := by show _ = _; simp [tellV]
    obtain ⟨c1, c2⟩ := valForm_num hv1 (.inr rfl)
    clear hx hy hN hP hv1 hv2
    go_enter Tryd.func30, Tryd.ntmps30
    go_wp2_with fail
    go_ret
    exact ⟨ret_int (by rw [HZ.out]), B0.out⟩
  · obtain ⟨c1, c2⟩ := valForm_thing hv1
    obtain ⟨m, rfl⟩ := Int.eq_ofNat_of_zero_le c1
    obtain ⟨d1, d2⟩ := hv2 rfl
    simp only [Int.toNat_natCast] at d1 d2
    have HZ : Hid (tellV gs xs 4 m = 9973 + (canon gs (thingAt' xs m).typ.toNat : Nat)) := by show _ = _; simp [tellV]
    obtain ⟨b, off, rfl, hb, hc0⟩ := thing_typ hy (show m < xs.length by omega)
    have c3 := canon_le gs (thingAt' xs m).typ.toNat
    obtain ⟨t, ht⟩ := Int.eq_ofNat_of_zero_le d1
    rw [ht] at hc0 d1 d2 c3 HZ
    simp only [Int.toNat_natCast] at c3 HZ
    have HC := hide (fun w1 (hb : Below w.heap.size w w1) => l1Canon_any ga gc lo hi gs t w1 hP hN hc (by omega) (Nat.le_trans hh hb.size) (hx.keep (hb.mono hh)))
    have m1 : (0 : Int) ≤ (m : Int) := by omega
    have m2 : (m : Int) < (xs.length : Int) := by omega
    have b5 : b < w.heap.size := by omega
    have c5 : canon gs t ≤ 8 := by omega
    generalize canon gs t = cn at *
    clear hx hy hN hP hv1 hv2 ht c3
    go_enter Tryd.func30, Tryd.ntmps30
    go_wp2_with fail
    refine (HC.out _ B0.out).mono ?_
    rintro e w1 ⟨rfl, hb1⟩
    have B1 := hide (B0.out.trans (hb1.mono B0.out.size))
    clear hb1
    go_wp2_with fail
    go_ret
    exact ⟨ret_int (by rw [HZ.out]), B1.out⟩

theorem valTellF_at {gs : List (List Ty)} {xs : List GThing} {k n : Int} (hk : kinOkF gs = true) (hv : valOkF gs xs k n = true) : valTellF gs xs k n = tellV gs xs k n := by
  simp [valTellF, hk, hv]
theorem valTellF_no {gs : List (List Ty)} {xs : List GThing} {k n : Int} (hv : valOkF gs xs k n = false) : valTellF gs xs k n = 0 := by
  simp [valTellF, hv]

set_option maxHeartbeats 3200000 in
theorem specValTell_any {md : Bool} (ga : Option Addr) (gc lo hi : Nat) (ta : Option Addr) (tc lo' hi' : Nat) (gs : List (List Ty)) (xs : List GThing) (k n : Int) (w : World) (hN : Few gs) (hc : gs.length ≤ gc) (hl : lo ≤ hi) (hh : hi ≤ w.heap.size) (hx : GroupsIn w lo hi ga gs) (hm : xs.length ≤ 1048576) (hy : ThingsM md w lo' hi' ta xs) (hh' : hi' ≤ w.heap.size) :
    Calls Tryd.prog 15 #[.slice ga gs.length gc, .slice ta xs.length tc, .agg #[.int .i64 k, .int .i64 n]] w fun e w' => e = .returned (.int .i64 (valTellF gs xs k n)) ∧ Below w.heap.size w w' := by
  have n2 := kinCount_le hN
  have b0 : Below w.heap.size w (w.alloc (.cells #[.int .i64 k, .int .i64 n] 35)) := (Below.refl _ _).alloc (Nat.le_refl _) _
  have rv : Rec (w.alloc (.cells #[.int .i64 k, .int .i64 n] 35)) w.heap.size 35 [.int .i64 k, .int .i64 n] := Rec.new _ _ _
  have HCnt := hide (fun w1 (hb : Below w.heap.size w w1) => specKinCount_any ga gc lo hi gs w1 hN (hx.keep (hb.mono hh)))
  have HOk := hide (fun w1 (hb : Below w.heap.size w w1) => specKinOk_any ga gc lo hi gs w1 hN hc hl (Nat.le_trans hh hb.size) (hx.keep (hb.mono hh)))
  have HTl := hide (fun (hP : Parts gs) (hv : valOkF gs xs k n = true) w1 (hb : Below w.heap.size w w1) => l5Tell_any ga gc lo hi ta tc lo' hi' gs xs k n w1 hP hN hc (Nat.le_trans hh hb.size) (hx.keep (hb.mono hh)) hm (hy.keep (hb.mono hh')) (Nat.le_trans hh' hb.size) hv)
  have HY := hide hy
  have B0 := hide b0
  have RV := hide rv
  clear b0 rv hN hx hy
  go_enter Tryd.func15, Tryd.ntmps15
  go_wp2_with fail
  refine (HOk.out _ B0.out).mono ?_
  rintro e w1 ⟨rfl, hb1⟩
  have B1 := hide (B0.out.trans (hb1.mono B0.out.size))
  have V1 := hide (RV.out.below hb1 RV.out.lt)
  clear hb1 B0 RV
  cases hk : kinOkF gs with
  | false =>
    have HZ : Hid (valTellF gs xs k n = 0) := by show _ = _; simp [valTellF, hk]
    clear hk
    go_wp2_with fail
    go_ret
    exact ⟨ret_int HZ.out.symm, B1.out⟩
  | true =>
    have HK := hide hk
    clear hk
    have v0 := V1.out.cell (o := 0) rfl
    have v1 := V1.out.cell (o := 1) rfl
    go_wp2_with fail
    refine (l5Form_any k n _ _).mono ?_
    rintro e w2 ⟨rfl, hb2⟩
    have B2 := hide (B1.out.trans (hb2.mono B1.out.size))
    have V2 := hide (V1.out.below hb2 V1.out.lt)
    clear hb2 B1 V1 v0 v1
    cases hf : valForm k n (xs.length : Nat) with
    | false =>
      have HZ : Hid (valTellF gs xs k n = 0) := valTellF_no (by unfold valOkF; rw [hf]; rfl)
      clear hf
      go_wp2_with fail
      go_ret
      exact ⟨ret_int HZ.out.symm, B2.out⟩
    | true =>
      have v0 := V2.out.cell (o := 0) rfl
      have v1 := V2.out.cell (o := 1) rfl
      by_cases h4 : k = 4
      · subst h4
        obtain ⟨c1, c2⟩ := valForm_thing hf
        obtain ⟨m, rfl⟩ := Int.eq_ofNat_of_zero_le c1
        have HVO : Hid (valOkF gs xs 4 m = isTypeF gs (thingAt' xs m).typ) := by show _ = _; unfold valOkF; rw [hf]; simp
        obtain ⟨b, off, rfl, hb, hc0⟩ := thing_typ (HY.out.keep (B2.out.mono hh')) (show m < xs.length by omega)
        have m1 : (0 : Int) ≤ (m : Int) := by omega
        have m2 : (m : Int) < (xs.length : Int) := by omega
        generalize (thingAt' xs m).typ = ty at hc0 HVO
        by_cases h5 : ty < 0
        · have HZ : Hid (valTellF gs xs 4 m = 0) := valTellF_no (by rw [HVO.out]; simp [isTypeF]; intro _; omega)
          have d5 : decide (ty < 0) = true := by simpa using h5
          clear hf HTl
          go_wp2_with fail
          go_quiet ((go_at_call 21; exact Calls.quiet_of_same (HCnt.out _ (by first | exact B2.out | exact below_drewN B2.out _))))
          go_wp2_with fail
          go_ret
          exact ⟨ret_int HZ.out.symm, below_drewN B2.out _⟩
        · have d5 : decide (ty < 0) = false := by simpa using h5
          by_cases h6 : (kinCount gs : Int) ≤ ty
          · have HZ : Hid (valTellF gs xs 4 m = 0) := valTellF_no (by rw [HVO.out]; simp [isTypeF]; intro _; omega)
            clear hf HTl
            go_wp2_with fail
            go_quiet ((go_at_call 21; exact Calls.quiet_of_same (HCnt.out _ (by first | exact B2.out | exact below_drewN B2.out _))))
            go_wp2_with fail
            go_ret
            exact ⟨ret_int HZ.out.symm, below_drewN B2.out _⟩
          · have hv : valOkF gs xs 4 m = true := by rw [HVO.out]; simp [isTypeF]; omega
            have HZ := hide (valTellF_at HK.out hv)
            have HTt := hide (HTl.out (kinOk_parts HK.out) hv)
            generalize tellV gs xs 4 m = s at *
            clear hf HTl hv
            go_wp2_with fail
            go_quiet ((go_at_call 21; exact Calls.quiet_of_same (HCnt.out _ (by first | exact B2.out | exact below_drewN B2.out _))))
            go_wp2_with fail
            refine (HTt.out _ (by first | exact below_drewN B2.out _ | exact B2.out.drew)).mono ?_
            rintro e w4 ⟨rfl, hb4⟩
            have B4 := hide (Below.trans (below_drewN B2.out _) (hb4.mono (by first | exact B2.out.size | exact (below_drewN B2.out _).size)))
            clear hb4
            go_wp2_with fail
            go_ret
            exact ⟨ret_int HZ.out.symm, B4.out⟩
      · have n4 : (k == 4) = false := beq_eq_false_iff_ne.2 h4
        have hv : valOkF gs xs k n = true := by unfold valOkF; rw [hf, n4]; rfl
        have HZ := hide (valTellF_at HK.out hv)
        have HTt := hide (HTl.out (kinOk_parts HK.out) hv)
        generalize tellV gs xs k n = s at *
        clear hf HTl hv
        go_wp2_with fail
        go_quiet ((go_at_call 21; exact Calls.quiet_of_same (HCnt.out _ (by first | exact B2.out | exact below_drewN B2.out _))))
        go_wp2_with fail
        refine (HTt.out _ (by first | exact below_drewN B2.out _ | exact B2.out.drew)).mono ?_
        rintro e w4 ⟨rfl, hb4⟩
        have B4 := hide (Below.trans (below_drewN B2.out _) (hb4.mono (by first | exact B2.out.size | exact (below_drewN B2.out _).size)))
        clear hb4
        go_wp2_with fail
        go_ret
        exact ⟨ret_int HZ.out.symm, B4.out⟩
end Go.Proofs.YtlmciclkfmeepaaDoor
