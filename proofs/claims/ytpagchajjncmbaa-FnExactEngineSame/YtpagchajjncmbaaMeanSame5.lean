/- MeanSame of the model, whole. -/
import Derived.Test.YtpagchajjncmbaaMeanSame4
import Derived.Test.YtpagchajjncmbaaMeanSame3
namespace Go.Proofs.Ytpagchajjncmbaa
open Go.ChangeShapes Go.WideShapes Go.ChangeAt Go.RowKit Go.Joins Go.Deep
set_option linter.unusedVariables false

set_option maxHeartbeats 6400000 in
theorem specMeanSame_eq {md md' : Bool} (a0 a1 a2 a3 b0 b1 b2 b3 : Option Addr) (c0 c1 c2 c3 d0 d1 d2 d3 lo hi lo' hi' : Nat) (x y : GMean) (w : World) (hx : MeanB 1048576 x) (hy : MeanB 1048576 y)
    (g0 : ThingsM md w lo hi a0 x.things) (g1 : ValsM md w lo hi a1 x.glob) (g2 : FramesM md w lo hi a2 x.frames) (g3 : NumsM md w lo hi a3 x.outs) (k0 : ThingsM md' w lo' hi' b0 y.things) (k1 : ValsM md' w lo' hi' b1 y.glob) (k2 : FramesM md' w lo' hi' b2 y.frames) (k3 : NumsM md' w lo' hi' b3 y.outs) (hh : hi ≤ w.heap.size) (hh' : hi' ≤ w.heap.size)
    (h4 : x.asked = y.asked) (h5 : x.code = y.code) (hl : y.frames.length = x.frames.length) :
    Calls Try.prog 21 #[.agg #[.slice a0 x.things.length c0, .slice a1 x.glob.length c1, .slice a2 x.frames.length c2, .slice a3 x.outs.length c3, .int .i64 x.asked, .int .i64 x.code], .agg #[.slice b0 y.things.length d0, .slice b1 y.glob.length d1, .slice b2 y.frames.length d2, .slice b3 y.outs.length d3, .int .i64 y.asked, .int .i64 y.code]] w fun e w' => e = .returned (.bool (meanSame x y)) ∧ Below w.heap.size w w' := by
  have L2 : x.frames.length ≤ 1048576 := hx.2.2.1.1
  have HX := hide hx
  have HY := hide hy
  have G0 := hide g0
  have K0 := hide k0
  have G1 := hide g1
  have K1 := hide k1
  have G2 := hide g2
  have K2 := hide k2
  have G3 := hide g3
  have K3 := hide k3
  have HL := hide hl
  have HH := hide hh
  have HH' := hide hh'
  have HN : Hid (meanSame x y = (thingsSame x.things y.things && (valsSame x.glob y.glob && (upTo (fun i => frameSame (frameAt' x.frames i) (frameAt' y.frames i)) x.frames.length && numsSame x.outs y.outs)))) := by
    show meanSame x y = _
    simp [meanSame, framesSame, h4, h5, hl]
  rw [hl, ← h4, ← h5]
  clear hx hy g0 k0 g1 k1 g2 k2 g3 k3 hl h4 h5 hh hh'
  go_enter Try.func21, Try.ntmps21
  go_wp2_with fail
  refine (l5Ints_any a3 b3 c3 d3 lo hi lo' hi' x.outs y.outs _ HX.out.2.2.2 HY.out.2.2.2 (G3.out.keep (Below.mono (by (repeat (first | refine Below.al ?_ (Nat.le_refl _) _ | exact Below.refl _ _))) HH.out)) (K3.out.keep (Below.mono (by (repeat (first | refine Below.al ?_ (Nat.le_refl _) _ | exact Below.refl _ _))) HH'.out))).mono ?_
  rintro e v0 ⟨rfl, q0, hq0⟩
  have C0 : Hid (Below w.heap.size w v0) := by
    show Below w.heap.size w v0
    rw [hq0]
    exact below_drewN (by (repeat (first | refine Below.al ?_ (Nat.le_refl _) _ | exact Below.refl _ _))) _
  have U0 : Hid (Rec v0 w.heap.size 49 [.slice a0 x.things.length c0, .slice a1 x.glob.length c1, .slice a2 x.frames.length c2, .slice a3 x.outs.length c3, .int .i64 x.asked, .int .i64 x.code]) := by
    show Rec _ _ _ _
    rw [hq0]
    exact (Rec.new' _ _ _ _ rfl).alloc _
  have V0 : Hid (Rec v0 (w.heap.size + 1) 49 [.slice b0 y.things.length d0, .slice b1 y.glob.length d1, .slice b2 x.frames.length d2, .slice b3 y.outs.length d3, .int .i64 x.asked, .int .i64 x.code]) := by
    show Rec _ _ _ _
    rw [hq0]
    exact Rec.new' _ _ _ _ (by simp)
  have u0_0 := U0.out.cell (o := 0) rfl
  have v0_0 := V0.out.cell (o := 0) rfl
  have u1_0 := U0.out.cell (o := 1) rfl
  have v1_0 := V0.out.cell (o := 1) rfl
  have u2_0 := U0.out.cell (o := 2) rfl
  have v2_0 := V0.out.cell (o := 2) rfl
  have u3_0 := U0.out.cell (o := 3) rfl
  have v3_0 := V0.out.cell (o := 3) rfl
  have u4_0 := U0.out.cell (o := 4) rfl
  have v4_0 := V0.out.cell (o := 4) rfl
  have u5_0 := U0.out.cell (o := 5) rfl
  have v5_0 := V0.out.cell (o := 5) rfl
  clear hq0
  by_cases k0 : numsSame x.outs y.outs = true
  · rw [k0]
    have KK0 := hide k0
    clear k0
    go_wp2_with fail
    refine (l5Vals_any a1 b1 c1 d1 lo hi lo' hi' x.glob y.glob _ HX.out.2.1 HY.out.2.1 (G1.out.keep (Below.mono C0.out HH.out)) (K1.out.keep (Below.mono C0.out HH'.out))).mono ?_
    rintro e v1 ⟨rfl, q1, hq1⟩
    have C1 : Hid (Below w.heap.size w v1) := by
      show Below w.heap.size w v1
      rw [hq1]
      exact below_drewN C0.out _
    have U1 : Hid (Rec v1 w.heap.size 49 [.slice a0 x.things.length c0, .slice a1 x.glob.length c1, .slice a2 x.frames.length c2, .slice a3 x.outs.length c3, .int .i64 x.asked, .int .i64 x.code]) := by
      show Rec _ _ _ _
      rw [hq1]
      exact U0.out
    have V1 : Hid (Rec v1 (w.heap.size + 1) 49 [.slice b0 y.things.length d0, .slice b1 y.glob.length d1, .slice b2 x.frames.length d2, .slice b3 y.outs.length d3, .int .i64 x.asked, .int .i64 x.code]) := by
      show Rec _ _ _ _
      rw [hq1]
      exact V0.out
    clear u0_0 v0_0 u1_0 v1_0 u2_0 v2_0 u3_0 v3_0 u4_0 v4_0 u5_0 v5_0
    have u0_1 := U1.out.cell (o := 0) rfl
    have v0_1 := V1.out.cell (o := 0) rfl
    have u1_1 := U1.out.cell (o := 1) rfl
    have v1_1 := V1.out.cell (o := 1) rfl
    have u2_1 := U1.out.cell (o := 2) rfl
    have v2_1 := V1.out.cell (o := 2) rfl
    have u3_1 := U1.out.cell (o := 3) rfl
    have v3_1 := V1.out.cell (o := 3) rfl
    have u4_1 := U1.out.cell (o := 4) rfl
    have v4_1 := V1.out.cell (o := 4) rfl
    have u5_1 := U1.out.cell (o := 5) rfl
    have v5_1 := V1.out.cell (o := 5) rfl
    clear hq1
    by_cases k1 : valsSame x.glob y.glob = true
    · rw [k1]
      have KK1 := hide k1
      clear k1
      go_wp2_with fail
      refine (l5Things_any a0 b0 c0 d0 lo hi lo' hi' x.things y.things _ HX.out.1 HY.out.1 (G0.out.keep (Below.mono C1.out HH.out)) (K0.out.keep (Below.mono C1.out HH'.out))).mono ?_
      rintro e v2 ⟨rfl, q2, hq2⟩
      have C2 : Hid (Below w.heap.size w v2) := by
        show Below w.heap.size w v2
        rw [hq2]
        exact below_drewN C1.out _
      have U2 : Hid (Rec v2 w.heap.size 49 [.slice a0 x.things.length c0, .slice a1 x.glob.length c1, .slice a2 x.frames.length c2, .slice a3 x.outs.length c3, .int .i64 x.asked, .int .i64 x.code]) := by
        show Rec _ _ _ _
        rw [hq2]
        exact U1.out
      have V2 : Hid (Rec v2 (w.heap.size + 1) 49 [.slice b0 y.things.length d0, .slice b1 y.glob.length d1, .slice b2 x.frames.length d2, .slice b3 y.outs.length d3, .int .i64 x.asked, .int .i64 x.code]) := by
        show Rec _ _ _ _
        rw [hq2]
        exact V1.out
      clear u0_1 v0_1 u1_1 v1_1 u2_1 v2_1 u3_1 v3_1 u4_1 v4_1 u5_1 v5_1
      have u0_2 := U2.out.cell (o := 0) rfl
      have v0_2 := V2.out.cell (o := 0) rfl
      have u1_2 := U2.out.cell (o := 1) rfl
      have v1_2 := V2.out.cell (o := 1) rfl
      have u2_2 := U2.out.cell (o := 2) rfl
      have v2_2 := V2.out.cell (o := 2) rfl
      have u3_2 := U2.out.cell (o := 3) rfl
      have v3_2 := V2.out.cell (o := 3) rfl
      have u4_2 := U2.out.cell (o := 4) rfl
      have v4_2 := V2.out.cell (o := 4) rfl
      have u5_2 := U2.out.cell (o := 5) rfl
      have v5_2 := V2.out.cell (o := 5) rfl
      clear hq2
      by_cases k2 : thingsSame x.things y.things = true
      · rw [k2]
        have KK2 := hide k2
        clear k2
        have s0 := V2.out.lt
        go_wp2_with fail
        clear u0_2 u1_2 u3_2 u4_2 u5_2 v0_2 v1_2 v3_2 v4_2 v5_2
        go_loopw [5] (fun i wr => ∃ j : Nat, j ≤ x.frames.length ∧ i = .int .i64 j ∧ upTo (fun i => frameSame (frameAt' x.frames i) (frameAt' y.frames i)) j = true ∧ Below v2.heap.size v2 wr) (fun i wr => x.frames.length - (intOf i).toNat)
        case atStart => exact ⟨0, Nat.zero_le _, rfl, rfl, Below.refl _ _⟩
        case round =>
          obtain ⟨j, hj, rfl, hv, hb⟩ := hrel
          have HV := hide hv
          have HB := hide hb
          have s2 := hb.size
          have p3 := (hb.cell (p := ⟨w.heap.size, 2, none⟩) (by show w.heap.size < v2.heap.size; omega)).trans u2_2
          have r3 := (hb.cell (p := ⟨w.heap.size + 1, 2, none⟩) (by show w.heap.size + 1 < v2.heap.size; omega)).trans v2_2
          clear hv hb u2_2 v2_2
          have B2 : Hid (Below w.heap.size w wr) := C2.out.trans (HB.out.mono C2.out.size)
          by_cases hjn : j < x.frames.length
          · have g1 : (0 : Int) ≤ (j : Int) := by omega
            have g2 : (j : Int) < (x.frames.length : Int) := by omega
            rcases (G2.out.keep (B2.out.mono HH.out)).both (K2.out.keep (B2.out.mono HH'.out)) HL.out with h0 | ⟨b, off, b', off', rfl, rfl, t1, t2, h3, h4⟩
            · exfalso; omega
            obtain ⟨m2, c2', m3, c3', e0, e1, e2, e3, l2, l3⟩ := h3 j hjn
            obtain ⟨n2, d2', n3, d3', f0, f1, f2, f3, k2, k3⟩ := h4 j hjn
            clear h3 h4
            have M2 := hide l2
            have M3 := hide l3
            have N2 := hide k2
            have N3 := hide k3
            clear l2 l3 k2 k3
            have W1 : Hid (hi ≤ wr.heap.size) := Nat.le_trans HH.out B2.out.size
            have W2 : Hid (hi' ≤ wr.heap.size) := Nat.le_trans HH'.out B2.out.size
            have z1 : b < wr.heap.size := cell_lt e0
            have z2 : b' < wr.heap.size := cell_lt f0
            have z3 : w.heap.size < wr.heap.size := by omega
            have z4 : w.heap.size + 1 < wr.heap.size := by omega
            have z5 : b < wr.heap.size + 1 := by omega
            have z6 : b' < wr.heap.size + 1 := by omega
            have z7 : w.heap.size < wr.heap.size + 1 := by omega
            have z8 : w.heap.size + 1 < wr.heap.size + 1 := by omega
            by_cases h1 : (frameAt' x.frames j).fn = (frameAt' y.frames j).fn
            · rw [← h1] at f0
              by_cases h2 : (frameAt' x.frames j).pc = (frameAt' y.frames j).pc
              · rw [← h2] at f1
                have HD : Hid (frameSame (frameAt' x.frames j) (frameAt' y.frames j) = (valsSame (frameAt' x.frames j).locals (frameAt' y.frames j).locals && valsSame (frameAt' x.frames j).stack (frameAt' y.frames j).stack)) := by
                  show frameSame _ _ = _
                  simp [frameSame, h1, h2]
                clear h1 h2
                go_wp2_with fail
                refine (l5Vals_any m2 n2 c2' d2' lo hi lo' hi' (frameAt' x.frames j).locals (frameAt' y.frames j).locals _ (HX.out.2.2.1.2 j hjn).1 (HY.out.2.2.1.2 j (by rw [HL.out]; exact hjn)).1 (M2.out.keep (Below.mono (by (repeat (first | refine Below.al ?_ (Nat.le_refl _) _ | exact Below.refl _ _))) W1.out)) (N2.out.keep (Below.mono (by (repeat (first | refine Below.al ?_ (Nat.le_refl _) _ | exact Below.refl _ _))) W2.out))).mono ?_
                rintro e y0 ⟨rfl, q5, hq5⟩
                have D0 : Hid (Below wr.heap.size wr y0) := by
                  show Below wr.heap.size wr y0
                  rw [hq5]
                  exact below_drewN (by (repeat (first | refine Below.al ?_ (Nat.le_refl _) _ | exact Below.refl _ _))) _
                have S0 : Hid (Rec y0 wr.heap.size 60 [.int .i64 (frameAt' x.frames j).fn, .int .i64 (frameAt' x.frames j).pc, .slice m2 (frameAt' x.frames j).locals.length c2', .slice m3 (frameAt' x.frames j).stack.length c3']) := by
                  show Rec _ _ _ _
                  rw [hq5]
                  exact (Rec.new' _ _ _ _ rfl).alloc _
                have T0 : Hid (Rec y0 (wr.heap.size + 1) 60 [.int .i64 (frameAt' x.frames j).fn, .int .i64 (frameAt' x.frames j).pc, .slice n2 (frameAt' y.frames j).locals.length d2', .slice n3 (frameAt' y.frames j).stack.length d3']) := by
                  show Rec _ _ _ _
                  rw [hq5]
                  exact Rec.new' _ _ _ _ (by simp)
                clear hq5
                have s3_0 := S0.out.cell (o := 3) rfl
                have t3_0 := T0.out.cell (o := 3) rfl
                by_cases k5 : valsSame (frameAt' x.frames j).locals (frameAt' y.frames j).locals = true
                · rw [k5]
                  have KK5 := hide k5
                  clear k5
                  go_wp2_with fail
                  refine (l5Vals_any m3 n3 c3' d3' lo hi lo' hi' (frameAt' x.frames j).stack (frameAt' y.frames j).stack _ (HX.out.2.2.1.2 j hjn).2 (HY.out.2.2.1.2 j (by rw [HL.out]; exact hjn)).2 (M3.out.keep (Below.mono D0.out W1.out)) (N3.out.keep (Below.mono D0.out W2.out))).mono ?_
                  rintro e y1 ⟨rfl, q6, hq6⟩
                  have D1 : Hid (Below wr.heap.size wr y1) := by
                    show Below wr.heap.size wr y1
                    rw [hq6]
                    exact below_drewN D0.out _
                  clear hq6
                  by_cases k6 : valsSame (frameAt' x.frames j).stack (frameAt' y.frames j).stack = true
                  · rw [k6]
                    have KK6 := hide k6
                    clear k6
                    go_wp2_with fail
                    have HS : frameSame (frameAt' x.frames j) (frameAt' y.frames j) = true := by rw [HD.out, KK5.out, KK6.out]; rfl
                    exact ⟨⟨j + 1, by omega, by go_num, upTo_step HV.out HS, HB.out.trans (D1.out.mono s2)⟩, by simp [intOf]; omega⟩
                  · have k' : valsSame (frameAt' x.frames j).stack (frameAt' y.frames j).stack = false := by simpa using k6
                    rw [k']
                    have HF : Hid (meanSame x y = false) := by
                      show meanSame x y = false
                      rw [HN.out, upTo_false (P := fun i => frameSame (frameAt' x.frames i) (frameAt' y.frames i)) hjn (by simp [frameSame, k'])]; simp
                    clear k' k6
                    go_wp2_with fail
                    go_ret
                    exact ⟨ret_bool HF.out.symm, B2.out.trans (D1.out.mono B2.out.size)⟩
                · have k' : valsSame (frameAt' x.frames j).locals (frameAt' y.frames j).locals = false := by simpa using k5
                  rw [k']
                  have HF : Hid (meanSame x y = false) := by
                    show meanSame x y = false
                    rw [HN.out, upTo_false (P := fun i => frameSame (frameAt' x.frames i) (frameAt' y.frames i)) hjn (by simp [frameSame, k'])]; simp
                  clear k' k5
                  go_wp2_with fail
                  go_ret
                  exact ⟨ret_bool HF.out.symm, B2.out.trans (D0.out.mono B2.out.size)⟩
              · have HF : Hid (meanSame x y = false) := by
                  show meanSame x y = false
                  rw [HN.out, upTo_false (P := fun i => frameSame (frameAt' x.frames i) (frameAt' y.frames i)) hjn (by simp [frameSame, h2])]; simp
                clear h1
                go_wp2_with fail
                go_ret
                exact ⟨ret_bool HF.out.symm, B2.out.trans (Below.mono (by (repeat (first | refine Below.al ?_ (Nat.le_refl _) _ | exact Below.refl _ _))) B2.out.size)⟩
            · have HF : Hid (meanSame x y = false) := by
                show meanSame x y = false
                rw [HN.out, upTo_false (P := fun i => frameSame (frameAt' x.frames i) (frameAt' y.frames i)) hjn (by simp [frameSame, h1])]; simp
              go_wp2_with fail
              go_ret
              exact ⟨ret_bool HF.out.symm, B2.out.trans (Below.mono (by (repeat (first | refine Below.al ?_ (Nat.le_refl _) _ | exact Below.refl _ _))) B2.out.size)⟩
          · have hjn' : Hid (j = x.frames.length) := Nat.le_antisymm hj (Nat.le_of_not_lt hjn)
            have HW : Hid (meanSame x y = true) := by
              show meanSame x y = true
              rw [HN.out, KK0.out, KK1.out, KK2.out, ← hjn'.out, HV.out]; rfl
            go_wp2_with fail
            go_ret
            exact ⟨ret_bool HW.out.symm, B2.out⟩
      · have k' : thingsSame x.things y.things = false := by simpa using k2
        rw [k']
        have HF : Hid (meanSame x y = false) := by
          show meanSame x y = false
          simp [meanSame, k']
        clear k' k2
        go_wp2_with fail
        go_ret
        exact ⟨ret_bool HF.out.symm, C2.out⟩
    · have k' : valsSame x.glob y.glob = false := by simpa using k1
      rw [k']
      have HF : Hid (meanSame x y = false) := by
        show meanSame x y = false
        simp [meanSame, k']
      clear k' k1
      go_wp2_with fail
      go_ret
      exact ⟨ret_bool HF.out.symm, C1.out⟩
  · have k' : numsSame x.outs y.outs = false := by simpa using k0
    rw [k']
    have HF : Hid (meanSame x y = false) := by
      show meanSame x y = false
      simp [meanSame, k']
    clear k' k0
    go_wp2_with fail
    go_ret
    exact ⟨ret_bool HF.out.symm, C0.out⟩

set_option maxHeartbeats 800000 in
theorem specMeanSame_asked (a0 a1 a2 a3 b0 b1 b2 b3 : Option Addr) (c0 c1 c2 c3 d0 d1 d2 d3 : Nat) (x y : GMean) (w : World) (hx : MeanB 1048576 x) (hy : MeanB 1048576 y) (h : ¬ x.asked = y.asked) :
    Calls Try.prog 21 #[.agg #[.slice a0 x.things.length c0, .slice a1 x.glob.length c1, .slice a2 x.frames.length c2, .slice a3 x.outs.length c3, .int .i64 x.asked, .int .i64 x.code], .agg #[.slice b0 y.things.length d0, .slice b1 y.glob.length d1, .slice b2 y.frames.length d2, .slice b3 y.outs.length d3, .int .i64 y.asked, .int .i64 y.code]] w fun e w' => e = .returned (.bool (meanSame x y)) ∧ Below w.heap.size w w' := by
  rw [show meanSame x y = false by simp [meanSame, h]]
  clear hx hy
  go_enter Try.func21, Try.ntmps21
  go_wp2_with fail
  go_ret
  exact ⟨rfl, by (repeat (first | refine Below.al ?_ (Nat.le_refl _) _ | exact Below.refl _ _))⟩

set_option maxHeartbeats 800000 in
theorem specMeanSame_code (a0 a1 a2 a3 b0 b1 b2 b3 : Option Addr) (c0 c1 c2 c3 d0 d1 d2 d3 : Nat) (x y : GMean) (w : World) (hx : MeanB 1048576 x) (hy : MeanB 1048576 y) (h4 : x.asked = y.asked) (h : ¬ x.code = y.code) :
    Calls Try.prog 21 #[.agg #[.slice a0 x.things.length c0, .slice a1 x.glob.length c1, .slice a2 x.frames.length c2, .slice a3 x.outs.length c3, .int .i64 x.asked, .int .i64 x.code], .agg #[.slice b0 y.things.length d0, .slice b1 y.glob.length d1, .slice b2 y.frames.length d2, .slice b3 y.outs.length d3, .int .i64 y.asked, .int .i64 y.code]] w fun e w' => e = .returned (.bool (meanSame x y)) ∧ Below w.heap.size w w' := by
  rw [show meanSame x y = false by simp [meanSame, h]]
  rw [← h4]
  clear h4
  clear hx hy
  go_enter Try.func21, Try.ntmps21
  go_wp2_with fail
  go_ret
  exact ⟨rfl, by (repeat (first | refine Below.al ?_ (Nat.le_refl _) _ | exact Below.refl _ _))⟩

set_option maxHeartbeats 800000 in
theorem specMeanSame_frames (a0 a1 a2 a3 b0 b1 b2 b3 : Option Addr) (c0 c1 c2 c3 d0 d1 d2 d3 : Nat) (x y : GMean) (w : World) (hx : MeanB 1048576 x) (hy : MeanB 1048576 y) (h4 : x.asked = y.asked) (h5 : x.code = y.code) (h : ¬ x.frames.length = y.frames.length) :
    Calls Try.prog 21 #[.agg #[.slice a0 x.things.length c0, .slice a1 x.glob.length c1, .slice a2 x.frames.length c2, .slice a3 x.outs.length c3, .int .i64 x.asked, .int .i64 x.code], .agg #[.slice b0 y.things.length d0, .slice b1 y.glob.length d1, .slice b2 y.frames.length d2, .slice b3 y.outs.length d3, .int .i64 y.asked, .int .i64 y.code]] w fun e w' => e = .returned (.bool (meanSame x y)) ∧ Below w.heap.size w w' := by
  rw [show meanSame x y = false by simp [meanSame, framesSame, h]]
  rw [← h4, ← h5]
  have h0 : x.frames.length ≤ 1048576 := hx.2.2.1.1
  have h1 : y.frames.length ≤ 1048576 := hy.2.2.1.1
  have e1 : ((x.frames.length : Int) != (y.frames.length : Int)) = true := by simp; omega
  have e2 : ¬ ((x.frames.length : Int) = (y.frames.length : Int)) := by omega
  clear h hx hy h4 h5
  go_enter Try.func21, Try.ntmps21
  go_wp2_with fail
  go_ret
  exact ⟨rfl, by (repeat (first | refine Below.al ?_ (Nat.le_refl _) _ | exact Below.refl _ _))⟩

theorem specMeanSame_any {md md' : Bool} (a0 a1 a2 a3 b0 b1 b2 b3 : Option Addr) (c0 c1 c2 c3 d0 d1 d2 d3 lo hi lo' hi' : Nat) (x y : GMean) (w : World) (hx : MeanB 1048576 x) (hy : MeanB 1048576 y)
    (g0 : ThingsM md w lo hi a0 x.things) (g1 : ValsM md w lo hi a1 x.glob) (g2 : FramesM md w lo hi a2 x.frames) (g3 : NumsM md w lo hi a3 x.outs) (k0 : ThingsM md' w lo' hi' b0 y.things) (k1 : ValsM md' w lo' hi' b1 y.glob) (k2 : FramesM md' w lo' hi' b2 y.frames) (k3 : NumsM md' w lo' hi' b3 y.outs) (hh : hi ≤ w.heap.size) (hh' : hi' ≤ w.heap.size) :
    Calls Try.prog 21 #[.agg #[.slice a0 x.things.length c0, .slice a1 x.glob.length c1, .slice a2 x.frames.length c2, .slice a3 x.outs.length c3, .int .i64 x.asked, .int .i64 x.code], .agg #[.slice b0 y.things.length d0, .slice b1 y.glob.length d1, .slice b2 y.frames.length d2, .slice b3 y.outs.length d3, .int .i64 y.asked, .int .i64 y.code]] w fun e w' => e = .returned (.bool (meanSame x y)) ∧ Below w.heap.size w w' := by
  by_cases h4 : x.asked = y.asked
  · by_cases h5 : x.code = y.code
    · by_cases hl : x.frames.length = y.frames.length
      · exact specMeanSame_eq a0 a1 a2 a3 b0 b1 b2 b3 c0 c1 c2 c3 d0 d1 d2 d3 lo hi lo' hi' x y w hx hy g0 g1 g2 g3 k0 k1 k2 k3 hh hh' h4 h5 hl.symm
      · exact specMeanSame_frames a0 a1 a2 a3 b0 b1 b2 b3 c0 c1 c2 c3 d0 d1 d2 d3 x y w hx hy h4 h5 hl
    · exact specMeanSame_code a0 a1 a2 a3 b0 b1 b2 b3 c0 c1 c2 c3 d0 d1 d2 d3 x y w hx hy h4 h5
  · exact specMeanSame_asked a0 a1 a2 a3 b0 b1 b2 b3 c0 c1 c2 c3 d0 d1 d2 d3 x y w hx hy h4
end Go.Proofs.Ytpagchajjncmbaa
