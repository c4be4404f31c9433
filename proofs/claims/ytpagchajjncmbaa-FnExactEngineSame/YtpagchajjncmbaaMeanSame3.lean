/- MeanSame of the program, whole. -/
import Derived.Test.YtpagchajjncmbaaMeanSame2
namespace Go.Proofs.Ytpagchajjncmbaa
open Go.ChangeShapes Go.WideShapes Go.ChangeAt Go.RowKit Go.Joins Go.Deep
set_option linter.unusedVariables false

set_option maxHeartbeats 3200000 in
theorem implMeanSame_any {md md' : Bool} (a0 a1 a2 a3 b0 b1 b2 b3 : Option Addr) (c0 c1 c2 c3 d0 d1 d2 d3 lo hi lo' hi' : Nat) (x y : GMean) (w : World) (hx : MeanB 1048576 x) (hy : MeanB 1048576 y)
    (g0 : ThingsM md w lo hi a0 x.things) (g1 : ValsM md w lo hi a1 x.glob) (g2 : FramesM md w lo hi a2 x.frames) (g3 : NumsM md w lo hi a3 x.outs) (k0 : ThingsM md' w lo' hi' b0 y.things) (k1 : ValsM md' w lo' hi' b1 y.glob) (k2 : FramesM md' w lo' hi' b2 y.frames) (k3 : NumsM md' w lo' hi' b3 y.outs) (hh : hi ≤ w.heap.size) (hh' : hi' ≤ w.heap.size) :
    Calls Try.prog 27 #[.agg #[.slice a0 x.things.length c0, .slice a1 x.glob.length c1, .slice a2 x.frames.length c2, .slice a3 x.outs.length c3, .int .i64 x.asked, .int .i64 x.code], .agg #[.slice b0 y.things.length d0, .slice b1 y.glob.length d1, .slice b2 y.frames.length d2, .slice b3 y.outs.length d3, .int .i64 y.asked, .int .i64 y.code]] w fun e w' => e = .returned (.bool (meanSame x y)) ∧ Below w.heap.size w w' := by
  have HX := hide hx
  have HY := hide hy
  have G0 := hide g0
  have K0 := hide k0
  have G1 := hide g1
  have K1 := hide k1
  have G2 := hide g2
  have K2 := hide k2
  have G3 := hide g3
  have K3 := hide k3
  clear hx hy g0 k0 g1 k1 g2 k2 g3 k3
  go_enter Try.func27, Try.ntmps27
  go_wp2_with fail
  refine (eqFuncThings_any a0 b0 c0 d0 lo hi lo' hi' x.things y.things _ HX.out.1 HY.out.1 (G0.out.keep (Below.mono (by (repeat (first | refine Below.al ?_ (Nat.le_refl _) _ | exact Below.refl _ _))) hh)) (K0.out.keep (Below.mono (by (repeat (first | refine Below.al ?_ (Nat.le_refl _) _ | exact Below.refl _ _))) hh')) (by go_size) (by go_size)).mono ?_
  rintro e v0 ⟨rfl, hq0⟩
  have C0 : Hid (Below w.heap.size w v0) := by
    refine Below.trans ?_ (hq0.mono (by go_size))
    exact (by (repeat (first | refine Below.al ?_ (Nat.le_refl _) _ | exact Below.refl _ _)))
  have U0 : Hid (Rec v0 w.heap.size 49 [.slice a0 x.things.length c0, .slice a1 x.glob.length c1, .slice a2 x.frames.length c2, .slice a3 x.outs.length c3, .int .i64 x.asked, .int .i64 x.code]) := Rec.below ((Rec.new' _ _ _ _ rfl).alloc _) hq0 (by go_size)
  have V0 : Hid (Rec v0 (w.heap.size + 1) 49 [.slice b0 y.things.length d0, .slice b1 y.glob.length d1, .slice b2 y.frames.length d2, .slice b3 y.outs.length d3, .int .i64 y.asked, .int .i64 y.code]) := Rec.below (Rec.new' _ _ _ _ (by simp)) hq0 (by go_size)
  have u1_0 := U0.out.cell (o := 1) rfl
  have v1_0 := V0.out.cell (o := 1) rfl
  have u2_0 := U0.out.cell (o := 2) rfl
  have v2_0 := V0.out.cell (o := 2) rfl
  have u3_0 := U0.out.cell (o := 3) rfl
  have v3_0 := V0.out.cell (o := 3) rfl
  have u4_0 := U0.out.cell (o := 4) rfl
  have v4_0 := V0.out.cell (o := 4) rfl
  have u5_0 := U0.out.cell (o := 5) rfl
  have v5_0 := V0.out.cell (o := 5) rfl
  clear hq0
  by_cases k0 : thingsSame x.things y.things = true
  · rw [k0]
    have KK0 := hide k0
    clear k0
    go_wp2_with fail
    refine (slicesEqualVal_any a1 b1 c1 d1 lo hi lo' hi' x.glob y.glob _ HX.out.2.1 HY.out.2.1 (G1.out.keep (Below.mono C0.out hh)) (K1.out.keep (Below.mono C0.out hh'))).mono ?_
    rintro e v1 ⟨rfl, q1, hq1⟩
    have C1 : Hid (Below w.heap.size w v1) := by
      show Below w.heap.size w v1
      rw [hq1]
      exact below_drewN C0.out _
    have U1 : Hid (Rec v1 w.heap.size 49 [.slice a0 x.things.length c0, .slice a1 x.glob.length c1, .slice a2 x.frames.length c2, .slice a3 x.outs.length c3, .int .i64 x.asked, .int .i64 x.code]) := by
      show Rec _ _ _ _
      rw [hq1]
      exact U0.out
    have V1 : Hid (Rec v1 (w.heap.size + 1) 49 [.slice b0 y.things.length d0, .slice b1 y.glob.length d1, .slice b2 y.frames.length d2, .slice b3 y.outs.length d3, .int .i64 y.asked, .int .i64 y.code]) := by
      show Rec _ _ _ _
      rw [hq1]
      exact V0.out
    clear u1_0 v1_0 u2_0 v2_0 u3_0 v3_0 u4_0 v4_0 u5_0 v5_0
    have u2_1 := U1.out.cell (o := 2) rfl
    have v2_1 := V1.out.cell (o := 2) rfl
    have u3_1 := U1.out.cell (o := 3) rfl
    have v3_1 := V1.out.cell (o := 3) rfl
    have u4_1 := U1.out.cell (o := 4) rfl
    have v4_1 := V1.out.cell (o := 4) rfl
    have u5_1 := U1.out.cell (o := 5) rfl
    have v5_1 := V1.out.cell (o := 5) rfl
    clear hq1
    by_cases k1 : valsSame x.glob y.glob = true
    · rw [k1]
      have KK1 := hide k1
      clear k1
      go_wp2_with fail
      refine (eqFuncFrames_any a2 b2 c2 d2 lo hi lo' hi' x.frames y.frames _ HX.out.2.2.1 HY.out.2.2.1 (G2.out.keep (Below.mono C1.out hh)) (K2.out.keep (Below.mono C1.out hh')) (Nat.le_trans hh C1.out.size) (Nat.le_trans hh' C1.out.size)).mono ?_
      rintro e v2 ⟨rfl, hq2⟩
      have C2 : Hid (Below w.heap.size w v2) := by
        refine Below.trans ?_ (hq2.mono C1.out.size)
        exact C1.out
      have U2 : Hid (Rec v2 w.heap.size 49 [.slice a0 x.things.length c0, .slice a1 x.glob.length c1, .slice a2 x.frames.length c2, .slice a3 x.outs.length c3, .int .i64 x.asked, .int .i64 x.code]) := U1.out.below hq2 U1.out.lt
      have V2 : Hid (Rec v2 (w.heap.size + 1) 49 [.slice b0 y.things.length d0, .slice b1 y.glob.length d1, .slice b2 y.frames.length d2, .slice b3 y.outs.length d3, .int .i64 y.asked, .int .i64 y.code]) := V1.out.below hq2 V1.out.lt
      clear u2_1 v2_1 u3_1 v3_1 u4_1 v4_1 u5_1 v5_1
      have u3_2 := U2.out.cell (o := 3) rfl
      have v3_2 := V2.out.cell (o := 3) rfl
      have u4_2 := U2.out.cell (o := 4) rfl
      have v4_2 := V2.out.cell (o := 4) rfl
      have u5_2 := U2.out.cell (o := 5) rfl
      have v5_2 := V2.out.cell (o := 5) rfl
      clear hq2
      by_cases k2 : framesSame x.frames y.frames = true
      · rw [k2]
        have KK2 := hide k2
        clear k2
        go_wp2_with fail
        refine (slicesEqualNum_any a3 b3 c3 d3 lo hi lo' hi' x.outs y.outs _ HX.out.2.2.2 HY.out.2.2.2 (G3.out.keep (Below.mono C2.out hh)) (K3.out.keep (Below.mono C2.out hh'))).mono ?_
        rintro e v3 ⟨rfl, q3, hq3⟩
        have C3 : Hid (Below w.heap.size w v3) := by
          show Below w.heap.size w v3
          rw [hq3]
          exact below_drewN C2.out _
        have U3 : Hid (Rec v3 w.heap.size 49 [.slice a0 x.things.length c0, .slice a1 x.glob.length c1, .slice a2 x.frames.length c2, .slice a3 x.outs.length c3, .int .i64 x.asked, .int .i64 x.code]) := by
          show Rec _ _ _ _
          rw [hq3]
          exact U2.out
        have V3 : Hid (Rec v3 (w.heap.size + 1) 49 [.slice b0 y.things.length d0, .slice b1 y.glob.length d1, .slice b2 y.frames.length d2, .slice b3 y.outs.length d3, .int .i64 y.asked, .int .i64 y.code]) := by
          show Rec _ _ _ _
          rw [hq3]
          exact V2.out
        clear u3_2 v3_2 u4_2 v4_2 u5_2 v5_2
        have u4_3 := U3.out.cell (o := 4) rfl
        have v4_3 := V3.out.cell (o := 4) rfl
        have u5_3 := U3.out.cell (o := 5) rfl
        have v5_3 := V3.out.cell (o := 5) rfl
        clear hq3
        by_cases k3 : numsSame x.outs y.outs = true
        · rw [k3]
          have KK3 := hide k3
          clear k3
          by_cases h4 : x.asked = y.asked
          · rw [← h4] at v4_3
            have H4 := hide h4
            clear h4
            by_cases h5 : x.code = y.code
            · rw [← h5] at v5_3
              have H5 := hide h5
              clear h5
              go_wp2_with fail
              go_ret
              exact ⟨ret_bool (by simp [meanSame, KK0.out, KK1.out, KK2.out, KK3.out, H4.out, H5.out]), C3.out⟩
            · have HF : Hid (meanSame x y = false) := by
                show meanSame x y = false
                simp [meanSame, h5]
              go_wp2_with fail
              go_ret
              exact ⟨ret_bool (by rw [HF.out]; simp [h5]), C3.out⟩
          · have HF : Hid (meanSame x y = false) := by
              show meanSame x y = false
              simp [meanSame, h4]
            go_wp2_with fail
            go_ret
            exact ⟨ret_bool HF.out.symm, C3.out⟩
        · have k' : numsSame x.outs y.outs = false := by simpa using k3
          rw [k']
          have HF : Hid (meanSame x y = false) := by
            show meanSame x y = false
            simp [meanSame, k', KK0.out, KK1.out, KK2.out]
          clear k' k3
          go_wp2_with fail
          go_ret
          exact ⟨ret_bool HF.out.symm, C3.out⟩
      · have k' : framesSame x.frames y.frames = false := by simpa using k2
        rw [k']
        have HF : Hid (meanSame x y = false) := by
          show meanSame x y = false
          simp [meanSame, k', KK0.out, KK1.out]
        clear k' k2
        go_wp2_with fail
        go_ret
        exact ⟨ret_bool HF.out.symm, C2.out⟩
    · have k' : valsSame x.glob y.glob = false := by simpa using k1
      rw [k']
      have HF : Hid (meanSame x y = false) := by
        show meanSame x y = false
        simp [meanSame, k', KK0.out]
      clear k' k1
      go_wp2_with fail
      go_ret
      exact ⟨ret_bool HF.out.symm, C1.out⟩
  · have k' : thingsSame x.things y.things = false := by simpa using k0
    rw [k']
    have HF : Hid (meanSame x y = false) := by
      show meanSame x y = false
      simp [meanSame, k']
    clear k' k0
    go_wp2_with fail
    go_ret
    exact ⟨ret_bool HF.out.symm, C0.out⟩
end Go.Proofs.Ytpagchajjncmbaa
