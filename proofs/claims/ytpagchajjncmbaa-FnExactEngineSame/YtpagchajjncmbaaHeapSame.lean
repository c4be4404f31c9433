/- HeapSame of the model and of the program. Written by tools/made/heapsame.py. -/
import Derived.Test.YtpagchajjncmbaaGenHeap
import Derived.Test.YtpagchajjncmbaaNumSame
namespace Go.Proofs.Ytpagchajjncmbaa
open Go.ChangeShapes Go.WideShapes Go.ChangeAt Go.RowKit Go.Joins Go.Deep
set_option linter.unusedVariables false

def heapSame (a b : GHeap) : Bool := numsSame a.words b.words && (numsSame a.log b.log && (a.old == b.old && (a.oldAt == b.oldAt && a.youngAt == b.youngAt)))

set_option maxHeartbeats 1600000 in
theorem specHeapSame_ne {md md' : Bool} (a0 a4 b0 b4 : Option Addr) (c0 c4 d0 d4 lo hi lo' hi' : Nat) (x y : GHeap) (w : World) (hx : HeapB 1048576 x) (hy : HeapB 1048576 y)
    (g0 : NumsM md w lo hi a0 x.words) (g4 : NumsM md w lo hi a4 x.log) (k0 : NumsM md' w lo' hi' b0 y.words) (k4 : NumsM md' w lo' hi' b4 y.log) (hh : hi ≤ w.heap.size) (hh' : hi' ≤ w.heap.size)
    (h : ¬ (x.old = y.old ∧ x.oldAt = y.oldAt ∧ x.youngAt = y.youngAt)) :
    Calls Try.prog 20 #[.agg #[.slice a0 x.words.length c0, .int .i64 x.old, .int .i64 x.oldAt, .int .i64 x.youngAt, .slice a4 x.log.length c4], .agg #[.slice b0 y.words.length d0, .int .i64 y.old, .int .i64 y.oldAt, .int .i64 y.youngAt, .slice b4 y.log.length d4]] w fun e w' => e = .returned (.bool (heapSame x y)) ∧ Below w.heap.size w w' := by
  have HF : heapSame x y = false := by
    simp only [heapSame, Bool.and_eq_false_iff, beq_eq_false_iff_ne]
    by_cases e1 : x.old = y.old
    · by_cases e2 : x.oldAt = y.oldAt
      · exact .inr (.inr (.inr (.inr (fun e3 => h ⟨e1, e2, e3⟩))))
      · exact .inr (.inr (.inr (.inl e2)))
    · exact .inr (.inr (.inl e1))
  rw [HF]
  clear HF hx hy g0 g4 k0 k4 hh hh'
  by_cases h1 : x.old = y.old
  · rw [← h1]
    by_cases h2 : x.oldAt = y.oldAt
    · rw [← h2]
      have h3 : ¬ x.youngAt = y.youngAt := fun e3 => h ⟨h1, h2, e3⟩
      clear h h1 h2
      go_enter Try.func20, Try.ntmps20
      go_wp2_with fail
      go_ret
      exact ⟨rfl, by (repeat (first | refine Below.al ?_ (Nat.le_refl _) _ | exact Below.refl _ _))⟩
    · clear h h1
      go_enter Try.func20, Try.ntmps20
      go_wp2_with fail
      go_ret
      exact ⟨rfl, by (repeat (first | refine Below.al ?_ (Nat.le_refl _) _ | exact Below.refl _ _))⟩
  · clear h
    go_enter Try.func20, Try.ntmps20
    go_wp2_with fail
    go_ret
    exact ⟨rfl, by (repeat (first | refine Below.al ?_ (Nat.le_refl _) _ | exact Below.refl _ _))⟩

set_option maxHeartbeats 3200000 in
theorem specHeapSame_eq {md md' : Bool} (a0 a4 b0 b4 : Option Addr) (c0 c4 d0 d4 lo hi lo' hi' : Nat) (x y : GHeap) (w : World) (hx : HeapB 1048576 x) (hy : HeapB 1048576 y)
    (g0 : NumsM md w lo hi a0 x.words) (g4 : NumsM md w lo hi a4 x.log) (k0 : NumsM md' w lo' hi' b0 y.words) (k4 : NumsM md' w lo' hi' b4 y.log) (hh : hi ≤ w.heap.size) (hh' : hi' ≤ w.heap.size)
    (h1 : x.old = y.old) (h2 : x.oldAt = y.oldAt) (h3 : x.youngAt = y.youngAt) :
    Calls Try.prog 20 #[.agg #[.slice a0 x.words.length c0, .int .i64 x.old, .int .i64 x.oldAt, .int .i64 x.youngAt, .slice a4 x.log.length c4], .agg #[.slice b0 y.words.length d0, .int .i64 y.old, .int .i64 y.oldAt, .int .i64 y.youngAt, .slice b4 y.log.length d4]] w fun e w' => e = .returned (.bool (heapSame x y)) ∧ Below w.heap.size w w' := by
  have HE : Hid (heapSame x y = (numsSame x.words y.words && numsSame x.log y.log)) := by
    show heapSame x y = _
    simp [heapSame, h1, h2, h3]
  rw [← h1, ← h2, ← h3]
  clear h1 h2 h3
  have HX := hide hx
  have HY := hide hy
  have G0 := hide g0
  have G4 := hide g4
  have K0 := hide k0
  have K4 := hide k4
  have HH := hide hh
  have HH' := hide hh'
  clear hx hy g0 g4 k0 k4 hh hh'
  go_enter Try.func20, Try.ntmps20
  go_wp2_with fail
  refine (l5Ints_any a0 b0 c0 d0 lo hi lo' hi' x.words y.words _ HX.out.1 HY.out.1 (G0.out.keep (Below.mono (by (repeat (first | refine Below.al ?_ (Nat.le_refl _) _ | exact Below.refl _ _))) HH.out)) (K0.out.keep (Below.mono (by (repeat (first | refine Below.al ?_ (Nat.le_refl _) _ | exact Below.refl _ _))) HH'.out))).mono ?_
  rintro e v0 ⟨rfl, q0, hq0⟩
  have C0 : Hid (Below w.heap.size w v0) := by
    show Below w.heap.size w v0
    rw [hq0]
    exact below_drewN (by (repeat (first | refine Below.al ?_ (Nat.le_refl _) _ | exact Below.refl _ _))) _
  have U0 : Hid (Rec v0 w.heap.size 31 [.slice a0 x.words.length c0, .int .i64 x.old, .int .i64 x.oldAt, .int .i64 x.youngAt, .slice a4 x.log.length c4]) := by
    show Rec _ _ _ _
    rw [hq0]
    exact (Rec.new' _ _ _ _ rfl).alloc _
  have V0 : Hid (Rec v0 (w.heap.size + 1) 31 [.slice b0 y.words.length d0, .int .i64 x.old, .int .i64 x.oldAt, .int .i64 x.youngAt, .slice b4 y.log.length d4]) := by
    show Rec _ _ _ _
    rw [hq0]
    exact Rec.new' _ _ _ _ (by simp)
  clear hq0
  have u0_0 := U0.out.cell (o := 0) rfl
  have v0_0 := V0.out.cell (o := 0) rfl
  have u1_0 := U0.out.cell (o := 1) rfl
  have v1_0 := V0.out.cell (o := 1) rfl
  have u2_0 := U0.out.cell (o := 2) rfl
  have v2_0 := V0.out.cell (o := 2) rfl
  have u3_0 := U0.out.cell (o := 3) rfl
  have v3_0 := V0.out.cell (o := 3) rfl
  have u4_0 := U0.out.cell (o := 4) rfl
  have v4_0 := V0.out.cell (o := 4) rfl
  by_cases k0 : numsSame x.words y.words = true
  · rw [k0]
    have KK0 := hide k0
    clear k0
    go_wp2_with fail
    refine (l5Ints_any a4 b4 c4 d4 lo hi lo' hi' x.log y.log _ HX.out.2 HY.out.2 (G4.out.keep (Below.mono C0.out HH.out)) (K4.out.keep (Below.mono C0.out HH'.out))).mono ?_
    rintro e v1 ⟨rfl, q1, hq1⟩
    have C1 : Hid (Below w.heap.size w v1) := by
      show Below w.heap.size w v1
      rw [hq1]
      exact below_drewN C0.out _
    have HV : Hid (heapSame x y = numsSame x.log y.log) := by
      show heapSame x y = _
      rw [HE.out, KK0.out]; rfl
    clear hq1
    go_wp2_with fail
    go_ret
    exact ⟨ret_bool HV.out.symm, C1.out⟩
  · have k' : numsSame x.words y.words = false := by simpa using k0
    rw [k']
    have HF : Hid (heapSame x y = false) := by
      show heapSame x y = false
      simp [heapSame, k']
    clear k' k0
    go_wp2_with fail
    go_ret
    exact ⟨ret_bool HF.out.symm, C0.out⟩

theorem specHeapSame_any {md md' : Bool} (a0 a4 b0 b4 : Option Addr) (c0 c4 d0 d4 lo hi lo' hi' : Nat) (x y : GHeap) (w : World) (hx : HeapB 1048576 x) (hy : HeapB 1048576 y)
    (g0 : NumsM md w lo hi a0 x.words) (g4 : NumsM md w lo hi a4 x.log) (k0 : NumsM md' w lo' hi' b0 y.words) (k4 : NumsM md' w lo' hi' b4 y.log) (hh : hi ≤ w.heap.size) (hh' : hi' ≤ w.heap.size) :
    Calls Try.prog 20 #[.agg #[.slice a0 x.words.length c0, .int .i64 x.old, .int .i64 x.oldAt, .int .i64 x.youngAt, .slice a4 x.log.length c4], .agg #[.slice b0 y.words.length d0, .int .i64 y.old, .int .i64 y.oldAt, .int .i64 y.youngAt, .slice b4 y.log.length d4]] w fun e w' => e = .returned (.bool (heapSame x y)) ∧ Below w.heap.size w w' := by
  by_cases h : x.old = y.old ∧ x.oldAt = y.oldAt ∧ x.youngAt = y.youngAt
  · exact specHeapSame_eq a0 a4 b0 b4 c0 c4 d0 d4 lo hi lo' hi' x y w hx hy g0 g4 k0 k4 hh hh' h.1 h.2.1 h.2.2
  · exact specHeapSame_ne a0 a4 b0 b4 c0 c4 d0 d4 lo hi lo' hi' x y w hx hy g0 g4 k0 k4 hh hh' h

set_option maxHeartbeats 3200000 in
theorem implHeapSame_any {md md' : Bool} (a0 a4 b0 b4 : Option Addr) (c0 c4 d0 d4 lo hi lo' hi' : Nat) (x y : GHeap) (w : World) (hx : HeapB 1048576 x) (hy : HeapB 1048576 y)
    (g0 : NumsM md w lo hi a0 x.words) (g4 : NumsM md w lo hi a4 x.log) (k0 : NumsM md' w lo' hi' b0 y.words) (k4 : NumsM md' w lo' hi' b4 y.log) (hh : hi ≤ w.heap.size) (hh' : hi' ≤ w.heap.size) :
    Calls Try.prog 26 #[.agg #[.slice a0 x.words.length c0, .int .i64 x.old, .int .i64 x.oldAt, .int .i64 x.youngAt, .slice a4 x.log.length c4], .agg #[.slice b0 y.words.length d0, .int .i64 y.old, .int .i64 y.oldAt, .int .i64 y.youngAt, .slice b4 y.log.length d4]] w fun e w' => e = .returned (.bool (heapSame x y)) ∧ Below w.heap.size w w' := by
  have HX := hide hx
  have HY := hide hy
  have G0 := hide g0
  have G4 := hide g4
  have K0 := hide k0
  have K4 := hide k4
  have HH := hide hh
  have HH' := hide hh'
  clear hx hy g0 g4 k0 k4 hh hh'
  go_enter Try.func26, Try.ntmps26
  go_wp2_with fail
  refine (slicesEqualNum_any a0 b0 c0 d0 lo hi lo' hi' x.words y.words _ HX.out.1 HY.out.1 (G0.out.keep (Below.mono (by (repeat (first | refine Below.al ?_ (Nat.le_refl _) _ | exact Below.refl _ _))) HH.out)) (K0.out.keep (Below.mono (by (repeat (first | refine Below.al ?_ (Nat.le_refl _) _ | exact Below.refl _ _))) HH'.out))).mono ?_
  rintro e v0 ⟨rfl, q0, hq0⟩
  have C0 : Hid (Below w.heap.size w v0) := by
    show Below w.heap.size w v0
    rw [hq0]
    exact below_drewN (by (repeat (first | refine Below.al ?_ (Nat.le_refl _) _ | exact Below.refl _ _))) _
  have U0 : Hid (Rec v0 w.heap.size 31 [.slice a0 x.words.length c0, .int .i64 x.old, .int .i64 x.oldAt, .int .i64 x.youngAt, .slice a4 x.log.length c4]) := by
    show Rec _ _ _ _
    rw [hq0]
    exact (Rec.new' _ _ _ _ rfl).alloc _
  have V0 : Hid (Rec v0 (w.heap.size + 1) 31 [.slice b0 y.words.length d0, .int .i64 y.old, .int .i64 y.oldAt, .int .i64 y.youngAt, .slice b4 y.log.length d4]) := by
    show Rec _ _ _ _
    rw [hq0]
    exact Rec.new' _ _ _ _ (by simp)
  clear hq0
  have u0_0 := U0.out.cell (o := 0) rfl
  have v0_0 := V0.out.cell (o := 0) rfl
  have u1_0 := U0.out.cell (o := 1) rfl
  have v1_0 := V0.out.cell (o := 1) rfl
  have u2_0 := U0.out.cell (o := 2) rfl
  have v2_0 := V0.out.cell (o := 2) rfl
  have u3_0 := U0.out.cell (o := 3) rfl
  have v3_0 := V0.out.cell (o := 3) rfl
  have u4_0 := U0.out.cell (o := 4) rfl
  have v4_0 := V0.out.cell (o := 4) rfl
  by_cases k0 : numsSame x.words y.words = true
  · rw [k0]
    have KK0 := hide k0
    clear k0
    go_wp2_with fail
    refine (slicesEqualNum_any a4 b4 c4 d4 lo hi lo' hi' x.log y.log _ HX.out.2 HY.out.2 (G4.out.keep (Below.mono C0.out HH.out)) (K4.out.keep (Below.mono C0.out HH'.out))).mono ?_
    rintro e v1 ⟨rfl, q1, hq1⟩
    have C1 : Hid (Below w.heap.size w v1) := by
      show Below w.heap.size w v1
      rw [hq1]
      exact below_drewN C0.out _
    have U1 : Hid (Rec v1 w.heap.size 31 [.slice a0 x.words.length c0, .int .i64 x.old, .int .i64 x.oldAt, .int .i64 x.youngAt, .slice a4 x.log.length c4]) := by
      show Rec _ _ _ _
      rw [hq1]
      exact U0.out
    have V1 : Hid (Rec v1 (w.heap.size + 1) 31 [.slice b0 y.words.length d0, .int .i64 y.old, .int .i64 y.oldAt, .int .i64 y.youngAt, .slice b4 y.log.length d4]) := by
      show Rec _ _ _ _
      rw [hq1]
      exact V0.out
    clear hq1
    have u0_1 := U1.out.cell (o := 0) rfl
    have v0_1 := V1.out.cell (o := 0) rfl
    have u1_1 := U1.out.cell (o := 1) rfl
    have v1_1 := V1.out.cell (o := 1) rfl
    have u2_1 := U1.out.cell (o := 2) rfl
    have v2_1 := V1.out.cell (o := 2) rfl
    have u3_1 := U1.out.cell (o := 3) rfl
    have v3_1 := V1.out.cell (o := 3) rfl
    have u4_1 := U1.out.cell (o := 4) rfl
    have v4_1 := V1.out.cell (o := 4) rfl
    clear u0_0 v0_0 u1_0 v1_0 u2_0 v2_0 u3_0 v3_0 u4_0 v4_0
    by_cases k1 : numsSame x.log y.log = true
    · rw [k1]
      have KK1 := hide k1
      clear k1
      by_cases h1 : x.old = y.old
      · rw [← h1] at v1_1
        by_cases h2 : x.oldAt = y.oldAt
        · rw [← h2] at v2_1
          have HV : Hid (heapSame x y = (x.youngAt == y.youngAt)) := by
            show heapSame x y = _
            simp [heapSame, KK0.out, KK1.out, h1, h2]
          clear h1 h2
          by_cases h3 : x.youngAt = y.youngAt
          · have HT : Hid (heapSame x y = true) := by
              show heapSame x y = true
              rw [HV.out]; simpa using h3
            rw [← h3] at v3_1
            clear h3
            go_wp2_with fail
            go_ret
            exact ⟨ret_bool HT.out.symm, C1.out⟩
          · have HT : Hid (heapSame x y = false) := by
              show heapSame x y = false
              rw [HV.out]; simpa using h3
            have h4 : (x.youngAt == y.youngAt) = false := by simpa using h3
            have h5 : decide (x.youngAt = y.youngAt) = false := by simpa using h3
            go_wp2_with fail
            go_ret
            exact ⟨ret_bool HT.out.symm, C1.out⟩
        · have HT : Hid (heapSame x y = false) := by
            show heapSame x y = false
            simp [heapSame, h2]
          clear h1
          go_wp2_with fail
          go_ret
          exact ⟨ret_bool HT.out.symm, C1.out⟩
      · have HT : Hid (heapSame x y = false) := by
          show heapSame x y = false
          simp [heapSame, h1]
        go_wp2_with fail
        go_ret
        exact ⟨ret_bool HT.out.symm, C1.out⟩
    · have k' : numsSame x.log y.log = false := by simpa using k1
      rw [k']
      have HF : Hid (heapSame x y = false) := by
        show heapSame x y = false
        simp [heapSame, k']
      clear k' k1
      go_wp2_with fail
      go_ret
      exact ⟨ret_bool HF.out.symm, C1.out⟩
  · have k' : numsSame x.words y.words = false := by simpa using k0
    rw [k']
    have HF : Hid (heapSame x y = false) := by
      show heapSame x y = false
      simp [heapSame, k']
    clear k' k0
    go_wp2_with fail
    go_ret
    exact ⟨ret_bool HF.out.symm, C0.out⟩
end Go.Proofs.Ytpagchajjncmbaa
