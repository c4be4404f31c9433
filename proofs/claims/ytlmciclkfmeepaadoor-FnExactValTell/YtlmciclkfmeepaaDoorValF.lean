/- ValTell of the program. -/
import Derived.Test.YtlmciclkfmeepaaDoorValA
namespace Go.Proofs.YtlmciclkfmeepaaDoor
open Go.ChangeShapes Go.WideShapes Go.ChangeAt Go.RowKit
set_option linter.unusedVariables false

theorem valOkF_form {gs : List (List Ty)} {xs : List GThing} {k n : Int} (h : valOkF gs xs k n = true) : valForm k n (xs.length : Nat) = true ∧ (k = 4 → 0 ≤ (thingAt' xs n.toNat).typ ∧ (thingAt' xs n.toNat).typ < (kinCount gs : Int)) := by
  unfold valOkF at h
  simp only [Bool.and_eq_true] at h
  refine ⟨h.1, fun e => ?_⟩
  subst e
  simpa [isTypeF] using h.2
theorem valForm_num {k n m : Int} (h : valForm k n m = true) (hk : k = 1 ∨ k = 3) : 0 ≤ n ∧ n < 9973 := by
  rcases hk with rfl | rfl <;> simpa [valForm] using h

set_option maxHeartbeats 1600000 in
theorem tabTell_any (ra : Option Addr) (rc cb co cc lo hi : Nat) (gs : List (List Ty)) (xs : List GThing) (k n f : Int) (w : World) (hP : Parts gs) (hT : TabIn w lo hi ra cb co gs) (hh : hi ≤ w.heap.size) (hf : k = 4 → f = (thingAt' xs n.toNat).typ) (hv : valOkF gs xs k n = true) :
    Calls Tryd.prog 32 #[.agg #[.slice ra (kinCount gs) rc, .slice (some ⟨cb, co, none⟩) (kinCount gs) cc], .agg #[.int .i64 k, .int .i64 n], .int .i64 f] w fun e w' => e = .returned (.int .i64 (tellV gs xs k n)) ∧ Below w.heap.size w w' := by
  have m8 := hP.2.1
  obtain ⟨hv1, hv2⟩ := valOkF_form hv
  have b0 := two_below w (.cells #[.slice ra (kinCount gs) rc, .slice (some ⟨cb, co, none⟩) (kinCount gs) cc] 62) (.cells #[.int .i64 k, .int .i64 n] 35)
  have B0 := hide b0
  clear b0 hP hv
  rcases valForm_kinds hv1 with rfl | rfl | rfl | rfl
  · have HZ : Hid (tellV gs xs 1 n = n) := by show _ = _; simp [tellV]
    clear hf hT hv1 hv2
    go_enter Tryd.func32, Tryd.ntmps32
    go_wp2_with fail
    go_ret
    exact ⟨ret_int HZ.out.symm, B0.out⟩
  · have HZ : Hid (tellV gs xs 2 n = -1) := by show _ = _; simp [tellV]
    clear hf hT hv1 hv2
    go_enter Tryd.func32, Tryd.ntmps32
    go_wp2_with fail
    go_ret
    exact ⟨ret_int HZ.out.symm, B0.out⟩
  · have HZ : Hid (tellV gs xs 3 n = -2 - n) := by show _ = _; simp [tellV]
    obtain ⟨c1, c2⟩ := valForm_num hv1 (.inr rfl)
    clear hf hT hv1 hv2
    go_enter Tryd.func32, Tryd.ntmps32
    go_wp2_with fail
    go_ret
    exact ⟨ret_int (by rw [HZ.out]), B0.out⟩
  · obtain ⟨c1, c2⟩ := valForm_thing hv1
    obtain ⟨d1, d2⟩ := hv2 rfl
    have hf4 := hf rfl
    rw [← hf4] at d1 d2
    have HZ : Hid (tellV gs xs 4 n = 9973 + (canon gs f.toNat : Nat)) := by show _ = _; rw [hf4]; simp [tellV]
    obtain ⟨t, rfl⟩ := Int.eq_ofNat_of_zero_le d1
    have c3 := canon_le gs t
    simp only [Int.toNat_natCast] at HZ
    have hT2 := hT.2.2 t (by omega)
    have b7 : cb < w.heap.size := by have := hT.2.1; omega
    have b8 : cb < w.heap.size + 1 := by omega
    have c5 : canon gs t ≤ 8 := by omega
    have hT3 := (B0.out.cell (p := ⟨cb, co + t, none⟩) b7).trans hT2
    generalize canon gs t = cn at *
    have x1 : (0 : Int) ≤ (t : Int) := by omega
    clear hf hf4 hT hv1 hv2 hT2 c3
    go_enter Tryd.func32, Tryd.ntmps32
    go_wp2_with fail
    go_ret
    exact ⟨ret_int (by rw [HZ.out]), B0.out⟩

theorem valOf_tell {md : Bool} (ta : Option Addr) (tc lo hi : Nat) (gs : List (List Ty)) (xs : List GThing) (k n : Int) (w : World) (hm : xs.length ≤ 1048576) (hx : ThingsM md w lo hi ta xs) (hh : hi ≤ w.heap.size) (hv : valOkF gs xs k n = true) :
    Calls Tryd.prog 33 #[.slice ta xs.length tc, .agg #[.int .i64 k, .int .i64 n]] w fun e w' => ∃ f, e = .returned (.int .i64 f) ∧ (k = 4 → f = (thingAt' xs n.toNat).typ) ∧ Below w.heap.size w w' := by
  by_cases h4 : k = 4
  · subst h4
    obtain ⟨c1, c2⟩ := valForm_thing (valOkF_form hv).1
    refine (valOf_any ta tc lo hi xs 4 n w hm hx hh (.inr ⟨rfl, c1, c2⟩)).mono ?_
    rintro e w' ⟨rfl, hb⟩
    exact ⟨_, rfl, fun _ => by simp [ofV], hb⟩
  · by_cases h3 : k = 3
    · refine (valOf_any ta tc lo hi xs k n w hm hx hh (.inl h3)).mono ?_
      rintro e w' ⟨rfl, hb⟩
      exact ⟨_, rfl, fun h => absurd h h4, hb⟩
    · refine (valOf_other ta xs.length tc k n w h3 h4).mono ?_
      rintro e w' ⟨rfl, hb⟩
      exact ⟨_, rfl, fun h => absurd h h4, hb⟩

set_option maxHeartbeats 3200000 in
theorem implValTell_any {md : Bool} (ga : Option Addr) (gc lo hi : Nat) (ta : Option Addr) (tc lo' hi' : Nat) (gs : List (List Ty)) (xs : List GThing) (k n : Int) (w : World) (hN : Few gs) (hl : lo ≤ hi) (hh : hi ≤ w.heap.size) (hx : GroupsIn w lo hi ga gs) (hm : xs.length ≤ 1048576) (hy : ThingsM md w lo' hi' ta xs) (hh' : hi' ≤ w.heap.size) (hp : pow10 w) :
    Calls Tryd.prog 16 #[.slice ga gs.length gc, .slice ta xs.length tc, .agg #[.int .i64 k, .int .i64 n]] w fun e w' => e = .returned (.int .i64 (valTellF gs xs k n)) ∧ Below w.heap.size w w' := by
  have n2 := kinCount_le hN
  have b0 : Below w.heap.size w (w.alloc (.cells #[.int .i64 k, .int .i64 n] 35)) := (Below.refl _ _).alloc (Nat.le_refl _) _
  have rv : Rec (w.alloc (.cells #[.int .i64 k, .int .i64 n] 35)) w.heap.size 35 [.int .i64 k, .int .i64 n] := Rec.new _ _ _
  cases hk : kinOkF gs with
  | false =>
    have HC := hide (kinTableOf_no ga gc lo hi gs _ hN hl (Nat.le_trans hh b0.size) (hx.keep (b0.mono hh)) (pow10_keep hp b0) hk)
    have HZ : Hid (valTellF gs xs k n = 0) := by show _ = _; simp [valTellF, hk]
    generalize valTellF gs xs k n = R at *
    have B0 := hide b0
    clear hN hx hp hk b0 rv hy
    go_enter Tryd.func16, Tryd.ntmps16
    go_wp2_with fail
    refine HC.out.mono ?_
    rintro e w1 ⟨rfl, hb1⟩
    have B1 := hide (B0.out.trans (hb1.mono B0.out.size))
    clear hb1
    go_wp2_with fail
    go_ret
    exact ⟨ret_int HZ.out.symm, B1.out.alloc B1.out.size _⟩
  | true =>
    have HC := hide (kinTableOf_ok ga gc lo hi gs _ hN hl (Nat.le_trans hh b0.size) (hx.keep (b0.mono hh)) (pow10_keep hp b0) hk)
    have HZ : Hid (valTellF gs xs k n = (if valOkF gs xs k n then tellV gs xs k n else 0)) := by show _ = _; simp [valTellF, hk]
    have HPt := hide (kinOk_parts hk)
    have HV := hide (fun ra cb rc w1 (hb : Below w.heap.size w w1) => valOk_any ra (some ⟨cb, 0, none⟩) ta rc (kinCount gs) tc lo' hi' gs xs k n w1 n2 hm (hy.keep (hb.mono hh')) (Nat.le_trans hh' hb.size))
    have HOf := hide (fun (hv : valOkF gs xs k n = true) w1 (hb : Below w.heap.size w w1) => valOf_tell ta tc lo' hi' gs xs k n w1 hm (hy.keep (hb.mono hh')) (Nat.le_trans hh' hb.size) hv)
    have HTl := hide (fun (hv : valOkF gs xs k n = true) f (hf : k = 4 → f = (thingAt' xs n.toNat).typ) ra rc cb lo1 hi1 w1 (hT : TabIn w1 lo1 hi1 ra cb 0 gs) (h : hi1 ≤ w1.heap.size) => tabTell_any ra rc cb 0 (kinCount gs) lo1 hi1 gs xs k n f w1 HPt.out hT h hf hv)
    generalize valTellF gs xs k n = R at *
    generalize tellV gs xs k n = s at *
    have B0 := hide b0
    have RV := hide rv
    clear hN hx hp hk b0 rv hy
    go_enter Tryd.func16, Tryd.ntmps16
    go_wp2_with fail
    refine HC.out.mono ?_
    rintro e w1 ⟨ra, rc, cb, rfl, ht, hb1⟩
    have B1 := hide ((B0.out.trans (hb1.mono B0.out.size)).alloc (by have := B0.out.size; have := hb1.size; omega) (.cells #[.slice ra (kinCount gs) rc, .slice (some ⟨cb, 0, none⟩) (kinCount gs) (kinCount gs)] 62))
    have V1 := hide ((RV.out.below hb1 RV.out.lt).alloc (.cells #[.slice ra (kinCount gs) rc, .slice (some ⟨cb, 0, none⟩) (kinCount gs) (kinCount gs)] 62))
    have T1 := hide (Rec.new w1 62 [.slice ra (kinCount gs) rc, .slice (some ⟨cb, 0, none⟩) (kinCount gs) (kinCount gs)])
    have HT := hide (tab_alloc ht (Nat.le_refl _) (.cells #[.slice ra (kinCount gs) rc, .slice (some ⟨cb, 0, none⟩) (kinCount gs) (kinCount gs)] 62))
    have v0 := V1.out.cell (o := 0) rfl
    have v1 := V1.out.cell (o := 1) rfl
    clear hb1 B0 RV ht
    go_wp2_with fail
    refine (HV.out ra cb rc _ B1.out).mono ?_
    rintro e w2 ⟨rfl, hb2⟩
    have B2 := hide (B1.out.trans (hb2.mono B1.out.size))
    have V2 := hide (V1.out.below hb2 V1.out.lt)
    have T2 := hide (T1.out.below hb2 T1.out.lt)
    have HT2 := hide (HT.out.keep (hb2.mono (by simp)))
    have sz2 := hb2.size
    simp at sz2
    clear hb2 B1 V1 T1 HT v0 v1
    cases hv : valOkF gs xs k n with
    | false =>
      have HR : Hid (R = 0) := by show _ = _; rw [HZ.out, hv]; rfl
      clear hv
      go_wp2_with fail
      go_ret
      exact ⟨ret_int HR.out.symm, B2.out⟩
    | true =>
      have HR : Hid (R = s) := by show _ = _; rw [HZ.out, hv]; rfl
      have HTt := hide (HTl.out hv)
      have HOt := hide (HOf.out hv)
      have v0 := V2.out.cell (o := 0) rfl
      have v1 := V2.out.cell (o := 1) rfl
      have t0 := T2.out.cell (o := 0) rfl
      have t1 := T2.out.cell (o := 1) rfl
      clear hv HTl HOf
      go_wp2_with fail
      go_region_held3 (fun w' => (w'.cell? ⟨w1.heap.size, 0, none⟩ = some (.slice ra (kinCount gs) rc) ∧ w'.cell? ⟨w1.heap.size, 1, none⟩ = some (.slice (some ⟨cb, 0, none⟩) (kinCount gs) (kinCount gs))) ∧ (w'.cell? ⟨w.heap.size, 0, none⟩ = some (.int .i64 k) ∧ w'.cell? ⟨w.heap.size, 1, none⟩ = some (.int .i64 n)))
        (go_keep)
        ((first
          | (go_at_call 33; refine (HOt.out _ B2.out.drew).mono ?_; rintro e w3 ⟨f, rfl, hf, hb3⟩; have HFf := hide hf; have B3 := hide (B2.out.drew.trans (hb3.mono B2.out.size)); have T3 : Hid (Rec w3 w1.heap.size 62 [.slice ra (kinCount gs) rc, .slice (some ⟨cb, 0, none⟩) (kinCount gs) (kinCount gs)]) := Rec.below (w := w2.drew) T2.out hb3 T2.out.lt; have V3 : Hid (Rec w3 w.heap.size 35 [.int .i64 k, .int .i64 n]) := Rec.below (w := w2.drew) V2.out hb3 V2.out.lt; have HT3 := hide (TabIn.keep (w := w2.drew) HT2.out (hb3.mono (show w1.heap.size ≤ w2.drew.heap.size from Nat.le_of_succ_le sz2))); have sz3 := hb3.size; clear hb3 hf; have t0 := T3.out.cell (o := 0) rfl; have t1 := T3.out.cell (o := 1) rfl; have v0 := V3.out.cell (o := 0) rfl; have v1 := V3.out.cell (o := 1) rfl)
          | (go_at_call 32; refine (HTt.out _ HFf.out ra rc cb _ _ _ HT3.out (Nat.le_trans (show w1.heap.size ≤ w2.drew.heap.size from Nat.le_of_succ_le sz2) sz3)).mono ?_; rintro e w4 ⟨rfl, hb4⟩; have B4 := hide (B3.out.trans (hb4.mono B3.out.size)); have T3 := hide (T3.out.below hb4 T3.out.lt); have V3 := hide (V3.out.below hb4 V3.out.lt); clear hb4; have t0 := T3.out.cell (o := 0) rfl; have t1 := T3.out.cell (o := 1) rfl; have v0 := V3.out.cell (o := 0) rfl; have v1 := V3.out.cell (o := 1) rfl)))
      go_wp2_with fail
      go_ret
      exact ⟨ret_int HR.out.symm, B4.out⟩
end Go.Proofs.YtlmciclkfmeepaaDoor
