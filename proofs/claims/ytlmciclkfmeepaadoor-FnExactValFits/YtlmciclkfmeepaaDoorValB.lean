/- valIs, valFits of the program's table, and ValFits of the program. -/
import Derived.Test.YtlmciclkfmeepaaDoorValA
namespace Go.Proofs.YtlmciclkfmeepaaDoor
open Go.ChangeShapes Go.WideShapes Go.ChangeAt Go.RowKit
set_option linter.unusedVariables false

/-- What a chip or a right thing is of is a type that there is, or -2. -/
theorem ofV_range {gs : List (List Ty)} {xs : List GThing} {k n : Int} (h1 : k ≠ 1) (h2 : k ≠ 2) (h : valOkF gs xs k n = true) : (k = 3 ∨ (k = 4 ∧ 0 ≤ n ∧ n < (xs.length : Int))) ∧ -2 ≤ ofV xs k n ∧ ofV xs k n < (kinCount gs : Int) := by
  unfold valOkF at h
  simp only [Bool.and_eq_true] at h
  obtain ⟨a, b⟩ := h
  rcases valForm_kinds a with rfl | rfl | rfl | rfl
  · exact absurd rfl h1
  · exact absurd rfl h2
  · refine ⟨.inl rfl, ?_⟩
    simp [ofV]
    omega
  · have c := valForm_thing a
    refine ⟨.inr ⟨rfl, c⟩, ?_⟩
    simp [isTypeF] at b
    simp [ofV]
    omega

set_option maxHeartbeats 3200000 in
theorem tabValFits_any {md : Bool} (ra : Option Addr) (rc cb co cc lo hi : Nat) (ta : Option Addr) (tc lo' hi' : Nat) (gs : List (List Ty)) (xs : List GThing) (k n fk fo : Int) (fm : Bool) (w : World) (hP : Parts gs) (hT : TabIn w lo hi ra cb co gs) (hh : hi ≤ w.heap.size) (hm : xs.length ≤ 1048576) (hx : ThingsM md w lo' hi' ta xs) (hh' : hi' ≤ w.heap.size) :
    Calls Tryd.prog 26 #[.agg #[.slice ra (kinCount gs) rc, .slice (some ⟨cb, co, none⟩) (kinCount gs) cc], .slice ta xs.length tc, .agg #[.int .i64 k, .int .i64 n], .agg #[.int .i64 fk, .int .i64 fo, .bool fm]] w fun e w' => e = .returned (.bool (fitsV gs xs k n ⟨fk, fo, fm⟩)) ∧ Below w.heap.size w w' := by
  have m8 := hP.2.1
  have HF : Hid (fitsV gs xs k n ⟨fk, fo, fm⟩ = (fieldOk fk fo (kinCount gs : Nat) && (valOkF gs xs k n && (if fk = 1 ∨ k = 1 then (fk == 1) && (k == 1) else if k = 2 then fk == 2 else under gs (ofV xs k n) fo)))) := rfl
  generalize fitsV gs xs k n ⟨fk, fo, fm⟩ = R at *
  have b0 := three_new w (.cells #[.slice ra (kinCount gs) rc, .slice (some ⟨cb, co, none⟩) (kinCount gs) cc] 62) (.cells #[.int .i64 k, .int .i64 n] 35) (.cells #[.int .i64 fk, .int .i64 fo, .bool fm] 37)
  have rt : Rec (((w.alloc (.cells #[.slice ra (kinCount gs) rc, .slice (some ⟨cb, co, none⟩) (kinCount gs) cc] 62)).alloc (.cells #[.int .i64 k, .int .i64 n] 35)).alloc (.cells #[.int .i64 fk, .int .i64 fo, .bool fm] 37)) w.heap.size 62 [.slice ra (kinCount gs) rc, .slice (some ⟨cb, co, none⟩) (kinCount gs) cc] := ((Rec.new _ _ _).alloc _).alloc _
  have rv : Rec (((w.alloc (.cells #[.slice ra (kinCount gs) rc, .slice (some ⟨cb, co, none⟩) (kinCount gs) cc] 62)).alloc (.cells #[.int .i64 k, .int .i64 n] 35)).alloc (.cells #[.int .i64 fk, .int .i64 fo, .bool fm] 37)) (w.heap.size + 1) 35 [.int .i64 k, .int .i64 n] := (Rec.new' _ _ _ _ (by simp)).alloc _
  have rf : Rec (((w.alloc (.cells #[.slice ra (kinCount gs) rc, .slice (some ⟨cb, co, none⟩) (kinCount gs) cc] 62)).alloc (.cells #[.int .i64 k, .int .i64 n] 35)).alloc (.cells #[.int .i64 fk, .int .i64 fo, .bool fm] 37)) (w.heap.size + 1 + 1) 37 [.int .i64 fk, .int .i64 fo, .bool fm] := Rec.new' _ _ _ _ (by simp)
  have B0 := hide b0
  have RT := hide rt
  have RV := hide rv
  have RF := hide rf
  have HT := hide hT
  have HP := hide hP
  have HX := hide hx
  clear b0 rt rv rf hT hP hx
  go_enter Tryd.func26, Tryd.ntmps26
  go_wp2_with fail
  refine (implFieldOk_any fk fo _ fm _).mono ?_
  rintro e w1 ⟨rfl, hb1⟩
  have B1 := hide (B0.out.trans (hb1.mono B0.out.size))
  have T1 := hide (RT.out.below hb1 RT.out.lt)
  have V1 := hide (RV.out.below hb1 RV.out.lt)
  have F1 := hide (RF.out.below hb1 RF.out.lt)
  clear hb1 B0 RT RV RF
  cases h1 : fieldOk fk fo (kinCount gs : Nat) with
  | false =>
    have HZ : Hid (R = false) := by show _ = _; rw [HF.out, h1]; rfl
    clear h1
    go_wp2_with fail
    go_ret
    exact ⟨ret_bool HZ.out.symm, B1.out⟩
  | true =>
    have H1 := hide h1
    have t0 := T1.out.cell (o := 0) rfl
    have t1 := T1.out.cell (o := 1) rfl
    have v0 := V1.out.cell (o := 0) rfl
    have v1 := V1.out.cell (o := 1) rfl
    clear h1
    go_wp2_with fail
    refine (valOk_any ra _ ta rc cc tc lo' hi' gs xs k n w1 (by omega) hm (HX.out.keep (B1.out.mono hh')) (Nat.le_trans hh' B1.out.size)).mono ?_
    rintro e w2 ⟨rfl, hb2⟩
    have B2 := hide (B1.out.trans (hb2.mono B1.out.size))
    have T2 := hide (T1.out.below hb2 T1.out.lt)
    have V2 := hide (V1.out.below hb2 V1.out.lt)
    have F2 := hide (F1.out.below hb2 F1.out.lt)
    clear hb2 B1 T1 V1 F1 t0 t1 v0 v1
    cases h2 : valOkF gs xs k n with
    | false =>
      have HZ : Hid (R = false) := by show _ = _; rw [HF.out, H1.out, h2]; rfl
      clear h2
      go_wp2_with fail
      go_ret
      exact ⟨ret_bool HZ.out.symm, B2.out⟩
    | true =>
      have H2 := hide h2
      have HS : Hid (R = (if fk = 1 ∨ k = 1 then (fk == 1) && (k == 1) else if k = 2 then fk == 2 else under gs (ofV xs k n) fo)) := by show _ = _; rw [HF.out, H1.out, h2]; rfl
      clear h2 HF
      have f0 := F2.out.cell (o := 0) rfl
      have f1 := F2.out.cell (o := 1) rfl
      have v0 := V2.out.cell (o := 0) rfl
      have v1 := V2.out.cell (o := 1) rfl
      have t0 := T2.out.cell (o := 0) rfl
      have t1 := T2.out.cell (o := 1) rfl
      by_cases e1 : fk = 1
      · subst e1
        have HZ : Hid (R = (k == 1)) := by show _ = _; rw [HS.out]; simp
        clear HS
        go_wp2_with fail
        go_ret
        exact ⟨ret_bool HZ.out.symm, B2.out⟩
      have n1 : (fk == 1) = false := beq_eq_false_iff_ne.2 e1
      by_cases e2 : k = 1
      · subst e2
        have HZ : Hid (R = false) := by show _ = _; rw [HS.out]; simp [e1]
        clear HS
        go_wp2_with fail
        go_ret
        exact ⟨ret_bool HZ.out.symm, B2.out⟩
      have n2 : (k == 1) = false := beq_eq_false_iff_ne.2 e2
      by_cases e3 : k = 2
      · subst e3
        have HZ : Hid (R = (fk == 2)) := by show _ = _; rw [HS.out]; simp [e1]
        clear HS
        go_wp2_with fail
        go_ret
        exact ⟨ret_bool HZ.out.symm, B2.out⟩
      have n3 : (k == 2) = false := beq_eq_false_iff_ne.2 e3
      have r1 := fieldOk_range (by omega) H1.out e1
      have r2 := ofV_range e2 e3 H2.out
      have HU : Hid (R = under gs (ofV xs k n) fo) := by show _ = _; rw [HS.out, if_neg (by omega), if_neg e3]
      clear HS
      have f2 := F2.out.cell (o := 2) rfl
      have HO := hide (fun w1 (hb : Below w.heap.size w w1) => valOf_any ta tc lo' hi' xs k n w1 hm (HX.out.keep (hb.mono hh')) (Nat.le_trans hh' hb.size) r2.1)
      have HN := hide (fun w1 (hb : Below w.heap.size w w1) => under_any ra rc cb co cc lo hi gs (ofV xs k n) fo w1 HP.out (HT.out.keep (hb.mono hh)) (Nat.le_trans hh hb.size) r2.2.1 r2.2.2 r1.1 (by omega))
      generalize under gs (ofV xs k n) fo = U at HU HN
      generalize ofV xs k n = q at HO HN r2
      go_wp2_with fail
      go_region_held3 (fun w' => (w'.cell? ⟨w.heap.size, 0, none⟩ = some (.slice ra (kinCount gs) rc) ∧ w'.cell? ⟨w.heap.size, 1, none⟩ = some (.slice (some ⟨cb, co, none⟩) (kinCount gs) cc)) ∧ (w'.cell? ⟨w.heap.size + 1, 0, none⟩ = some (.int .i64 k) ∧ w'.cell? ⟨w.heap.size + 1, 1, none⟩ = some (.int .i64 n)) ∧ (w'.cell? ⟨w.heap.size + 1 + 1, 0, none⟩ = some (.int .i64 fk) ∧ w'.cell? ⟨w.heap.size + 1 + 1, 1, none⟩ = some (.int .i64 fo) ∧ w'.cell? ⟨w.heap.size + 1 + 1, 2, none⟩ = some (.bool fm)))
        (go_keep)
        ((first
          | (go_at_call 33; refine (HO.out _ B2.out.drew).mono ?_; rintro e w3 ⟨rfl, hb3⟩; have B3 := hide (B2.out.drew.trans (hb3.mono B2.out.size)); have T3 : Hid (Rec w3 w.heap.size 62 [.slice ra (kinCount gs) rc, .slice (some ⟨cb, co, none⟩) (kinCount gs) cc]) := Rec.below (w := w2.drew) T2.out hb3 T2.out.lt; have V3 : Hid (Rec w3 (w.heap.size + 1) 35 [.int .i64 k, .int .i64 n]) := Rec.below (w := w2.drew) V2.out hb3 V2.out.lt; have F3 : Hid (Rec w3 (w.heap.size + 1 + 1) 37 [.int .i64 fk, .int .i64 fo, .bool fm]) := Rec.below (w := w2.drew) F2.out hb3 F2.out.lt; clear hb3; have t0 := T3.out.cell (o := 0) rfl; have t1 := T3.out.cell (o := 1) rfl; have v0 := V3.out.cell (o := 0) rfl; have v1 := V3.out.cell (o := 1) rfl; have f0 := F3.out.cell (o := 0) rfl; have f1 := F3.out.cell (o := 1) rfl; have f2 := F3.out.cell (o := 2) rfl)
          | (go_at_call 50; refine (HN.out _ B3.out).mono ?_; rintro e w4 ⟨rfl, hb4⟩; have B3 := hide (B3.out.trans (hb4.mono B3.out.size)); have T3 := hide (T3.out.below hb4 T3.out.lt); have V3 := hide (V3.out.below hb4 V3.out.lt); have F3 := hide (F3.out.below hb4 F3.out.lt); clear hb4; have t0 := T3.out.cell (o := 0) rfl; have t1 := T3.out.cell (o := 1) rfl; have v0 := V3.out.cell (o := 0) rfl; have v1 := V3.out.cell (o := 1) rfl; have f0 := F3.out.cell (o := 0) rfl; have f1 := F3.out.cell (o := 1) rfl; have f2 := F3.out.cell (o := 2) rfl)))
      go_wp2_with fail
      go_ret
      exact ⟨ret_bool HU.out.symm, B3.out⟩
end Go.Proofs.YtlmciclkfmeepaaDoor
