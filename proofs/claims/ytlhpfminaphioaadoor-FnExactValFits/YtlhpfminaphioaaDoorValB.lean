/- valIs, valFits of the program's table, and ValFits of the program. -/
import Derived.Test.YtlhpfminaphioaaDoorValA
namespace Go.Proofs.YtlhpfminaphioaaDoor
open Go.ChangeShapes Go.WideShapes Go.ChangeAt Go.RowKit
set_option linter.unusedVariables false

/-- What a chip or a right thing is of is a type that there is, or -2. -/
theorem ofV_range {gs : List (List Ty)} {xs : List GThing} {k n : Int} (h1 : k ≠ 1) (h2 : k ≠ 2) (h : valOkF gs xs k n = true) : (k = 3 ∨ (0 ≤ n ∧ n < (xs.length : Int))) ∧ -2 ≤ ofV xs k n ∧ ofV xs k n < (kinCount gs : Int) := by
  unfold valOkF at h
  simp only [Bool.and_eq_true] at h
  obtain ⟨a, b⟩ := h
  rcases valForm_kinds a with rfl | rfl | rfl | rfl
  · exact absurd rfl h1
  · exact absurd rfl h2
  · refine ⟨.inl rfl, ?_⟩
    simp [ofV]
    omega
  · have c := valForm_thing a
    refine ⟨.inr c, ?_⟩
    simp [isTypeF] at b
    simp [ofV]
    omega

set_option maxHeartbeats 1600000 in
theorem valIs_any {md : Bool} (ra : Option Addr) (rc cb co cc lo hi : Nat) (ta : Option Addr) (tc lo' hi' : Nat) (gs : List (List Ty)) (xs : List GThing) (k n o : Int) (w : World) (hP : Parts gs) (hT : TabIn w lo hi ra cb co gs) (hh : hi ≤ w.heap.size) (hm : xs.length ≤ 1048576) (hx : ThingsM md w lo' hi' ta xs) (hh' : hi' ≤ w.heap.size)
    (hk : k ≠ 2) (hn : k = 3 ∨ (0 ≤ n ∧ n < (xs.length : Int))) (a0 : -2 ≤ ofV xs k n) (a1 : ofV xs k n < (kinCount gs : Int)) (b0 : -2 ≤ o) (b1 : o < (kinCount gs : Int)) :
    Calls Tryd.prog 49 #[.agg #[.slice ra (kinCount gs) rc, .slice (some ⟨cb, co, none⟩) (kinCount gs) cc], .slice ta xs.length tc, .agg #[.int .i64 k, .int .i64 n], .int .i64 o] w fun e w' => e = .returned (.bool (under gs (ofV xs k n) o)) ∧ Below w.heap.size w w' := by
  have bb := two_below w (.cells #[.slice ra (kinCount gs) rc, .slice (some ⟨cb, co, none⟩) (kinCount gs) cc] 62) (.cells #[.int .i64 k, .int .i64 n] 35)
  have rt : Rec ((w.alloc (.cells #[.slice ra (kinCount gs) rc, .slice (some ⟨cb, co, none⟩) (kinCount gs) cc] 62)).alloc (.cells #[.int .i64 k, .int .i64 n] 35)) w.heap.size 62 [.slice ra (kinCount gs) rc, .slice (some ⟨cb, co, none⟩) (kinCount gs) cc] := (Rec.new _ _ _).alloc _
  have rv : Rec ((w.alloc (.cells #[.slice ra (kinCount gs) rc, .slice (some ⟨cb, co, none⟩) (kinCount gs) cc] 62)).alloc (.cells #[.int .i64 k, .int .i64 n] 35)) (w.heap.size + 1) 35 [.int .i64 k, .int .i64 n] := Rec.new' _ _ _ _ (by simp)
  have HO := hide (fun w1 (hb : Below w.heap.size w w1) => valOf_any ta tc lo' hi' xs k n w1 hm (hx.keep (hb.mono hh')) (Nat.le_trans hh' hb.size) hn)
  have HU := hide (fun w1 (hb : Below w.heap.size w w1) => under_any ra rc cb co cc lo hi gs (ofV xs k n) o w1 hP (hT.keep (hb.mono hh)) (Nat.le_trans hh hb.size) a0 a1 b0 b1)
  generalize under gs (ofV xs k n) o = R at *
  generalize ofV xs k n = q at *
  have n2 : (k != 2) = true := by simpa using hk
  generalize hW : (w.alloc (.cells #[.slice ra (kinCount gs) rc, .slice (some ⟨cb, co, none⟩) (kinCount gs) cc] 62)).alloc (.cells #[.int .i64 k, .int .i64 n] 35) = W at bb rt rv
  have BB := hide bb
  have RT := hide rt
  have RV := hide rv
  have t0 := rt.cell (o := 0) rfl
  have t1 := rt.cell (o := 1) rfl
  have v0 := rv.cell (o := 0) rfl
  have v1 := rv.cell (o := 1) rfl
  have HW := hide hW
  clear bb rt rv hT hx hP hn hW hk
  go_enter Tryd.func49, Tryd.ntmps49
  go_wp2_with fail
  rw [HW.out]
  go_region_held3 (fun w' => (w'.cell? ⟨w.heap.size, 0, none⟩ = some (.slice ra (kinCount gs) rc) ∧ w'.cell? ⟨w.heap.size, 1, none⟩ = some (.slice (some ⟨cb, co, none⟩) (kinCount gs) cc)) ∧ (w'.cell? ⟨w.heap.size + 1, 0, none⟩ = some (.int .i64 k) ∧ w'.cell? ⟨w.heap.size + 1, 1, none⟩ = some (.int .i64 n)))
    (go_keep)
    ((first
      | (go_at_call 66; refine (HO.out _ BB.out.drew).mono ?_; rintro e w1 ⟨rfl, hb1⟩; have B1 := hide (BB.out.drew.trans (hb1.mono BB.out.size)); have T1 : Hid (Rec w1 w.heap.size 62 [.slice ra (kinCount gs) rc, .slice (some ⟨cb, co, none⟩) (kinCount gs) cc]) := Rec.below (w := W.drew) RT.out hb1 RT.out.lt; have V1 : Hid (Rec w1 (w.heap.size + 1) 35 [.int .i64 k, .int .i64 n]) := Rec.below (w := W.drew) RV.out hb1 RV.out.lt; clear hb1; have t0 := T1.out.cell (o := 0) rfl; have t1 := T1.out.cell (o := 1) rfl; have v0 := V1.out.cell (o := 0) rfl; have v1 := V1.out.cell (o := 1) rfl)
      | (go_at_call 65; refine (HU.out _ B1.out).mono ?_; rintro e w2 ⟨rfl, hb2⟩; have B1 := hide (B1.out.trans (hb2.mono B1.out.size)); have T1 := hide (T1.out.below hb2 T1.out.lt); have V1 := hide (V1.out.below hb2 V1.out.lt); clear hb2; have t0 := T1.out.cell (o := 0) rfl; have t1 := T1.out.cell (o := 1) rfl; have v0 := V1.out.cell (o := 0) rfl; have v1 := V1.out.cell (o := 1) rfl)))
  go_wp2_with fail
  go_ret
  exact ⟨rfl, B1.out⟩

set_option maxHeartbeats 1600000 in
theorem tabValFits_any {md : Bool} (ra : Option Addr) (rc cb co cc lo hi : Nat) (ta : Option Addr) (tc lo' hi' : Nat) (gs : List (List Ty)) (xs : List GThing) (k n fk fo : Int) (fm : Bool) (w : World) (hP : Parts gs) (hT : TabIn w lo hi ra cb co gs) (hh : hi ≤ w.heap.size) (hm : xs.length ≤ 1048576) (hx : ThingsM md w lo' hi' ta xs) (hh' : hi' ≤ w.heap.size) :
    Calls Tryd.prog 26 #[.agg #[.slice ra (kinCount gs) rc, .slice (some ⟨cb, co, none⟩) (kinCount gs) cc], .slice ta xs.length tc, .agg #[.int .i64 k, .int .i64 n], .agg #[.int .i64 fk, .int .i64 fo, .bool fm]] w fun e w' => e = .returned (.bool (fitsV gs xs k n ⟨fk, fo, fm⟩)) ∧ Below w.heap.size w w' := by
  have m8 := hP.2.1
  have HF : Hid (fitsV gs xs k n ⟨fk, fo, fm⟩ = (fieldOk fk fo (kinCount gs : Nat) && (valOkF gs xs k n && (if fk = 1 ∨ k = 1 then (fk == 1) && (k == 1) else if k = 2 then fk == 2 else under gs (ofV xs k n) fo)))) := rfl
  generalize fitsV gs xs k n ⟨fk, fo, fm⟩ = R at *
  have b0 := three_new w (.cells #[.slice ra (kinCount gs) rc, .slice (some ⟨cb, co, none⟩) (kinCount gs) cc] 62) (.cells #[.int .i64 k, .int .i64 n] 35) (.cells #[.int .i64 fk, .int .i64 fo, .bool fm] 37)
  have rt : Rec (((w.alloc (.cells #[.slice ra (kinCount gs) rc, .slice (some ⟨cb, co, none⟩) (kinCount gs) cc] 62)).alloc (.cells #[.int .i64 k, .int .i64 n] 35)).alloc (.cells #[.int .i64 fk, .int .i64 fo, .bool fm] 37)) w.heap.size 62 [.slice ra (kinCount gs) rc, .slice (some ⟨cb, co, none⟩) (kinCount gs) cc] := ((Rec.new _ _ _).alloc _).alloc _
  have rv : Rec (((w.alloc (.cells #[.slice ra (kinCount gs) rc, .slice (some ⟨cb, co, none⟩) (kinCount gs) cc] 62)).alloc (.cells #[.int .i64 k, .int .i64 n] 35)).alloc (.cells #[.int .i64 fk, .int .i64 fo, .bool fm] 37)) (w.heap.size + 1) 35 [.int .i64 k, .int .i64 n] := (Rec.new' _ _ _ _ (by simp)).alloc _
  have rf : Rec (((w.alloc (.cells #[.slice ra (kinCount gs) rc, .slice (some ⟨cb, co, none⟩) (kinCount gs) cc] 62)).alloc (.cells #[.int .i64 k, .int .i64 n] 35)).alloc (.cells #[.int .i64 fk, .int .i64 fo, .bool fm] 37)) (w.heap.size + 1 + 1) 37 [.int .i64 fk, .int .i64 fo, .bool fm] := Rec.new' _ _ _ _ (by simp)
  have B0 := hide b0
  have RT := hide rt
  have RV := hide rv
  have RF := hide rf
  have HT := hide hT
  have HP := hide hP
  have HX := hide hx
  clear b0 rt rv rf hT hP hx
  go_enter Tryd.func26, Tryd.ntmps26
  go_wp2_with fail
  refine (implFieldOk_any fk fo _ fm _).mono ?_
  rintro e w1 ⟨rfl, hb1⟩
  have B1 := hide (B0.out.trans (hb1.mono B0.out.size))
  have T1 := hide (RT.out.below hb1 RT.out.lt)
  have V1 := hide (RV.out.below hb1 RV.out.lt)
  have F1 := hide (RF.out.below hb1 RF.out.lt)
  clear hb1 B0 RT RV RF
  cases h1 : fieldOk fk fo (kinCount gs : Nat) with
  | false =>
    have HZ : Hid (R = false) := by show _ = _; rw [HF.out, h1]; rfl
    clear h1
    go_wp2_with fail
    go_ret
    exact ⟨ret_bool HZ.out.symm, B1.out⟩
  | true =>
    have H1 := hide h1
    have t0 := T1.out.cell (o := 0) rfl
    have t1 := T1.out.cell (o := 1) rfl
    have v0 := V1.out.cell (o := 0) rfl
    have v1 := V1.out.cell (o := 1) rfl
    clear h1
    go_wp2_with fail
    refine (valOk_any ra _ ta rc cc tc lo' hi' gs xs k n w1 (by omega) hm (HX.out.keep (B1.out.mono hh')) (Nat.le_trans hh' B1.out.size)).mono ?_
    rintro e w2 ⟨rfl, hb2⟩
    have B2 := hide (B1.out.trans (hb2.mono B1.out.size))
    have T2 := hide (T1.out.below hb2 T1.out.lt)
    have V2 := hide (V1.out.below hb2 V1.out.lt)
    have F2 := hide (F1.out.below hb2 F1.out.lt)
    clear hb2 B1 T1 V1 F1 t0 t1 v0 v1
    cases h2 : valOkF gs xs k n with
    | false =>
      have HZ : Hid (R = false) := by show _ = _; rw [HF.out, H1.out, h2]; rfl
      clear h2
      go_wp2_with fail
      go_ret
      exact ⟨ret_bool HZ.out.symm, B2.out⟩
    | true =>
      have H2 := hide h2
      have HS : Hid (R = (if fk = 1 ∨ k = 1 then (fk == 1) && (k == 1) else if k = 2 then fk == 2 else under gs (ofV xs k n) fo)) := by show _ = _; rw [HF.out, H1.out, h2]; rfl
      clear h2 HF
      have f0 := F2.out.cell (o := 0) rfl
      have f1 := F2.out.cell (o := 1) rfl
      have v0 := V2.out.cell (o := 0) rfl
      have v1 := V2.out.cell (o := 1) rfl
      have t0 := T2.out.cell (o := 0) rfl
      have t1 := T2.out.cell (o := 1) rfl
      by_cases e1 : fk = 1
      · subst e1
        have HZ : Hid (R = (k == 1)) := by show _ = _; rw [HS.out]; simp
        clear HS
        go_wp2_with fail
        go_ret
        exact ⟨ret_bool HZ.out.symm, B2.out⟩
      have n1 : (fk == 1) = false := beq_eq_false_iff_ne.2 e1
      by_cases e2 : k = 1
      · subst e2
        have HZ : Hid (R = false) := by show _ = _; rw [HS.out]; simp [e1]
        clear HS
        go_wp2_with fail
        go_ret
        exact ⟨ret_bool HZ.out.symm, B2.out⟩
      have n2 : (k == 1) = false := beq_eq_false_iff_ne.2 e2
      by_cases e3 : k = 2
      · subst e3
        have HZ : Hid (R = (fk == 2)) := by show _ = _; rw [HS.out]; simp [e1]
        clear HS
        go_wp2_with fail
        go_ret
        exact ⟨ret_bool HZ.out.symm, B2.out⟩
      have n3 : (k == 2) = false := beq_eq_false_iff_ne.2 e3
      have r1 := fieldOk_range (by omega) H1.out e1
      have r2 := ofV_range e2 e3 H2.out
      have HU : Hid (R = under gs (ofV xs k n) fo) := by show _ = _; rw [HS.out, if_neg (by omega), if_neg e3]
      clear HS
      go_wp2_with fail
      refine (valIs_any ra rc cb co cc lo hi ta tc lo' hi' gs xs k n fo w2 HP.out (HT.out.keep (B2.out.mono hh)) (Nat.le_trans hh B2.out.size) hm (HX.out.keep (B2.out.mono hh')) (Nat.le_trans hh' B2.out.size) e3 r2.1 r2.2.1 r2.2.2 r1.1 (by omega)).mono ?_
      rintro e w3 ⟨rfl, hb3⟩
      have B3 := hide (B2.out.trans (hb3.mono B2.out.size))
      clear hb3
      go_wp2_with fail
      go_ret
      exact ⟨ret_bool HU.out.symm, B3.out⟩
end Go.Proofs.YtlhpfminaphioaaDoor
