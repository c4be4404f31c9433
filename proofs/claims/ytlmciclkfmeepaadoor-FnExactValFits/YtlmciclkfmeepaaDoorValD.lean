/- ValFits of the model. -/
import Derived.Test.YtlmciclkfmeepaaDoorValB
namespace Go.Proofs.YtlmciclkfmeepaaDoor
open Go.ChangeShapes Go.WideShapes Go.ChangeAt Go.RowKit
set_option linter.unusedVariables false

set_option maxHeartbeats 800000 in
theorem l5Of_any {md : Bool} (ta : Option Addr) (tc lo hi : Nat) (xs : List GThing) (k n : Int) (w : World) (hm : xs.length ≤ 1048576) (hx : ThingsM md w lo hi ta xs) (hh : hi ≤ w.heap.size) (hn : k = 3 ∨ (0 ≤ n ∧ n < (xs.length : Int))) :
    Calls Tryd.prog 39 #[.slice ta xs.length tc, .agg #[.int .i64 k, .int .i64 n]] w fun e w' => e = .returned (.int .i64 (ofV xs k n)) ∧ Below w.heap.size w w' := by
  by_cases h3 : k = 3
  · subst h3
    have HZ : Hid (ofV xs 3 n = -2) := by show _ = _; simp [ofV]
    clear hx hn
    go_enter Tryd.func39, Tryd.ntmps39
    go_wp2_with fail
    go_ret
    exact ⟨ret_int HZ.out.symm, (Below.refl _ _).alloc (Nat.le_refl _) _⟩
  · obtain ⟨p0, p1⟩ := hn.resolve_left h3
    obtain ⟨m, rfl⟩ := Int.eq_ofNat_of_zero_le p0
    have HZ : Hid (ofV xs k m = (thingAt' xs m).typ) := by show _ = _; simp [ofV, h3]
    obtain ⟨b, off, rfl, hb, hc⟩ := thing_typ hx (show m < xs.length by omega)
    have n3 : (k == 3) = false := beq_eq_false_iff_ne.2 h3
    have m1 : (0 : Int) ≤ (m : Int) := by omega
    have m2 : (m : Int) < (xs.length : Int) := by omega
    have b5 : b < w.heap.size := by omega
    clear hx hn
    generalize (thingAt' xs m).typ = ty at hc HZ
    go_enter Tryd.func39, Tryd.ntmps39
    go_wp2_with fail
    go_ret
    exact ⟨ret_int HZ.out.symm, (Below.refl _ _).alloc (Nat.le_refl _) _⟩

/-- What the model asks of a value, the field being right. -/
def fitsM (gs : List (List Ty)) (xs : List GThing) (k n : Int) (f : Fd) : Bool :=
  valOkF gs xs k n && (if f.kind = 1 ∨ k = 1 then (f.kind == 1) && (k == 1) else if k = 2 then f.kind == 2 else under gs (ofV xs k n) f.of)
/-- The same, as the model has it: the thing's type last. -/
def fitsL (gs : List (List Ty)) (xs : List GThing) (k n fk fo : Int) : Bool :=
  valForm k n (xs.length : Nat) && (if fk = 1 ∨ k = 1 then (fk == 1) && (k == 1) else if k = 2 then fk == 2 else isRefF gs (ofV xs k n) && (((k == 3) || decide (0 ≤ ofV xs k n)) && under gs (ofV xs k n) fo))
theorem fitsM_eq (gs : List (List Ty)) (xs : List GThing) (k n fk fo : Int) (fm : Bool) : fitsM gs xs k n ⟨fk, fo, fm⟩ = fitsL gs xs k n fk fo := by
  unfold fitsM fitsL valOkF
  cases h : valForm k n (xs.length : Nat) with
  | false => rfl
  | true =>
    rcases valForm_kinds h with rfl | rfl | rfl | rfl
    · simp
    · simp
    · have d : decide ((-2 : Int) < (kinCount gs : Int)) = true := by simp; omega
      simp [ofV, isRefF, d]
    · simp only [ofV, isRefF, isTypeF, Bool.true_and]
      by_cases h1 : fk = 1
      · simp [h1]
      · simp [h1]
        rw [Bool.eq_iff_iff]
        simp
        constructor
        · rintro ⟨⟨a, b⟩, c⟩; exact ⟨⟨by omega, b⟩, a, c⟩
        · rintro ⟨⟨a, b⟩, c, d⟩; exact ⟨⟨c, b⟩, d⟩

set_option maxHeartbeats 1600000 in
theorem l5Fits_any {md : Bool} (ga : Option Addr) (gc lo hi : Nat) (ta : Option Addr) (tc lo' hi' : Nat) (gs : List (List Ty)) (xs : List GThing) (k n fk fo : Int) (fm : Bool) (w : World) (hP : Parts gs) (hN : Few gs) (hc : gs.length ≤ gc) (hl : lo ≤ hi) (hh : hi ≤ w.heap.size) (hx : GroupsIn w lo hi ga gs) (hm : xs.length ≤ 1048576) (hy : ThingsM md w lo' hi' ta xs) (hh' : hi' ≤ w.heap.size) (hf : fieldOk fk fo (kinCount gs : Nat) = true) :
    Calls Tryd.prog 22 #[.slice ga gs.length gc, .slice ta xs.length tc, .agg #[.int .i64 k, .int .i64 n], .agg #[.int .i64 fk, .int .i64 fo, .bool fm]] w fun e w' => e = .returned (.bool (fitsM gs xs k n ⟨fk, fo, fm⟩)) ∧ Below w.heap.size w w' := by
  have m8 := kinCount_le hN
  have HF : Hid (fitsM gs xs k n ⟨fk, fo, fm⟩ = fitsL gs xs k n fk fo) := fitsM_eq gs xs k n fk fo fm
  generalize fitsM gs xs k n ⟨fk, fo, fm⟩ = R at *
  have b0 := two_below w (.cells #[.int .i64 k, .int .i64 n] 35) (.cells #[.int .i64 fk, .int .i64 fo, .bool fm] 37)
  have rv : Rec ((w.alloc (.cells #[.int .i64 k, .int .i64 n] 35)).alloc (.cells #[.int .i64 fk, .int .i64 fo, .bool fm] 37)) w.heap.size 35 [.int .i64 k, .int .i64 n] := (Rec.new _ _ _).alloc _
  have rf : Rec ((w.alloc (.cells #[.int .i64 k, .int .i64 n] 35)).alloc (.cells #[.int .i64 fk, .int .i64 fo, .bool fm] 37)) (w.heap.size + 1) 37 [.int .i64 fk, .int .i64 fo, .bool fm] := Rec.new' _ _ _ _ (by simp)
  have HCnt := hide (fun w1 (hb : Below w.heap.size w w1) => specKinCount_any ga gc lo hi gs w1 hN (hx.keep (hb.mono hh)))
  have HU := hide (fun (q : Int) (a0 : -2 ≤ q) (a1 : q < (kinCount gs : Int)) (b0 : -2 ≤ fo) (b1 : fo < (kinCount gs : Int)) w1 (hb : Below w.heap.size w w1) => l1Under_any ga gc lo hi gs q fo w1 hP hN hc hl (Nat.le_trans hh hb.size) (hx.keep (hb.mono hh)) a0 a1 b0 b1)
  have HO := hide (fun (hn : k = 3 ∨ (0 ≤ n ∧ n < (xs.length : Int))) w1 (hb : Below w.heap.size w w1) => l5Of_any ta tc lo' hi' xs k n w1 hm (hy.keep (hb.mono hh')) (Nat.le_trans hh' hb.size) hn)
  have B0 := hide b0
  have RV := hide rv
  have RF := hide rf
  have H1 := hide hf
  clear b0 rv rf hP hN hx hy hf
  go_enter Tryd.func22, Tryd.ntmps22
  go_wp2_with fail
  refine (l5Form_any k n _ _).mono ?_
  rintro e w1 ⟨rfl, hb1⟩
  have B1 := hide (B0.out.trans (hb1.mono B0.out.size))
  have V1 := hide (RV.out.below hb1 RV.out.lt)
  have F1 := hide (RF.out.below hb1 RF.out.lt)
  clear hb1 B0 RV RF
  cases h1 : valForm k n (xs.length : Nat) with
  | false =>
    have HZ : Hid (R = false) := by show _ = _; rw [HF.out]; unfold fitsL; rw [h1]; rfl
    clear h1
    go_wp2_with fail
    go_ret
    exact ⟨ret_bool HZ.out.symm, B1.out⟩
  | true =>
    have HS : Hid (R = (if fk = 1 ∨ k = 1 then (fk == 1) && (k == 1) else if k = 2 then fk == 2 else isRefF gs (ofV xs k n) && (((k == 3) || decide (0 ≤ ofV xs k n)) && under gs (ofV xs k n) fo))) := by show _ = _; rw [HF.out]; unfold fitsL; rw [h1]; rfl
    have HV := hide h1
    clear h1 HF
    have f0 := F1.out.cell (o := 0) rfl
    have f1 := F1.out.cell (o := 1) rfl
    have v0 := V1.out.cell (o := 0) rfl
    have v1 := V1.out.cell (o := 1) rfl
    by_cases e1 : fk = 1
    · subst e1
      have HZ : Hid (R = (k == 1)) := by show _ = _; rw [HS.out]; simp
      clear HS
      go_wp2_with fail
      go_ret
      exact ⟨ret_bool HZ.out.symm, B1.out⟩
    have n1 : (fk == 1) = false := beq_eq_false_iff_ne.2 e1
    by_cases e2 : k = 1
    · subst e2
      have HZ : Hid (R = false) := by show _ = _; rw [HS.out]; simp [e1]
      clear HS
      go_wp2_with fail
      go_ret
      exact ⟨ret_bool HZ.out.symm, B1.out⟩
    have n2 : (k == 1) = false := beq_eq_false_iff_ne.2 e2
    by_cases e3 : k = 2
    · subst e3
      have HZ : Hid (R = (fk == 2)) := by show _ = _; rw [HS.out]; simp [e1]
      clear HS
      go_wp2_with fail
      go_ret
      exact ⟨ret_bool HZ.out.symm, B1.out⟩
    have n3 : (k == 2) = false := beq_eq_false_iff_ne.2 e3
    have r1 := fieldOk_range (by omega) H1.out e1
    have r2 : Hid (k = 3 ∨ (0 ≤ n ∧ n < (xs.length : Int))) := by
      rcases valForm_kinds HV.out with h | h | h | h
      · exact absurd h e2
      · exact absurd h e3
      · exact .inl h
      · refine .inr (valForm_thing ?_); rw [← h]; exact HV.out
    have HK : Hid (k = 3 → ofV xs k n = -2) := fun h => by simp [ofV, h]
    have HS' : Hid (R = (isRefF gs (ofV xs k n) && (((k == 3) || decide (0 ≤ ofV xs k n)) && under gs (ofV xs k n) fo))) := by show _ = _; rw [HS.out, if_neg (by omega), if_neg e3]
    clear HS HV
    go_wp2_with fail
    refine (HCnt.out _ B1.out).mono ?_
    rintro e w2 ⟨rfl, rfl⟩
    go_wp2_with fail
    refine (HO.out r2.out _ B1.out).mono ?_
    rintro e w3 ⟨rfl, hb3⟩
    have B3 := hide (B1.out.trans (hb3.mono B1.out.size))
    have V3 := hide (V1.out.below hb3 V1.out.lt)
    have F3 := hide (F1.out.below hb3 F1.out.lt)
    clear hb3 B1 V1 F1 f0 f1 v0 v1 HO r2
    generalize ofV xs k n = q at *
    have f0 := F3.out.cell (o := 0) rfl
    have f1 := F3.out.cell (o := 1) rfl
    have v0 := V3.out.cell (o := 0) rfl
    have v1 := V3.out.cell (o := 1) rfl
    go_wp2_with fail
    refine (l1Of_any gs q _ m8).mono ?_
    rintro e w4 ⟨rfl, rfl⟩
    cases h5 : isRefF gs q with
    | false =>
      have HZ : Hid (R = false) := by show _ = _; rw [HS'.out, h5]; rfl
      clear h5
      go_wp2_with fail
      go_ret
      exact ⟨ret_bool HZ.out.symm, B3.out⟩
    | true =>
      have r5 : -2 ≤ q ∧ q < (kinCount gs : Int) := by simpa [isRefF] using h5
      have HS2 : Hid (R = (((k == 3) || decide (0 ≤ q)) && under gs q fo)) := by show _ = _; rw [HS'.out, h5]; rfl
      clear h5 HS'
      by_cases e5 : k = 3
      · subst e5
        have HZ : Hid (R = under gs q fo) := by show _ = _; rw [HS2.out]; simp
        clear HS2
        go_wp2_with fail
        refine (HU.out q r5.1 r5.2 r1.1 (by omega) _ B3.out).mono ?_
        rintro e w5 ⟨rfl, hb5⟩
        have B5 := hide (B3.out.trans (hb5.mono B3.out.size))
        clear hb5
        go_wp2_with fail
        go_ret
        exact ⟨ret_bool HZ.out.symm, B5.out⟩
      have n5 : (k == 3) = false := beq_eq_false_iff_ne.2 e5
      by_cases e6 : 0 ≤ q
      · have d6 : decide (0 ≤ q) = true := by simpa using e6
        have HZ : Hid (R = under gs q fo) := by show _ = _; rw [HS2.out, d6]; simp
        clear HS2
        go_wp2_with fail
        refine (HU.out q r5.1 r5.2 r1.1 (by omega) _ B3.out).mono ?_
        rintro e w5 ⟨rfl, hb5⟩
        have B5 := hide (B3.out.trans (hb5.mono B3.out.size))
        clear hb5
        go_wp2_with fail
        go_ret
        exact ⟨ret_bool HZ.out.symm, B5.out⟩
      · have d6 : decide (0 ≤ q) = false := by simpa using e6
        have HZ : Hid (R = false) := by show _ = _; rw [HS2.out, n5, d6]; rfl
        clear HS2
        go_wp2_with fail
        go_ret
        exact ⟨ret_bool HZ.out.symm, B3.out⟩
end Go.Proofs.YtlmciclkfmeepaaDoor
