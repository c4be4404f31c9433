/- Whether a function is written right: the model's l3Fun and the program's progFunOk. -/
import Derived.Test.YtjfmiconmbpllaaDoorProgOkA
namespace Go.Proofs.YtjfmiconmbpllaaDoor
open Go.ChangeShapes Go.WideShapes Go.ChangeAt Go.RowKit
set_option linter.unusedVariables false

def lensF (t o b : Nat) : Bool := (decide (t ≤ 3) && decide (o ≤ 3)) && (decide (0 < b) && decide (b ≤ 30))
theorem funOkF_eq (n : Int) (f : GFun) : funOkF n f = (lensF f.takes.length f.own.length f.body.length && ((sortsTo f.takes n f.takes.length && (sortsTo f.own n f.own.length && firstTo f.own f.own.length)) && (sOk n f.gives && bodyTo f.body f.body.length))) := rfl

set_option maxHeartbeats 1600000 in
set_option maxRecDepth 100000 in
theorem l3Fun_any {md : Bool} (a0 a4 a5 : Option Addr) (c0 c4 c5 lo hi : Nat) (f : GFun) (n : Int) (w : World) (hB : FunB 1048576 f) (h0 : FieldsM md w lo hi a0 f.takes) (h4 : FieldsM md w lo hi a4 f.own) (h5 : InssM md w lo hi a5 f.body) (hh : hi ≤ w.heap.size) :
    Calls Tryd.prog 15 #[.agg #[.slice a0 f.takes.length c0, .int .i64 f.gives.kind, .int .i64 f.gives.of, .bool f.gives.mt, .slice a4 f.own.length c4, .slice a5 f.body.length c5], .int .i64 n] w fun e w' => e = .returned (.bool (funOkF n f)) ∧ Below w.heap.size w w' := by
  have HF := hide (funOkF_eq n f)
  have l1 := l3To_eq f.takes n false f.takes.length
  have l2 := l3To_eq f.own n true f.own.length
  simp only [Bool.not_false, Bool.true_or, Bool.and_true, Bool.not_true, Bool.false_or] at l1 l2
  have L1 := hide l1
  have L2 := hide l2
  clear l1 l2
  have HC1 := hide (fun W (hb : Below w.heap.size w W) => l3Sorts_any a0 c0 lo hi f.takes n false W hB.1 (h0.1.keep (hb.mono hh)) (Nat.le_trans hh hb.size))
  have HC2 := hide (fun W (hb : Below w.heap.size w W) => l3Sorts_any a4 c4 lo hi f.own n true W hB.2.1 (h4.1.keep (hb.mono hh)) (Nat.le_trans hh hb.size))
  have HC3 := hide (fun W => specSortOk_any f.gives.kind f.gives.of n f.gives.mt W)
  rw [L1.out] at HC1
  rw [L2.out] at HC2
  have HB := hide hB
  have H5 := hide h5
  have m1 : f.takes.length ≤ 1048576 := hB.1
  have m2 : f.own.length ≤ 1048576 := hB.2.1
  have m3 : f.body.length ≤ 1048576 := hB.2.2
  clear h0 h4 h5 hB L1 L2
  have HS : Hid (sOk n f.gives = sortOk f.gives.kind f.gives.of n f.gives.mt) := rfl
  rw [HS.out] at HF
  clear HS
  generalize funOkF n f = R at *
  generalize sortsTo f.takes n f.takes.length = t1 at *
  generalize (sortsTo f.own n f.own.length && firstTo f.own f.own.length) = t2 at *
  generalize sortOk f.gives.kind f.gives.of n f.gives.mt = t3 at *
  obtain ⟨ts, ⟨gk, go, gm⟩, os, bs⟩ := f
  simp only at HF HC1 HC2 HC3 H5 m1 m2 m3 ⊢
  have r0 : Rec (w.alloc (.cells #[.slice a0 ts.length c0, .int .i64 gk, .int .i64 go, .bool gm, .slice a4 os.length c4, .slice a5 bs.length c5] 48)) w.heap.size 48 [.slice a0 ts.length c0, .int .i64 gk, .int .i64 go, .bool gm, .slice a4 os.length c4, .slice a5 bs.length c5] := Rec.new _ _ _
  have b0 : Below w.heap.size w (w.alloc (.cells #[.slice a0 ts.length c0, .int .i64 gk, .int .i64 go, .bool gm, .slice a4 os.length c4, .slice a5 bs.length c5] 48)) := (Below.refl _ _).alloc (Nat.le_refl _) _
  have R0 := hide r0
  have B0 := hide b0
  clear r0 b0
  by_cases hlen : (ts.length ≤ 3 ∧ os.length ≤ 3) ∧ 0 < bs.length ∧ bs.length ≤ 30
  · have HF' : Hid (R = ((t1 && t2) && (t3 && bodyTo bs bs.length))) := by
      show _ = _
      have : lensF ts.length os.length bs.length = true := by unfold lensF; simp; omega
      rw [HF.out, this]; rfl
    obtain ⟨⟨k1, k2⟩, k3, k4⟩ := hlen
    have z1 : ((bs.length : Int) == 0) = false := beq_eq_false_iff_ne.2 (by omega)
    clear HF
    go_enter Tryd.func15, Tryd.ntmps15
    go_wp2_with fail
    refine (HC1.out _ B0.out).mono ?_
    rintro e w1 ⟨rfl, hb1⟩
    have B1 := hide (B0.out.trans (hb1.mono B0.out.size))
    have R1 := hide (R0.out.below hb1 R0.out.lt)
    clear hb1 HC1 R0 B0
    cases t1 with
    | false =>
      have hz : R = false := by rw [HF'.out]; rfl
      have HZ := hide hz
      clear hz HF'
      go_wp2_with fail
      go_ret
      exact ⟨ret_bool HZ.out.symm, B1.out⟩
    | true =>
    have c4' := R1.out.cell (o := 4) rfl
    go_wp2_with fail
    refine (HC2.out _ B1.out).mono ?_
    rintro e w2 ⟨rfl, hb2⟩
    have B2 := hide (B1.out.trans (hb2.mono B1.out.size))
    have R2 := hide (R1.out.below hb2 R1.out.lt)
    clear hb2 HC2 R1 B1 c4'
    cases t2 with
    | false =>
      have hz : R = false := by rw [HF'.out]; rfl
      have HZ := hide hz
      clear hz HF'
      go_wp2_with fail
      go_ret
      exact ⟨ret_bool HZ.out.symm, B2.out⟩
    | true =>
    have d1 := R2.out.cell (o := 1) rfl
    have d2 := R2.out.cell (o := 2) rfl
    have d3 := R2.out.cell (o := 3) rfl
    go_wp2_with fail
    refine (HC3.out _).mono ?_
    rintro e w3 ⟨rfl, hb3⟩
    have B3 := hide (B2.out.trans (hb3.mono B2.out.size))
    have R3 := hide (R2.out.below hb3 R2.out.lt)
    clear hb3 HC3 R2 B2 d1 d2 d3
    cases t3 with
    | false =>
      have hz : R = false := by rw [HF'.out]; rfl
      have HZ := hide hz
      clear hz HF'
      go_wp2_with fail
      go_ret
      exact ⟨ret_bool HZ.out.symm, B3.out⟩
    | true =>
    have hz : R = bodyTo bs bs.length := by rw [HF'.out]; rfl
    have HZ := hide hz
    clear hz HF'
    go_wp2_with fail
    go_loopw [5] (fun i wr => ∃ j : Nat, j ≤ bs.length ∧ i = .int .i64 j ∧ bodyTo bs j = true ∧ Below w.heap.size w wr ∧ Rec wr w.heap.size 48 [.slice a0 ts.length c0, .int .i64 gk, .int .i64 go, .bool gm, .slice a4 os.length c4, .slice a5 bs.length c5]) (fun i wr => bs.length - (intOf i).toNat)
    case atStart => exact ⟨0, Nat.zero_le _, rfl, rfl, B3.out, R3.out⟩
    case round =>
      clear B3 R3
      obtain ⟨j, hj, rfl, hA, hb, hr⟩ := hrel
      have HA := hide hA
      have HBl := hide hb
      have HR := hide hr
      have s1 := hb.size
      have e5 := hr.cell (o := 5) rfl
      clear hA hb hr
      by_cases hjn : j < bs.length
      · rcases H5.out with hnil | ⟨b, off, rfl, g1, g2, _, g3⟩
        · rw [hnil] at hjn; exact absurd hjn (Nat.not_lt_zero _)
        obtain ⟨f0, f1, f2⟩ := (g3 j hjn).same (lo' := lo) (hi' := hi) (.of_below HBl.out hh) (Nat.le_refl _) (Nat.le_refl _) g1 g2
        have HS : Hid (bodyTo bs (j + 1) = insOk (insAt' bs j).op (insAt' bs j).a (insAt' bs j).b) := by
          show (bodyTo bs j && insOk (insAt' bs j).op (insAt' bs j).a (insAt' bs j).b) = _
          rw [HA.out]; rfl
        have HN : Hid (insOk (insAt' bs j).op (insAt' bs j).a (insAt' bs j).b = false → bodyTo bs bs.length = false) := fun h => allTo_false hjn h
        have HC := hide (fun W => specInsOk_any (insAt' bs j).op (insAt' bs j).a (insAt' bs j).b W)
        have j1 : (0 : Int) ≤ (j : Int) := by omega
        have j2 : (j : Int) < (bs.length : Int) := by omega
        clear g3
        generalize insOk (insAt' bs j).op (insAt' bs j).a (insAt' bs j).b = v at HS HN HC
        generalize insAt' bs j = x at f0 f1 f2 HC
        obtain ⟨xo, xa, xb⟩ := x
        simp only at f0 f1 f2 HC
        go_wp2_with fail
        refine (HC.out _).mono ?_
        rintro e w4 ⟨rfl, hb4⟩
        have B4 := hide (HBl.out.trans (hb4.mono s1))
        have R4 := hide (HR.out.below hb4 HR.out.lt)
        clear hb4 HC
        cases v with
        | false =>
          have hz := HN.out rfl
          have HN' := hide hz
          clear hz HN HS
          go_wp2_with fail
          go_ret
          exact ⟨ret_bool (by rw [HZ.out, HN'.out]), B4.out⟩
        | true =>
          go_wp2_with fail
          exact ⟨⟨j + 1, by omega, by go_num, HS.out, B4.out, R4.out⟩, by simp [intOf]; omega⟩
      · have hje : Hid (j = bs.length) := Nat.le_antisymm hj (Nat.le_of_not_lt hjn)
        go_wp2_with fail
        go_ret
        exact ⟨ret_bool (by rw [HZ.out, ← hje.out, HA.out]), HBl.out⟩
  · have hz : R = false := by
      have : lensF ts.length os.length bs.length = false := by
        rw [Bool.eq_false_iff]; intro h; unfold lensF at h; simp at h; omega
      rw [HF.out, this]; rfl
    have HZ := hide hz
    have hc : 3 < ts.length ∨ (ts.length ≤ 3 ∧ 3 < os.length) ∨ (ts.length ≤ 3 ∧ os.length ≤ 3 ∧ ((bs.length : Int) == 0) = true) ∨ (ts.length ≤ 3 ∧ os.length ≤ 3 ∧ ((bs.length : Int) == 0) = false ∧ 30 < bs.length) := by
      by_cases e1 : 3 < ts.length
      · exact .inl e1
      by_cases e2 : 3 < os.length
      · exact .inr (.inl ⟨by omega, e2⟩)
      by_cases e3 : bs.length = 0
      · exact .inr (.inr (.inl ⟨by omega, by omega, by simp [e3]⟩))
      · exact .inr (.inr (.inr ⟨by omega, by omega, beq_eq_false_iff_ne.2 (by omega), by omega⟩))
    clear hz HF hlen
    rcases hc with e1 | ⟨e1, e2⟩ | ⟨e1, e2, e3⟩ | ⟨e1, e2, e3, e4⟩
    all_goals
      go_enter Tryd.func15, Tryd.ntmps15
      go_wp2_with fail
      go_ret
      exact ⟨ret_bool HZ.out.symm, B0.out⟩
end Go.Proofs.YtjfmiconmbpllaaDoor
