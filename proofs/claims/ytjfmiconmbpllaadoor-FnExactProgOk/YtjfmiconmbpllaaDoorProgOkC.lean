/- Whether a function is written right, of the program. -/
import Derived.Test.YtjfmiconmbpllaaDoorProgOkB
namespace Go.Proofs.YtjfmiconmbpllaaDoor
open Go.ChangeShapes Go.WideShapes Go.ChangeAt Go.RowKit
set_option linter.unusedVariables false

theorem funOkF_prog (n : Int) (f : GFun) : funOkF n f = ((decide (0 < f.body.length) && decide (f.body.length ≤ 30)) && (bodyTo f.body f.body.length && (sortOk f.gives.kind f.gives.of n f.gives.mt && ((decide ((f.takes.length : Int) ≤ 3) && sortsTo f.takes n f.takes.length) && ((decide ((f.own.length : Int) ≤ 3) && sortsTo f.own n f.own.length) && firstTo f.own f.own.length))))) := by
  have e1 : decide ((f.takes.length : Int) ≤ 3) = decide (f.takes.length ≤ 3) := by congr 1; exact propext ⟨fun h => by omega, fun h => by omega⟩
  have e2 : decide ((f.own.length : Int) ≤ 3) = decide (f.own.length ≤ 3) := by congr 1; exact propext ⟨fun h => by omega, fun h => by omega⟩
  rw [e1, e2]
  unfold funOkF sOk
  generalize decide (f.takes.length ≤ 3) = a
  generalize decide (f.own.length ≤ 3) = b
  generalize decide (0 < f.body.length) = c
  generalize decide (f.body.length ≤ 30) = d
  generalize sortsTo f.takes n f.takes.length = e
  generalize sortsTo f.own n f.own.length = g
  generalize firstTo f.own f.own.length = h
  generalize sortOk f.gives.kind f.gives.of n f.gives.mt = i
  generalize bodyTo f.body f.body.length = j
  cases a <;> cases b <;> cases c <;> cases d <;> cases e <;> cases g <;> cases h <;> cases i <;> cases j <;> rfl

set_option maxHeartbeats 1600000 in
set_option maxRecDepth 100000 in
theorem progFunOk_any {md : Bool} (a0 a4 a5 : Option Addr) (c0 c4 c5 lo hi : Nat) (f : GFun) (n : Int) (w : World) (hB : FunB 1048576 f) (h0 : FieldsM md w lo hi a0 f.takes) (h4 : FieldsM md w lo hi a4 f.own) (h5 : InssM md w lo hi a5 f.body) (hh : hi ≤ w.heap.size) :
    Calls Tryd.prog 22 #[.agg #[.slice a0 f.takes.length c0, .int .i64 f.gives.kind, .int .i64 f.gives.of, .bool f.gives.mt, .slice a4 f.own.length c4, .slice a5 f.body.length c5], .int .i64 n] w fun e w' => e = .returned (.bool (funOkF n f)) ∧ Below w.heap.size w w' := by
  have HF := hide (funOkF_prog n f)
  have HC1 := hide (fun W (hb : Below w.heap.size w W) => progSortsOk_any a0 c0 lo hi f.takes 3 n W hB.1 (h0.1.keep (hb.mono hh)) (Nat.le_trans hh hb.size))
  have HC2 := hide (fun W (hb : Below w.heap.size w W) => progPlacesOk_any a4 c4 lo hi f.own 3 n W hB.2.1 (h4.1.keep (hb.mono hh)) (Nat.le_trans hh hb.size))
  have HC3 := hide (fun W => implSortOk_any f.gives.kind f.gives.of n f.gives.mt W)
  have H5 := hide h5
  have m3 : f.body.length ≤ 1048576 := hB.2.2
  clear h0 h4 h5 hB
  generalize funOkF n f = R at *
  generalize (decide ((f.takes.length : Int) ≤ 3) && sortsTo f.takes n f.takes.length) = t1 at *
  generalize ((decide ((f.own.length : Int) ≤ 3) && sortsTo f.own n f.own.length) && firstTo f.own f.own.length) = t2 at *
  generalize sortOk f.gives.kind f.gives.of n f.gives.mt = t3 at *
  obtain ⟨ts, ⟨gk, go, gm⟩, os, bs⟩ := f
  simp only at HF HC1 HC2 HC3 H5 m3 ⊢
  have r0 : Rec (w.alloc (.cells #[.slice a0 ts.length c0, .int .i64 gk, .int .i64 go, .bool gm, .slice a4 os.length c4, .slice a5 bs.length c5] 48)) w.heap.size 48 [.slice a0 ts.length c0, .int .i64 gk, .int .i64 go, .bool gm, .slice a4 os.length c4, .slice a5 bs.length c5] := Rec.new _ _ _
  have b0 : Below w.heap.size w (w.alloc (.cells #[.slice a0 ts.length c0, .int .i64 gk, .int .i64 go, .bool gm, .slice a4 os.length c4, .slice a5 bs.length c5] 48)) := (Below.refl _ _).alloc (Nat.le_refl _) _
  have R0 := hide r0
  have B0 := hide b0
  clear r0 b0
  by_cases hlen : 0 < bs.length ∧ bs.length ≤ 30
  · have HF' : Hid (R = (bodyTo bs bs.length && (t3 && (t1 && t2)))) := by
      show _ = _
      have e1 : decide (0 < bs.length) = true := by simp; omega
      have e2 : decide (bs.length ≤ 30) = true := by simp; omega
      rw [HF.out, e1, e2]; rfl
    obtain ⟨k3, k4⟩ := hlen
    have z1 : ((bs.length : Int) == 0) = false := beq_eq_false_iff_ne.2 (by omega)
    clear HF
    go_enter Tryd.func22, Tryd.ntmps22
    go_wp2_with fail
    go_loopw [20] (fun i wr => ∃ j : Nat, j ≤ bs.length ∧ i = .int .i64 j ∧ bodyTo bs j = true ∧ Below w.heap.size w wr ∧ Rec wr w.heap.size 48 [.slice a0 ts.length c0, .int .i64 gk, .int .i64 go, .bool gm, .slice a4 os.length c4, .slice a5 bs.length c5]) (fun i wr => bs.length - (intOf i).toNat)
    case atStart => exact ⟨0, Nat.zero_le _, rfl, rfl, B0.out, R0.out⟩
    case round =>
      clear B0 R0
      obtain ⟨j, hj, rfl, hA, hb, hr⟩ := hrel
      have HA := hide hA
      have HBl := hide hb
      have HR := hide hr
      have s1 := hb.size
      clear hA hb hr
      by_cases hjn : j < bs.length
      · rcases H5.out with hnil | ⟨b, off, rfl, g1, g2, _, g3⟩
        · rw [hnil] at hjn; exact absurd hjn (Nat.not_lt_zero _)
        obtain ⟨f0, f1, f2⟩ := (g3 j hjn).same (lo' := lo) (hi' := hi) (.of_below HBl.out hh) (Nat.le_refl _) (Nat.le_refl _) g1 g2
        have HS : Hid (bodyTo bs (j + 1) = insOk (insAt' bs j).op (insAt' bs j).a (insAt' bs j).b) := by
          show (bodyTo bs j && insOk (insAt' bs j).op (insAt' bs j).a (insAt' bs j).b) = _
          rw [HA.out]; rfl
        have HN : Hid (insOk (insAt' bs j).op (insAt' bs j).a (insAt' bs j).b = false → bodyTo bs bs.length = false) := fun h => allTo_false hjn h
        have HC := hide (fun W => implInsOk_any (insAt' bs j).op (insAt' bs j).a (insAt' bs j).b W)
        have j1 : (0 : Int) ≤ (j : Int) := by omega
        have j2 : (j : Int) < (bs.length : Int) := by omega
        clear g3
        generalize insOk (insAt' bs j).op (insAt' bs j).a (insAt' bs j).b = v at HS HN HC
        generalize insAt' bs j = x at f0 f1 f2 HC
        obtain ⟨xo, xa, xb⟩ := x
        simp only at f0 f1 f2 HC
        go_wp2_with fail
        refine (HC.out _).mono ?_
        rintro e w4 ⟨rfl, hb4⟩
        have B4 := hide ((HBl.out.alloc s1 (.cells #[.int .i64 xo, .int .i64 xa, .int .i64 xb] 71)).trans (hb4.mono (by simp; omega)))
        have R4 := hide ((HR.out.alloc (.cells #[.int .i64 xo, .int .i64 xa, .int .i64 xb] 71)).below hb4 (by have := HR.out.lt; simp; omega))
        clear hb4 HC
        cases v with
        | false =>
          have hz := HN.out rfl
          have HN' := hide hz
          clear hz HN HS
          go_wp2_with fail
          go_ret
          exact ⟨ret_bool (by rw [HF'.out, HN'.out]; rfl), B4.out⟩
        | true =>
          go_wp2_with fail
          exact ⟨⟨j + 1, by omega, by go_num, HS.out, B4.out, R4.out⟩, by simp [intOf]; omega⟩
      · have hje : Hid (j = bs.length) := Nat.le_antisymm hj (Nat.le_of_not_lt hjn)
        have hz : R = (t3 && (t1 && t2)) := by
          have h := HA.out
          rw [hje.out] at h
          rw [HF'.out, h]; rfl
        have HZ := hide hz
        have d1 := HR.out.cell (o := 1) rfl
        have d2 := HR.out.cell (o := 2) rfl
        have d3 := HR.out.cell (o := 3) rfl
        clear hz HF'
        go_wp2_with fail
        refine (HC3.out _).mono ?_
        rintro e w3 ⟨rfl, hb3⟩
        have B3 := hide (HBl.out.trans (hb3.mono s1))
        have R3 := hide (HR.out.below hb3 HR.out.lt)
        clear hb3 HC3 HR HBl d1 d2 d3
        cases t3 with
        | false =>
          have hz : R = false := by rw [HZ.out]; rfl
          have HZ' := hide hz
          clear hz HZ
          go_wp2_with fail
          go_ret
          exact ⟨ret_bool HZ'.out.symm, B3.out⟩
        | true =>
          have d0 := R3.out.cell (o := 0) rfl
          go_wp2_with fail
          refine (HC1.out _ B3.out).mono ?_
          rintro e w1 ⟨rfl, hb1⟩
          have B1 := hide (B3.out.trans (hb1.mono B3.out.size))
          have R1 := hide (R3.out.below hb1 R3.out.lt)
          clear hb1 HC1 R3 B3 d0
          cases t1 with
          | false =>
            have hz : R = false := by rw [HZ.out]; rfl
            have HZ' := hide hz
            clear hz HZ
            go_wp2_with fail
            go_ret
            exact ⟨ret_bool HZ'.out.symm, B1.out⟩
          | true =>
            have hz : R = t2 := by rw [HZ.out]; rfl
            have HZ' := hide hz
            have d4 := R1.out.cell (o := 4) rfl
            clear hz HZ
            go_wp2_with fail
            refine (HC2.out _ B1.out).mono ?_
            rintro e w2 ⟨rfl, hb2⟩
            have B2 := hide (B1.out.trans (hb2.mono B1.out.size))
            clear hb2 HC2 d4
            go_wp2_with fail
            go_ret
            exact ⟨ret_bool HZ'.out.symm, B2.out⟩
  · have hz : R = false := by
      have : (decide (0 < bs.length) && decide (bs.length ≤ 30)) = false := by
        rw [Bool.eq_false_iff]; intro h; simp at h; omega
      rw [HF.out, this]; rfl
    have HZ := hide hz
    have hc : ((bs.length : Int) == 0) = true ∨ (((bs.length : Int) == 0) = false ∧ 30 < bs.length) := by
      by_cases e3 : bs.length = 0
      · exact .inl (by simp [e3])
      · exact .inr ⟨beq_eq_false_iff_ne.2 (by omega), by omega⟩
    clear hz HF hlen
    rcases hc with e1 | ⟨e1, e2⟩
    all_goals
      go_enter Tryd.func22, Tryd.ntmps22
      go_wp2_with fail
      go_ret
      exact ⟨ret_bool HZ.out.symm, B0.out⟩
end Go.Proofs.YtjfmiconmbpllaaDoor
