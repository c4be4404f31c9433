/- ProgOk of the model and of the program. -/
import Derived.Test.YtjfmiconmbpllaaDoorProgOkC
namespace Go.Proofs.YtjfmiconmbpllaaDoor
open Go.ChangeShapes Go.WideShapes Go.ChangeAt Go.RowKit
set_option linter.unusedVariables false

def PM (md : Bool) (w : World) (lo hi : Nat) (a0 a1 a2 : Option Addr) (x : GProg) : Prop := GroupsM md w lo hi a0 x.types ∧ FieldsM md w lo hi a1 x.glob ∧ FunsM md w lo hi a2 x.funs
theorem PM.keep {md : Bool} {w w' : World} {lo hi : Nat} {a0 a1 a2 : Option Addr} {x : GProg} (h : PM md w lo hi a0 a1 a2 x) (hb : Below hi w w') : PM md w' lo hi a0 a1 a2 x := ⟨h.1.keep hb, h.2.1.keep hb, h.2.2.keep hb⟩
theorem PM.wide {md : Bool} {w : World} {lo hi lo' hi' : Nat} {a0 a1 a2 : Option Addr} {x : GProg} (h : PM md w lo hi a0 a1 a2 x) (h1 : lo' ≤ lo) (h2 : hi ≤ hi') : PM md w lo' hi' a0 a1 a2 x := ⟨h.1.wide h1 h2, h.2.1.wide h1 h2, h.2.2.wide h1 h2⟩
theorem PM.plain {md : Bool} {w : World} {lo hi : Nat} {a0 a1 a2 : Option Addr} {x : GProg} (h : PM md w lo hi a0 a1 a2 x) : PM false w lo hi a0 a1 a2 x := ⟨h.1.plain, h.2.1.plain, h.2.2.plain⟩

theorem groupsB_few {gs : List (List Ty)} (h : GroupsB 1048576 gs) : Few gs := h

set_option maxHeartbeats 1600000 in
set_option maxRecDepth 100000 in
theorem specProgOk_any {md : Bool} (a0 a1 a2 : Option Addr) (c0 c1 c2 lo hi : Nat) (p : GProg) (w : World) (hB : ProgB 1048576 p) (hx : PM md w lo hi a0 a1 a2 p) (hc : p.types.length ≤ c0) (hl : lo ≤ hi) (hh : hi ≤ w.heap.size) :
    Calls Tryd.prog 5 #[.agg #[.slice a0 p.types.length c0, .slice a1 p.glob.length c1, .slice a2 p.funs.length c2]] w fun e w' => e = .returned (.bool (progOkF p)) ∧ Below w.heap.size w w' := by
  have hN : Few p.types := hB.1
  have HF : Hid (progOkF p = ((kinOkF p.types && ((decide (p.glob.length ≤ 3) && (sortsTo p.glob (kinCount p.types : Nat) p.glob.length && firstTo p.glob p.glob.length)) && (decide (0 < p.funs.length) && decide (p.funs.length ≤ 5)))) && funsTo p.funs (kinCount p.types : Nat) p.funs.length)) := rfl
  have l2 := l3To_eq p.glob (kinCount p.types : Nat) true p.glob.length
  simp only [Bool.not_true, Bool.false_or] at l2
  have HCnt := hide (fun W (hb : Below w.heap.size w W) => specKinCount_any a0 c0 lo hi p.types W hN (hx.1.1.keep (hb.mono hh)))
  have HOk := hide (fun W (hb : Below w.heap.size w W) => specKinOk_any a0 c0 lo hi p.types W hN hc hl (Nat.le_trans hh hb.size) (hx.1.1.keep (hb.mono hh)))
  have hc2 := fun W (hb : Below w.heap.size w W) => l3Sorts_any a1 c1 lo hi p.glob (kinCount p.types : Nat) true W hB.2.1 (hx.2.1.1.keep (hb.mono hh)) (Nat.le_trans hh hb.size)
  rw [l2] at hc2
  have HC2 := hide hc2
  have HFun := hide hx.2.2
  have HB := hide hB.2.2
  have m0 := kinCount_le hN
  have m1 : p.glob.length ≤ 1048576 := hB.2.1
  have m2 : p.funs.length ≤ 1048576 := hB.2.2.1
  clear l2 hc2 hx hB hN
  generalize progOkF p = R at *
  generalize kinOkF p.types = ok at *
  generalize kinCount p.types = n at *
  generalize (sortsTo p.glob (n : Nat) p.glob.length && firstTo p.glob p.glob.length) = t2 at *
  obtain ⟨gs, gl, fs⟩ := p
  simp only at HF HCnt HOk HC2 HFun HB m1 m2 ⊢
  have r0 : Rec (w.alloc (.cells #[.slice a0 gs.length c0, .slice a1 gl.length c1, .slice a2 fs.length c2] 33)) w.heap.size 33 [.slice a0 gs.length c0, .slice a1 gl.length c1, .slice a2 fs.length c2] := Rec.new _ _ _
  have b0 : Below w.heap.size w (w.alloc (.cells #[.slice a0 gs.length c0, .slice a1 gl.length c1, .slice a2 fs.length c2] 33)) := (Below.refl _ _).alloc (Nat.le_refl _) _
  have R0 := hide r0
  have B0 := hide b0
  clear r0 b0
  go_enter Tryd.func5, Tryd.ntmps5
  go_wp2_with fail
  refine (HCnt.out _ B0.out).mono ?_
  rintro e w1 ⟨rfl, rfl⟩
  go_wp2_with fail
  refine (HOk.out _ B0.out).mono ?_
  rintro e w1 ⟨rfl, hb1⟩
  have B1 := hide (B0.out.trans (hb1.mono B0.out.size))
  have R1 := hide (R0.out.below hb1 R0.out.lt)
  clear hb1 R0 B0 HCnt HOk
  cases ok with
  | false =>
    have hz : R = false := by rw [HF.out]; rfl
    have HZ := hide hz
    clear hz HF
    go_wp2_with fail
    go_ret
    exact ⟨ret_bool HZ.out.symm, B1.out⟩
  | true =>
  have d1 := R1.out.cell (o := 1) rfl
  by_cases hg : gl.length ≤ 3
  · go_wp2_with fail
    refine (HC2.out _ B1.out).mono ?_
    rintro e w2 ⟨rfl, hb2⟩
    have B2 := hide (B1.out.trans (hb2.mono B1.out.size))
    have R2 := hide (R1.out.below hb2 R1.out.lt)
    clear hb2 HC2 R1 B1 d1
    cases t2 with
    | false =>
      have hz : R = false := by rw [HF.out]; simp
      have HZ := hide hz
      clear hz HF
      go_wp2_with fail
      go_ret
      exact ⟨ret_bool HZ.out.symm, B2.out⟩
    | true =>
    have d2 := R2.out.cell (o := 2) rfl
    by_cases hf0 : fs.length = 0
    · have e0 : ((fs.length : Int) == 0) = true := by simp [hf0]
      have hz : R = false := by rw [HF.out]; simp [hf0]
      have HZ := hide hz
      clear hz HF hf0
      go_wp2_with fail
      go_ret
      exact ⟨ret_bool HZ.out.symm, B2.out⟩
    have e0 : ((fs.length : Int) == 0) = false := beq_eq_false_iff_ne.2 (by omega)
    by_cases hf5 : fs.length ≤ 5
    · have hz : R = funsTo fs (n : Nat) fs.length := by
        have e1 : decide (gl.length ≤ 3) = true := by simpa using hg
        have e2 : decide (0 < fs.length) = true := by simp; omega
        have e3 : decide (fs.length ≤ 5) = true := by simpa using hf5
        rw [HF.out, e1, e2, e3]; rfl
      have HZ := hide hz
      clear hz HF
      go_wp2_with fail
      go_loopw [4] (fun i wr => ∃ j : Nat, j ≤ fs.length ∧ i = .int .i64 j ∧ funsTo fs (n : Nat) j = true ∧ Below w.heap.size w wr ∧ Rec wr w.heap.size 33 [.slice a0 gs.length c0, .slice a1 gl.length c1, .slice a2 fs.length c2]) (fun i wr => fs.length - (intOf i).toNat)
      case atStart => exact ⟨0, Nat.zero_le _, rfl, rfl, B2.out, R2.out⟩
      case round =>
        clear B2 R2 d2
        obtain ⟨j, hj, rfl, hA, hb, hr⟩ := hrel
        have HA := hide hA
        have HBl := hide hb
        have HR := hide hr
        have s1 := hb.size
        have e5 := hr.cell (o := 2) rfl
        clear hA hb hr
        by_cases hjn : j < fs.length
        · rcases HFun.out with hnil | ⟨b, off, rfl, g1, g2, _, g3⟩
          · rw [hnil] at hjn; exact absurd hjn (Nat.not_lt_zero _)
          obtain ⟨p0, q0, p4, q4, p5, q5, x0, x1, x2, x3, x4, x5, y0, y4, y5⟩ := (g3 j hjn).same (lo' := lo) (hi' := hi) (.of_below HBl.out hh) (Nat.le_refl _) (Nat.le_refl _) g1 g2
          have HS : Hid (funsTo fs (n : Nat) (j + 1) = funOkF (n : Nat) (funAt' fs j)) := by
            show (funsTo fs (n : Nat) j && funOkF (n : Nat) (funAt' fs j)) = _
            rw [HA.out]; rfl
          have HN : Hid (funOkF (n : Nat) (funAt' fs j) = false → funsTo fs (n : Nat) fs.length = false) := fun h => allTo_false hjn h
          have HC := hide (l3Fun_any p0 p4 p5 q0 q4 q5 lo hi (funAt' fs j) (n : Nat) wr (HB.out.2 j hjn) y0 y4 y5 (Nat.le_trans hh s1))
          have j1 : (0 : Int) ≤ (j : Int) := by omega
          have j2 : (j : Int) < (fs.length : Int) := by omega
          clear g3 y0 y4 y5
          generalize funOkF (n : Nat) (funAt' fs j) = v at HS HN HC
          generalize funAt' fs j = x at x0 x1 x2 x3 x4 x5 HC
          obtain ⟨xt, ⟨xk, xo, xm⟩, xw, xb⟩ := x
          simp only at x0 x1 x2 x3 x4 x5 HC
          go_wp2_with fail
          refine HC.out.mono ?_
          rintro e w4 ⟨rfl, hb4⟩
          have B4 := hide (HBl.out.trans (hb4.mono s1))
          have R4 := hide (HR.out.below hb4 HR.out.lt)
          clear hb4 HC
          cases v with
          | false =>
            have hz := HN.out rfl
            have HN' := hide hz
            clear hz HN HS
            go_wp2_with fail
            go_ret
            exact ⟨ret_bool (by rw [HZ.out, HN'.out]), B4.out⟩
          | true =>
            go_wp2_with fail
            exact ⟨⟨j + 1, by omega, by go_num, HS.out, B4.out, R4.out⟩, by simp [intOf]; omega⟩
        · have hje : Hid (j = fs.length) := Nat.le_antisymm hj (Nat.le_of_not_lt hjn)
          go_wp2_with fail
          go_ret
          exact ⟨ret_bool (by rw [HZ.out, ← hje.out, HA.out]), HBl.out⟩
    · have hz : R = false := by rw [HF.out]; simp [hf5]
      have HZ := hide hz
      clear hz HF
      go_wp2_with fail
      go_ret
      exact ⟨ret_bool HZ.out.symm, B2.out⟩
  · have hz : R = false := by rw [HF.out]; simp [hg]
    have HZ := hide hz
    clear hz HF
    go_wp2_with fail
    go_ret
    exact ⟨ret_bool HZ.out.symm, B1.out⟩

set_option maxHeartbeats 1600000 in
set_option maxRecDepth 100000 in
theorem implProgOk_any {md : Bool} (a0 a1 a2 : Option Addr) (c0 c1 c2 lo hi : Nat) (p : GProg) (w : World) (hB : ProgB 1048576 p) (hx : PM md w lo hi a0 a1 a2 p) (hl : lo ≤ hi) (hh : hi ≤ w.heap.size) (hp : pow10 w) :
    Calls Tryd.prog 7 #[.agg #[.slice a0 p.types.length c0, .slice a1 p.glob.length c1, .slice a2 p.funs.length c2]] w fun e w' => e = .returned (.bool (progOkF p)) ∧ Below w.heap.size w w' := by
  have hN : Few p.types := hB.1
  have hf : progOkF p = ((kinOkF p.types && (((decide ((p.glob.length : Int) ≤ 3) && sortsTo p.glob (kinCount p.types : Nat) p.glob.length) && firstTo p.glob p.glob.length) && (decide (0 < p.funs.length) && decide (p.funs.length ≤ 5)))) && funsTo p.funs (kinCount p.types : Nat) p.funs.length) := by
    have e1 : decide ((p.glob.length : Int) ≤ 3) = decide (p.glob.length ≤ 3) := by congr 1; exact propext ⟨fun h => by omega, fun h => by omega⟩
    rw [e1]
    unfold progOkF
    simp only [Bool.and_assoc]
  have HF := hide hf
  have HCnt := hide (fun W (hb : Below w.heap.size w W) => implKinCount_any a0 c0 lo hi p.types W hN (hx.1.1.keep (hb.mono hh)))
  have HOk := hide (fun W (hb : Below w.heap.size w W) => implKinOk_any a0 c0 lo hi p.types W hN hl (Nat.le_trans hh hb.size) (hx.1.1.keep (hb.mono hh)) (pow10_keep hp hb))
  have HC2 := hide (fun W (hb : Below w.heap.size w W) => progPlacesOk_any a1 c1 lo hi p.glob 3 (kinCount p.types : Nat) W hB.2.1 (hx.2.1.1.keep (hb.mono hh)) (Nat.le_trans hh hb.size))
  have HFun := hide hx.2.2
  have HB := hide hB.2.2
  have m0 := kinCount_le hN
  have m2 : p.funs.length ≤ 1048576 := hB.2.2.1
  clear hf hx hB hN hp
  generalize progOkF p = R at *
  generalize kinOkF p.types = ok at *
  generalize kinCount p.types = n at *
  generalize ((decide ((p.glob.length : Int) ≤ 3) && sortsTo p.glob (n : Nat) p.glob.length) && firstTo p.glob p.glob.length) = t2 at *
  obtain ⟨gs, gl, fs⟩ := p
  simp only at HF HCnt HOk HC2 HFun HB m2 ⊢
  have r0 : Rec (w.alloc (.cells #[.slice a0 gs.length c0, .slice a1 gl.length c1, .slice a2 fs.length c2] 33)) w.heap.size 33 [.slice a0 gs.length c0, .slice a1 gl.length c1, .slice a2 fs.length c2] := Rec.new _ _ _
  have b0 : Below w.heap.size w (w.alloc (.cells #[.slice a0 gs.length c0, .slice a1 gl.length c1, .slice a2 fs.length c2] 33)) := (Below.refl _ _).alloc (Nat.le_refl _) _
  have R0 := hide r0
  have B0 := hide b0
  clear r0 b0
  by_cases hf0 : fs.length = 0
  · have e0 : ((fs.length : Int) == 0) = true := by simp [hf0]
    have hz : R = false := by rw [HF.out]; simp [hf0]
    have HZ := hide hz
    clear hz HF hf0
    go_enter Tryd.func7, Tryd.ntmps7
    go_wp2_with fail
    go_ret
    exact ⟨ret_bool HZ.out.symm, B0.out⟩
  have e0 : ((fs.length : Int) == 0) = false := beq_eq_false_iff_ne.2 (by omega)
  by_cases hf5 : fs.length ≤ 5
  · have HF' : Hid (R = ((ok && t2) && funsTo fs (n : Nat) fs.length)) := by
      show _ = _
      have e2 : decide (0 < fs.length) = true := by simp; omega
      have e3 : decide (fs.length ≤ 5) = true := by simpa using hf5
      rw [HF.out, e2, e3]; simp
    clear HF
    go_enter Tryd.func7, Tryd.ntmps7
    go_wp2_with fail
    refine (HOk.out _ B0.out).mono ?_
    rintro e w1 ⟨rfl, hb1⟩
    have B1 := hide (B0.out.trans (hb1.mono B0.out.size))
    have R1 := hide (R0.out.below hb1 R0.out.lt)
    clear hb1 R0 B0 HOk
    cases ok with
    | false =>
      have hz : R = false := by rw [HF'.out]; rfl
      have HZ := hide hz
      clear hz HF'
      go_wp2_with fail
      go_ret
      exact ⟨ret_bool HZ.out.symm, B1.out⟩
    | true =>
    have d0 := R1.out.cell (o := 0) rfl
    have d1 := R1.out.cell (o := 1) rfl
    go_wp2_with fail
    refine (HCnt.out _ B1.out).mono ?_
    rintro e w2 ⟨rfl, rfl⟩
    go_wp2_with fail
    refine (HC2.out _ B1.out).mono ?_
    rintro e w2 ⟨rfl, hb2⟩
    have B2 := hide (B1.out.trans (hb2.mono B1.out.size))
    have R2 := hide (R1.out.below hb2 R1.out.lt)
    clear hb2 HC2 R1 B1 d0 d1
    cases t2 with
    | false =>
      have hz : R = false := by rw [HF'.out]; rfl
      have HZ := hide hz
      clear hz HF'
      go_wp2_with fail
      go_ret
      exact ⟨ret_bool HZ.out.symm, B2.out⟩
    | true =>
    have hz : R = funsTo fs (n : Nat) fs.length := by rw [HF'.out]; rfl
    have HZ := hide hz
    have d2 := R2.out.cell (o := 2) rfl
    clear hz HF'
    go_wp2_with fail
    go_loopw [33] (fun i wr => ∃ j : Nat, j ≤ fs.length ∧ i = .int .i64 j ∧ funsTo fs (n : Nat) j = true ∧ Below w.heap.size w wr) (fun i wr => fs.length - (intOf i).toNat)
    case atStart => exact ⟨0, Nat.zero_le _, rfl, rfl, B2.out⟩
    case round =>
      clear B2 R2 d2
      obtain ⟨j, hj, rfl, hA, hb⟩ := hrel
      have HA := hide hA
      have HBl := hide hb
      have s1 := hb.size
      clear hA hb
      by_cases hjn : j < fs.length
      · rcases HFun.out with hnil | ⟨b, off, rfl, g1, g2, _, g3⟩
        · rw [hnil] at hjn; exact absurd hjn (Nat.not_lt_zero _)
        obtain ⟨p0, q0, p4, q4, p5, q5, x0, x1, x2, x3, x4, x5, y0, y4, y5⟩ := (g3 j hjn).same (lo' := lo) (hi' := hi) (.of_below HBl.out hh) (Nat.le_refl _) (Nat.le_refl _) g1 g2
        have HS : Hid (funsTo fs (n : Nat) (j + 1) = funOkF (n : Nat) (funAt' fs j)) := by
          show (funsTo fs (n : Nat) j && funOkF (n : Nat) (funAt' fs j)) = _
          rw [HA.out]; rfl
        have HN : Hid (funOkF (n : Nat) (funAt' fs j) = false → funsTo fs (n : Nat) fs.length = false) := fun h => allTo_false hjn h
        have HC := hide (fun W (hb : Below wr.heap.size wr W) => progFunOk_any p0 p4 p5 q0 q4 q5 lo hi (funAt' fs j) (n : Nat) W (HB.out.2 j hjn) (y0.keep (hb.mono (Nat.le_trans hh s1))) (y4.keep (hb.mono (Nat.le_trans hh s1))) (y5.keep (hb.mono (Nat.le_trans hh s1))) (Nat.le_trans hh (Nat.le_trans s1 hb.size)))
        have j1 : (0 : Int) ≤ (j : Int) := by omega
        have j2 : (j : Int) < (fs.length : Int) := by omega
        clear g3 y0 y4 y5
        generalize funOkF (n : Nat) (funAt' fs j) = v at HS HN HC
        generalize funAt' fs j = x at x0 x1 x2 x3 x4 x5 HC
        obtain ⟨xt, ⟨xk, xo, xm⟩, xw, xb⟩ := x
        simp only at x0 x1 x2 x3 x4 x5 HC
        go_wp2_with fail
        refine (HC.out _ ((Below.refl _ _).alloc (Nat.le_refl _) _)).mono ?_
        rintro e w4 ⟨rfl, hb4⟩
        have B4 := hide ((HBl.out.alloc s1 (.cells #[.slice p0 xt.length q0, .int .i64 xk, .int .i64 xo, .bool xm, .slice p4 xw.length q4, .slice p5 xb.length q5] 48)).trans (hb4.mono (by simp; omega)))
        clear hb4 HC
        cases v with
        | false =>
          have hz := HN.out rfl
          have HN' := hide hz
          clear hz HN HS
          go_wp2_with fail
          go_ret
          exact ⟨ret_bool (by rw [HZ.out, HN'.out]), B4.out⟩
        | true =>
          go_wp2_with fail
          exact ⟨⟨j + 1, by omega, by go_num, HS.out, B4.out⟩, by simp [intOf]; omega⟩
      · have hje : Hid (j = fs.length) := Nat.le_antisymm hj (Nat.le_of_not_lt hjn)
        go_wp2_with fail
        go_ret
        exact ⟨ret_bool (by rw [HZ.out, ← hje.out, HA.out]), HBl.out⟩
  · have hz : R = false := by rw [HF.out]; simp [hf5]
    have HZ := hide hz
    clear hz HF
    go_enter Tryd.func7, Tryd.ntmps7
    go_wp2_with fail
    go_ret
    exact ⟨ret_bool HZ.out.symm, B0.out⟩
end Go.Proofs.YtjfmiconmbpllaaDoor
