/- fieldUnder and fits of the program's table. -/
import Derived.Test.YtlmciclkfmeepaaDoorKinI
namespace Go.Proofs.YtlmciclkfmeepaaDoor
open Go.ChangeShapes Go.WideShapes Go.ChangeAt Go.RowKit
set_option linter.unusedVariables false

/-- FieldUnder, of any two fields, in right groups. -/
def fieldUnderF (gs : List (List Ty)) (f g : Fd) : Bool := fieldOk f.kind f.of (kinCount gs : Nat) && (fieldOk g.kind g.of (kinCount gs : Nat) && sortF gs f g)

theorem fieldOk_range {k o n : Int} (hn : 0 ≤ n) (h : fieldOk k o n = true) (h1 : k ≠ 1) : -2 ≤ o ∧ (o < n ∨ o < 0) := by
  unfold fieldOk at h
  rw [if_neg h1] at h
  split at h
  · simp at h; omega
  · simp at h

/-- Three blocks more, in a row. -/
theorem three_new (w : World) (o0 o1 o2 : Obj) : Below w.heap.size w (((w.alloc o0).alloc o1).alloc o2) := by
  refine (((Below.refl _ _).alloc (Nat.le_refl _) _).alloc ?_ _).alloc ?_ _ <;> simp <;> omega

set_option maxHeartbeats 1600000 in
theorem fieldUnder_core (ra : Option Addr) (rc cb co cc lo hi : Nat) (gs : List (List Ty)) (fk fo gk go : Int) (fm gm : Bool) (w : World) (hP : Parts gs) (hT : TabIn w lo hi ra cb co gs) (hh : hi ≤ w.heap.size) :
    Calls Tryd.prog 75 #[.agg #[.slice ra (kinCount gs) rc, .slice (some ⟨cb, co, none⟩) (kinCount gs) cc], .agg #[.int .i64 fk, .int .i64 fo, .bool fm], .agg #[.int .i64 gk, .int .i64 go, .bool gm]] w
      fun e w' => e = .returned (.bool (fieldUnderF gs ⟨fk, fo, fm⟩ ⟨gk, go, gm⟩)) ∧ Below w.heap.size w w' := by
  have m8 := hP.2.1
  have HF : Hid (fieldUnderF gs ⟨fk, fo, fm⟩ ⟨gk, go, gm⟩ = (fieldOk fk fo (kinCount gs : Nat) && (fieldOk gk go (kinCount gs : Nat) && sortF gs ⟨fk, fo, fm⟩ ⟨gk, go, gm⟩))) := rfl
  generalize fieldUnderF gs ⟨fk, fo, fm⟩ ⟨gk, go, gm⟩ = R at *
  have b0 := three_new w (.cells #[.slice ra (kinCount gs) rc, .slice (some ⟨cb, co, none⟩) (kinCount gs) cc] 62) (.cells #[.int .i64 fk, .int .i64 fo, .bool fm] 37) (.cells #[.int .i64 gk, .int .i64 go, .bool gm] 37)
  have rt : Rec (((w.alloc (.cells #[.slice ra (kinCount gs) rc, .slice (some ⟨cb, co, none⟩) (kinCount gs) cc] 62)).alloc (.cells #[.int .i64 fk, .int .i64 fo, .bool fm] 37)).alloc (.cells #[.int .i64 gk, .int .i64 go, .bool gm] 37)) w.heap.size 62 [.slice ra (kinCount gs) rc, .slice (some ⟨cb, co, none⟩) (kinCount gs) cc] := ((Rec.new _ _ _).alloc _).alloc _
  have rf : Rec (((w.alloc (.cells #[.slice ra (kinCount gs) rc, .slice (some ⟨cb, co, none⟩) (kinCount gs) cc] 62)).alloc (.cells #[.int .i64 fk, .int .i64 fo, .bool fm] 37)).alloc (.cells #[.int .i64 gk, .int .i64 go, .bool gm] 37)) (w.heap.size + 1) 37 [.int .i64 fk, .int .i64 fo, .bool fm] := (Rec.new' _ _ _ _ (by simp)).alloc _
  have rg : Rec (((w.alloc (.cells #[.slice ra (kinCount gs) rc, .slice (some ⟨cb, co, none⟩) (kinCount gs) cc] 62)).alloc (.cells #[.int .i64 fk, .int .i64 fo, .bool fm] 37)).alloc (.cells #[.int .i64 gk, .int .i64 go, .bool gm] 37)) (w.heap.size + 1 + 1) 37 [.int .i64 gk, .int .i64 go, .bool gm] := Rec.new' _ _ _ _ (by simp)
  have B0 := hide b0
  have RT := hide rt
  have RF := hide rf
  have RG := hide rg
  have HT := hide hT
  have HP := hide hP
  clear b0 rt rf rg hT hP
  go_enter Tryd.func75, Tryd.ntmps75
  go_wp2_with fail
  refine (implFieldOk_any fk fo _ fm _).mono ?_
  rintro e w1 ⟨rfl, hb1⟩
  have B1 := hide (B0.out.trans (hb1.mono B0.out.size))
  have T1 := hide (RT.out.below hb1 RT.out.lt)
  have F1 := hide (RF.out.below hb1 RF.out.lt)
  have G1 := hide (RG.out.below hb1 RG.out.lt)
  clear hb1 B0 RT RF RG
  cases h1 : fieldOk fk fo (kinCount gs : Nat) with
  | false =>
    have HZ : Hid (R = false) := by show _ = _; rw [HF.out, h1]; rfl
    clear h1
    go_wp2_with fail
    go_ret
    exact ⟨ret_bool HZ.out.symm, B1.out⟩
  | true =>
    have HZ : Hid (R = (fieldOk gk go (kinCount gs : Nat) && sortF gs ⟨fk, fo, fm⟩ ⟨gk, go, gm⟩)) := by show _ = _; rw [HF.out, h1]; rfl
    have H1 := hide h1
    have t0 := T1.out.cell (o := 0) rfl
    have g0 := G1.out.cell (o := 0) rfl
    have g1 := G1.out.cell (o := 1) rfl
    have g2 := G1.out.cell (o := 2) rfl
    clear h1 HF
    go_wp2_with fail
    refine (implFieldOk_any gk go _ gm _).mono ?_
    rintro e w2 ⟨rfl, hb2⟩
    have B2 := hide (B1.out.trans (hb2.mono B1.out.size))
    have T2 := hide (T1.out.below hb2 T1.out.lt)
    have F2 := hide (F1.out.below hb2 F1.out.lt)
    have G2 := hide (G1.out.below hb2 G1.out.lt)
    clear hb2 B1 T1 F1 G1 t0 g0 g1 g2
    cases h2 : fieldOk gk go (kinCount gs : Nat) with
    | false =>
      have HZ' : Hid (R = false) := by show _ = _; rw [HZ.out, h2]; rfl
      clear h2
      go_wp2_with fail
      go_ret
      exact ⟨ret_bool HZ'.out.symm, B2.out⟩
    | true =>
      have HS : Hid (R = sortF gs ⟨fk, fo, fm⟩ ⟨gk, go, gm⟩) := by show _ = _; rw [HZ.out, h2]; rfl
      have H2 := hide h2
      have f0 := F2.out.cell (o := 0) rfl
      have f1 := F2.out.cell (o := 1) rfl
      have g0 := G2.out.cell (o := 0) rfl
      have g1 := G2.out.cell (o := 1) rfl
      have t0 := T2.out.cell (o := 0) rfl
      have t1 := T2.out.cell (o := 1) rfl
      clear h2 HZ
      by_cases e1 : fk = 1
      · subst e1
        have HZ : Hid (R = ((1 : Int) == gk)) := by show _ = _; rw [HS.out]; simp [sortF]
        go_wp2_with fail
        go_ret
        exact ⟨ret_bool HZ.out.symm, B2.out⟩
      have n1 : (fk == 1) = false := beq_eq_false_iff_ne.2 e1
      by_cases e2 : gk = 1
      · subst e2
        have HZ : Hid (R = (fk == 1)) := by show _ = _; rw [HS.out]; simp [sortF]
        go_wp2_with fail
        go_ret
        exact ⟨ret_bool (by rw [HZ.out, n1]), B2.out⟩
      have n2 : (gk == 1) = false := beq_eq_false_iff_ne.2 e2
      have r1 := fieldOk_range (by omega) H1.out e1
      have r2 := fieldOk_range (by omega) H2.out e2
      have HU : Hid (R = (under gs fo go && ((fk == 3) || (gk == 2)))) := by
        show _ = _; rw [HS.out]; simp [sortF, e1, e2, Bool.and_comm]
      go_wp2_with fail
      refine (under_any ra rc cb co cc lo hi gs fo go w2 HP.out (HT.out.keep (B2.out.mono hh)) (Nat.le_trans hh B2.out.size) r1.1 (by omega) r2.1 (by omega)).mono ?_
      rintro e w3 ⟨rfl, hb3⟩
      have B3 := hide (B2.out.trans (hb3.mono B2.out.size))
      have F3 := hide (F2.out.below hb3 F2.out.lt)
      have G3 := hide (G2.out.below hb3 G2.out.lt)
      have f0 := F3.out.cell (o := 0) rfl
      have g0 := G3.out.cell (o := 0) rfl
      clear hb3 B2 T2 F2 G2 t0 t1 f1 g1
      cases hu : under gs fo go with
      | false =>
        have HZ : Hid (R = false) := by show _ = _; rw [HU.out, hu]; rfl
        clear hu
        go_wp2_with fail
        go_ret
        exact ⟨ret_bool HZ.out.symm, B3.out⟩
      | true =>
        have HZ : Hid (R = ((fk == 3) || (gk == 2))) := by show _ = _; rw [HU.out, hu]; rfl
        clear hu
        by_cases e3 : fk = 3
        · subst e3
          go_wp2_with fail
          go_ret
          exact ⟨ret_bool (by rw [HZ.out]; rfl), B3.out⟩
        have n3 : (fk == 3) = false := beq_eq_false_iff_ne.2 e3
        go_wp2_with fail
        go_ret
        exact ⟨ret_bool (by rw [HZ.out, n3]; simp), B3.out⟩
theorem fieldUnder_any (ra : Option Addr) (rc cb co cc lo hi : Nat) (gs : List (List Ty)) (f g : Fd) (w : World) (hP : Parts gs) (hT : TabIn w lo hi ra cb co gs) (hh : hi ≤ w.heap.size) :
    Calls Tryd.prog 75 #[.agg #[.slice ra (kinCount gs) rc, .slice (some ⟨cb, co, none⟩) (kinCount gs) cc], .agg #[.int .i64 f.kind, .int .i64 f.of, .bool f.mt], .agg #[.int .i64 g.kind, .int .i64 g.of, .bool g.mt]] w
      fun e w' => e = .returned (.bool (fieldUnderF gs f g)) ∧ Below w.heap.size w w' := fieldUnder_core ra rc cb co cc lo hi gs f.kind f.of g.kind g.of f.mt g.mt w hP hT hh
end Go.Proofs.YtlmciclkfmeepaaDoor
