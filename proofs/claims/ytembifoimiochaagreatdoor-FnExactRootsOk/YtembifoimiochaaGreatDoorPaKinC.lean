/- PaKinC: KinJ, KinK, KinL, KinM, KinN0. -/
import Derived.Test.YtembifoimiochaaGreatDoorPaKinB
namespace Go.Proofs.YtembifoimiochaaGreatDoor
open Go.ChangeShapes Go.WideShapes Go.ChangeAt Go.RowKit
set_option linter.unusedVariables false
def fieldUnderF (gs : List (List Ty)) (f g : Fd) : Bool := fieldOk f.kind f.of (kinCount gs : Nat) && (fieldOk g.kind g.of (kinCount gs : Nat) && sortF gs f g)
theorem fieldOk_range {k o n : Int} (hn : 0 ≤ n) (h : fieldOk k o n = true) (h1 : k ≠ 1) : -2 ≤ o ∧ (o < n ∨ o < 0) := by
 unfold fieldOk at h
 rw [if_neg h1] at h
 split at h
 ·simp at h; omega
 ·simp at h
theorem three_new (w : World) (o0 o1 o2 : Obj) : Below w.heap.size w (((w.alloc o0).alloc o1).alloc o2) := by
 refine (((Below.refl _ _).alloc (Nat.le_refl _) _).alloc ?_ _).alloc ?_ _ <;> simp <;> omega
set_option maxHeartbeats 1600000 in
theorem fieldUnder_core (ra : Option Addr) (rc cb co cc lo hi : Nat) (gs : List (List Ty)) (fk fo gk go : Int) (fm gm : Bool) (w : World) (hP : Parts gs) (hT : TabIn w lo hi ra cb co gs) (hh : hi ≤ w.heap.size) :
  Calls Tryz.prog 113 #[.agg #[.slice ra (kinCount gs) rc, .slice (some ⟨cb, co, none⟩) (kinCount gs) cc], .agg #[.int .i64 fk, .int .i64 fo, .bool fm], .agg #[.int .i64 gk, .int .i64 go, .bool gm]] w
   fun e w' => e = .returned (.bool (fieldUnderF gs ⟨fk, fo, fm⟩ ⟨gk, go, gm⟩)) ∧ Below w.heap.size w w' := by
 have m8 := hP.2.1
 have HF : Hid (fieldUnderF gs ⟨fk, fo, fm⟩ ⟨gk, go, gm⟩ = (fieldOk fk fo (kinCount gs : Nat) && (fieldOk gk go (kinCount gs : Nat) && sortF gs ⟨fk, fo, fm⟩ ⟨gk, go, gm⟩))) := rfl
 generalize fieldUnderF gs ⟨fk, fo, fm⟩ ⟨gk, go, gm⟩ = R at *
 have b0 := three_new w (.cells #[.slice ra (kinCount gs) rc, .slice (some ⟨cb, co, none⟩) (kinCount gs) cc] 93) (.cells #[.int .i64 fk, .int .i64 fo, .bool fm] 70) (.cells #[.int .i64 gk, .int .i64 go, .bool gm] 70)
 have rt : Rec (((w.alloc (.cells #[.slice ra (kinCount gs) rc, .slice (some ⟨cb, co, none⟩) (kinCount gs) cc] 93)).alloc (.cells #[.int .i64 fk, .int .i64 fo, .bool fm] 70)).alloc (.cells #[.int .i64 gk, .int .i64 go, .bool gm] 70)) w.heap.size 93 [.slice ra (kinCount gs) rc, .slice (some ⟨cb, co, none⟩) (kinCount gs) cc] := ((Rec.new _ _ _).alloc _).alloc _
 have rf : Rec (((w.alloc (.cells #[.slice ra (kinCount gs) rc, .slice (some ⟨cb, co, none⟩) (kinCount gs) cc] 93)).alloc (.cells #[.int .i64 fk, .int .i64 fo, .bool fm] 70)).alloc (.cells #[.int .i64 gk, .int .i64 go, .bool gm] 70)) (w.heap.size + 1) 70 [.int .i64 fk, .int .i64 fo, .bool fm] := (Rec.new' _ _ _ _ (by simp)).alloc _
 have rg : Rec (((w.alloc (.cells #[.slice ra (kinCount gs) rc, .slice (some ⟨cb, co, none⟩) (kinCount gs) cc] 93)).alloc (.cells #[.int .i64 fk, .int .i64 fo, .bool fm] 70)).alloc (.cells #[.int .i64 gk, .int .i64 go, .bool gm] 70)) (w.heap.size + 1 + 1) 70 [.int .i64 gk, .int .i64 go, .bool gm] := Rec.new' _ _ _ _ (by simp)
 have B0 := hide b0
 have RT := hide rt
 have RF := hide rf
 have RG := hide rg
 have HT := hide hT
 have HP := hide hP
 clear b0 rt rf rg hT hP
 go_enter Tryz.func113, Tryz.ntmps113
 go_wp2_with fail
 refine (implFieldOk_any fk fo _ fm _).mono ?_
 rintro e w1 ⟨rfl, hb1⟩
 have B1 := hide (B0.out.trans (hb1.mono B0.out.size))
 have T1 := hide (RT.out.below hb1 RT.out.lt)
 have F1 := hide (RF.out.below hb1 RF.out.lt)
 have G1 := hide (RG.out.below hb1 RG.out.lt)
 clear hb1 B0 RT RF RG
 cases h1 : fieldOk fk fo (kinCount gs : Nat) with
 | false =>
  have HZ : Hid (R = false) := by show _ = _; rw [HF.out, h1]; rfl
  clear h1
  go_wp2_with fail
  go_ret
  exact ⟨ret_bool HZ.out.symm, B1.out⟩
 | true =>
  have HZ : Hid (R = (fieldOk gk go (kinCount gs : Nat) && sortF gs ⟨fk, fo, fm⟩ ⟨gk, go, gm⟩)) := by show _ = _; rw [HF.out, h1]; rfl
  have H1 := hide h1
  have t0 := T1.out.cell (o := 0) rfl
  have g0 := G1.out.cell (o := 0) rfl
  have g1 := G1.out.cell (o := 1) rfl
  have g2 := G1.out.cell (o := 2) rfl
  clear h1 HF
  go_wp2_with fail
  refine (implFieldOk_any gk go _ gm _).mono ?_
  rintro e w2 ⟨rfl, hb2⟩
  have B2 := hide (B1.out.trans (hb2.mono B1.out.size))
  have T2 := hide (T1.out.below hb2 T1.out.lt)
  have F2 := hide (F1.out.below hb2 F1.out.lt)
  have G2 := hide (G1.out.below hb2 G1.out.lt)
  clear hb2 B1 T1 F1 G1 t0 g0 g1 g2
  cases h2 : fieldOk gk go (kinCount gs : Nat) with
  | false =>
   have HZ' : Hid (R = false) := by show _ = _; rw [HZ.out, h2]; rfl
   clear h2
   go_wp2_with fail
   go_ret
   exact ⟨ret_bool HZ'.out.symm, B2.out⟩
  | true =>
   have HS : Hid (R = sortF gs ⟨fk, fo, fm⟩ ⟨gk, go, gm⟩) := by show _ = _; rw [HZ.out, h2]; rfl
   have H2 := hide h2
   have f0 := F2.out.cell (o := 0) rfl
   have f1 := F2.out.cell (o := 1) rfl
   have g0 := G2.out.cell (o := 0) rfl
   have g1 := G2.out.cell (o := 1) rfl
   have t0 := T2.out.cell (o := 0) rfl
   have t1 := T2.out.cell (o := 1) rfl
   clear h2 HZ
   by_cases e1 : fk = 1
   ·subst e1
    have HZ : Hid (R = ((1 : Int) == gk)) := by show _ = _; rw [HS.out]; simp [sortF]
    go_wp2_with fail
    go_ret
    exact ⟨ret_bool HZ.out.symm, B2.out⟩
   have n1 : (fk == 1) = false := beq_eq_false_iff_ne.2 e1
   by_cases e2 : gk = 1
   ·subst e2
    have HZ : Hid (R = (fk == 1)) := by show _ = _; rw [HS.out]; simp [sortF]
    go_wp2_with fail
    go_ret
    exact ⟨ret_bool (by rw [HZ.out, n1]), B2.out⟩
   have n2 : (gk == 1) = false := beq_eq_false_iff_ne.2 e2
   have r1 := fieldOk_range (by omega) H1.out e1
   have r2 := fieldOk_range (by omega) H2.out e2
   have HU : Hid (R = (under gs fo go && ((fk == 3) || (gk == 2)))) := by
    show _ = _; rw [HS.out]; simp [sortF, e1, e2, Bool.and_comm]
   go_wp2_with fail
   refine (under_any ra rc cb co cc lo hi gs fo go w2 HP.out (HT.out.keep (B2.out.mono hh)) (Nat.le_trans hh B2.out.size) r1.1 (by omega) r2.1 (by omega)).mono ?_
   rintro e w3 ⟨rfl, hb3⟩
   have B3 := hide (B2.out.trans (hb3.mono B2.out.size))
   have F3 := hide (F2.out.below hb3 F2.out.lt)
   have G3 := hide (G2.out.below hb3 G2.out.lt)
   have f0 := F3.out.cell (o := 0) rfl
   have g0 := G3.out.cell (o := 0) rfl
   clear hb3 B2 T2 F2 G2 t0 t1 f1 g1
   cases hu : under gs fo go with
   | false =>
    have HZ : Hid (R = false) := by show _ = _; rw [HU.out, hu]; rfl
    clear hu
    go_wp2_with fail
    go_ret
    exact ⟨ret_bool HZ.out.symm, B3.out⟩
   | true =>
    have HZ : Hid (R = ((fk == 3) || (gk == 2))) := by show _ = _; rw [HU.out, hu]; rfl
    clear hu
    by_cases e3 : fk = 3
    ·subst e3
     go_wp2_with fail
     go_ret
     exact ⟨ret_bool (by rw [HZ.out]; rfl), B3.out⟩
    have n3 : (fk == 3) = false := beq_eq_false_iff_ne.2 e3
    go_wp2_with fail
    go_ret
    exact ⟨ret_bool (by rw [HZ.out, n3]; simp), B3.out⟩
theorem fieldUnder_any (ra : Option Addr) (rc cb co cc lo hi : Nat) (gs : List (List Ty)) (f g : Fd) (w : World) (hP : Parts gs) (hT : TabIn w lo hi ra cb co gs) (hh : hi ≤ w.heap.size) :
  Calls Tryz.prog 113 #[.agg #[.slice ra (kinCount gs) rc, .slice (some ⟨cb, co, none⟩) (kinCount gs) cc], .agg #[.int .i64 f.kind, .int .i64 f.of, .bool f.mt], .agg #[.int .i64 g.kind, .int .i64 g.of, .bool g.mt]] w
   fun e w' => e = .returned (.bool (fieldUnderF gs f g)) ∧ Below w.heap.size w w' := fieldUnder_core ra rc cb co cc lo hi gs f.kind f.of g.kind g.of f.mt g.mt w hP hT hh
def fitsU (gs : List (List Ty)) (f g : Fd) : Bool := if f.mt = g.mt then fieldUnderF gs f g && (!f.mt || fieldUnderF gs g f) else false
set_option maxHeartbeats 1600000 in
theorem tabFits_any (ra : Option Addr) (rc cb co cc lo hi : Nat) (gs : List (List Ty)) (f g : Fd) (w : World) (hP : Parts gs) (hT : TabIn w lo hi ra cb co gs) (hh : hi ≤ w.heap.size) :
  Calls Tryz.prog 101 #[.agg #[.slice ra (kinCount gs) rc, .slice (some ⟨cb, co, none⟩) (kinCount gs) cc], .agg #[.int .i64 f.kind, .int .i64 f.of, .bool f.mt], .agg #[.int .i64 g.kind, .int .i64 g.of, .bool g.mt]] w
   fun e w' => e = .returned (.bool (fitsU gs f g)) ∧ Below w.heap.size w w' := by
 have HF : Hid (fitsU gs f g = if f.mt = g.mt then fieldUnderF gs f g && (!f.mt || fieldUnderF gs g f) else false) := rfl
 have HC := hide (fun w2 (h : Below w.heap.size w w2) => fieldUnder_any ra rc cb co cc lo hi gs f g w2 hP (hT.keep (h.mono hh)) (Nat.le_trans hh h.size))
 have HD := hide (fun w2 (h : Below w.heap.size w w2) => fieldUnder_any ra rc cb co cc lo hi gs g f w2 hP (hT.keep (h.mono hh)) (Nat.le_trans hh h.size))
 generalize fitsU gs f g = R at *
 generalize fieldUnderF gs f g = s1 at *
 generalize fieldUnderF gs g f = s2 at *
 obtain ⟨fk, fo, fm⟩ := f
 obtain ⟨gk, go, gm⟩ := g
 simp only at HF HC HD ⊢
 have b0 := three_new w (.cells #[.slice ra (kinCount gs) rc, .slice (some ⟨cb, co, none⟩) (kinCount gs) cc] 93) (.cells #[.int .i64 fk, .int .i64 fo, .bool fm] 70) (.cells #[.int .i64 gk, .int .i64 go, .bool gm] 70)
 have rt : Rec (((w.alloc (.cells #[.slice ra (kinCount gs) rc, .slice (some ⟨cb, co, none⟩) (kinCount gs) cc] 93)).alloc (.cells #[.int .i64 fk, .int .i64 fo, .bool fm] 70)).alloc (.cells #[.int .i64 gk, .int .i64 go, .bool gm] 70)) w.heap.size 93 [.slice ra (kinCount gs) rc, .slice (some ⟨cb, co, none⟩) (kinCount gs) cc] := ((Rec.new _ _ _).alloc _).alloc _
 have rf : Rec (((w.alloc (.cells #[.slice ra (kinCount gs) rc, .slice (some ⟨cb, co, none⟩) (kinCount gs) cc] 93)).alloc (.cells #[.int .i64 fk, .int .i64 fo, .bool fm] 70)).alloc (.cells #[.int .i64 gk, .int .i64 go, .bool gm] 70)) (w.heap.size + 1) 70 [.int .i64 fk, .int .i64 fo, .bool fm] := (Rec.new' _ _ _ _ (by simp)).alloc _
 have rg : Rec (((w.alloc (.cells #[.slice ra (kinCount gs) rc, .slice (some ⟨cb, co, none⟩) (kinCount gs) cc] 93)).alloc (.cells #[.int .i64 fk, .int .i64 fo, .bool fm] 70)).alloc (.cells #[.int .i64 gk, .int .i64 go, .bool gm] 70)) (w.heap.size + 1 + 1) 70 [.int .i64 gk, .int .i64 go, .bool gm] := Rec.new' _ _ _ _ (by simp)
 have B0 := hide b0
 have RT := hide rt
 have RF := hide rf
 have RG := hide rg
 clear b0 rt rf rg hT hP
 cases fm <;> cases gm
 case false.true | true.false =>
  have HZ : Hid (R = false) := by rw [HF.out]; rfl
  go_enter Tryz.func101, Tryz.ntmps101
  go_wp2_with fail
  go_ret
  exact ⟨ret_bool HZ.out.symm, B0.out⟩
 case false.false =>
  have HZ : Hid (R = s1) := by rw [HF.out]; simp [Hid]
  go_enter Tryz.func101, Tryz.ntmps101
  go_wp2_with fail
  refine (HC.out _ B0.out).mono ?_
  rintro e w1 ⟨rfl, hb1⟩
  have F1 := hide (RF.out.below hb1 RF.out.lt)
  have B1 := hide (B0.out.trans (hb1.mono B0.out.size))
  have c2 := F1.out.cell (o := 2) rfl
  clear hb1 B0 RT RF RG
  cases s1
  all_goals
   go_wp2_with fail
   go_ret
   exact ⟨ret_bool HZ.out.symm, B1.out⟩
 case true.true =>
  have HZ : Hid (R = (s1 && s2)) := by rw [HF.out]; simp [Hid]
  go_enter Tryz.func101, Tryz.ntmps101
  go_wp2_with fail
  refine (HC.out _ B0.out).mono ?_
  rintro e w1 ⟨rfl, hb1⟩
  have T1 := hide (RT.out.below hb1 RT.out.lt)
  have F1 := hide (RF.out.below hb1 RF.out.lt)
  have G1 := hide (RG.out.below hb1 RG.out.lt)
  have B1 := hide (B0.out.trans (hb1.mono B0.out.size))
  have c0 := F1.out.cell (o := 0) rfl
  have c1 := F1.out.cell (o := 1) rfl
  have c2 := F1.out.cell (o := 2) rfl
  have d0 := G1.out.cell (o := 0) rfl
  have d1 := G1.out.cell (o := 1) rfl
  have d2 := G1.out.cell (o := 2) rfl
  have t0 := T1.out.cell (o := 0) rfl
  have t1 := T1.out.cell (o := 1) rfl
  clear hb1 B0 RT RF RG
  cases s1
  ·go_wp2_with fail
   go_ret
   exact ⟨ret_bool (by rw [HZ.out]; rfl), B1.out⟩
  ·go_wp2_with fail
   refine (HD.out _ B1.out).mono ?_
   rintro e w2 ⟨rfl, hb2⟩
   have B2 := hide (B1.out.trans (hb2.mono B1.out.size))
   clear hb2
   go_wp2_with fail
   go_ret
   exact ⟨ret_bool (by rw [HZ.out]; simp), B2.out⟩
def aboveF (gs : List (List Ty)) (a k : Nat) : Bool := allTo (fun i => fitsU gs (fdAt (tyN gs a).fields i) (fdAt (tyN gs (tyN gs a).up.toNat).fields i)) k
def fitsAboveF (gs : List (List Ty)) (a : Nat) : Bool := decide ((tyN gs a).up < 0) || aboveF gs a (tyN gs (tyN gs a).up.toNat).fields.length
set_option maxHeartbeats 3200000 in
set_option maxRecDepth 100000 in
theorem fitsAbove_any (ra : Option Addr) (rc cb co cc lo hi : Nat) (gs : List (List Ty)) (a : Nat) (w : World) (hP : Parts gs) (hT : TabIn w lo hi ra cb co gs) (hh : hi ≤ w.heap.size) (ha : a < kinCount gs)
  (hup : 0 ≤ (tyN gs a).up → (tyN gs (tyN gs a).up.toNat).fields.length ≤ (tyN gs a).fields.length) :
  Calls Tryz.prog 73 #[.agg #[.slice ra (kinCount gs) rc, .slice (some ⟨cb, co, none⟩) (kinCount gs) cc], .int .i64 (a : Int)] w
   fun e w' => e = .returned (.bool (fitsAboveF gs a)) ∧ Below w.heap.size w w' := by
 have m8 := hP.2.1
 have HC := hide (fun f g w2 (h : Below w.heap.size w w2) => tabFits_any ra rc cb co cc lo hi gs f g w2 hP (hT.keep (h.mono hh)) (Nat.le_trans hh h.size))
 obtain ⟨p1, ⟨p2, p3⟩, _⟩ := parts_flat hP ha
 obtain ⟨hR, _, _⟩ := hT
 rcases hR with h0 | ⟨rb, ro, rfl, r1, r2, r3⟩
 ·have := rows_len gs
  rw [h0] at this
  simp at this
  omega
 have hty : ∀ i, i < kinCount gs → TypeAt w lo hi rb (ro + i * 6) (tyN gs i) := fun i hi => by
  have h := (r3 i (by rw [rows_len]; exact hi)).1
  rw [rows_ty gs hi] at h
  exact h
 have HTy := hide hty
 obtain ⟨c0, c1, c2, fa, fc, c3, c4⟩ := hty a ha
 have C4 := hide c4
 have rb5 : rb < w.heap.size := Nat.lt_of_lt_of_le r2 hh
 have i1 : (0 : Int) ≤ (a : Int) := by omega
 have i2 : (a : Int) < (kinCount gs : Int) := by omega
 have HP := hide hP
 have HUp := hide hup
 clear hty r3 c4 hP hup
 by_cases hneg : (tyN gs a).up < 0
 ·have HZ : Hid (fitsAboveF gs a = true) := by show _ = _; simp [fitsAboveF, hneg]
  go_enter Tryz.func73, Tryz.ntmps73
  go_wp2_with fail
  go_ret
  exact ⟨ret_bool HZ.out.symm, ((Below.refl _ _).alloc (Nat.le_refl _) _).alloc (by simp) _⟩
 obtain ⟨m, hm⟩ := Int.eq_ofNat_of_zero_le (show 0 ≤ (tyN gs a).up by omega)
 have hmk : m < kinCount gs := by omega
 have hle := HUp.out (by omega)
 have HZ : Hid (fitsAboveF gs a = allTo (fun i => fitsU gs (fdAt (tyN gs a).fields i) (fdAt (tyN gs m).fields i)) (tyN gs m).fields.length) := by
  show _ = _
  unfold fitsAboveF aboveF
  rw [hm]
  have : decide ((m : Int) < 0) = false := by simp
  rw [this]
  simp
 rw [hm] at hle
 simp only [Int.toNat_natCast] at hle
 obtain ⟨q1, _, _⟩ := parts_flat HP.out hmk
 obtain ⟨d0, d1, d2, ga, gc, d3, d4⟩ := HTy.out m hmk
 have D4 := hide d4
 have m1 : (0 : Int) ≤ (m : Int) := by omega
 have m2 : (m : Int) < (kinCount gs : Int) := by omega
 rw [hm] at c1
 clear HUp HTy d4 hneg p2 p3 hm
 generalize fitsAboveF gs a = R at *
 generalize tyN gs a = s at *
 generalize tyN gs m = t at *
 obtain ⟨sk, su, sl, ss⟩ := s
 obtain ⟨tk, tu, tl, ts⟩ := t
 simp only at c0 c1 c2 c3 C4 d0 d1 d2 d3 D4 p1 q1 hle HZ
 have rt : Rec ((w.alloc (.cells #[.slice (some ⟨rb, ro, none⟩) (kinCount gs) rc, .slice (some ⟨cb, co, none⟩) (kinCount gs) cc] 93)).alloc (.cells #[.int .i64 sk, .int .i64 (m : Int), .bool sl, .slice fa ss.length fc] 76)) w.heap.size 93 [.slice (some ⟨rb, ro, none⟩) (kinCount gs) rc, .slice (some ⟨cb, co, none⟩) (kinCount gs) cc] := (Rec.new _ _ _).alloc _
 have rl : Rec ((w.alloc (.cells #[.slice (some ⟨rb, ro, none⟩) (kinCount gs) rc, .slice (some ⟨cb, co, none⟩) (kinCount gs) cc] 93)).alloc (.cells #[.int .i64 sk, .int .i64 (m : Int), .bool sl, .slice fa ss.length fc] 76)) (w.heap.size + 1) 76 [.int .i64 sk, .int .i64 (m : Int), .bool sl, .slice fa ss.length fc] := Rec.new' _ _ _ _ (by simp)
 have b0 : Below w.heap.size w ((w.alloc (.cells #[.slice (some ⟨rb, ro, none⟩) (kinCount gs) rc, .slice (some ⟨cb, co, none⟩) (kinCount gs) cc] 93)).alloc (.cells #[.int .i64 sk, .int .i64 (m : Int), .bool sl, .slice fa ss.length fc] 76)) := ((Below.refl _ _).alloc (Nat.le_refl _) _).alloc (by simp) _
 have RT := hide rt
 have RL := hide rl
 have B0 := hide b0
 clear rt rl b0
 go_enter Tryz.func73, Tryz.ntmps73
 go_wp2_with fail
 go_loopw [26] (fun i wr => ∃ j : Nat, j ≤ ts.length ∧ i = .int .i64 j ∧ allTo (fun i => fitsU gs (fdAt ss i) (fdAt ts i)) j = true ∧ Below w.heap.size w wr ∧ Rec wr w.heap.size 93 [.slice (some ⟨rb, ro, none⟩) (kinCount gs) rc, .slice (some ⟨cb, co, none⟩) (kinCount gs) cc] ∧ Rec wr (w.heap.size + 1) 76 [.int .i64 sk, .int .i64 (m : Int), .bool sl, .slice fa ss.length fc]) (fun i wr => ts.length - (intOf i).toNat)
 case atStart => exact ⟨0, Nat.zero_le _, rfl, rfl, B0.out, RT.out, RL.out⟩
 case round =>
  clear RT RL B0 c0 c1 c2 c3 d0 d1 d2 d3
  obtain ⟨j, hj, rfl, hA, hb, hrt, hrl⟩ := hrel
  have HA := hide hA
  have HB := hide hb
  have HRT := hide hrt
  have HRL := hide hrl
  have s1 := hb.size
  have s2 := hrl.lt
  clear hA hb hrt hrl
  by_cases hjn : j < ts.length
  ·rcases D4.out with hnil | ⟨b3, off3, rfl, u1, u2, u3⟩
   ·rw [hnil] at hjn; exact absurd hjn (Nat.not_lt_zero _)
   rcases C4.out with hnil | ⟨b2, off2, rfl, t1, t2, t3⟩
   ·exfalso
    have h9 : ss.length = 0 := by rw [hnil]; rfl
    omega
   obtain ⟨x0, x1, x2⟩ := (t3 j (by omega)).same (lo := lo) (hi := hi) (.of_below HB.out hh) t1 t2
   obtain ⟨y0, y1, y2⟩ := (u3 j hjn).same (lo := lo) (hi := hi) (.of_below HB.out hh) u1 u2
   have HA2 : Hid (fitsU gs (fdAt ss j) (fdAt ts j) = false → R = false) := fun h => by rw [HZ.out]; exact allTo_false hjn h
   have HA1 : Hid (fitsU gs (fdAt ss j) (fdAt ts j) = true → allTo (fun i => fitsU gs (fdAt ss i) (fdAt ts i)) (j + 1) = true) := fun h => by
    show (allTo _ j && fitsU gs (fdAt ss j) (fdAt ts j)) = true
    rw [HA.out, h]; rfl
   have HCj := hide (fun w2 (h : Below w.heap.size w w2) => HC.out (fdAt ss j) (fdAt ts j) w2 h)
   generalize fitsU gs (fdAt ss j) (fdAt ts j) = v at HA1 HA2 HCj
   generalize fdAt ss j = f at x0 x1 x2 HCj
   generalize fdAt ts j = g at y0 y1 y2 HCj
   obtain ⟨fk, fo, fm⟩ := f
   obtain ⟨gk, go, gm⟩ := g
   simp only at x0 x1 x2 y0 y1 y2 HCj
   have b4 : b2 < wr.heap.size := by omega
   have j1 : (0 : Int) ≤ (j : Int) := by omega
   have j2 : (j : Int) < (ts.length : Int) := by omega
   have j3 : (j : Int) < (ss.length : Int) := by omega
   have rt1 := HRT.out.alloc (.cells #[.int .i64 gk, .int .i64 go, .bool gm] 70)
   have rl1 := HRL.out.alloc (.cells #[.int .i64 gk, .int .i64 go, .bool gm] 70)
   have rg1 := Rec.new wr 70 [.int .i64 gk, .int .i64 go, .bool gm]
   have bb1 : Below w.heap.size w (wr.alloc (.cells #[.int .i64 gk, .int .i64 go, .bool gm] 70)) := HB.out.alloc s1 _
   have RT1 := hide rt1
   have RL1 := hide rl1
   have BB1 := hide bb1
   have k0 := rt1.cell (o := 0) rfl
   have k1 := rt1.cell (o := 1) rfl
   have k3 := rl1.cell (o := 3) rfl
   have l0 := rg1.cell (o := 0) rfl
   have l1 := rg1.cell (o := 1) rfl
   have l2 := rg1.cell (o := 2) rfl
   have z0 : (wr.alloc (.cells #[.int .i64 gk, .int .i64 go, .bool gm] 70)).cell? ⟨b2, off2 + j * 3, none⟩ = some (.int .i64 fk) := by
    rw [((Below.refl wr.heap.size wr).alloc (Nat.le_refl _) _).cell (by exact b4)]; exact x0
   have z1 : (wr.alloc (.cells #[.int .i64 gk, .int .i64 go, .bool gm] 70)).cell? ⟨b2, off2 + j * 3 + 1, none⟩ = some (.int .i64 fo) := by
    rw [((Below.refl wr.heap.size wr).alloc (Nat.le_refl _) _).cell (by exact b4)]; exact x1
   have z2 : (wr.alloc (.cells #[.int .i64 gk, .int .i64 go, .bool gm] 70)).cell? ⟨b2, off2 + j * 3 + 2, none⟩ = some (.bool fm) := by
    rw [((Below.refl wr.heap.size wr).alloc (Nat.le_refl _) _).cell (by exact b4)]; exact x2
   clear t3 u3 rt1 rl1 rg1 bb1 x0 x1 x2
   go_wp2_with fail
   go_region_held3 (fun w' => (w'.cell? ⟨w.heap.size, 0, none⟩ = some (.slice (some ⟨rb, ro, none⟩) (kinCount gs) rc) ∧ w'.cell? ⟨w.heap.size, 1, none⟩ = some (.slice (some ⟨cb, co, none⟩) (kinCount gs) cc) ∧ w'.cell? ⟨w.heap.size + 1, 3, none⟩ = some (.slice (some ⟨b2, off2, none⟩) ss.length fc)) ∧ (w'.cell? ⟨b2, off2 + j * 3, none⟩ = some (.int .i64 fk) ∧ w'.cell? ⟨b2, off2 + j * 3 + 1, none⟩ = some (.int .i64 fo) ∧ w'.cell? ⟨b2, off2 + j * 3 + 2, none⟩ = some (.bool fm)) ∧ (w'.cell? ⟨wr.heap.size, 0, none⟩ = some (.int .i64 gk) ∧ w'.cell? ⟨wr.heap.size, 1, none⟩ = some (.int .i64 go) ∧ w'.cell? ⟨wr.heap.size, 2, none⟩ = some (.bool gm)))
    (go_keep)
    ((go_at_call 101; refine (HCj.out _ BB1.out.drew).mono ?_; rintro e w2 ⟨rfl, hb2⟩; have qq : ∀ q o v, (wr.alloc (.cells #[.int .i64 gk, .int .i64 go, .bool gm] 70)).cell? ⟨q, o, none⟩ = some v → w2.cell? ⟨q, o, none⟩ = some v := fun q o v hv => (hb2.cell (p := ⟨q, o, none⟩) (cell_lt hv)).trans hv; have e0 := qq _ _ _ k0; have e1 := qq _ _ _ k1; have e3 := qq _ _ _ k3; have f0 := qq _ _ _ z0; have f1 := qq _ _ _ z1; have f2 := qq _ _ _ z2; have g0 := qq _ _ _ l0; have g1 := qq _ _ _ l1; have g2 := qq _ _ _ l2; clear qq))
   have B2 := hide (BB1.out.drew.trans (hb2.mono BB1.out.size))
   have T2 : Hid (Rec w2 w.heap.size 93 [.slice (some ⟨rb, ro, none⟩) (kinCount gs) rc, .slice (some ⟨cb, co, none⟩) (kinCount gs) cc]) := Rec.below (w := (wr.alloc (.cells #[.int .i64 gk, .int .i64 go, .bool gm] 70)).drew) RT1.out hb2 RT1.out.lt
   have L2 : Hid (Rec w2 (w.heap.size + 1) 76 [.int .i64 sk, .int .i64 (m : Int), .bool sl, .slice (some ⟨b2, off2, none⟩) ss.length fc]) := Rec.below (w := (wr.alloc (.cells #[.int .i64 gk, .int .i64 go, .bool gm] 70)).drew) RL1.out hb2 RL1.out.lt
   clear hb2 e0 e1 e3 f0 f1 f2 g0 g1 g2
   cases v with
   | true =>
    go_wp2_with fail
    exact ⟨⟨j + 1, by omega, by go_num, HA1.out (by first | rfl | trivial), B2.out, T2.out, L2.out⟩, by simp [intOf]; omega⟩
   | false =>
    go_wp2_with fail
    go_ret
    exact ⟨ret_bool (HA2.out (by first | rfl | trivial)).symm, B2.out⟩
  ·have hje : Hid (j = ts.length) := Nat.le_antisymm hj (Nat.le_of_not_lt hjn)
   go_wp2_with fail
   go_ret
   exact ⟨ret_bool (by rw [HZ.out, ← hje.out, HA.out]), HB.out⟩
def formN (gs : List (List Ty)) (p : Nat) : Bool := formOk (tyN gs p) (p : Nat) (beg gs (grp gs p + 1) : Nat)
def upN (gs : List (List Ty)) (p : Nat) : Bool :=
 decide ((tyN gs p).up < 0) || (((tyN gs (tyN gs p).up.toNat).kind == (tyN gs p).kind) && (!(tyN gs (tyN gs p).up.toNat).last && decide ((tyN gs (tyN gs p).up.toNat).fields.length ≤ (tyN gs p).fields.length)))
theorem grp_place {gs : List (List Ty)} {p : Nat} (hp : p < kinCount gs) : grp gs p < gs.length ∧ p - beg gs (grp gs p) < (grAt gs (grp gs p)).length ∧ beg gs (grp gs p) + (p - beg gs (grp gs p)) = p := by
 obtain ⟨g1, g2, g3⟩ := grp_spec gs p hp
 refine ⟨g1, ?_, ?_⟩
 ·unfold beg; simp only [countTo] at g3; omega
 ·unfold beg; omega
theorem kr_of {gs : List (List Ty)} {p : Nat} (hp : p < kinCount gs) : krAt (rowsOf gs) p = ⟨tyN gs p, beg gs (grp gs p), beg gs (grp gs p + 1)⟩ := by
 obtain ⟨h1, h2, h3⟩ := grp_place hp
 have h := rows_at (gs := gs) h1 h2
 rw [h3] at h
 rw [h]
 unfold tyN
 rw [flat_at hp]
theorem bool_iff {a b : Bool} (h : a = true ↔ b = true) : a = b := Bool.eq_iff_iff.2 h
theorem wellF_eq {gs : List (List Ty)} {p : Nat} (hp : p < kinCount gs) : wellF (rowsOf gs) p = (formN gs p && upN gs p) := by
 apply bool_iff
 have hk : ∀ q, q < p → (krAt (rowsOf gs) q).t = tyN gs q := fun q hq => rows_ty gs (by omega)
 unfold wellF formN upN formOk okFields fieldsFewF upF
 rw [kr_of hp]
 simp only [Bool.and_eq_true, Bool.or_eq_true, decide_eq_true_eq]
 by_cases hu : 0 ≤ (tyN gs p).up ∧ (tyN gs p).up < (p : Int)
 ·have e := hk (tyN gs p).up.toNat (by omega)
  rw [e]
  generalize tyN gs (tyN gs p).up.toNat = u
  generalize allTo (fun i => fieldOk (fdAt (tyN gs p).fields i).kind (fdAt (tyN gs p).fields i).of ((beg gs (grp gs p + 1) : Nat) : Int)) (tyN gs p).fields.length = A
  generalize tyN gs p = t at *
  constructor
  ·rintro ⟨h1, h2, h3⟩
   split at h1
   ·rename_i hk1
    simp only [decide_eq_true_eq] at h1
    refine ⟨⟨⟨⟨by omega, hu.2⟩, h1⟩, .inl hk1, h2⟩, ?_⟩
    rcases h3 with h3 | ⟨_, h3⟩
    ·omega
    ·exact .inr h3
   ·split at h1
    ·rename_i hk1 hk2
     simp only [decide_eq_true_eq] at h1
     refine ⟨⟨⟨⟨by omega, hu.2⟩, by omega⟩, .inr ⟨hk2, h1⟩, h2⟩, ?_⟩
     rcases h3 with h3 | ⟨_, h3⟩
     ·omega
     ·exact .inr h3
    ·cases h1
  ·rintro ⟨⟨⟨⟨h1, h2⟩, h3⟩, h4, h5⟩, h6⟩
   refine ⟨?_, h5, .inr ⟨hu, ?_⟩⟩
   ·rcases h4 with h4 | ⟨h4, h4'⟩
    ·rw [if_pos h4]; simpa using h3
    ·rw [if_neg (by omega), if_pos h4]; simpa using h4'
   ·rcases h6 with h6 | h6
    ·omega
    ·exact h6
 ·generalize allTo (fun i => fieldOk (fdAt (tyN gs p).fields i).kind (fdAt (tyN gs p).fields i).of ((beg gs (grp gs p + 1) : Nat) : Int)) (tyN gs p).fields.length = A
  generalize tyN gs p = t at *
  constructor
  ·rintro ⟨h1, h2, h3⟩
   have hm1 : t.up = -1 := by
    rcases h3 with h3 | ⟨h3, _⟩
    ·exact h3
    ·exact absurd h3 hu
   split at h1
   ·rename_i hk1
    simp only [decide_eq_true_eq] at h1
    exact ⟨⟨⟨⟨by omega, by omega⟩, h1⟩, .inl hk1, h2⟩, .inl (by omega)⟩
   ·split at h1
    ·rename_i hk1 hk2
     simp only [decide_eq_true_eq] at h1
     exact ⟨⟨⟨⟨by omega, by omega⟩, by omega⟩, .inr ⟨hk2, h1⟩, h2⟩, .inl (by omega)⟩
    ·cases h1
  ·rintro ⟨⟨⟨⟨h1, h2⟩, h3⟩, h4, h5⟩, h6⟩
   refine ⟨?_, h5, .inl (by omega)⟩
   rcases h4 with h4 | ⟨h4, h4'⟩
   ·rw [if_pos h4]; simpa using h3
   ·rw [if_neg (by omega), if_pos h4]; simpa using h4'
theorem parts_of_forms {gs : List (List Ty)} (hf : fewF gs = true) (h : ∀ p, p < kinCount gs → formN gs p = true) : Parts gs := by
 unfold fewF at hf
 simp only [Bool.and_eq_true, decide_eq_true_eq] at hf
 obtain ⟨h4, hs, h8⟩ := hf
 refine ⟨h4, h8, fun x hx => ⟨?_, fun i hi => ?_⟩⟩
 ·have := allTo_true hs x hx
  simpa using this
 ·obtain ⟨g1, g2⟩ := grp_at hx hi
  have e := h _ g1
  unfold formN at e
  rw [g2] at e
  have et : tyN gs (beg gs x + i) = tyAt (grAt gs x) i := by
   unfold tyN
   rw [flat_at g1, g2]
   rw [show beg gs x + i - beg gs x = i by omega]
  rw [et] at e
  exact e
theorem forms_of_parts {gs : List (List Ty)} (hP : Parts gs) : fewF gs = true ∧ ∀ p, p < kinCount gs → formN gs p = true := by
 obtain ⟨h4, h8, h⟩ := hP
 refine ⟨?_, fun p hp => ?_⟩
 ·unfold fewF
  simp only [Bool.and_eq_true, decide_eq_true_eq]
  exact ⟨h4, allTo_of fun x hx => by simpa using (h x hx).1, h8⟩
 ·obtain ⟨g1, g2, g3⟩ := grp_place hp
  have e := (h _ g1).2 _ g2
  unfold formN
  have et : tyN gs p = tyAt (grAt gs (grp gs p)) (p - beg gs (grp gs p)) := by unfold tyN; rw [flat_at hp]
  rw [et]
  have e1 : countTo (grAt gs) (grp gs p) + (p - beg gs (grp gs p)) = p := g3
  rw [e1] at e
  exact e
theorem fieldUnder_sort {gs : List (List Ty)} {f g : Fd} (hf : fieldOk f.kind f.of (kinCount gs : Nat) = true) (hg : fieldOk g.kind g.of (kinCount gs : Nat) = true) : fieldUnderF gs f g = sortF gs f g := by
 unfold fieldUnderF; rw [hf, hg]; rfl
theorem fitsU_eq {gs : List (List Ty)} {f g : Fd} (hf : fieldOk f.kind f.of (kinCount gs : Nat) = true) (hg : fieldOk g.kind g.of (kinCount gs : Nat) = true) : fitsU gs f g = fitsF gs f g := by
 unfold fitsU fitsF; rw [fieldUnder_sort hf hg, fieldUnder_sort hg hf]
def wellAll (gs : List (List Ty)) (k : Nat) : Bool := allTo (wellF (rowsOf gs)) k
def fitsAll (gs : List (List Ty)) (k : Nat) : Bool := allTo (fitsAboveF gs) k
theorem wellAll_parts {gs : List (List Ty)} (hf : fewF gs = true) (hw : wellAll gs (kinCount gs) = true) : Parts gs ∧ ∀ p, p < kinCount gs → upN gs p = true := by
 have h : ∀ p, p < kinCount gs → formN gs p = true ∧ upN gs p = true := fun p hp => by
  have := allTo_true hw p hp
  rw [wellF_eq hp] at this
  simpa using this
 exact ⟨parts_of_forms hf fun p hp => (h p hp).1, fun p hp => (h p hp).2⟩
theorem kinOk_few {gs : List (List Ty)} (h : fewF gs = false) : kinOkF gs = false := by
 cases hp : partsF gs with
 | false => simp [kinOkF, hp]
 | true =>
  have := (forms_of_parts ((partsF_iff gs).1 hp)).1
  rw [h] at this; cases this
theorem kinOk_well {gs : List (List Ty)} (h : wellAll gs (kinCount gs) = false) : kinOkF gs = false := by
 cases hk : kinOkF gs with
 | false => rfl
 | true =>
  exfalso
  unfold kinOkF at hk
  simp only [Bool.and_eq_true] at hk
  obtain ⟨hp, hb⟩ := hk
  have hP := (partsF_iff gs).1 hp
  have : wellAll gs (kinCount gs) = true := allTo_of fun p hp' => by
   rw [wellF_eq hp', (forms_of_parts hP).2 p hp']
   have hbp := allTo_true hb p hp'
   unfold upN
   simp only [Bool.true_and]
   simp only [Bool.or_eq_true, decide_eq_true_eq] at hbp ⊢
   rcases hbp with h1 | h1
   ·exact .inl h1
   ·right
    unfold belowF at h1
    simp only [Bool.and_eq_true, beq_iff_eq] at h1 ⊢
    exact ⟨h1.1.1.1.symm, h1.1.1.2, h1.1.2⟩
  rw [h] at this; cases this
theorem kinOk_fits {gs : List (List Ty)} (hf : fewF gs = true) (hw : wellAll gs (kinCount gs) = true) : kinOkF gs = fitsAll gs (kinCount gs) := by
 obtain ⟨hP, hu⟩ := wellAll_parts hf hw
 unfold kinOkF fitsAll
 rw [(partsF_iff gs).2 hP, Bool.true_and]
 refine allTo_congr fun p hp => ?_
 have hup := hu p hp
 unfold fitsAboveF aboveF
 unfold upN at hup
 by_cases hneg : (tyN gs p).up < 0
 ·simp [hneg]
 ·have e : decide ((tyN gs p).up < 0) = false := by simp [hneg]
  rw [e] at hup ⊢
  simp only [Bool.false_or, Bool.and_eq_true, beq_iff_eq, decide_eq_true_eq] at hup ⊢
  obtain ⟨h1, h2, h3⟩ := hup
  obtain ⟨_, ⟨_, u2⟩, uf⟩ := parts_flat hP hp
  obtain ⟨_, _, vf⟩ := parts_flat hP (p := (tyN gs p).up.toNat) (by omega)
  unfold belowF
  have e1 : ((tyN gs p).kind == (tyN gs (tyN gs p).up.toNat).kind) = true := by simp [h1]
  have e3 : decide ((tyN gs (tyN gs p).up.toNat).fields.length ≤ (tyN gs p).fields.length) = true := by simpa using h3
  rw [e1, h2, e3]
  simp only [Bool.true_and]
  exact allTo_congr fun i hi => (fitsU_eq (uf i (by omega)) (vf i hi)).symm
theorem RowRow.cap {w : World} {lo hi S cap : Nat} {a : Option Addr} {rs : List Kr} (h : RowRow w lo hi S a cap rs) : rs.length ≤ cap := by
 obtain ⟨xs, ho, _⟩ := h
 rcases ho.2 with ⟨hv, h0⟩ | ⟨g, cap', cur, hv, hb, hg, h1, _⟩
 ·simp only [Value.slice.injEq] at hv; omega
 ·simp only [Value.slice.injEq] at hv; omega
theorem kinFlat_cap (a : Option Addr) (cap lo hi : Nat) (gs : List (List Ty)) (w : World) (hn : Few gs) (hx : GroupsIn w lo hi a gs) (hh : hi ≤ w.heap.size) (hl : lo ≤ hi) :
  Calls Tryz.prog 70 #[.slice a gs.length cap] w fun e w' => ∃ na nc, e = .returned (.slice na (kinCount gs) nc) ∧ RowsIn w' lo w'.heap.size na (rowsOf gs) ∧ kinCount gs ≤ nc ∧ Below w.heap.size w w' := by
 refine (kinFlat_core a cap gs.length lo hi (grAt gs) w hn.1 (fun i hi => (hn.2 i hi).1) hh ?_).mono ?_
 ·rcases hx with rfl | ⟨b, off, rfl, h1, h2, h3⟩
  ·exact .inl (Nat.le_refl _)
  ·exact .inr ⟨b, off, rfl, h1, h2, h3⟩
 ·rintro e w' ⟨na, nc, rfl, hT, hb⟩
  have hc := hT.cap
  rw [rowsTo_length] at hc
  exact ⟨na, nc, rfl, hT.rows (Nat.le_trans hh hb.size) (by omega), hc, hb⟩
theorem few_rows {gs : List (List Ty)} (hN : Few gs) : ∀ i, i < (rowsOf gs).length → (krAt (rowsOf gs) i).t.fields.length ≤ 1048576 := by
 intro i hi
 rw [rows_len] at hi
 obtain ⟨g1, g2, g3⟩ := grp_place hi
 have h := rows_at (gs := gs) g1 g2
 rw [g3] at h
 rw [h]
 exact (hN.2 _ g1).2 _ g2
def NotInt (w : World) (r : Nat) : Prop := ∀ o k v, w.cell? ⟨r, o, none⟩ ≠ some (.int k v)
theorem Rec.notInt {w : World} {r : Nat} {T : TypeId} {a d : Option Addr} {b c e f : Nat} (h : Rec w r T [.slice a b c, .slice d e f]) : NotInt w r := by
 intro o k v hc
 unfold Rec at h
 simp only [World.cell?, h] at hc
 match o, hc with
 | 0, hc => simp at hc
 | 1, hc => simp at hc
 | o + 2, hc => simp at hc
theorem cell_other {w : World} {b r o o' : Nat} {v u : Value} (hb : b ≠ r) (h : w.cell? ⟨b, o, none⟩ = some v) : (w.setCell ⟨r, o', none⟩ u).cell? ⟨b, o, none⟩ = some v := by
 rw [World.cell?_setCell_other _ _ _ _ (by intro e; cases e; exact hb rfl)]; exact h
theorem FieldsIn.other {w : World} {lo hi r o : Nat} {a : Option Addr} {fs : List Fd} {u : Value} (h : FieldsIn w lo hi a fs) (hr : NotInt w r) : FieldsIn (w.setCell ⟨r, o, none⟩ u) lo hi a fs := by
 rcases h with rfl | ⟨b, off, e, h1, h2, h3⟩
 ·exact .inl rfl
 ·refine .inr ⟨b, off, e, h1, h2, fun i hi => ?_⟩
  obtain ⟨x, y, z⟩ := h3 i hi
  have hb : b ≠ r := fun e => by subst e; exact hr _ _ _ x
  exact ⟨cell_other hb x, cell_other hb y, cell_other hb z⟩
theorem TypeAt.other {w : World} {lo hi r o b off : Nat} {t : Ty} {u : Value} (h : TypeAt w lo hi b off t) (hr : NotInt w r) : b ≠ r ∧ TypeAt (w.setCell ⟨r, o, none⟩ u) lo hi b off t := by
 obtain ⟨x, y, z, fa, fc, v, f⟩ := h
 have hb : b ≠ r := fun e => by subst e; exact hr _ _ _ x
 exact ⟨hb, cell_other hb x, cell_other hb y, cell_other hb z, fa, fc, cell_other hb v, f.other hr⟩
theorem RowsIn.other {w : World} {lo hi r o : Nat} {a : Option Addr} {rs : List Kr} {u : Value} (h : RowsIn w lo hi a rs) (hr : NotInt w r) : RowsIn (w.setCell ⟨r, o, none⟩ u) lo hi a rs := by
 rcases h with rfl | ⟨b, off, e, h1, h2, h3⟩
 ·exact .inl rfl
 ·refine .inr ⟨b, off, e, h1, h2, fun i hi => ?_⟩
  obtain ⟨x, y, z⟩ := h3 i hi
  obtain ⟨hb, x'⟩ := x.other (o := o) (u := u) hr
  exact ⟨x', cell_other hb y, cell_other hb z⟩
theorem TabIn.other {w : World} {lo hi r o : Nat} {ra : Option Addr} {cb co : Nat} {gs : List (List Ty)} {u : Value} (h : TabIn w lo hi ra cb co gs) (hr : NotInt w r) : TabIn (w.setCell ⟨r, o, none⟩ u) lo hi ra cb co gs := by
 refine ⟨h.1.other hr, h.2.1, fun i hi => ?_⟩
 have x := h.2.2 i hi
 have hb : cb ≠ r := fun e => by subst e; exact hr _ _ _ x
 exact cell_other hb x
def Table (gs : List (List Ty)) (lo : Nat) (e : Ending) (w' : World) : Prop :=
 (kinOkF gs = false ∧ e = .returned (.tuple #[.agg #[.slice none 0 0, .slice none 0 0], .bool false])) ∨
 (kinOkF gs = true ∧ Parts gs ∧ ∃ ra rc cb, e = .returned (.tuple #[.agg #[.slice ra (kinCount gs) rc, .slice (some ⟨cb, 0, none⟩) (kinCount gs) (kinCount gs)], .bool true]) ∧ TabIn w' lo w'.heap.size ra cb 0 gs)
set_option maxHeartbeats 3200000 in
set_option maxRecDepth 100000 in
theorem kinTableOf_any (ga : Option Addr) (gc lo hi : Nat) (gs : List (List Ty)) (w : World) (hN : Few gs) (hl : lo ≤ hi) (hh : hi ≤ w.heap.size) (hx : GroupsIn w lo hi ga gs) (hp : pow10 w) :
  Calls Tryz.prog 52 #[.slice ga gs.length gc] w fun e w' => Table gs lo e w' ∧ Below w.heap.size w w' := by
 have HN := hide hN
 have HX := hide hx
 have Hp := hide hp
 have n2 := kinCount_le hN
 have n1 := hN.1
 clear hN hx hp
 have r0 : Rec (w.alloc (.cells #[.slice none 0 0, .slice none 0 0] 93)) w.heap.size 93 [.slice none 0 0, .slice none 0 0] := Rec.new _ _ _
 have b0 : Below w.heap.size w (w.alloc (.cells #[.slice none 0 0, .slice none 0 0] 93)) := (Below.refl _ _).alloc (Nat.le_refl _) _
 have R0 := hide r0
 have B0 := hide b0
 clear r0 b0
 go_enter Tryz.func52, Tryz.ntmps52
 go_wp2_with fail
 refine (kinFewEnough_any ga gc lo hi gs _ HN.out (HX.out.keep (B0.out.mono hh))).mono ?_
 rintro e w1 ⟨rfl, rfl⟩
 cases hfew : fewF gs with
 | false =>
  have HZ := hide (kinOk_few hfew)
  clear hfew
  have c0 := R0.out.cell (o := 0) rfl
  have c1 := R0.out.cell (o := 1) rfl
  go_wp2_with fail
  refine bodyPost_ret (v := .tuple #[.agg #[.slice none 0 0, .slice none 0 0], .bool false]) (by simp [results, Tryz.results52, go_sem]) rfl ⟨.inl ⟨HZ.out, rfl⟩, B0.out⟩
 | true =>
  have HFew := hide hfew
  have k8 : kinCount gs ≤ 8 := by
   unfold fewF at hfew
   simp only [Bool.and_eq_true, decide_eq_true_eq] at hfew
   exact hfew.2.2
  clear hfew
  go_wp2_with fail
  refine (kinFlat_cap ga gc lo hi gs _ HN.out (HX.out.keep (B0.out.mono hh)) (Nat.le_trans hh B0.out.size) hl).mono ?_
  rintro e w1 ⟨na, nc, rfl, hrows, hnc, hb1⟩
  have HRows := hide hrows
  have R1 := hide (R0.out.below hb1 R0.out.lt)
  have B1 := hide (B0.out.trans (hb1.mono B0.out.size))
  clear hrows hb1 R0 B0
  go_wp2_with fail
  go_loopw [16] (fun i wr => ∃ j : Nat, j ≤ kinCount gs ∧ i = .int .i64 j ∧ wellAll gs j = true ∧ Below w.heap.size w wr ∧ Below w1.heap.size w1 wr ∧ Rec wr w.heap.size 93 [.slice none 0 0, .slice none 0 0]) (fun i wr => kinCount gs - (intOf i).toNat)
  case atStart => exact ⟨0, Nat.zero_le _, rfl, rfl, B1.out, Below.refl _ _, R1.out⟩
  case round =>
   clear B1 R1
   obtain ⟨j, hj, rfl, hA, hb, hbb, hr⟩ := hrel
   have HA := hide hA
   have HB := hide hb
   have HBB := hide hbb
   have HR := hide hr
   have s1 := hb.size
   have s2 := hbb.size
   clear hA hb hbb hr
   by_cases hjn : j < kinCount gs
   ·have hcall := kinWellFormed_any na nc lo w1.heap.size (rowsOf gs) j wr (by rw [rows_len]; omega) (few_rows HN.out) (HRows.out.keep HBB.out) s2 (by rw [rows_len]; exact hjn)
    rw [rows_len] at hcall
    have HCall := hide hcall
    have HA1 : Hid (wellF (rowsOf gs) j = true → wellAll gs (j + 1) = true) := fun h => by
     show (wellAll gs j && wellF (rowsOf gs) j) = true
     rw [HA.out, h]; rfl
    have HA2 : Hid (wellF (rowsOf gs) j = false → kinOkF gs = false) := fun h => kinOk_well (allTo_false hjn h)
    clear hcall
    generalize wellF (rowsOf gs) j = v at HCall HA1 HA2
    go_wp2_with fail
    refine HCall.out.mono ?_
    rintro e w2 ⟨rfl, hb2⟩
    have B2 := hide (HB.out.trans (hb2.mono s1))
    have BB2 := hide (HBB.out.trans (hb2.mono s2))
    have R2 := hide (HR.out.below hb2 HR.out.lt)
    have c0 := R2.out.cell (o := 0) rfl
    have c1 := R2.out.cell (o := 1) rfl
    have f0 := R2.out.frozen 0
    have f1 := R2.out.frozen 1
    clear hb2
    cases v with
    | true =>
     go_wp2_with fail
     exact ⟨⟨j + 1, by omega, by go_num, HA1.out (by first | rfl | trivial), B2.out, BB2.out, R2.out⟩, by simp [intOf]; omega⟩
    | false =>
     have HZ := hide (HA2.out rfl)
     clear HA1 HA2
     go_wp2_with fail
     have RF := (R2.out.set 0 (.slice none 0 0)).set 1 (.slice none 0 0)
     have q0 := RF.cell (o := 0) rfl
     have q1 := RF.cell (o := 1) rfl
     refine bodyPost_ret (v := .tuple #[.agg #[.slice none 0 0, .slice none 0 0], .bool false]) (by simp [results, Tryz.results52, go_sem, q0, q1]) rfl ⟨.inl ⟨HZ.out, rfl⟩, ?_⟩
     exact (B2.out.setCell (Nat.le_refl _) _).setCell (Nat.le_refl _) _
   ·have hje : Hid (j = kinCount gs) := Nat.le_antisymm hj (Nat.le_of_not_lt hjn)
    have hw : wellAll gs (kinCount gs) = true := by rw [← hje.out]; exact HA.out
    have HW := hide hw
    obtain ⟨hP, hU⟩ := wellAll_parts HFew.out hw
    have HP := hide hP
    have HU := hide hU
    have hrows := HRows.out.keep HBB.out
    have HRc : gs.length ≤ 0 ∨ ∃ rb ro, na = some ⟨rb, ro, none⟩ ∧ lo ≤ rb ∧ rb < w1.heap.size ∧ ∀ i, i < kinCount gs → TypeAt wr lo w1.heap.size rb (ro + i * 6) (krAt (rowsOf gs) i).t ∧ wr.cell? ⟨rb, ro + i * 6 + 4, none⟩ = some (.int .i64 ((krAt (rowsOf gs) i).b : Nat)) ∧ wr.cell? ⟨rb, ro + i * 6 + 5, none⟩ = some (.int .i64 ((krAt (rowsOf gs) i).e : Nat)) := by
     rcases hrows with h0 | ⟨rb, ro, e1, e2, e3, e4⟩
     ·left
      have hl0 := rows_len gs
      rw [h0] at hl0
      have hk0 : kinCount gs = 0 := by simpa using hl0.symm
      by_cases hg : 0 < gs.length
      ·have h1 := (hP.2.2 0 hg).1
       have h2 := (grp_at (gs := gs) hg h1).1
       omega
      ·omega
     ·exact .inr ⟨rb, ro, e1, e2, e3, fun i hi => e4 i (by rw [rows_len]; exact hi)⟩
    have hcn := kinCanons_core na nc lo w1.heap.size gs wr hP (pow10_keep Hp.out HB.out) s2 hnc HRc
    have hrlt := HR.out.lt
    obtain ⟨w3s, hw3⟩ : ∃ k, wr.heap.size = k := ⟨_, rfl⟩
    rw [hw3] at hcn s1 s2 hrlt
    have HCan := hide hcn
    clear hw hP hU hrows HRc hcn hw3
    go_wp2_with fail
    refine HCan.out.mono ?_
    rintro e w2 ⟨rfl, hcan, hb2⟩
    have HC2 := hide hcan
    have HR2 := hide (HR.out.below hb2 hrlt)
    have HB2 := hide (HB.out.trans (hb2.mono s1))
    have HBB2 := hide (HBB.out.trans (hb2.mono s2))
    have s3 := hcan.lt
    have s4 := hb2.size
    have tab : TabIn w2 lo w2.heap.size na w3s 0 gs := ⟨(HRows.out.keep HBB2.out).same (fun _ _ _ => rfl) (Nat.le_refl _) HBB2.out.size, s3, fun i hi => by
     rw [Nat.zero_add, hcan.cell hi]
     simp [filledN, hi]⟩
    have HTab := hide tab
    clear hcan hb2 HCan tab HBB HB HR HRows
    have rt : Rec (w2.alloc (.cells #[.slice na (kinCount gs) nc, .slice (some ⟨w3s, 0, none⟩) (kinCount gs) (kinCount gs)] 93)) w2.heap.size 93 [.slice na (kinCount gs) nc, .slice (some ⟨w3s, 0, none⟩) (kinCount gs) (kinCount gs)] := Rec.new _ _ _
    have RT := hide rt
    have RR := hide (HR2.out.alloc (.cells #[.slice na (kinCount gs) nc, .slice (some ⟨w3s, 0, none⟩) (kinCount gs) (kinCount gs)] 93))
    have BT := hide (HB2.out.alloc (by omega) (.cells #[.slice na (kinCount gs) nc, .slice (some ⟨w3s, 0, none⟩) (kinCount gs) (kinCount gs)] 93))
    have BW := hide ((Below.refl w2.heap.size w2).alloc (Nat.le_refl _) (.cells #[.slice na (kinCount gs) nc, .slice (some ⟨w3s, 0, none⟩) (kinCount gs) (kinCount gs)] 93))
    clear rt HR2 HB2
    go_wp2_with fail
    go_loopw [31] (fun i wi => ∃ k : Nat, k ≤ kinCount gs ∧ i = .int .i64 k ∧ fitsAll gs k = true ∧ Below w.heap.size w wi ∧ Below w2.heap.size w2 wi ∧ Rec wi w.heap.size 93 [.slice none 0 0, .slice none 0 0] ∧ Rec wi w2.heap.size 93 [.slice na (kinCount gs) nc, .slice (some ⟨w3s, 0, none⟩) (kinCount gs) (kinCount gs)]) (fun i wi => kinCount gs - (intOf i).toNat)
    case atStart => exact ⟨0, Nat.zero_le _, rfl, rfl, BT.out, BW.out, RR.out, RT.out⟩
    case round =>
     clear BT BW RR RT
     obtain ⟨k, hk, rfl, hA', hb, hbb, hr, ht⟩ := hrel
     have HA' := hide hA'
     have HB := hide hb
     have HBB := hide hbb
     have HR := hide hr
     have HT := hide ht
     have s5 := hb.size
     have s6 := hbb.size
     have t0 := ht.cell (o := 0) rfl
     have t1 := ht.cell (o := 1) rfl
     have c0 := hr.cell (o := 0) rfl
     have c1 := hr.cell (o := 1) rfl
     have f0 := hr.frozen 0
     have f1 := hr.frozen 1
     clear hA' hb hbb hr ht
     by_cases hkn : k < kinCount gs
     ·have hcall := fitsAbove_any na nc w3s 0 (kinCount gs) lo w2.heap.size gs k wr HP.out (HTab.out.keep HBB.out) s6 hkn (fun h0 => by
       have hu := HU.out k hkn
       unfold upN at hu
       have e : decide ((tyN gs k).up < 0) = false := by simp; omega
       rw [e] at hu
       simp only [Bool.false_or, Bool.and_eq_true, decide_eq_true_eq] at hu
       exact hu.2.2)
      have HCall := hide hcall
      have HA1 : Hid (fitsAboveF gs k = true → fitsAll gs (k + 1) = true) := fun h => by
       show (fitsAll gs k && fitsAboveF gs k) = true
       rw [HA'.out, h]; rfl
      have HA2 : Hid (fitsAboveF gs k = false → kinOkF gs = false) := fun h => by rw [kinOk_fits HFew.out HW.out]; exact allTo_false hkn h
      clear hcall
      generalize fitsAboveF gs k = v at HCall HA1 HA2
      go_wp2_with fail
      refine HCall.out.mono ?_
      rintro e w3 ⟨rfl, hb3⟩
      have B3 := hide (HB.out.trans (hb3.mono s5))
      have BB3 := hide (HBB.out.trans (hb3.mono s6))
      have R3 := hide (HR.out.below hb3 HR.out.lt)
      have T3 := hide (HT.out.below hb3 HT.out.lt)
      have c0 := R3.out.cell (o := 0) rfl
      have c1 := R3.out.cell (o := 1) rfl
      have f0 := R3.out.frozen 0
      have f1 := R3.out.frozen 1
      clear hb3
      cases v with
      | true =>
       go_wp2_with fail
       exact ⟨⟨k + 1, by omega, by go_num, HA1.out (by first | rfl | trivial), B3.out, BB3.out, R3.out, T3.out⟩, by simp [intOf]; omega⟩
      | false =>
       have HZ := hide (HA2.out rfl)
       clear HA1 HA2
       go_wp2_with fail
       have RF := (R3.out.set 0 (.slice none 0 0)).set 1 (.slice none 0 0)
       have q0 := RF.cell (o := 0) rfl
       have q1 := RF.cell (o := 1) rfl
       refine bodyPost_ret (v := .tuple #[.agg #[.slice none 0 0, .slice none 0 0], .bool false]) (by simp [results, Tryz.results52, go_sem, q0, q1]) rfl ⟨.inl ⟨HZ.out, rfl⟩, ?_⟩
       exact (B3.out.setCell (Nat.le_refl _) _).setCell (Nat.le_refl _) _
     ·have hke : Hid (k = kinCount gs) := Nat.le_antisymm hk (Nat.le_of_not_lt hkn)
      have HZ : Hid (kinOkF gs = true) := by show _ = _; rw [kinOk_fits HFew.out HW.out, ← hke.out]; exact HA'.out
      go_wp2_with fail
      have RF := (HR.out.set 0 (.slice na (kinCount gs) nc)).set 1 (.slice (some ⟨w3s, 0, none⟩) (kinCount gs) (kinCount gs))
      have q0 := RF.cell (o := 0) rfl
      have q1 := RF.cell (o := 1) rfl
      have bfin := (HB.out.setCell (p := ⟨w.heap.size, 0, none⟩) (Nat.le_refl _) (.slice na (kinCount gs) nc)).setCell (p := ⟨w.heap.size, 1, none⟩) (Nat.le_refl _) (.slice (some ⟨w3s, 0, none⟩) (kinCount gs) (kinCount gs))
      have tb : TabIn wr lo wr.heap.size na w3s 0 gs := (HTab.out.keep HBB.out).wide (Nat.le_refl _) s6
      have tb1 := tb.other (o := 0) (u := .slice na (kinCount gs) nc) HR.out.notInt
      have tb2 := tb1.other (o := 1) (u := .slice (some ⟨w3s, 0, none⟩) (kinCount gs) (kinCount gs)) (HR.out.set 0 (.slice na (kinCount gs) nc)).notInt
      refine bodyPost_ret (v := .tuple #[.agg #[.slice na (kinCount gs) nc, .slice (some ⟨w3s, 0, none⟩) (kinCount gs) (kinCount gs)], .bool true]) (by simp [results, Tryz.results52, go_sem, q0, q1]) rfl ⟨.inr ⟨HZ.out, HP.out, na, nc, w3s, rfl, ?_⟩, bfin⟩
      exact tb2.wide (Nat.le_refl _) (by simp)
theorem kinTableOf_ok (ga : Option Addr) (gc lo hi : Nat) (gs : List (List Ty)) (w : World) (hN : Few gs) (hl : lo ≤ hi) (hh : hi ≤ w.heap.size) (hx : GroupsIn w lo hi ga gs) (hp : pow10 w) (hk : kinOkF gs = true) :
  Calls Tryz.prog 52 #[.slice ga gs.length gc] w fun e w' => ∃ ra rc cb, e = .returned (.tuple #[.agg #[.slice ra (kinCount gs) rc, .slice (some ⟨cb, 0, none⟩) (kinCount gs) (kinCount gs)], .bool true]) ∧ TabIn w' lo w'.heap.size ra cb 0 gs ∧ Below w.heap.size w w' := by
 refine (kinTableOf_any ga gc lo hi gs w hN hl hh hx hp).mono ?_
 rintro e w' ⟨⟨h1, _⟩ | ⟨_, _, ra, rc, cb, rfl, ht⟩, hb⟩
 ·rw [hk] at h1; cases h1
 ·exact ⟨ra, rc, cb, rfl, ht, hb⟩
theorem kinTableOf_no (ga : Option Addr) (gc lo hi : Nat) (gs : List (List Ty)) (w : World) (hN : Few gs) (hl : lo ≤ hi) (hh : hi ≤ w.heap.size) (hx : GroupsIn w lo hi ga gs) (hp : pow10 w) (hk : kinOkF gs = false) :
  Calls Tryz.prog 52 #[.slice ga gs.length gc] w fun e w' => e = .returned (.tuple #[.agg #[.slice none 0 0, .slice none 0 0], .bool false]) ∧ Below w.heap.size w w' := by
 refine (kinTableOf_any ga gc lo hi gs w hN hl hh hx hp).mono ?_
 rintro e w' ⟨⟨_, h1⟩ | ⟨h1, _⟩, hb⟩
 ·exact ⟨h1, hb⟩
 ·rw [hk] at h1; cases h1
theorem kinOk_parts {gs : List (List Ty)} (h : kinOkF gs = true) : Parts gs := by
 unfold kinOkF at h
 simp only [Bool.and_eq_true] at h
 exact (partsF_iff gs).1 h.1
def isTypeF (gs : List (List Ty)) (a : Int) : Bool := decide (0 ≤ a) && decide (a < (kinCount gs : Int))
def isRefF (gs : List (List Ty)) (a : Int) : Bool := decide (-2 ≤ a) && decide (a < (kinCount gs : Int))
set_option maxHeartbeats 400000 in
theorem isType_any (ra ca : Option Addr) (rc cc : Nat) (gs : List (List Ty)) (a : Int) (w : World) (hn : kinCount gs ≤ 1099511627776) :
  Calls Tryz.prog 107 #[.agg #[.slice ra (kinCount gs) rc, .slice ca (kinCount gs) cc], .int .i64 a] w fun e w' => e = .returned (.bool (isTypeF gs a)) ∧ Below w.heap.size w w' := by
 by_cases h : 0 ≤ a
 ·have d : decide (0 ≤ a) = true := by simpa using h
  go_enter Tryz.func107, Tryz.ntmps107
  go_wp2_with fail
  go_ret
  exact ⟨ret_bool (by unfold isTypeF; simp [h]), (Below.refl _ _).alloc (Nat.le_refl _) _⟩
 ·have d : decide (0 ≤ a) = false := by simpa using h
  go_enter Tryz.func107, Tryz.ntmps107
  go_wp2_with fail
  go_ret
  exact ⟨ret_bool (by unfold isTypeF; rw [d]; rfl), (Below.refl _ _).alloc (Nat.le_refl _) _⟩
theorem tab_alloc {w : World} {lo hi : Nat} {ra : Option Addr} {cb co : Nat} {gs : List (List Ty)} (h : TabIn w lo hi ra cb co gs) (hh : hi ≤ w.heap.size) (o : Obj) : TabIn (w.alloc o) lo hi ra cb co gs :=
 h.keep (((Below.refl w.heap.size w).alloc (Nat.le_refl _) o).mono hh)
end Go.Proofs.YtembifoimiochaaGreatDoor
