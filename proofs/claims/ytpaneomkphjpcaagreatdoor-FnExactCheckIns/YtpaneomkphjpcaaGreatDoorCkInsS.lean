/- CheckIns of the model. -/
import Derived.Test.YtpaneomkphjpcaaGreatDoorCkNeedB
import Derived.Test.YtpaneomkphjpcaaGreatDoorPcMath
namespace Go.Proofs.YtpaneomkphjpcaaGreatDoor
open Go.ChangeShapes Go.WideShapes Go.ChangeAt Go.RowKit Go.Deep
set_option linter.unusedVariables false
set_option linter.unusedSimpArgs false

set_option maxHeartbeats 8000000 in
set_option maxRecDepth 100000 in
theorem specCheckIns_any {md : Bool} (ra ga fa sa : Option Addr) (rc cg cf sc lo hi lo1 hi1 : Nat) (p : GProg) (f : Int) (st : List Fd) (i : GIns) (w : World) (hB : ProgB 1048576 p) (hx : PM md w lo hi ra ga fa p) (hc : p.types.length ≤ rc) (hl : lo ≤ hi) (hh : hi ≤ w.heap.size)
  (hs : FieldsIn w lo1 hi1 sa st) (hh1 : hi1 ≤ w.heap.size) (hn : st.length ≤ 1048576) (hsc : st.length ≤ sc) :
  Calls Tryz.prog 9 #[.agg #[.slice ra p.types.length rc, .slice ga p.glob.length cg, .slice fa p.funs.length cf], .int .i64 f, .slice sa st.length sc, .agg #[.int .i64 i.op, .int .i64 i.a, .int .i64 i.b]] w fun e w' => InsPost w (ckInsF p f st i) e w' := by
 have HPO := hide (fun W (hb : Below w.heap.size w W) => specProgOk_any ra ga fa rc cg cf lo hi p W hB (hx.keep (hb.mono hh)) hc hl (Nat.le_trans hh hb.size))
 have HKC := hide (fun W (hb : Below w.heap.size w W) => specKinCount_any ra rc lo hi p.types W hB.1 (hx.1.1.keep (hb.mono hh)))
 have HL3 := hide (fun W (hb : Below w.heap.size w W) => l3Sorts_any sa sc lo1 hi1 st (kinCount p.types : Nat) false W hn (hs.keepB (hb.mono hh1)) (Nat.le_trans hh1 hb.size))
 have HDO := hide (fun W (hb : Below w.heap.size w W) (hF : PF p) (k : Nat) (hk : k < p.funs.length) (hio : insOk i.op i.a i.b = true) (h8 : st.length ≤ 8) (hso : ∀ x ∈ st, FOk p.types x) => l4Do_any ra ga fa sa rc cg cf sc lo hi lo1 hi1 k p st i W hF hB (hx.keep (hb.mono hh)) hc hl (Nat.le_trans hh hb.size) hk hio (hs.keepB (hb.mono hh1)) (Nat.le_trans hh1 hb.size) (by omega) hsc hso)
 have hl3 : l3To st (kinCount p.types : Nat) false st.length = sortsTo st (kinCount p.types : Nat) st.length := by rw [l3To_eq]; simp
 rw [hl3] at HL3
 clear hl3
 have HE : Hid (ckInsF p f st i = if ckInsOk p f st i = true then ckDo p f.toNat st i else ([], 7)) := rfl
 have HO : Hid (ckInsOk p f st i = (((progOkF p && (decide (0 ≤ f) && decide (f < (p.funs.length : Int)))) && decide (st.length ≤ 8)) && (sortsTo st (kinCount p.types : Nat) st.length && insOk i.op i.a i.b))) := rfl
 have HSM : Hid (progOkF p = true → insOk i.op i.a i.b = true → 0 ≤ f → f < (p.funs.length : Int) → sortsTo st (kinCount p.types : Nat) st.length = true → l4DoF p f.toNat st i = ckDo p f.toNat st i) := fun h1 h2 h3 h4 h5 => l4Do_same (pf_of h1) (by omega) h2 (fun x hx => (sorts_of h5 x hx).1)
 have HPF : Hid (progOkF p = true → PF p) := pf_of
 have HSO : Hid (sortsTo st (kinCount p.types : Nat) st.length = true → ∀ x ∈ st, FOk p.types x) := fun h x hx => (sorts_of h x hx).1
 clear hB hx hs
 generalize sortsTo st (kinCount p.types : Nat) st.length = so at *
 generalize progOkF p = po at *
 generalize ckInsF p f st i = R at *
 obtain ⟨op, ia, ib⟩ := i
 simp only at *
 have HIO := hide (fun W => specInsOk_any op ia ib W)
 generalize insOk op ia ib = io at *
 obtain ⟨w1, hw1⟩ : ∃ w1, w1 = (w.alloc (.cells #[.slice ra p.types.length rc, .slice ga p.glob.length cg, .slice fa p.funs.length cf] 37)).alloc (.cells #[.int .i64 op, .int .i64 ia, .int .i64 ib] 40) := ⟨_, rfl⟩
 have B1 : Hid (Below w.heap.size w w1) := by show Below _ _ _; rw [hw1]; exact ((Below.refl _ _).alloc (Nat.le_refl _) _).alloc (by simp) _
 have P1 : Hid (Rec w1 w.heap.size 37 [.slice ra p.types.length rc, .slice ga p.glob.length cg, .slice fa p.funs.length cf]) := by show Rec _ _ _ _; rw [hw1]; exact (Rec.new _ _ _).alloc _
 have I1 : Hid (Rec w1 (w.heap.size + 1) 40 [.int .i64 op, .int .i64 ia, .int .i64 ib]) := by show Rec _ _ _ _; rw [hw1]; exact Rec.new' _ _ _ _ (by simp)
 have p0 := P1.out.cell (o := 0) rfl
 have p1 := P1.out.cell (o := 1) rfl
 have p2 := P1.out.cell (o := 2) rfl
 go_enter Tryz.func9, Tryz.ntmps9
 go_upto_region 1 with (fail)
 rw [← hw1]
 clear hw1
 go_wp2_with fail
 refine (HPO.out w1 B1.out).mono ?_
 rintro e w2 ⟨rfl, b2⟩
 have B2 := hide (B1.out.trans (b2.mono B1.out.size))
 have P2 := hide (P1.out.below b2 P1.out.lt)
 have I2 := hide (I1.out.below b2 I1.out.lt)
 clear b2 B1 P1 I1 p0 p1 p2
 have p0 := P2.out.cell (o := 0) rfl
 have p1 := P2.out.cell (o := 1) rfl
 have p2 := P2.out.cell (o := 2) rfl
 cases po with
 | false =>
  have hR : Hid (R = ([], 7)) := by show _ = _; rw [HE.out, HO.out]; rfl
  clear HE HO HSM
  go_wp2_with fail
  rw [hR.out]
  exact bodyPost_ret (results_tmp2 (t := 8) (u := 9) rfl _ _ _) rfl (insPost_no (B2.out.alloc B2.out.size _))
 | true =>
  by_cases hf0 : f < 0
  ·have hR : Hid (R = ([], 7)) := by show _ = _; rw [HE.out, HO.out, decide_eq_false (show ¬ 0 ≤ f by omega)]; rfl
   clear HE HO HSM
   go_wp2_with fail
   rw [hR.out]
   exact bodyPost_ret (results_tmp2 (t := 8) (u := 9) rfl _ _ _) rfl (insPost_no (B2.out.alloc B2.out.size _))
  by_cases hf1 : (p.funs.length : Int) ≤ f
  ·have hR : Hid (R = ([], 7)) := by show _ = _; rw [HE.out, HO.out, decide_eq_false (show ¬ f < (p.funs.length : Int) by omega)]; simp
   clear HE HO HSM
   go_wp2_with fail
   rw [hR.out]
   exact bodyPost_ret (results_tmp2 (t := 8) (u := 9) rfl _ _ _) rfl (insPost_no (B2.out.alloc B2.out.size _))
  by_cases h8 : (8 : Int) < (st.length : Int)
  ·have hR : Hid (R = ([], 7)) := by show _ = _; rw [HE.out, HO.out, decide_eq_false (show ¬ st.length ≤ 8 by omega)]; simp
   clear HE HO HSM
   go_wp2_with fail
   rw [hR.out]
   exact bodyPost_ret (results_tmp2 (t := 8) (u := 9) rfl _ _ _) rfl (insPost_no (B2.out.alloc B2.out.size _))
  go_wp2_with (go_at_call 33; refine (HKC.out _ B2.out).mono ?_; rintro e w2 ⟨rfl, rfl⟩)
  refine (HL3.out w2 B2.out).mono ?_
  rintro e w3 ⟨rfl, b3⟩
  have B3 := hide (B2.out.trans (b3.mono B2.out.size))
  have P3 := hide (P2.out.below b3 P2.out.lt)
  have I3 := hide (I2.out.below b3 I2.out.lt)
  clear b3 B2 P2 I2 p0 p1 p2
  have i0 := I3.out.cell (o := 0) rfl
  have i1 := I3.out.cell (o := 1) rfl
  have i2 := I3.out.cell (o := 2) rfl
  cases so with
  | false =>
   have hR : Hid (R = ([], 7)) := by show _ = _; rw [HE.out, HO.out]; simp
   clear HE HO HSM
   go_wp2_with fail
   rw [hR.out]
   exact bodyPost_ret (results_tmp2 (t := 8) (u := 9) rfl _ _ _) rfl (insPost_no (B3.out.alloc B3.out.size _))
  | true =>
   go_wp2_with fail
   refine (HIO.out w3).mono ?_
   rintro e w4 ⟨rfl, b4⟩
   have B4 := hide (B3.out.trans (b4.mono B3.out.size))
   have P4 := hide (P3.out.below b4 P3.out.lt)
   have I4 := hide (I3.out.below b4 I3.out.lt)
   clear b4 B3 P3 I3 i0 i1 i2
   have p0 := P4.out.cell (o := 0) rfl
   have p1 := P4.out.cell (o := 1) rfl
   have p2 := P4.out.cell (o := 2) rfl
   have i0 := I4.out.cell (o := 0) rfl
   have i1 := I4.out.cell (o := 1) rfl
   have i2 := I4.out.cell (o := 2) rfl
   cases io with
   | false =>
    have hR : Hid (R = ([], 7)) := by show _ = _; rw [HE.out, HO.out]; simp
    clear HE HO HSM
    go_wp2_with fail
    rw [hR.out]
    exact bodyPost_ret (results_tmp2 (t := 8) (u := 9) rfl _ _ _) rfl (insPost_no (B4.out.alloc B4.out.size _))
   | true =>
    have e8 : st.length ≤ 8 := by omega
    have hR : Hid (R = l4DoF p f.toNat st ⟨op, ia, ib⟩) := by
     show _ = _
     rw [HSM.out (by trivial) (by trivial) (by omega) (by omega) (by trivial), HE.out, HO.out, decide_eq_true (show 0 ≤ f by omega), decide_eq_true (show f < (p.funs.length : Int) by omega), decide_eq_true e8]
     rfl
    clear HE HO HSM
    have hfk : ((f.toNat : Nat) : Int) = f := by omega
    have HC := hide (HDO.out w4 B4.out (HPF.out (by trivial)) f.toNat (by omega) (by trivial) e8 (HSO.out (by trivial)))
    rw [hfk] at HC
    obtain ⟨r, hr9⟩ : ∃ r, l4DoF p f.toNat st ⟨op, ia, ib⟩ = r := ⟨_, rfl⟩
    rw [hr9] at HC hR
    clear hr9 hfk
    go_wp2_with fail
    refine HC.out.mono ?_
    rintro e w5 ⟨⟨a, c, rfl, hr⟩, b5⟩
    have HR5 := hide hr
    have B5 := hide (B4.out.trans (b5.mono B4.out.size))
    have s5 := B4.out.size
    clear hr b5
    go_wp2_with fail
    rw [hR.out]
    exact bodyPost_ret (results_tmp2 (t := 8) (u := 9) rfl _ _ _) rfl ⟨a, c, rfl, (HR5.out.lower s5).own, B5.out⟩
end Go.Proofs.YtpaneomkphjpcaaGreatDoor
