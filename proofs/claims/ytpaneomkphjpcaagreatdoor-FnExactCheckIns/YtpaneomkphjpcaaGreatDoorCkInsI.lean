/- CheckIns of the program. -/
import Derived.Test.YtpaneomkphjpcaaGreatDoorPcMath
import Derived.Test.YtpaneomkphjpcaaGreatDoorCkFault
namespace Go.Proofs.YtpaneomkphjpcaaGreatDoor
open Go.ChangeShapes Go.WideShapes Go.ChangeAt Go.RowKit Go.Deep
set_option linter.unusedVariables false
set_option linter.unusedSimpArgs false

def OnePost (w : World) (r : List Fd × Int) (e : Ending) (w' : World) : Prop :=
 ((r.2 = 0 ∧ ∃ a c, e = .returned (.tuple #[.slice a r.1.length c, .nilIface]) ∧ FdRow w' w.heap.size (.slice a r.1.length c) r.1) ∨ (r.2 ≠ 0 ∧ r.1 = [] ∧ ∃ k pc : Int, e = .returned (.tuple #[.slice none 0 0, faultV k pc r.2]))) ∧ Below w.heap.size w w'
theorem onePost_no {w w' : World} (hb : Below w.heap.size w w') : OnePost w ([], 7) (.returned (.tuple #[.slice none 0 0, notOkV])) w' := ⟨.inr ⟨by decide, rfl, 0, 0, rfl⟩, hb⟩
theorem nil_of_ite {c : Prop} [Decidable c] {a b : List Fd × Int} (ha : a.2 ≠ 0 → a.1 = []) (hb : b.2 ≠ 0 → b.1 = []) : (if c then a else b).2 ≠ 0 → (if c then a else b).1 = [] := by
 split
 ·exact ha
 ·exact hb
theorem ckDo_nil {p : GProg} {k : Nat} {st : List Fd} {i : GIns} : (ckDo p k st i).2 ≠ 0 → (ckDo p k st i).1 = [] :=
 nil_of_ite (fun _ => rfl) (nil_of_ite (fun _ => rfl) (nil_of_ite (fun _ => rfl) (nil_of_ite (fun _ => rfl) (nil_of_ite (fun _ => rfl) (fun h => absurd rfl h)))))

set_option maxHeartbeats 8000000 in
set_option maxRecDepth 100000 in
theorem checkOneIns_any {md : Bool} (ra ga fa sa : Option Addr) (rc cg cf sc lo hi lo1 hi1 : Nat) (p : GProg) (f : Int) (st : List Fd) (i : GIns) (w : World) (hB : ProgB 1048576 p) (hx : PM md w lo hi ra ga fa p) (hl : lo ≤ hi) (hh : hi ≤ w.heap.size) (hp : pow10 w)
  (hs : FieldsIn w lo1 hi1 sa st) (hh1 : hi1 ≤ w.heap.size) (hn : st.length ≤ 1048576) (hsc : st.length ≤ sc) :
  Calls Tryz.prog 39 #[.agg #[.slice ra p.types.length rc, .slice ga p.glob.length cg, .slice fa p.funs.length cf], .int .i64 f, .slice sa st.length sc, .agg #[.int .i64 i.op, .int .i64 i.a, .int .i64 i.b]] w fun e w' => OnePost w (ckInsF p f st i) e w' := by
 have HFS := hide (fun W (hb : Below w.heap.size w W) => checkFunScope_any ra ga fa rc cg cf lo hi p f W hB (hx.keep (hb.mono hh)) hl (Nat.le_trans hh hb.size) (pow10_keep hp hb))
 have HPS := hide (fun W (hb : Below w.heap.size w W) => progSortsOk_any sa sc lo1 hi1 st 8 (kinCount p.types : Nat) W hn (hs.keepB (hb.mono hh1)) (Nat.le_trans hh1 hb.size))
 have HPB := hide (fun vs (W : World) (hb : Below w.heap.size w W) (k : Nat) (hF : PF p) (hi1' : Nat) (h : Scp W lo hi1' p k vs) (hio : insOk i.op i.a i.b = true) (h8 : st.length ≤ 8) => behind_any vs lo hi1' lo1 hi1 k sc p st sa i 0 W h hF.pa hio (hs.keepB (hb.mono hh1)) (Nat.le_trans hh1 hb.size) hsc (by omega) (Nat.le_trans hl (Nat.le_trans hh hb.size)) (Nat.le_trans (rule_len hF hio).1 (by decide)) (Nat.le_trans (rule_len hF hio).2 (by decide)))
 have HE : Hid (ckInsF p f st i = if ckInsOk p f st i = true then ckDo p f.toNat st i else ([], 7)) := rfl
 have HO : Hid (ckInsOk p f st i = (((progOkF p && (decide (0 ≤ f) && decide (f < (p.funs.length : Int)))) && decide (st.length ≤ 8)) && (sortsTo st (kinCount p.types : Nat) st.length && insOk i.op i.a i.b))) := rfl
 have HPF : Hid (progOkF p = true → PF p) := pf_of
 have HNL : Hid ((ckDo p f.toNat st i).2 ≠ 0 → (ckDo p f.toNat st i).1 = []) := ckDo_nil
 have hkc : ∃ nk : Nat, kinCount p.types = nk := ⟨_, rfl⟩
 have hnk : progOkF p = true → kinCount p.types ≤ 8 := fun h => (pf_of h).pa.2.1
 clear hB hx hs hp
 have HV1 : Hid (∀ b : Bool, (decide ((st.length : Int) ≤ 8) && b) = (decide (st.length ≤ 8) && b)) := fun b => by congr 1; exact decide_eq_decide.2 (by omega)
 rw [HV1.out] at HPS
 obtain ⟨so, hso⟩ : ∃ so, (decide (st.length ≤ 8) && sortsTo st (kinCount p.types : Nat) st.length) = so := ⟨_, rfl⟩
 have HOO : Hid (ckInsOk p f st i = ((progOkF p && (decide (0 ≤ f) && decide (f < (p.funs.length : Int)))) && (so && insOk i.op i.a i.b))) := by
  show _ = _
  rw [HO.out, ← hso]
  cases progOkF p <;> cases (decide (0 ≤ f) && decide (f < (p.funs.length : Int))) <;> cases decide (st.length ≤ 8) <;> cases sortsTo st (kinCount p.types : Nat) st.length <;> cases insOk i.op i.a i.b <;> rfl
 have HS8 : Hid (so = true → st.length ≤ 8) := fun h => by rw [← hso, Bool.and_eq_true] at h; exact of_decide_eq_true h.1
 rw [hso] at HPS
 clear HO HV1 hso
 generalize progOkF p = po at *
 generalize ckInsF p f st i = R at *
 obtain ⟨op, ia, ib⟩ := i
 simp only at *
 have HIO := hide (fun W => implInsOk_any op ia ib W)
 generalize insOk op ia ib = io at *
 obtain ⟨ZL, hZL⟩ : ∃ z, z = scope0 := ⟨_, rfl⟩
 have hZl : ZL.length = 47 := by rw [hZL]; rfl
 have hZa : ZL.length = scope0.toArray.size := by rw [hZL]; rfl
 obtain ⟨w1, hw1⟩ : ∃ w1, w1 = (w.alloc (.cells #[.slice ra p.types.length rc, .slice ga p.glob.length cg, .slice fa p.funs.length cf] 37)).alloc (.cells #[.int .i64 op, .int .i64 ia, .int .i64 ib] 40) := ⟨_, rfl⟩
 have B1 : Hid (Below w.heap.size w w1) := by show Below _ _ _; rw [hw1]; exact ((Below.refl _ _).alloc (Nat.le_refl _) _).alloc (by simp) _
 have P1 : Hid (Rec w1 w.heap.size 37 [.slice ra p.types.length rc, .slice ga p.glob.length cg, .slice fa p.funs.length cf]) := by show Rec _ _ _ _; rw [hw1]; exact (Rec.new _ _ _).alloc _
 have I1 : Hid (Rec w1 (w.heap.size + 1) 40 [.int .i64 op, .int .i64 ia, .int .i64 ib]) := by show Rec _ _ _ _; rw [hw1]; exact Rec.new' _ _ _ _ (by simp)
 have p0 := P1.out.cell (o := 0) rfl
 have p1 := P1.out.cell (o := 1) rfl
 have p2 := P1.out.cell (o := 2) rfl
 go_enter Tryz.func39, Tryz.ntmps39
 go_upto_region 1 with (fail)
 rw [← hw1]
 clear hw1
 go_wp2_with fail
 refine (HFS.out w1 B1.out).mono ?_
 rintro e w2 ⟨hP, b2⟩
 have B2 := hide (B1.out.trans (b2.mono B1.out.size))
 have I2 := hide (I1.out.below b2 I1.out.lt)
 clear b2 B1 P1 I1 p0 p1 p2 HFS
 have BA := hide (B2.out.alloc B2.out.size (.cells scope0.toArray 94))
 have ZA : Hid (Rec (w2.alloc (.cells scope0.toArray 94)) w2.heap.size 94 ZL) := by show Rec _ _ _ _; rw [hZL]; exact Rec.new _ _ _
 have IA := hide (I2.out.alloc (.cells scope0.toArray 94))
 clear hZL
 rcases hP with ⟨hbad, rfl⟩ | ⟨hok, vs, rfl, hsp⟩
 ·have hR : Hid (R = ([], 7)) := by
   show _ = _
   rw [HE.out, HOO.out]
   by_cases h : po = true ∧ 0 ≤ f ∧ f < (p.funs.length : Int)
   ·exact absurd h hbad
   ·have e : (po && (decide (0 ≤ f) && decide (f < (p.funs.length : Int)))) = false := by
     rw [Bool.eq_false_iff]
     intro h2
     simp only [Bool.and_eq_true, decide_eq_true_eq] at h2
     exact h h2
    rw [e]; rfl
  clear HE HOO hbad
  go_wp2_with (refine wpList_store_rec rfl 94 _ _ rfl w2.heap.size scope0.toArray 94 ZL rfl rfl ZA.out (by kernel_rfl) hZa scope0_one ?_)
  intro w3 r3 k3 s3 b3
  have B3 := hide (BA.out.trans (b3.mono B2.out.size))
  clear r3 k3 s3 b3
  have HN : Hid (notOkV = .iface 125 (.agg #[.int .i64 0, .int .i64 0, .int .i64 7])) := rfl
  rw [HN.out]
  go_wp2_with fail
  rw [hR.out]
  exact bodyPost_ret (results_tmp2 (t := 8) (u := 9) rfl _ _ _) rfl (onePost_no B3.out)
 ·have HOK := hide hok
  have v1 := hsp.len
  have v2 := hsp.one
  have hsz2 : (Tryz.prog.info? 94).map (·.size) = some vs.toArray.size := by rw [List.size_toArray, v1]; kernel_rfl
  have hsz : (Tryz.prog.info? 94).map (·.size) = some vs.length := by rw [v1]; kernel_rfl
  have hold : ZL.length = vs.toArray.size := by rw [List.size_toArray, v1]; exact hZl
  obtain ⟨ta, tc, tb, e3, e4, _⟩ := hsp.tab
  have HSP := hide hsp
  have hnk8 := hnk hok.1
  clear hsp hok
  go_wp2_with (refine wpList_store_rec rfl 94 _ _ rfl w2.heap.size vs.toArray 94 ZL rfl rfl ZA.out hsz2 hold v2 ?_)
  intro w3 r3 k3 s3 b3
  have B3 := hide (BA.out.trans (b3.mono B2.out.size))
  have G3 : Hid (Rec w3 w2.heap.size 94 vs) := by show Rec _ _ _ _; simpa using r3
  have i2lt := I2.out.lt
  have I3 : Hid (Rec w3 (w.heap.size + 1) 40 [.int .i64 op, .int .i64 ia, .int .i64 ib]) := (k3 _ (by omega)).trans IA.out
  have S3 : Hid (Scp w3 lo w2.heap.size p f.toNat vs) := HSP.out.keep (((Below.refl w2.heap.size w2).alloc (Nat.le_refl _) _).trans b3)
  have g3 := G3.out.cell e3
  clear r3 k3 s3 b3 ZA IA BA B2 I2 HSP
  generalize kinCount p.types = nk at *
  go_wp2_with fail
  refine (HPS.out w3 B3.out).mono ?_
  rintro e w4 ⟨rfl, b4⟩
  have B4 := hide (B3.out.trans (b4.mono B3.out.size))
  have G4 := hide (G3.out.below b4 G3.out.lt)
  have I4 := hide (I3.out.below b4 I3.out.lt)
  have S4 := hide (S3.out.keepW b4)
  clear b4 B3 G3 I3 S3 g3
  have i0 := I4.out.cell (o := 0) rfl
  have i1 := I4.out.cell (o := 1) rfl
  have i2 := I4.out.cell (o := 2) rfl
  cases so with
  | false =>
   have hR : Hid (R = ([], 7)) := by show _ = _; rw [HE.out, HOO.out]; simp
   clear HE HOO
   go_wp2_with (go_at_call 69; refine (checkNotOk_any w4).mono ?_; rintro e w' ⟨rfl, rfl⟩)
   rw [hR.out]
   exact bodyPost_ret (results_tmp2 (t := 8) (u := 9) rfl _ _ _) rfl (onePost_no B4.out)
  | true =>
   go_wp2_with fail
   refine (HIO.out w4).mono ?_
   rintro e w5 ⟨rfl, b5⟩
   have B5 := hide (B4.out.trans (b5.mono B4.out.size))
   have G5 := hide (G4.out.below b5 G4.out.lt)
   have I5 := hide (I4.out.below b5 I4.out.lt)
   have S5 := hide (S4.out.keepW b5)
   clear b5 B4 G4 I4 S4 i0 i1 i2
   have i0 := I5.out.cell (o := 0) rfl
   have i1 := I5.out.cell (o := 1) rfl
   have i2 := I5.out.cell (o := 2) rfl
   cases io with
   | false =>
    have hR : Hid (R = ([], 7)) := by show _ = _; rw [HE.out, HOO.out]; simp
    clear HE HOO
    go_wp2_with (go_at_call 69; refine (checkNotOk_any w5).mono ?_; rintro e w' ⟨rfl, rfl⟩)
    rw [hR.out]
    exact bodyPost_ret (results_tmp2 (t := 8) (u := 9) rfl _ _ _) rfl (onePost_no B5.out)
   | true =>
    have hk := HOK.out
    have hR : Hid (R = ckDo p f.toNat st ⟨op, ia, ib⟩) := by
     show _ = _
     rw [HE.out, HOO.out, hk.1, decide_eq_true hk.2.1, decide_eq_true hk.2.2]
     rfl
    have HC := hide (HPB.out vs w5 B5.out f.toNat (HPF.out hk.1) _ S5.out (by trivial) (HS8.out (by trivial)))
    clear HE HOO hk
    obtain ⟨r, hr9⟩ : ∃ r, ckDo p f.toNat st ⟨op, ia, ib⟩ = r := ⟨_, rfl⟩
    rw [hr9] at HC HNL hR
    clear hr9
    go_wp2_with (refine wpList_load_rec rfl 94 _ rfl w2.heap.size 94 vs _ rfl G5.out Tryz.underlying94 rfl hsz ?_)
    go_wp2_with fail
    refine HC.out.mono ?_
    rintro e w6 ⟨hq, b6⟩
    have B6 := hide (B5.out.trans (b6.mono B5.out.size))
    have s5 := B5.out.size
    clear b6 HC
    rcases hq with ⟨h0, a, c, rfl, hrow⟩ | ⟨h0, rfl⟩
    ·have HR6 := hide hrow
     clear hrow
     go_wp2_with fail
     rw [hR.out]
     exact bodyPost_ret (results_tmp2 (t := 8) (u := 9) rfl _ _ _) rfl ⟨.inl ⟨h0, a, c, rfl, HR6.out.lower s5⟩, B6.out⟩
    ·unfold faultV
     go_wp2_with fail
     rw [hR.out]
     exact bodyPost_ret (results_tmp2 (t := 8) (u := 9) rfl _ _ _) rfl ⟨.inr ⟨h0, HNL.out h0, _, _, rfl⟩, B6.out⟩

set_option maxHeartbeats 4000000 in
set_option maxRecDepth 100000 in
theorem implCheckIns_any {md : Bool} (ra ga fa sa : Option Addr) (rc cg cf sc lo hi lo1 hi1 : Nat) (p : GProg) (f : Int) (st : List Fd) (i : GIns) (w : World) (hB : ProgB 1048576 p) (hx : PM md w lo hi ra ga fa p) (hl : lo ≤ hi) (hh : hi ≤ w.heap.size) (hp : pow10 w) (he : errT w)
  (hs : FieldsIn w lo1 hi1 sa st) (hh1 : hi1 ≤ w.heap.size) (hn : st.length ≤ 1048576) (hsc : st.length ≤ sc) :
  Calls Tryz.prog 13 #[.agg #[.slice ra p.types.length rc, .slice ga p.glob.length cg, .slice fa p.funs.length cf], .int .i64 f, .slice sa st.length sc, .agg #[.int .i64 i.op, .int .i64 i.a, .int .i64 i.b]] w fun e w' => InsPost w (ckInsF p f st i) e w' := by
 have HO := hide (fun W (hb : Below w.heap.size w W) => checkOneIns_any ra ga fa sa rc cg cf sc lo hi lo1 hi1 p f st i W hB (hx.keep (hb.mono hh)) hl (Nat.le_trans hh hb.size) (pow10_keep hp hb) (hs.keepB (hb.mono hh1)) (Nat.le_trans hh1 hb.size) hn hsc)
 have HE := hide he
 clear hB hx hp hs he
 generalize ckInsF p f st i = r at *
 obtain ⟨op, ia, ib⟩ := i
 simp only at HO ⊢
 obtain ⟨w1, hw1⟩ : ∃ w1, w1 = (w.alloc (.cells #[.slice ra p.types.length rc, .slice ga p.glob.length cg, .slice fa p.funs.length cf] 37)).alloc (.cells #[.int .i64 op, .int .i64 ia, .int .i64 ib] 40) := ⟨_, rfl⟩
 have B1 : Hid (Below w.heap.size w w1) := by show Below _ _ _; rw [hw1]; exact ((Below.refl _ _).alloc (Nat.le_refl _) _).alloc (by simp) _
 have P1 : Hid (Rec w1 w.heap.size 37 [.slice ra p.types.length rc, .slice ga p.glob.length cg, .slice fa p.funs.length cf]) := by show Rec _ _ _ _; rw [hw1]; exact (Rec.new _ _ _).alloc _
 have I1 : Hid (Rec w1 (w.heap.size + 1) 40 [.int .i64 op, .int .i64 ia, .int .i64 ib]) := by show Rec _ _ _ _; rw [hw1]; exact Rec.new' _ _ _ _ (by simp)
 have p0 := P1.out.cell (o := 0) rfl
 have p1 := P1.out.cell (o := 1) rfl
 have p2 := P1.out.cell (o := 2) rfl
 have i0 := I1.out.cell (o := 0) rfl
 have i1 := I1.out.cell (o := 1) rfl
 have i2 := I1.out.cell (o := 2) rfl
 have hfd : ∀ (x y z : Int) (w : World), (Instr.field 55 (.agg #[.int .i64 x, .int .i64 y, .int .i64 z]) 2).run Tryz.prog w = .ok (.int .i64 z) w := fun _ _ _ _ => by kernel_rfl
 go_enter Tryz.func13, Tryz.ntmps13
 go_upto_region 1 with (fail)
 rw [← hw1]
 clear hw1
 go_wp2_with fail
 refine (HO.out w1 B1.out).mono ?_
 rintro e w2 ⟨hq, b2⟩
 have s1 := B1.out.size
 have B2 := hide (B1.out.trans (b2.mono B1.out.size))
 clear b2 B1 P1 I1 p0 p1 p2 i0 i1 i2
 rcases hq with ⟨h0, a, c, rfl, hrow⟩ | ⟨h0, hnil, k, pc, rfl⟩
 ·have HR := hide (hrow.lower s1)
  clear hrow
  go_wp2_with fail
  refine (checkFault_nil w2).mono ?_
  rintro e w3 ⟨rfl, b3⟩
  have B3 := hide (B2.out.trans (b3.mono B2.out.size))
  have HR3 := hide (HR.out.below b3)
  clear b3
  go_wp2_with fail
  have hq : InsPost w r (.returned (.tuple #[.slice a r.1.length c, .int .i64 0])) w3 := ⟨a, c, by rw [h0], HR3.out.own, B3.out⟩
  exact bodyPost_ret (results_tmp2 (t := 8) (u := 9) rfl _ _ _) rfl hq
 ·have HN := hide hnil
  clear hnil
  go_wp2_with fail
  refine (checkFault_hit k pc r.2 w2 (errT_keep HE.out B2.out)).mono ?_
  rintro e w3 ⟨rfl, b3⟩
  have B3 := hide (B2.out.trans (b3.mono B2.out.size))
  clear b3
  go_wp2_with fail
  have hq : InsPost w r (.returned (.tuple #[.slice none 0 0, .int .i64 r.2])) w3 := ⟨none, 0, by rw [HN.out]; rfl, ⟨.inl HN.out, fun _ => .inl (by rw [HN.out]; rfl)⟩, B3.out⟩
  exact bodyPost_ret (results_tmp2 (t := 8) (u := 9) rfl _ _ _) rfl hq
end Go.Proofs.YtpaneomkphjpcaaGreatDoor
