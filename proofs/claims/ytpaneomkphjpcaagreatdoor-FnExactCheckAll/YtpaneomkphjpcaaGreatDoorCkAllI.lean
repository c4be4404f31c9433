/- CheckAll of the program. -/
import Derived.Test.YtpaneomkphjpcaaGreatDoorCkSound
import Derived.Test.YtpaneomkphjpcaaGreatDoorCkFault
namespace Go.Proofs.YtpaneomkphjpcaaGreatDoor
open Go.ChangeShapes Go.WideShapes Go.ChangeAt Go.RowKit Go.Deep
set_option linter.unusedVariables false
set_option linter.unusedSimpArgs false

theorem scopeIn_scp {md : Bool} (a0 a1 a2 ra : Option Addr) (c0 c1 c2 rc cb lo hi hi' k : Nat) (p : GProg) (w : World) (hk : k < p.funs.length) (hB : ProgB 1048576 p) (hx : PM md w lo hi a0 a1 a2 p) (hl : lo ≤ w.heap.size) (hh : hi ≤ w.heap.size) (ht : TabIn w lo hi' ra cb 0 p.types) (hh' : hi' ≤ w.heap.size) :
 Calls Tryz.prog 77 #[.agg (scope1 (.slice a0 p.types.length c0) (.slice a1 p.glob.length c1) (.slice a2 p.funs.length c2) (.slice ra (kinCount p.types) rc) (.slice (some ⟨cb, 0, none⟩) (kinCount p.types) (kinCount p.types))).toArray, .int .i64 (k : Int)] w fun e w' =>
  (∃ vs : List Value, e = .returned (.agg vs.toArray) ∧ Scp w' lo w'.heap.size p k vs) ∧ Below w.heap.size w w' := by
 refine (scopeIn_any a0 a1 a2 ra (some ⟨cb, 0, none⟩) p.types.length c0 p.glob.length c1 c2 (kinCount p.types) rc (kinCount p.types) (kinCount p.types) lo hi k p.funs w hk hB.2.2 hx.2.2 hh).mono ?_
 rintro e w4 ⟨vs, a, cap, p0, p4, p5, q0, q4, q5, rfl, v1, v2, v3, v4, b4, v5, v6, v7⟩
 refine ⟨⟨vs, rfl, ?_⟩, b4⟩
 exact scp_of (lo' := lo) (hi' := hi') (S := lo) (hi := hi) hk v1 v2 v5 (hx.2.1.1.same (Same.of_below (b4.mono hh) (Nat.le_refl _)) (Nat.le_refl _) (Nat.le_refl _)) (hx.2.2.keep (b4.mono hh)) (ht.keep (b4.mono hh')) (v6.same (Same.of_below (b4.mono hh) (Nat.le_refl _)) (Nat.le_refl _) (Nat.le_refl _)) (v7.keep (b4.mono hh)) (v4.lower hl) (Nat.le_trans hh b4.size) (Nat.le_trans hh' b4.size)

def resA (r : Int × Int × Int) : Value := if r.2.2 = 0 then .nilIface else faultV r.1 r.2.1 r.2.2
theorem resA_no {a b c : Int} (h : c ≠ 0) : resA (a, b, c) = faultV a b c := if_neg h
theorem resA_ok {a b : Int} : resA (a, b, 0) = .nilIface := if_pos rfl
def errA (p : GProg) : Value := if progOkF p = true then resA (alF p p.funs.length 0) else notOkV
theorem alF_zero {p : GProg} : ∀ m k, (alF p m k).2.2 = 0 → alF p m k = (0, 0, 0)
 | 0, _, _ => rfl
 | m + 1, k, h => by
  unfold alF at h ⊢
  by_cases e : (funF p k).2 ≠ 0
  ·rw [if_pos e] at h; exact absurd h e
  ·rw [if_neg e] at h ⊢; exact alF_zero m (k + 1) h

set_option maxHeartbeats 4000000 in
set_option maxRecDepth 100000 in
theorem checkAllFuns_any {md : Bool} (ra ga fa : Option Addr) (rc cg cf lo hi : Nat) (p : GProg) (w : World) (hB : ProgB 1048576 p) (hx : PM md w lo hi ra ga fa p) (hl : lo ≤ hi) (hh : hi ≤ w.heap.size) (hp : pow10 w) :
 Calls Tryz.prog 51 #[.agg #[.slice ra p.types.length rc, .slice ga p.glob.length cg, .slice fa p.funs.length cf]] w fun e w' => e = .returned (errA p) ∧ Below w.heap.size w w' := by
 have HPS := hide (fun W (hb : Below w.heap.size w W) => checkProgScope_any ra ga fa rc cg cf lo hi p W hB (hx.keep (hb.mono hh)) hl (Nat.le_trans hh hb.size) (pow10_keep hp hb))
 have HIN := hide (fun W (hb : Below w.heap.size w W) ta tc cb hi' k (hk : k < p.funs.length) (ht : TabIn W lo hi' ta cb 0 p.types) (hh' : hi' ≤ W.heap.size) => scopeIn_scp ra ga fa ta rc cg cf tc cb lo hi hi' k p W hk hB (hx.keep (hb.mono hh)) (Nat.le_trans (Nat.le_trans hl hh) hb.size) (Nat.le_trans hh hb.size) ht hh')
 have HSD := hide (fun W sv k (hF : PF p) (hk : k < p.funs.length) (hs : Scp W lo W.heap.size p k sv) (hlo : lo ≤ W.heap.size) => sound_any lo W.heap.size k p sv hF hk W hs hlo)
 have HE : Hid (errA p = if progOkF p = true then resA (alF p p.funs.length 0) else notOkV) := rfl
 have HPF : Hid (progOkF p = true → PF p) := pf_of
 have HAS : Hid (∀ k, k < p.funs.length → alF p (p.funs.length - k) k = if (funF p k).2 ≠ 0 then ((k : Int), (funF p k).1, (funF p k).2) else alF p (p.funs.length - (k + 1)) (k + 1)) := fun _ h => alF_step h
 have HAE : Hid (alF p (p.funs.length - p.funs.length) p.funs.length = (0, 0, 0)) := alF_end
 have hl2 : lo ≤ w.heap.size := Nat.le_trans hl hh
 clear hB hx hp
 generalize progOkF p = po at *
 generalize errA p = R at *
 generalize alF p = al at *
 obtain ⟨ZL, hZL⟩ : ∃ z, z = scope0 := ⟨_, rfl⟩
 have hZl : ZL.length = 47 := by rw [hZL]; rfl
 have hZa : ZL.length = scope0.toArray.size := by rw [hZL]; rfl
 obtain ⟨w1, hw1⟩ : ∃ w1, w1 = w.alloc (.cells #[.slice ra p.types.length rc, .slice ga p.glob.length cg, .slice fa p.funs.length cf] 37) := ⟨_, rfl⟩
 have B1 : Hid (Below w.heap.size w w1) := by show Below _ _ _; rw [hw1]; exact (Below.refl _ _).alloc (Nat.le_refl _) _
 have P1 : Hid (Rec w1 w.heap.size 37 [.slice ra p.types.length rc, .slice ga p.glob.length cg, .slice fa p.funs.length cf]) := by show Rec _ _ _ _; rw [hw1]; exact Rec.new _ _ _
 have p0 := P1.out.cell (o := 0) rfl
 have p1 := P1.out.cell (o := 1) rfl
 have p2 := P1.out.cell (o := 2) rfl
 go_enter Tryz.func51, Tryz.ntmps51
 go_upto_region 1 with (fail)
 rw [← hw1]
 clear hw1
 go_wp2_with fail
 refine (HPS.out w1 B1.out).mono ?_
 rintro e w2 ⟨hP, b2⟩
 have B2 := hide (B1.out.trans (b2.mono B1.out.size))
 have P2 := hide (P1.out.below b2 P1.out.lt)
 clear b2 B1 P1 p0 p1 p2 HPS
 have BA := hide (B2.out.alloc B2.out.size (.cells scope0.toArray 94))
 have PA := hide (P2.out.alloc (.cells scope0.toArray 94))
 have ZA : Hid (Rec (w2.alloc (.cells scope0.toArray 94)) w2.heap.size 94 ZL) := by show Rec _ _ _ _; rw [hZL]; exact Rec.new _ _ _
 have hpw := P2.out.lt
 clear hZL
 rcases hP with ⟨rfl, rfl⟩ | ⟨rfl, ta, tc, cb, rfl, hTab⟩
 ·have hR : Hid (R = .iface 125 (.agg #[.int .i64 0, .int .i64 0, .int .i64 7])) := by show _ = _; rw [HE.out]; rfl
  clear HE
  go_wp2_with (refine wpList_store_rec rfl 94 _ _ rfl w2.heap.size scope0.toArray 94 ZL rfl rfl ZA.out (by kernel_rfl) hZa scope0_one ?_)
  intro w3 r3 k3 s3 b3
  have B3 := hide (BA.out.trans (b3.mono B2.out.size))
  clear r3 k3 s3 b3
  have HN : Hid (notOkV = .iface 125 (.agg #[.int .i64 0, .int .i64 0, .int .i64 7])) := rfl
  rw [HN.out]
  go_wp2_with fail
  go_ret
  exact ⟨by rw [hR.out]; rfl, B3.out⟩
 ·have hR : Hid (R = resA (al p.funs.length 0)) := by show _ = _; rw [HE.out]; rfl
  have HF := hide (HPF.out rfl)
  have hfl := HF.out.fl
  have TA := hide hTab
  clear HE HPF hTab
  go_wp2_with (refine wpList_store_rec rfl 94 _ _ rfl w2.heap.size (scope1 (.slice ra p.types.length rc) (.slice ga p.glob.length cg) (.slice fa p.funs.length cf) (.slice ta (kinCount p.types) tc) (.slice (some ⟨cb, 0, none⟩) (kinCount p.types) (kinCount p.types))).toArray 94 ZL rfl rfl ZA.out (by kernel_rfl) hZl (scope1_one _ _ _ _ _ _ _ _ _ _ _ _ _ _ _) ?_)
  intro w3 r3 k3 s3 b3
  have T3 := hide (TA.out.keep (((Below.refl w2.heap.size w2).alloc (Nat.le_refl _) (.cells scope0.toArray 94)).trans b3))
  have w23 : w2.heap.size ≤ w3.heap.size := by rw [s3]; simp
  have B3 := hide (BA.out.trans (b3.mono B2.out.size))
  have P3 : Hid (Rec w3 w.heap.size 37 [.slice ra p.types.length rc, .slice ga p.glob.length cg, .slice fa p.funs.length cf]) := (k3 _ (by omega)).trans PA.out
  have C3 : Hid (Rec w3 w2.heap.size 94 (scope1 (.slice ra p.types.length rc) (.slice ga p.glob.length cg) (.slice fa p.funs.length cf) (.slice ta (kinCount p.types) tc) (.slice (some ⟨cb, 0, none⟩) (kinCount p.types) (kinCount p.types)))) := r3
  clear r3 k3 s3 b3 ZA PA BA TA P2
  have p2 := P3.out.cell (o := 2) rfl
  go_wp2_with fail
  go_loopw [19] (fun v wr => ∃ k : Nat, k ≤ p.funs.length ∧ v = .int .i64 k ∧ Hid (al p.funs.length 0 = al (p.funs.length - k) k) ∧ Hid (Below w3.heap.size w3 wr)) (fun v wr => p.funs.length - (intOf v).toNat)
  case atStart => exact ⟨0, Nat.zero_le _, rfl, rfl, Below.refl _ _⟩
  case round =>
   obtain ⟨k, hk, rfl, HJ1, HBr⟩ := hrel
   have B4 := hide (B3.out.trans (HBr.out.mono B3.out.size))
   have C4 := hide (C3.out.below HBr.out C3.out.lt)
   have w24 : w2.heap.size ≤ wr.heap.size := Nat.le_trans w23 HBr.out.size
   have T4 := hide (T3.out.keep (HBr.out.mono w23))
   by_cases hlt : k < p.funs.length
   ·have g1 : (k : Int) < (p.funs.length : Int) := by omega
    have HI := hide (HIN.out wr B4.out ta tc cb w2.heap.size k hlt T4.out w24)
    have HS := hide (HJ1.out.trans (HAS.out k hlt))
    have HSX := hide (fun W sv (hs : Scp W lo W.heap.size p k sv) (hlo : lo ≤ W.heap.size) => HSD.out W sv k HF.out hlt hs hlo)
    clear HJ1 HIN HSD
    generalize funF p k = r at *
    obtain ⟨r1, r2⟩ := r
    simp only at HS
    go_wp2_with (refine wpList_load_rec rfl 94 _ rfl w2.heap.size 94 _ _ rfl C4.out Tryz.underlying94 rfl (by kernel_rfl) ?_)
    go_wp2_with fail
    refine HI.out.mono ?_
    rintro e w5 ⟨⟨vs, rfl, hsc⟩, b5⟩
    have S5 := hide hsc
    have B5 := hide (B4.out.trans (b5.mono B4.out.size))
    have D5 := hide (HBr.out.trans (b5.mono HBr.out.size))
    clear hsc b5
    go_wp2_with fail
    refine (HSX.out w5 vs S5.out (Nat.le_trans hl2 B5.out.size)).mono ?_
    by_cases h0 : r2 = 0
    ·subst h0
     rw [resV_ok]
     rintro e w6 ⟨⟨xa, xn, xc, rfl⟩, b6⟩
     have D6 := hide (D5.out.trans (b6.mono D5.out.size))
     clear b6
     rw [if_neg (fun h => h rfl)] at HS
     go_wp2_with fail
     exact ⟨⟨k + 1, by omega, by go_num, HS, D6⟩, by simp [intOf]; omega⟩
    ·rw [resV_no h0]
     unfold faultV
     rintro e w6 ⟨⟨xa, xn, xc, rfl⟩, b6⟩
     have B6 := hide (B5.out.trans (b6.mono B5.out.size))
     clear b6
     rw [if_pos h0] at HS
     have hR2 : Hid (R = .iface 125 (.agg #[.int .i64 (k : Int), .int .i64 r1, .int .i64 r2])) := by show _ = _; rw [hR.out, HS.out, resA_no h0]; rfl
     go_wp2_with fail
     go_ret
     exact ⟨by rw [hR2.out]; rfl, B6.out⟩
   ·obtain rfl : k = p.funs.length := by omega
    have hq : ¬ (p.funs.length : Int) < (p.funs.length : Int) := by omega
    have hR2 : Hid (R = .nilIface) := by show _ = _; rw [hR.out, HJ1.out, HAE.out, resA_ok]
    go_wp2_with fail
    go_ret
    exact ⟨by rw [hR2.out]; rfl, B4.out⟩

set_option maxHeartbeats 4000000 in
set_option maxRecDepth 100000 in
theorem implCheckAll_any {md : Bool} (ra ga fa : Option Addr) (rc cg cf lo hi : Nat) (p : GProg) (w : World) (hB : ProgB 1048576 p) (hx : PM md w lo hi ra ga fa p) (hl : lo ≤ hi) (hh : hi ≤ w.heap.size) (hp : pow10 w) (he : errT w) :
 Calls Tryz.prog 27 #[.agg #[.slice ra p.types.length rc, .slice ga p.glob.length cg, .slice fa p.funs.length cf]] w fun e w' => e = .returned (.agg #[.int .i64 (ckAllF p).1, .int .i64 (ckAllF p).2.1, .int .i64 (ckAllF p).2.2]) ∧ Below w.heap.size w w' := by
 have HO := hide (fun W (hb : Below w.heap.size w W) => checkAllFuns_any ra ga fa rc cg cf lo hi p W hB (hx.keep (hb.mono hh)) hl (Nat.le_trans hh hb.size) (pow10_keep hp hb))
 have HE := hide he
 have HFX : Hid (∀ W, errT W → Calls Tryz.prog 40 #[errA p] W fun e w' => e = .returned (.agg #[.int .i64 (ckAllF p).1, .int .i64 (ckAllF p).2.1, .int .i64 (ckAllF p).2.2]) ∧ Below W.heap.size W w') := by
  show ∀ W, _
  unfold errA ckAllF
  by_cases h : progOkF p = true
  ·rw [if_pos h, if_pos h]
   by_cases h0 : (alF p p.funs.length 0).2.2 = 0
   ·rw [alF_zero _ _ h0]
    exact fun W _ => by rw [resA_ok]; exact checkFault_nil W
   ·intro W hW
    rw [show resA (alF p p.funs.length 0) = faultV (alF p p.funs.length 0).1 (alF p p.funs.length 0).2.1 (alF p p.funs.length 0).2.2 from resA_no h0]
    exact checkFault_hit _ _ _ W hW
  ·rw [if_neg h, if_neg h]
   exact fun W hW => checkFault_hit 0 0 7 W hW
 clear hB hx hp he
 generalize ckAllF p = r at *
 generalize errA p = ev at *
 obtain ⟨r1, r2, r3⟩ := r
 simp only at HFX ⊢
 obtain ⟨w1, hw1⟩ : ∃ w1, w1 = (w.alloc (.cells #[.slice ra p.types.length rc, .slice ga p.glob.length cg, .slice fa p.funs.length cf] 37)).alloc (.cells #[.int .i64 0, .int .i64 0, .int .i64 0] 55) := ⟨_, rfl⟩
 have B1 : Hid (Below w.heap.size w w1) := by show Below _ _ _; rw [hw1]; exact ((Below.refl _ _).alloc (Nat.le_refl _) _).alloc (by simp) _
 have P1 : Hid (Rec w1 w.heap.size 37 [.slice ra p.types.length rc, .slice ga p.glob.length cg, .slice fa p.funs.length cf]) := by show Rec _ _ _ _; rw [hw1]; exact (Rec.new _ _ _).alloc _
 have E1 : Hid (Rec w1 (w.heap.size + 1) 55 [.int .i64 0, .int .i64 0, .int .i64 0]) := by show Rec _ _ _ _; rw [hw1]; exact Rec.new' _ _ _ _ (by simp)
 have p0 := P1.out.cell (o := 0) rfl
 have p1 := P1.out.cell (o := 1) rfl
 have p2 := P1.out.cell (o := 2) rfl
 go_enter Tryz.func27, Tryz.ntmps27
 go_upto_region 1 with (fail)
 rw [← hw1]
 clear hw1
 go_wp2_with fail
 refine (HO.out w1 B1.out).mono ?_
 rintro e w2 ⟨rfl, b2⟩
 have B2 := hide (B1.out.trans (b2.mono B1.out.size))
 have E2 := hide (E1.out.below b2 E1.out.lt)
 clear b2 B1 P1 E1 p0 p1 p2 HO
 go_wp2_with fail
 refine (HFX.out w2 (errT_keep HE.out B2.out)).mono ?_
 rintro e w3 ⟨rfl, b3⟩
 have B3 := hide (B2.out.trans (b3.mono B2.out.size))
 have E3 := hide (E2.out.below b3 E2.out.lt)
 clear b3
 have e0 := E3.out.cell (o := 0) rfl
 have e1 := E3.out.cell (o := 1) rfl
 have e2 := E3.out.cell (o := 2) rfl
 have f0 := E3.out.frozen 0
 have f1 := E3.out.frozen 1
 have f2 := E3.out.frozen 2
 have hlt := E3.out.lt
 go_wp2_with fail
 exact bodyPost_ret (rec_res rfl rfl (((E3.out.set 0 (.int .i64 r1)).set 1 (.int .i64 r2)).set 2 (.int .i64 r3)) Tryz.underlying55 rfl (by kernel_rfl)) rfl ⟨rfl, ((B3.out.setCell (Nat.le_succ _) _).setCell (Nat.le_succ _) _).setCell (Nat.le_succ _) _⟩
end Go.Proofs.YtpaneomkphjpcaaGreatDoor
