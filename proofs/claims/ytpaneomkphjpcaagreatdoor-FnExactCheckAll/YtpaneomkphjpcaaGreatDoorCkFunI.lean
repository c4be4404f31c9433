/- CheckFun of the program. -/
import Derived.Test.YtpaneomkphjpcaaGreatDoorCkSound
import Derived.Test.YtpaneomkphjpcaaGreatDoorPcScp
import Derived.Test.YtpaneomkphjpcaaGreatDoorCkFault
namespace Go.Proofs.YtpaneomkphjpcaaGreatDoor
open Go.ChangeShapes Go.WideShapes Go.ChangeAt Go.RowKit Go.Deep
set_option linter.unusedVariables false
set_option linter.unusedSimpArgs false

theorem jpF_zero {p : GProg} {k : Nat} : ∀ m i, (jpF p k m i).2 = 0 → jpF p k m i = (0, 0)
 | 0, _, _ => rfl
 | m + 1, i, h => by
  unfold jpF at h ⊢
  by_cases e : jpBad p k i = true
  ·rw [if_pos e] at h; exact absurd (show (4 : Int) = 0 from h) (by decide)
  ·rw [if_neg e] at h ⊢; exact jpF_zero m (i + 1) h
theorem funF_zero {p : GProg} {k : Nat} (h : (funF p k).2 = 0) : funF p k = (0, 0) := by
 unfold funF at h ⊢
 by_cases e : (wk p k).2 ≠ 0
 ·rw [if_pos e] at h; exact absurd h e
 rw [if_neg e] at h ⊢
 by_cases e2 : lvF (insAt' (funAt' p.funs k).body ((funAt' p.funs k).body.length - 1)).op = false
 ·rw [if_pos e2] at h; exact absurd (show (6 : Int) = 0 from h) (by decide)
 rw [if_neg e2] at h ⊢
 exact jpF_zero _ _ h
theorem sound_any (lo hi k : Nat) (p : GProg) (sv : List Value) (hF : PF p) (hk : k < p.funs.length) (w : World) (hs : Scp w lo hi p k sv) (hlo : lo ≤ hi) :
 Calls Tryz.prog 79 #[.agg sv.toArray] w fun e w' => (∃ a n c, e = .returned (.tuple #[.slice a n c, resV k (funF p k)])) ∧ Below w.heap.size w w' := callsIn_wide.1 (sound_walk lo hi k p sv hF hk w hs hlo)
/-- The error of a function. -/
def errF (p : GProg) (f : Int) : Value := if (progOkF p && (decide (0 ≤ f) && decide (f < (p.funs.length : Int)))) = true then resV f.toNat (funF p f.toNat) else notOkV

set_option maxHeartbeats 4000000 in
set_option maxRecDepth 100000 in
theorem checkOneFun_any {md : Bool} (ra ga fa : Option Addr) (rc cg cf lo hi : Nat) (p : GProg) (f : Int) (w : World) (hB : ProgB 1048576 p) (hx : PM md w lo hi ra ga fa p) (hl : lo ≤ hi) (hh : hi ≤ w.heap.size) (hp : pow10 w) :
 Calls Tryz.prog 50 #[.agg #[.slice ra p.types.length rc, .slice ga p.glob.length cg, .slice fa p.funs.length cf], .int .i64 f] w fun e w' => e = .returned (errF p f) ∧ Below w.heap.size w w' := by
 have HFS := hide (fun W (hb : Below w.heap.size w W) => checkFunScope_any ra ga fa rc cg cf lo hi p f W hB (hx.keep (hb.mono hh)) hl (Nat.le_trans hh hb.size) (pow10_keep hp hb))
 have HSD := hide (fun W sv lo hi k (hF : PF p) (hk : k < p.funs.length) (hs : Scp W lo hi p k sv) (hlo : lo ≤ hi) => sound_any lo hi k p sv hF hk W hs hlo)
 have HE : Hid (errF p f = if (progOkF p && (decide (0 ≤ f) && decide (f < (p.funs.length : Int)))) = true then resV f.toNat (funF p f.toNat) else notOkV) := rfl
 have HPF : Hid (progOkF p = true → PF p) := pf_of
 have hl2 : lo ≤ w.heap.size := Nat.le_trans hl hh
 clear hB hx hp
 generalize progOkF p = po at *
 generalize errF p f = R at *
 obtain ⟨ZL, hZL⟩ : ∃ z, z = scope0 := ⟨_, rfl⟩
 have hZl : ZL.length = 47 := by rw [hZL]; rfl
 have hZa : ZL.length = scope0.toArray.size := by rw [hZL]; rfl
 obtain ⟨w1, hw1⟩ : ∃ w1, w1 = w.alloc (.cells #[.slice ra p.types.length rc, .slice ga p.glob.length cg, .slice fa p.funs.length cf] 37) := ⟨_, rfl⟩
 have B1 : Hid (Below w.heap.size w w1) := by show Below _ _ _; rw [hw1]; exact (Below.refl _ _).alloc (Nat.le_refl _) _
 have P1 : Hid (Rec w1 w.heap.size 37 [.slice ra p.types.length rc, .slice ga p.glob.length cg, .slice fa p.funs.length cf]) := by show Rec _ _ _ _; rw [hw1]; exact Rec.new _ _ _
 have p0 := P1.out.cell (o := 0) rfl
 have p1 := P1.out.cell (o := 1) rfl
 have p2 := P1.out.cell (o := 2) rfl
 go_enter Tryz.func50, Tryz.ntmps50
 go_upto_region 1 with (fail)
 rw [← hw1]
 clear hw1
 go_wp2_with fail
 refine (HFS.out w1 B1.out).mono ?_
 rintro e w2 ⟨hP, b2⟩
 have B2 := hide (B1.out.trans (b2.mono B1.out.size))
 clear b2 B1 P1 p0 p1 p2 HFS
 have BA := hide (B2.out.alloc B2.out.size (.cells scope0.toArray 94))
 have ZA : Hid (Rec (w2.alloc (.cells scope0.toArray 94)) w2.heap.size 94 ZL) := by show Rec _ _ _ _; rw [hZL]; exact Rec.new _ _ _
 clear hZL
 rcases hP with ⟨hbad, rfl⟩ | ⟨hok, vs, rfl, hsp⟩
 ·have hR : Hid (R = .iface 125 (.agg #[.int .i64 0, .int .i64 0, .int .i64 7])) := by
   show _ = _
   rw [HE.out]
   have e : (po && (decide (0 ≤ f) && decide (f < (p.funs.length : Int)))) = false := by
    rw [Bool.eq_false_iff]
    intro h2
    simp only [Bool.and_eq_true, decide_eq_true_eq] at h2
    exact hbad h2
   rw [e]; rfl
  clear HE hbad
  go_wp2_with (refine wpList_store_rec rfl 94 _ _ rfl w2.heap.size scope0.toArray 94 ZL rfl rfl ZA.out (by kernel_rfl) hZa scope0_one ?_)
  intro w3 r3 k3 s3 b3
  have B3 := hide (BA.out.trans (b3.mono B2.out.size))
  clear r3 k3 s3 b3
  have HN : Hid (notOkV = .iface 125 (.agg #[.int .i64 0, .int .i64 0, .int .i64 7])) := rfl
  rw [HN.out]
  go_wp2_with fail
  go_ret
  exact ⟨by rw [hR.out]; rfl, B3.out⟩
 ·have v1 := hsp.len
  have v2 := hsp.one
  have hsz2 : (Tryz.prog.info? 94).map (·.size) = some vs.toArray.size := by rw [List.size_toArray, v1]; kernel_rfl
  have hsz : (Tryz.prog.info? 94).map (·.size) = some vs.length := by rw [v1]; kernel_rfl
  have hold : ZL.length = vs.toArray.size := by rw [List.size_toArray, v1]; exact hZl
  have HSP := hide hsp
  have hk := hok
  have hR : Hid (R = resV f.toNat (funF p f.toNat)) := by
   show _ = _
   rw [HE.out, hk.1, decide_eq_true hk.2.1, decide_eq_true hk.2.2]
   rfl
  have hF := HPF.out hk.1
  have hkk : f.toNat < p.funs.length := by have := hk.2; omega
  have HSX := hide (fun W (hs : Scp W lo w2.heap.size p f.toNat vs) => HSD.out W vs lo w2.heap.size f.toNat hF hkk hs (Nat.le_trans hl2 B2.out.size))
  rw [← hR.out] at HSX
  clear hsp hok hk HE hF HSD
  go_wp2_with (refine wpList_store_rec rfl 94 _ _ rfl w2.heap.size vs.toArray 94 ZL rfl rfl ZA.out hsz2 hold v2 ?_)
  intro w3 r3 k3 s3 b3
  have B3 := hide (BA.out.trans (b3.mono B2.out.size))
  have G3 : Hid (Rec w3 w2.heap.size 94 vs) := by show Rec _ _ _ _; simpa using r3
  have S3 : Hid (Scp w3 lo w2.heap.size p f.toNat vs) := HSP.out.keep (((Below.refl w2.heap.size w2).alloc (Nat.le_refl _) _).trans b3)
  clear r3 k3 s3 b3 ZA BA B2 HSP
  go_wp2_with (refine wpList_load_rec rfl 94 _ rfl w2.heap.size 94 vs _ rfl G3.out Tryz.underlying94 rfl hsz ?_)
  go_wp2_with fail
  refine (HSX.out w3 S3.out).mono ?_
  rintro e w4 ⟨⟨a, n, c, rfl⟩, b4⟩
  have B4 := hide (B3.out.trans (b4.mono B3.out.size))
  clear b4
  go_wp2_with fail
  go_ret
  exact ⟨rfl, B4.out⟩

set_option maxHeartbeats 4000000 in
set_option maxRecDepth 100000 in
theorem implCheckFun_any {md : Bool} (ra ga fa : Option Addr) (rc cg cf lo hi : Nat) (p : GProg) (f : Int) (w : World) (hB : ProgB 1048576 p) (hx : PM md w lo hi ra ga fa p) (hl : lo ≤ hi) (hh : hi ≤ w.heap.size) (hp : pow10 w) (he : errT w) :
 Calls Tryz.prog 25 #[.agg #[.slice ra p.types.length rc, .slice ga p.glob.length cg, .slice fa p.funs.length cf], .int .i64 f] w fun e w' => e = .returned (.tuple #[.int .i64 (ckFunF p f).1, .int .i64 (ckFunF p f).2]) ∧ Below w.heap.size w w' := by
 have HO := hide (fun W (hb : Below w.heap.size w W) => checkOneFun_any ra ga fa rc cg cf lo hi p f W hB (hx.keep (hb.mono hh)) hl (Nat.le_trans hh hb.size) (pow10_keep hp hb))
 have HE := hide he
 have HER : Hid (∃ x : Int, ∀ W, errT W → Calls Tryz.prog 40 #[errF p f] W fun e w' => e = .returned (.agg #[.int .i64 x, .int .i64 (ckFunF p f).1, .int .i64 (ckFunF p f).2]) ∧ Below W.heap.size W w') := by
  show ∃ x : Int, _
  unfold errF ckFunF
  by_cases h : (progOkF p && (decide (0 ≤ f) && decide (f < (p.funs.length : Int)))) = true
  ·rw [if_pos h, if_pos h]
   by_cases h0 : (funF p f.toNat).2 = 0
   ·rw [funF_zero h0]
    exact ⟨0, fun W _ => by rw [resV_ok]; exact checkFault_nil W⟩
   ·refine ⟨(f.toNat : Int), fun W hW => ?_⟩
    rw [show resV f.toNat (funF p f.toNat) = faultV (f.toNat : Int) (funF p f.toNat).1 (funF p f.toNat).2 from resV_no h0]
    exact checkFault_hit _ _ _ W hW
  ·rw [if_neg h, if_neg h]
   exact ⟨0, fun W hW => checkFault_hit 0 0 7 W hW⟩
 obtain ⟨fx, HFX⟩ := HER.out
 have HFX := hide HFX
 clear HER hB hx hp he
 generalize ckFunF p f = r at *
 generalize errF p f = ev at *
 obtain ⟨r1, r2⟩ := r
 simp only at HFX ⊢
 obtain ⟨w1, hw1⟩ : ∃ w1, w1 = w.alloc (.cells #[.slice ra p.types.length rc, .slice ga p.glob.length cg, .slice fa p.funs.length cf] 37) := ⟨_, rfl⟩
 have B1 : Hid (Below w.heap.size w w1) := by show Below _ _ _; rw [hw1]; exact (Below.refl _ _).alloc (Nat.le_refl _) _
 have P1 : Hid (Rec w1 w.heap.size 37 [.slice ra p.types.length rc, .slice ga p.glob.length cg, .slice fa p.funs.length cf]) := by show Rec _ _ _ _; rw [hw1]; exact Rec.new _ _ _
 have p0 := P1.out.cell (o := 0) rfl
 have p1 := P1.out.cell (o := 1) rfl
 have p2 := P1.out.cell (o := 2) rfl
 go_enter Tryz.func25, Tryz.ntmps25
 go_upto_region 1 with (fail)
 rw [← hw1]
 clear hw1
 go_wp2_with fail
 refine (HO.out w1 B1.out).mono ?_
 rintro e w2 ⟨rfl, b2⟩
 have B2 := hide (B1.out.trans (b2.mono B1.out.size))
 clear b2 B1 P1 p0 p1 p2 HO
 go_wp2_with fail
 refine (HFX.out w2 (errT_keep HE.out B2.out)).mono ?_
 rintro e w3 ⟨rfl, b3⟩
 have B3 := hide (B2.out.trans (b3.mono B2.out.size))
 clear b3
 go_wp2_with fail
 go_region_held3 (fun w' => w'.cell? ⟨w3.heap.size, 1, none⟩ = some (.int .i64 r1) ∧ w'.cell? ⟨w3.heap.size, 2, none⟩ = some (.int .i64 r2)) (go_keep) (fail)
 go_wp2_with fail
 exact bodyPost_ret (results_tmp2 (t := 4) (u := 5) rfl _ _ _) rfl ⟨rfl, Below.drew (B3.out.alloc B3.out.size _)⟩
end Go.Proofs.YtpaneomkphjpcaaGreatDoor
