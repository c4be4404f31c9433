/- CheckAll of the model. -/
import Derived.Test.YtpaneomkphjpcaaGreatDoorCkFunS
namespace Go.Proofs.YtpaneomkphjpcaaGreatDoor
open Go.ChangeShapes Go.WideShapes Go.ChangeAt Go.RowKit Go.Deep
set_option linter.unusedVariables false
set_option linter.unusedSimpArgs false

set_option maxHeartbeats 4000000 in
set_option maxRecDepth 100000 in
theorem specCheckAll_any {md : Bool} (ra ga fa : Option Addr) (rc cg cf lo hi : Nat) (p : GProg) (w : World) (hB : ProgB 1048576 p) (hx : PM md w lo hi ra ga fa p) (hc : p.types.length ≤ rc) (hl : lo ≤ hi) (hh : hi ≤ w.heap.size) :
 Calls Tryz.prog 26 #[.agg #[.slice ra p.types.length rc, .slice ga p.glob.length cg, .slice fa p.funs.length cf]] w fun e w' => e = .returned (.agg #[.int .i64 (ckAllF p).1, .int .i64 (ckAllF p).2.1, .int .i64 (ckAllF p).2.2]) ∧ Below w.heap.size w w' := by
 have HPO := hide (fun W (hb : Below w.heap.size w W) => specProgOk_any ra ga fa rc cg cf lo hi p W hB (hx.keep (hb.mono hh)) hc hl (Nat.le_trans hh hb.size))
 have HFU := hide (fun W (hb : Below w.heap.size w W) (hF : PF p) (k : Nat) (hk : k < p.funs.length) => l4Fun_any ra ga fa rc cg cf lo hi k p W hF hB (hx.keep (hb.mono hh)) hc hl (Nat.le_trans hh hb.size) hk)
 have HE : Hid (ckAllF p = if progOkF p = true then alF p p.funs.length 0 else (0, 0, 7)) := rfl
 have HPF : Hid (progOkF p = true → PF p) := pf_of
 have HAS : Hid (∀ k, k < p.funs.length → alF p (p.funs.length - k) k = if (funF p k).2 ≠ 0 then ((k : Int), (funF p k).1, (funF p k).2) else alF p (p.funs.length - (k + 1)) (k + 1)) := fun _ h => alF_step h
 have HAE : Hid (alF p (p.funs.length - p.funs.length) p.funs.length = (0, 0, 0)) := alF_end
 clear hB hx
 generalize progOkF p = po at *
 generalize ckAllF p = R at *
 generalize alF p = al at *
 obtain ⟨w1, hw1⟩ : ∃ w1, w1 = (w.alloc (.cells #[.slice ra p.types.length rc, .slice ga p.glob.length cg, .slice fa p.funs.length cf] 37)).alloc (.cells #[.int .i64 0, .int .i64 0, .int .i64 0] 55) := ⟨_, rfl⟩
 have B1 : Hid (Below w.heap.size w w1) := by show Below _ _ _; rw [hw1]; exact ((Below.refl _ _).alloc (Nat.le_refl _) _).alloc (by simp) _
 have P1 : Hid (Rec w1 w.heap.size 37 [.slice ra p.types.length rc, .slice ga p.glob.length cg, .slice fa p.funs.length cf]) := by show Rec _ _ _ _; rw [hw1]; exact (Rec.new _ _ _).alloc _
 have E1 : Hid (Rec w1 (w.heap.size + 1) 55 [.int .i64 0, .int .i64 0, .int .i64 0]) := by show Rec _ _ _ _; rw [hw1]; exact Rec.new' _ _ _ _ (by simp)
 have p0 := P1.out.cell (o := 0) rfl
 have p1 := P1.out.cell (o := 1) rfl
 have p2 := P1.out.cell (o := 2) rfl
 have FIN : Hid (∀ (W : World) (u0 u1 u2 x y z : Int) (HR : Rec W (w.heap.size + 1) 55 [.int .i64 u0, .int .i64 u1, .int .i64 u2]), Rec (((W.setCell ⟨w.heap.size + 1, 0, none⟩ (.int .i64 x)).setCell ⟨w.heap.size + 1, 1, none⟩ (.int .i64 y)).setCell ⟨w.heap.size + 1, 2, none⟩ (.int .i64 z)) (w.heap.size + 1) 55 [.int .i64 x, .int .i64 y, .int .i64 z]) := fun W u0 u1 u2 x y z HR => ((HR.set 0 (.int .i64 x)).set 1 (.int .i64 y)).set 2 (.int .i64 z)
 go_enter Tryz.func26, Tryz.ntmps26
 go_upto_region 1 with (fail)
 rw [← hw1]
 clear hw1
 go_wp2_with fail
 refine (HPO.out w1 B1.out).mono ?_
 rintro e w2 ⟨rfl, b2⟩
 have B2 := hide (B1.out.trans (b2.mono B1.out.size))
 have P2 := hide (P1.out.below b2 (by have := P1.out.lt; omega))
 have E2 := hide (E1.out.below b2 E1.out.lt)
 clear b2 B1 P1 E1 p0 p1 p2
 cases po with
 | false =>
  have hR : Hid (R = (0, 0, 7)) := by show _ = _; rw [HE.out]; rfl
  have e0 := E2.out.cell (o := 0) rfl
  have e1 := E2.out.cell (o := 1) rfl
  have e2 := E2.out.cell (o := 2) rfl
  have f0 := E2.out.frozen 0
  have f1 := E2.out.frozen 1
  have f2 := E2.out.frozen 2
  have hlt := E2.out.lt
  clear HE
  go_wp2_with fail
  rw [hR.out]
  exact bodyPost_ret (rec_res rfl rfl (FIN.out _ _ _ _ 0 0 7 E2.out) Tryz.underlying55 rfl (by kernel_rfl)) rfl ⟨rfl, ((B2.out.setCell (Nat.le_succ _) _).setCell (Nat.le_succ _) _).setCell (Nat.le_succ _) _⟩
 | true =>
  have hR : Hid (R = al p.funs.length 0) := by show _ = _; rw [HE.out]; rfl
  have HF := hide (HPF.out (by trivial))
  have hfl := HF.out.fl
  clear HE HPF
  go_wp2_with fail
  go_loopw [3] (fun v wr => ∃ k : Nat, k ≤ p.funs.length ∧ v = .int .i64 k ∧ al p.funs.length 0 = al (p.funs.length - k) k ∧ Below w.heap.size w wr ∧ Rec wr w.heap.size 37 [.slice ra p.types.length rc, .slice ga p.glob.length cg, .slice fa p.funs.length cf] ∧ Rec wr (w.heap.size + 1) 55 [.int .i64 0, .int .i64 0, .int .i64 0]) (fun v wr => p.funs.length - (intOf v).toNat)
  case atStart => exact ⟨0, Nat.zero_le _, rfl, rfl, B2.out, P2.out, E2.out⟩
  case round =>
   obtain ⟨k, hk, rfl, hj, hb, hp, he⟩ := hrel
   have HJ1 := hide hj
   have B3 := hide hb
   have P3 := hide hp
   have E3 := hide he
   clear hj hb hp he B2 P2 E2
   have p0 := P3.out.cell (o := 0) rfl
   have p1 := P3.out.cell (o := 1) rfl
   have p2 := P3.out.cell (o := 2) rfl
   by_cases hlt : k < p.funs.length
   ·have g1 : (k : Int) < (p.funs.length : Int) := by omega
    have HC := hide (HFU.out wr B3.out HF.out k hlt)
    have HS := hide (HJ1.out.trans (HAS.out k hlt))
    generalize funF p k = r at *
    clear HJ1
    go_wp2_with fail
    refine HC.out.mono ?_
    rintro e w4 ⟨rfl, b4⟩
    have B4 := hide (B3.out.trans (b4.mono B3.out.size))
    have P4 := hide (P3.out.below b4 P3.out.lt)
    have E4 := hide (E3.out.below b4 E3.out.lt)
    clear b4 B3 P3 E3 p0 p1 p2 HC
    by_cases h0 : r.2 = 0
    ·rw [if_neg (fun h => h h0)] at HS
     go_wp2_with fail
     exact ⟨⟨k + 1, by omega, by go_num, HS.out, B4.out, P4.out, E4.out⟩, by simp [intOf]; omega⟩
    ·rw [if_pos h0] at HS
     have e0 := E4.out.cell (o := 0) rfl
     have e1 := E4.out.cell (o := 1) rfl
     have e2 := E4.out.cell (o := 2) rfl
     have f0 := E4.out.frozen 0
     have f1 := E4.out.frozen 1
     have f2 := E4.out.frozen 2
     have hlt4 := E4.out.lt
     go_wp2_with fail
     rw [hR.out, HS.out]
     exact bodyPost_ret (rec_res rfl rfl (FIN.out _ _ _ _ (k : Int) r.1 r.2 E4.out) Tryz.underlying55 rfl (by kernel_rfl)) rfl ⟨rfl, ((B4.out.setCell (Nat.le_succ _) _).setCell (Nat.le_succ _) _).setCell (Nat.le_succ _) _⟩
   ·obtain rfl : k = p.funs.length := by omega
    have hq : ¬ (p.funs.length : Int) < (p.funs.length : Int) := by omega
    have hR2 : Hid (R = (0, 0, 0)) := by show _ = _; rw [hR.out, HJ1.out, HAE.out]
    have e0 := E3.out.cell (o := 0) rfl
    have e1 := E3.out.cell (o := 1) rfl
    have e2 := E3.out.cell (o := 2) rfl
    have f0 := E3.out.frozen 0
    have f1 := E3.out.frozen 1
    have f2 := E3.out.frozen 2
    have hlt4 := E3.out.lt
    go_wp2_with fail
    rw [hR2.out]
    exact bodyPost_ret (rec_res rfl rfl (FIN.out _ _ _ _ 0 0 0 E3.out) Tryz.underlying55 rfl (by kernel_rfl)) rfl ⟨rfl, ((B3.out.setCell (Nat.le_succ _) _).setCell (Nat.le_succ _) _).setCell (Nat.le_succ _) _⟩
end Go.Proofs.YtpaneomkphjpcaaGreatDoor
