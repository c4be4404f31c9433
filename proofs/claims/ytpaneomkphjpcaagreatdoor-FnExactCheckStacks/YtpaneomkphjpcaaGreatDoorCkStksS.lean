/- CheckStacks of the model. -/
import Derived.Test.YtpaneomkphjpcaaGreatDoorCkStksI
import Derived.Test.YtpaneomkphjpcaaGreatDoorCkSlots0
namespace Go.Proofs.YtpaneomkphjpcaaGreatDoor
open Go.ChangeShapes Go.WideShapes Go.ChangeAt Go.RowKit Go.Deep
set_option linter.unusedVariables false
set_option linter.unusedSimpArgs false
theorem stkPost_no {w w':World} {st:Nat→List Fd×Int} (hb:Below w.heap.size w w'):StkPost (fun _=>True) w st 0 (.returned (.slice (some ⟨w'.heap.size,0,none⟩) 0 0)) (w'.alloc (.cells #[] 31)) :=
 ⟨⟨_,0,[],rfl,rfl,trivial,⟨⟨rfl,.inr ⟨w'.heap.size,0,#[],rfl,hb.size,Deep.blk_alloc_new w' _,Nat.le_refl _,Nat.zero_le _,rfl,rfl⟩⟩,fun u h=>by cases h⟩,Stks.nil _ _ _⟩,hb.alloc hb.size _⟩
set_option maxHeartbeats 4000000 in
set_option maxRecDepth 100000 in
theorem specCheckStacks_any {md:Bool} (ra ga fa:Option Addr) (rc cg cf lo hi:Nat) (p:GProg) (f:Int) (w:World) (hB:ProgB 1048576 p) (hx:PM md w lo hi ra ga fa p) (hc:p.types.length≤rc) (hl:lo≤hi) (hh:hi≤w.heap.size) :
 Calls Tryz.prog 19 #[.agg #[.slice ra p.types.length rc,.slice ga p.glob.length cg,.slice fa p.funs.length cf],.int .i64 f] w fun e w'=>StkPost (fun _=>True) w (stP p f.toNat) (stkN p f) e w':=by
 have HPO:=hide (fun W (hb:Below w.heap.size w W)=>specProgOk_any ra ga fa rc cg cf lo hi p W hB (hx.keep (hb.mono hh)) hc hl (Nat.le_trans hh hb.size))
 have HFU:=hide (fun W (hb:Below w.heap.size w W) (hF:PF p) (k:Nat) (hk:k<p.funs.length)=>l4Walk_any ra ga fa rc cg cf lo hi k p W hF hB (hx.keep (hb.mono hh)) hc hl (Nat.le_trans hh hb.size) hk)
 have HE:Hid (stkN p f=if(progOkF p&&(decide (0≤f)&&decide (f<(p.funs.length:Int))))=true then(wk p f.toNat).1 else 0):=rfl
 have HPF:Hid (progOkF p=true→PF p):=pf_of
 clear hB hx
 generalize progOkF p=po at *
 generalize stkN p f=R at *
 obtain⟨w1,hw1⟩:∃w1,w1=w.alloc (.cells #[.slice ra p.types.length rc,.slice ga p.glob.length cg,.slice fa p.funs.length cf] 37):=⟨_,rfl⟩
 have B1:Hid (Below w.heap.size w w1):=by show Below _ _ _;rw[hw1];exact(Below.refl _ _).alloc (Nat.le_refl _) _
 have P1:Hid (Rec w1 w.heap.size 37 [.slice ra p.types.length rc,.slice ga p.glob.length cg,.slice fa p.funs.length cf]):=by show Rec _ _ _ _;rw[hw1];exact Rec.new _ _ _
 have p0:=P1.out.cell (o:=0) rfl
 have p1:=P1.out.cell (o:=1) rfl
 have p2:=P1.out.cell (o:=2) rfl
 go_enter Tryz.func19,Tryz.ntmps19
 go_upto_region 1 with(fail)
 rw[←hw1]
 clear hw1
 go_wp2_with fail
 refine(HPO.out w1 B1.out).mono ?_
 rintro e w2 ⟨rfl,b2⟩
 have B2:=hide (B1.out.trans (b2.mono B1.out.size))
 have P2:=hide (P1.out.below b2 P1.out.lt)
 clear b2 B1 P1 p0 p1 p2
 have p0:=P2.out.cell (o:=0) rfl
 have p1:=P2.out.cell (o:=1) rfl
 have p2:=P2.out.cell (o:=2) rfl
 cases po with
 | false =>
  have hR:Hid (R=0):=by show _=_;rw[HE.out];rfl
  clear HE
  go_wp2_with fail
  go_ret
  rw[hR.out]
  exact stkPost_no B2.out
 | true =>
  by_cases hf0:f<0
  ·have hR:Hid (R=0):=by show _=_;rw[HE.out,decide_eq_false (show ¬0≤f by omega)];rfl
   clear HE
   go_wp2_with fail
   go_ret
   rw[hR.out]
   exact stkPost_no B2.out
  by_cases hf1:(p.funs.length:Int)≤f
  ·have hR:Hid (R=0):=by show _=_;rw[HE.out,decide_eq_false (show ¬f<(p.funs.length:Int) by omega)];simp
   clear HE
   go_wp2_with fail
   go_ret
   rw[hR.out]
   exact stkPost_no B2.out
  have hR:Hid (R=(wk p f.toNat).1):=by
   show _=_
   rw[HE.out,decide_eq_true (show 0≤f by omega),decide_eq_true (show f<(p.funs.length:Int) by omega)]
   rfl
  have hfk:((f.toNat:Nat):Int)=f:=by omega
  have HC:=hide (HFU.out w2 B2.out (HPF.out (by trivial)) f.toNat (by omega))
  rw[hfk] at HC
  clear HE hfk
  go_wp2_with fail
  refine HC.out.mono ?_
  rintro e w3 ⟨⟨a,c,vs,rfl,hv,hL,hS⟩,b3⟩
  have s2:=B2.out.size
  have HL:=hide (hL.lower s2)
  have HS:=hide (hS.lower s2)
  have B3:=hide (B2.out.trans (b3.mono s2))
  clear b3 hL hS
  go_wp2_with fail
  go_ret
  rw[hR.out]
  exact⟨⟨a,c,vs,rfl,hv,trivial,HL.out,HS.out⟩,B3.out⟩
end Go.Proofs.YtpaneomkphjpcaaGreatDoor
