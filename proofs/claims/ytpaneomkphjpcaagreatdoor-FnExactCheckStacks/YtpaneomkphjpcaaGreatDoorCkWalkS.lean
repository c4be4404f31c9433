/- The walk of a function's instructions, by the model. -/
import Derived.Test.YtpaneomkphjpcaaGreatDoorCkNeedB
import Derived.Test.YtpaneomkphjpcaaGreatDoorCkWalkM
import Derived.Test.YtpaneomkphjpcaaGreatDoorLRow
namespace Go.Proofs.YtpaneomkphjpcaaGreatDoor
open Go.ChangeShapes Go.WideShapes Go.ChangeAt Go.RowKit Go.Deep
set_option linter.unusedVariables false
set_option linter.unusedSimpArgs false
def Stks (w:World) (S:Nat) (st:Nat→List Fd×Int) (vs:List Value):Prop:=∀j,j<vs.length→∃a c,vs[j]?=some (.slice a (st j).1.length c)∧FdRow w S (.slice a (st j).1.length c) (st j).1
theorem Stks.nil (w:World) (S:Nat) (st:Nat→List Fd×Int):Stks w S st []:=fun j h=>absurd h (Nat.not_lt_zero _)
theorem Stks.keepT {w w':World} {S:Nat} {st:Nat→List Fd×Int} {vs:List Value} (h:Stks w S st vs) (hk:KeepT 68 w w'):Stks w' S st vs:=fun j hj=>by
 obtain⟨a,c,h1,h2⟩:=h j hj
 exact⟨a,c,h1,fdRow_keepT h2 hk⟩
theorem Stks.below {w w':World} {S:Nat} {st:Nat→List Fd×Int} {vs:List Value} (h:Stks w S st vs) (hb:Below w.heap.size w w'):Stks w' S st vs:=h.keepT (KeepT.below hb)
theorem Stks.lower {w:World} {S S':Nat} {st:Nat→List Fd×Int} {vs:List Value} (h:Stks w S st vs) (hS:S'≤S):Stks w S' st vs:=fun j hj=>by
 obtain⟨a,c,h1,h2⟩:=h j hj
 exact⟨a,c,h1,h2.lower hS⟩
theorem Stks.snoc {w:World} {S c:Nat} {a:Option Addr} {st:Nat→List Fd×Int} {vs:List Value} (h:Stks w S st vs) (hn:FdRow w S (.slice a (st vs.length).1.length c) (st vs.length).1):Stks w S st (vs++[.slice a (st vs.length).1.length c]):=fun j hj=>by
 by_cases e:j<vs.length
 ·obtain⟨a,c,h1,h2⟩:=h j e
  exact⟨a,c,by rw[List.getElem?_append_left e];exact h1,h2⟩
 ·obtain rfl:j=vs.length:=by simp at hj;omega
  exact⟨a,c,by simp,hn⟩
def WkPost (w:World) (st:Nat→List Fd×Int) (r:Nat×Int) (e:Ending) (w':World):Prop :=
 (∃a c vs,e=.returned (.tuple #[.slice a r.1 c,.int .i64 r.2])∧vs.length=r.1∧LRow w' w.heap.size (.slice a r.1 c) vs∧Stks w' w.heap.size st vs)∧Below w.heap.size w w'
def WkI (w:World) (pv:List Value) (st:Nat→List Fd×Int) (wkf:Nat→Nat→Nat×Int) (L:Nat) (v7 v8 v9:Value) (wr:World):Prop :=
 ∃(n:Nat) (a:Option Addr) (c:Nat) (vs:List Value) (sa:Option Addr) (sc:Nat),n≤L∧v9=.int .i64 (n:Int)∧v7=.slice a n c∧v8=.slice sa (st n).1.length sc∧vs.length=n∧(∀j,j≤n→(st j).2=0)∧wkf L 0=wkf (L-n) n∧LRow wr (w.heap.size+1) (.slice a n c) vs∧FdRow wr (w.heap.size+1) (.slice sa (st n).1.length sc) (st n).1∧Stks wr (w.heap.size+1) st vs∧Below w.heap.size w wr∧Rec wr w.heap.size 37 pv
set_option maxHeartbeats 8000000 in
set_option maxRecDepth 100000 in
theorem l4Walk_any {md:Bool} (ra ga fa:Option Addr) (rc cg cf lo hi k:Nat) (p:GProg) (w:World) (hF:PF p) (hB:ProgB 1048576 p) (hx:PM md w lo hi ra ga fa p) (hc:p.types.length≤rc) (hl:lo≤hi) (hh:hi≤w.heap.size) (hk:k<p.funs.length) :
 Calls Tryz.prog 46 #[.agg #[.slice ra p.types.length rc,.slice ga p.glob.length cg,.slice fa p.funs.length cf],.int .i64 (k:Int)] w fun e w'=>WkPost w (stP p k) (wk p k) e w':=by
 have hx':=hx
 obtain⟨x0,x1,x2⟩:=hx'
 rcases x2 with h0|⟨fb,fo,rfl,z1,z2,_,z3⟩
 ·rw[h0] at hk;exact absurd hk (Nat.not_lt_zero _)
 have hfb:fb<w.heap.size:=by omega
 obtain⟨e0,d0,e4,d4,e5,bc,y0,y1,y2,y3,y4,y5,m0,m4,m5⟩:=z3 k hk
 have hff:=hF.fn k hk
 rcases m5 with h0|⟨ib,io,rfl,u1,u2,_,u3⟩
 ·have:=hff.b0;rw[h0] at this;exact absurd this (Nat.not_lt_zero _)
 have hib:ib<w.heap.size:=by omega
 have hL30:=hff.bl
 have HIO:Hid (∀i,i<(funAt' p.funs k).body.length→insOk (insAt' (funAt' p.funs k).body i).op (insAt' (funAt' p.funs k).body i).a (insAt' (funAt' p.funs k).body i).b=true):=hff.bd
 have HOK:Hid (∀n,n≤(funAt' p.funs k).body.length→(∀j,j≤n→(stP p k j).2=0)→(∀x∈(stP p k n).1,FOk p.types x)∧(stP p k n).1.length≤8):=stP_ok hF hk
 have HDO:=hide (fun W (hb:Below w.heap.size w W) (st:List Fd) (sa:Option Addr) (sc:Nat) (i:GIns) lo1 hi1 (hio:insOk i.op i.a i.b=true) (hs:FieldsIn W lo1 hi1 sa st) (hh1:hi1≤W.heap.size) (h8:st.length≤8) (hsc:st.length≤sc) (hso:∀x∈st,FOk p.types x) =>
  (l4Do_same hF hk hio hso)▸l4Do_any ra ga _ sa rc cg cf sc lo hi lo1 hi1 k p st i W hF hB (hx.keep (hb.mono hh)) hc hl (Nat.le_trans hh hb.size) hk hio hs hh1 (by omega) hsc hso)
 have HST:Hid (∀n,stP p k (n+1)=ckDo p k (stP p k n).1 (insAt' (funAt' p.funs k).body n)):=fun _=>rfl
 have HS0:Hid (stP p k 0=([],0)):=rfl
 have HWK:Hid (∀n,n<(funAt' p.funs k).body.length→wkF p k ((funAt' p.funs k).body.length-n) n=if(stP p k (n+1)).2≠0 then(n+1,(stP p k (n+1)).2) else wkF p k ((funAt' p.funs k).body.length-(n+1)) (n+1)):=fun _ h=>wkF_step h
 have HWE:Hid (wkF p k ((funAt' p.funs k).body.length-(funAt' p.funs k).body.length) (funAt' p.funs k).body.length=((funAt' p.funs k).body.length,0)):=wkF_end
 have HIN:=hide u3
 clear hx x0 x1 z3 m0 m4 u3 hF hB hff y0 y1 y2 y3 y4 hc
 unfold wk
 generalize stP p k=st at *
 generalize wkF p k=wkf at *
 generalize funAt' p.funs k=F at *
 obtain⟨ts,gv,os,bs⟩:=F
 simp only at y5 hL30 HIO HOK HST HWK HWE HIN ⊢
 obtain⟨w1,hw1⟩:∃w1,w1=w.alloc (.cells #[.slice ra p.types.length rc,.slice ga p.glob.length cg,.slice (some ⟨fb,fo,none⟩) p.funs.length cf] 37):=⟨_,rfl⟩
 have B1:Hid (Below w.heap.size w w1):=by show Below _ _ _;rw[hw1];exact(Below.refl _ _).alloc (Nat.le_refl _) _
 have P1:Hid (Rec w1 w.heap.size 37 [.slice ra p.types.length rc,.slice ga p.glob.length cg,.slice (some ⟨fb,fo,none⟩) p.funs.length cf]):=by show Rec _ _ _ _;rw[hw1];exact Rec.new _ _ _
 have s1:w1.heap.size=w.heap.size+1:=by rw[hw1];simp
 have p2:=P1.out.cell (o:=2) rfl
 have y5:=(B1.out.cell (p:=⟨fb,fo+k*6+5,none⟩) hfb).trans y5
 have j1:(k:Int)<(p.funs.length:Int):=by omega
 have j2:¬(p.funs.length:Int)≤(k:Int):=by omega
 have j3:(0:Int)≤(k:Int):=by omega
 go_enter Tryz.func46,Tryz.ntmps46
 go_upto_region 1 with(fail)
 rw[←hw1]
 clear hw1
 go_upto_region 4 with(fail)
 obtain⟨w3,hw3⟩:∃w3,w3=(w1.alloc (.cells #[] 31)).alloc (.cells #[] 68):=⟨_,rfl⟩
 have hI:Hid (WkI w [.slice ra p.types.length rc,.slice ga p.glob.length cg,.slice (some ⟨fb,fo,none⟩) p.funs.length cf] st wkf bs.length (.slice (some ⟨w1.heap.size,0,none⟩) 0 0) (.slice (some ⟨w1.heap.size+1,0,none⟩) 0 0) (.int .i64 0) w3):=by
  show WkI _ _ _ _ _ _ _ _ _
  refine⟨0,some ⟨w1.heap.size,0,none⟩,0,[],some ⟨w1.heap.size+1,0,none⟩,0,Nat.zero_le _,rfl,rfl,by rw[HS0.out];rfl,rfl,fun j hj=>by rw[show j=0 by omega,HS0.out],rfl,?_,?_,Stks.nil _ _ _,?_,?_⟩
  ·rw[hw3];exact LRow.alloc ⟨⟨rfl,.inr ⟨w1.heap.size,0,#[],rfl,by omega,Deep.blk_alloc_new w1 _,Nat.le_refl _,Nat.zero_le _,rfl,rfl⟩⟩,fun u h=>by cases h⟩ _
  ·rw[HS0.out,hw3];exact⟨rfl,.inr ⟨w1.heap.size+1,0,#[],rfl,by omega,by have:=Deep.blk_alloc_new (w1.alloc (.cells #[] 31)) (.cells #[] 68);simpa using this,Nat.le_refl _,Nat.zero_le _,rfl,rfl⟩⟩
  ·rw[hw3];exact(B1.out.alloc B1.out.size _).alloc (by simp;omega) _
  ·rw[hw3];exact(P1.out.alloc _).alloc _
 rw[←hw3]
 rw[s1] at hI
 clear hw3 P1 B1 p2 y5 s1
 go_wp2_with fail
 go_loopw [7,8,9] (fun v7 v8 v9 wr=>WkI w [.slice ra p.types.length rc,.slice ga p.glob.length cg,.slice (some ⟨fb,fo,none⟩) p.funs.length cf] st wkf bs.length v7 v8 v9 wr) (fun v7 v8 v9 wr=>bs.length-(intOf v9).toNat)
 case atStart=>exact hI.out
 case round =>
  obtain⟨n,a,c,vs,sa,sc,hn,rfl,rfl,rfl,hvl,hok,hwk,hL,hS,hT,hb,hP⟩:=hrel
  have sb:=hb.size
  by_cases hlt:n<bs.length
  ·have g1:(n:Int)<(bs.length:Int):=by omega
   have g2:(0:Int)≤(n:Int):=by omega
   have g3:¬(bs.length:Int)≤(n:Int):=by omega
   obtain⟨i0,i1,i2⟩:=HIN.out n hlt
   have hio:=HIO.out n hlt
   obtain⟨ho1,ho2⟩:=HOK.out n hn hok
   have HW1:=hide (hwk.trans (HWK.out n hlt))
   have HS1:=hide (HST.out n)
   have HOKn:=hide hok
   subst hvl
   have sz:=hP.lt
   have F1:Hid (FdRow (wr.alloc (.cells #[] 68)) wr.heap.size (.slice (some ⟨wr.heap.size,0,none⟩) 0 0) []):=⟨rfl,.inr ⟨wr.heap.size,0,#[],rfl,Nat.le_refl _,Deep.blk_alloc_new wr (.cells #[] 68),Nat.le_refl _,Nat.zero_le _,rfl,rfl⟩⟩
   have BA:Hid (Below wr.heap.size wr (wr.alloc (.cells #[] 68))):=(Below.refl _ _).alloc (Nat.le_refl _) _
   have X1:=hide (((FdRow.own hS).1).keepB BA.out)
   have hsc:=hS.capl
   have HL:=hide hL
   have HSs:=hide hS
   have HT:=hide hT
   have HBw:=hide hb
   have HPr:=hide hP
   clear hL hS hT hb hP hok hwk HOK
   generalize insAt' bs vs.length=ins at *
   obtain⟨op,x,y⟩:=ins
   simp only at i0 i1 i2 hio HS1
   go_wp2_with (first|(at_builtin;(refine wpList_app_fields rfl _ _ rfl wr.heap.size (.slice (some ⟨wr.heap.size,0,none⟩) 0 0) [] sa sc (w.heap.size+1) wr.heap.size (st vs.length).1 rfl F1.out rfl (by simp) (by omega) X1.out (by simp) ?_)))
   intro a2 cap2 w6 hF2 hb2
   have B6:=hide (BA.out.trans hb2)
   have s6:=B6.out.size
   have F6:Hid (FdRow w6 (w.heap.size+1) (.slice a2 (st vs.length).1.length cap2) (st vs.length).1):=hide (FdRow.lower hF2 sz)
   have L6:=hide (HL.out.below B6.out)
   have S6:=hide (HSs.out.below B6.out)
   have T6:=hide (HT.out.below B6.out)
   have W6:=hide (HBw.out.trans (B6.out.mono sb))
   have P6:=hide (HPr.out.below B6.out sz)
   clear hF2 hb2 F1 BA X1 B6 HL HSs HT HBw HPr
   go_wp2_with (first|(at_builtin;(refine wpList_snoc_lst rfl _ _ rfl (w.heap.size+1) (.slice a vs.length c) vs (.slice a2 (st vs.length).1.length cap2) rfl rfl L6.out rfl (by omega) (by omega) ?_)))
   intro g2 c2 w8 hL8 hb8 hK8 hf8
   have hL8:=hide hL8
   have P8:=hide (P6.out.below hb8 (Nat.lt_succ_self _))
   have S8:=hide (fdRow_keepT S6.out hK8)
   have T8:=hide (Stks.snoc (T6.out.keepT hK8) (fdRow_keepT F6.out hK8))
   have W8:=hide (W6.out.trans (hb8.mono (Nat.le_succ _)))
   clear hf8 hb8 hK8 F6 L6 S6 T6 W6 P6
   go_upto_region 9 with(fail)
   have sz8:=P8.out.lt
   have q0:=P8.out.cell (o:=0) rfl
   have q1:=P8.out.cell (o:=1) rfl
   have q2:=P8.out.cell (o:=2) rfl
   have r0:=(W8.out.cell (p:=⟨ib,io+vs.length*3,none⟩) hib).trans i0
   have r1:=(W8.out.cell (p:=⟨ib,io+vs.length*3+1,none⟩) hib).trans i1
   have r2:=(W8.out.cell (p:=⟨ib,io+vs.length*3+2,none⟩) hib).trans i2
   have XD:Hid (FieldsIn w8.drew (w.heap.size+1) w8.drew.heap.size sa (st vs.length).1):=(FdRow.own S8.out).1
   have BD:=W8.out.drew
   have HC:=hide (HDO.out w8.drew BD (st vs.length).1 sa sc ⟨op,x,y⟩ (w.heap.size+1) w8.drew.heap.size hio XD.out (Nat.le_refl _) ho2 hsc ho1)
   rw[←HS1.out] at HC
   clear HDO XD
   go_region_held3 (fun w'=>(w'.cell? ⟨w.heap.size,0,none⟩=some (.slice ra p.types.length rc)∧w'.cell? ⟨w.heap.size,1,none⟩=some (.slice ga p.glob.length cg)∧w'.cell? ⟨w.heap.size,2,none⟩=some (.slice (some ⟨fb,fo,none⟩) p.funs.length cf))∧w'.cell? ⟨ib,io+vs.length*3,none⟩=some (.int .i64 op)∧w'.cell? ⟨ib,io+vs.length*3+1,none⟩=some (.int .i64 x)∧w'.cell? ⟨ib,io+vs.length*3+2,none⟩=some (.int .i64 y))
    (go_keep)
    ((go_at_call 35;refine HC.out.mono ?_;rintro e w9 ⟨⟨a9,c9,rfl,h9⟩,b9⟩;have q0:=(b9.cell (p:=⟨w.heap.size,0,none⟩) sz8).trans q0;have q1:=(b9.cell (p:=⟨w.heap.size,1,none⟩) sz8).trans q1;have q2:=(b9.cell (p:=⟨w.heap.size,2,none⟩) sz8).trans q2;have hib8:ib<w8.heap.size:=Nat.lt_trans hib sz8;have r0:=(b9.cell (p:=⟨ib,io+vs.length*3,none⟩) hib8).trans r0;have r1:=(b9.cell (p:=⟨ib,io+vs.length*3+1,none⟩) hib8).trans r1;have r2:=(b9.cell (p:=⟨ib,io+vs.length*3+2,none⟩) hib8).trans r2))
   have L9:Hid (LRow w9 (w.heap.size+1) (.slice (some ⟨g2,0,none⟩) (vs.length+1) c2) (vs++[.slice a2 (st vs.length).1.length cap2])):=LRow.below (w:=w8.drew) hL8.out b9
   have T9:Hid (Stks w9 (w.heap.size+1) st (vs++[.slice a2 (st vs.length).1.length cap2])):=Stks.below (w:=w8.drew) T8.out b9
   have P9:Hid (Rec w9 w.heap.size 37 [.slice ra p.types.length rc,.slice ga p.glob.length cg,.slice (some ⟨fb,fo,none⟩) p.funs.length cf]):=Rec.below (w:=w8.drew) P8.out b9 sz8
   have W9:=hide (BD.trans (b9.mono (Nat.le_of_lt sz8)))
   have F9:Hid (FdRow w9 (w.heap.size+1) (.slice a9 (st (vs.length+1)).1.length c9) (st (vs.length+1)).1):=hide (h9.lower sz8)
   clear h9 b9 BD HC q0 q1 q2 r0 r1 r2 hL8 P8 S8 T8 W8 i0 i1 i2
   by_cases h0:(st (vs.length+1)).2=0
   ·have hok1:∀j,j≤vs.length+1→(st j).2=0:=fun j hj=>by
     by_cases e:j=vs.length+1
     ·rw[e];exact h0
     ·exact HOKn.out j (by omega)
    rw[if_neg (fun h=>h h0)] at HW1
    go_wp2_with fail
    exact⟨⟨vs.length+1,some ⟨g2,0,none⟩,c2,vs++[.slice a2 (st vs.length).1.length cap2],a9,c9,hlt,by go_num,rfl,rfl,by simp,hok1,HW1.out,L9.out,F9.out,T9.out,W9.out,P9.out⟩,by simp[intOf];omega⟩
   ·rw[if_pos h0] at HW1
    go_wp2_with fail
    have hq:WkPost w st (wkf bs.length 0) (.returned (.tuple #[.slice (some ⟨g2,0,none⟩) (vs.length+1) c2,.int .i64 (st (vs.length+1)).2])) w9:=by
     rw[HW1.out]
     exact⟨⟨_,_,_,rfl,by simp,L9.out.lower (Nat.le_succ _),T9.out.lower (Nat.le_succ _)⟩,W9.out⟩
    exact bodyPost_ret (results_tmp2 (t:=4) (u:=5) rfl _ _ _) rfl hq
  ·obtain rfl:n=bs.length:=by omega
   have hq:¬(bs.length:Int)<(bs.length:Int):=by omega
   have HLo:=hide (hL.lower (Nat.le_succ w.heap.size))
   have HTo:=hide (hT.lower (Nat.le_succ w.heap.size))
   have HR:=hide (hwk.trans HWE.out)
   have HBw:=hide hb
   clear hL hS hT hb hP hok hwk
   go_wp2_with fail
   have hq:WkPost w st (wkf bs.length 0) (.returned (.tuple #[.slice a bs.length c,.int .i64 0])) wr:=by
    rw[HR.out]
    exact⟨⟨a,c,vs,rfl,hvl,HLo.out,HTo.out⟩,HBw.out⟩
   exact bodyPost_ret (results_tmp2 (t:=4) (u:=5) rfl _ _ _) rfl hq
end Go.Proofs.YtpaneomkphjpcaaGreatDoor
