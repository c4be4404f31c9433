/- What is wrong with a function, by the model. -/
import Derived.Test.YtpaneomkphjpcaaGreatDoorCkWalkS
namespace Go.Proofs.YtpaneomkphjpcaaGreatDoor
open Go.ChangeShapes Go.WideShapes Go.ChangeAt Go.RowKit Go.Deep
set_option linter.unusedVariables false
set_option linter.unusedSimpArgs false
theorem LRow.blk {w:World} {S n cap:Nat} {a:Option Addr} {vs:List Value} (h:LRow w S (.slice a n cap) vs) (h0:0<vs.length):∃g,a=some ⟨g,0,none⟩∧g<w.heap.size∧∀i x,vs[i]?=some x→w.cell? ⟨g,i,none⟩=some x:=by
 rcases h.1.2 with⟨_,h1⟩|⟨g,c,cur,e,hS,hg,h1,h2,h3,h4⟩
 ·omega
 ·injection e with e1 _ _
  refine⟨g,e1,(Array.getElem?_eq_some_iff.1 hg).1,fun i x hi=>?_⟩
  have hlt:=(List.getElem?_eq_some_iff.1 hi).1
  rw[←h4,List.getElem?_take,if_pos (by omega)] at hi
  simp[World.cell?,hg]
  simpa using hi
set_option maxHeartbeats 8000000 in
set_option maxRecDepth 100000 in
theorem l4Fun_any {md:Bool} (ra ga fa:Option Addr) (rc cg cf lo hi k:Nat) (p:GProg) (w:World) (hF:PF p) (hB:ProgB 1048576 p) (hx:PM md w lo hi ra ga fa p) (hc:p.types.length≤rc) (hl:lo≤hi) (hh:hi≤w.heap.size) (hk:k<p.funs.length) :
 Calls Tryz.prog 49 #[.agg #[.slice ra p.types.length rc,.slice ga p.glob.length cg,.slice fa p.funs.length cf],.int .i64 (k:Int)] w fun e w'=>e=.returned (.tuple #[.int .i64 (funF p k).1,.int .i64 (funF p k).2])∧Below w.heap.size w w':=by
 have hx':=hx
 obtain⟨x0,x1,x2⟩:=hx'
 rcases x2 with h0|⟨fb,fo,rfl,z1,z2,_,z3⟩
 ·rw[h0] at hk;exact absurd hk (Nat.not_lt_zero _)
 have hfb:fb<w.heap.size:=by omega
 obtain⟨e0,d0,e4,d4,e5,bc,y0,y1,y2,y3,y4,y5,m0,m4,m5⟩:=z3 k hk
 have hff:=hF.fn k hk
 rcases m5 with h0|⟨ib,io,rfl,u1,u2,_,u3⟩
 ·have:=hff.b0;rw[h0] at this;exact absurd this (Nat.not_lt_zero _)
 have hib:ib<w.heap.size:=by omega
 have hL30:=hff.bl
 have hL0:=hff.b0
 have HWK:=hide (fun W (hb:Below w.heap.size w W)=>l4Walk_any ra ga _ rc cg cf lo hi k p W hF hB (hx.keep (hb.mono hh)) hc hl (Nat.le_trans hh hb.size) hk)
 have HALL:Hid ((wk p k).2=0→(wk p k).1=(funAt' p.funs k).body.length):=fun h=>(wk_all h).1
 have HONE:Hid (1≤(wk p k).1∧(wk p k).1≤(funAt' p.funs k).body.length):=by
  have:=wkF_one (p:=p) (k:=k) (funAt' p.funs k).body.length 0 (by omega)
  rw[Nat.zero_add] at this
  exact this
 have HJ:Hid ((wk p k).2=0→∀i,i<(funAt' p.funs k).body.length→(insAt' (funAt' p.funs k).body i).op=25∨(insAt' (funAt' p.funs k).body i).op=26→0≤(insAt' (funAt' p.funs k).body i).a∧(insAt' (funAt' p.funs k).body i).a<((funAt' p.funs k).body.length:Int)):=fun h i hi ho=>jump_in hF hk h hi ho
 have HB0:Hid (∀i,i<(funAt' p.funs k).body.length→jpBad p k i=(decide ((insAt' (funAt' p.funs k).body i).op=25∨(insAt' (funAt' p.funs k).body i).op=26)&&decide (0<(stP p k (insAt' (funAt' p.funs k).body i).a.toNat).1.length))):=fun _ _=>rfl
 have HJS:Hid (∀i,i<(funAt' p.funs k).body.length→jpF p k ((funAt' p.funs k).body.length-i) i=if jpBad p k i=true then((i:Int),4) else jpF p k ((funAt' p.funs k).body.length-(i+1)) (i+1)):=fun _ h=>jpF_step h
 have HJE:Hid (jpF p k ((funAt' p.funs k).body.length-(funAt' p.funs k).body.length) (funAt' p.funs k).body.length=(0,0)):=jpF_end
 have HFN:Hid (funF p k=if(wk p k).2≠0 then(((wk p k).1:Int)-1,(wk p k).2) else if lvF (insAt' (funAt' p.funs k).body ((funAt' p.funs k).body.length-1)).op=false then(((funAt' p.funs k).body.length:Int)-1,6) else jpF p k (funAt' p.funs k).body.length 0):=rfl
 have HIN:=hide u3
 clear hx x0 x1 z3 m0 m4 u3 hF hB hff y0 y1 y2 y3 y4 hc
 generalize funF p k=R at *
 generalize wk p k=W at *
 obtain⟨wn,wc⟩:=W
 simp only at HALL HONE HJ HFN
 generalize jpF p k=jf at *
 generalize jpBad p k=jb at *
 generalize stP p k=st at *
 generalize funAt' p.funs k=F at *
 obtain⟨ts,gv,os,bs⟩:=F
 simp only at y5 hL30 hL0 HALL HONE HJ HB0 HJS HJE HFN HIN ⊢
 obtain⟨w1,hw1⟩:∃w1,w1=w.alloc (.cells #[.slice ra p.types.length rc,.slice ga p.glob.length cg,.slice (some ⟨fb,fo,none⟩) p.funs.length cf] 37):=⟨_,rfl⟩
 have B1:Hid (Below w.heap.size w w1):=by show Below _ _ _;rw[hw1];exact(Below.refl _ _).alloc (Nat.le_refl _) _
 have P1:Hid (Rec w1 w.heap.size 37 [.slice ra p.types.length rc,.slice ga p.glob.length cg,.slice (some ⟨fb,fo,none⟩) p.funs.length cf]):=by show Rec _ _ _ _;rw[hw1];exact Rec.new _ _ _
 have p0:=P1.out.cell (o:=0) rfl
 have p1:=P1.out.cell (o:=1) rfl
 have p2:=P1.out.cell (o:=2) rfl
 have j1:(k:Int)<(p.funs.length:Int):=by omega
 have j2:¬(p.funs.length:Int)≤(k:Int):=by omega
 have j3:(0:Int)≤(k:Int):=by omega
 go_enter Tryz.func49,Tryz.ntmps49
 go_upto_region 1 with(fail)
 rw[←hw1]
 clear hw1
 go_wp2_with fail
 refine(HWK.out w1 B1.out).mono ?_
 rintro e w2 ⟨⟨a,c,vs,rfl,hvl,hL,hT⟩,b2⟩
 have B2:=hide (B1.out.trans (b2.mono B1.out.size))
 have P2:=hide (P1.out.below b2 P1.out.lt)
 have HL:=hide hL
 have HT:=hide hT
 clear b2 B1 P1 p0 p1 p2 hL hT HWK
 have p2:=P2.out.cell (o:=2) rfl
 have y5:=(B2.out.cell (p:=⟨fb,fo+k*6+5,none⟩) hfb).trans y5
 have hone:=HONE.out
 simp only at hone hvl
 by_cases h0:wc=0
 ·subst h0
  have hwn:wn=bs.length:=HALL.out rfl
  subst hwn
  obtain⟨g,rfl,hg,HC⟩:=HL.out.blk (by omega)
  have HG:=hide HC
  rw[if_neg (fun h=>h rfl)] at HFN
  have HJJ:=hide (HJ.out rfl)
  clear HC HL HALL HONE HJ
  obtain⟨i0,i1,i2⟩:=HIN.out (bs.length-1) (by omega)
  have i0:=(B2.out.cell (p:=⟨ib,io+(bs.length-1)*3,none⟩) hib).trans i0
  have i1:=(B2.out.cell (p:=⟨ib,io+(bs.length-1)*3+1,none⟩) hib).trans i1
  have i2:=(B2.out.cell (p:=⟨ib,io+(bs.length-1)*3+2,none⟩) hib).trans i2
  have l1:((bs.length:Int)-1)<(bs.length:Int):=by omega
  have l2:(0:Int)≤((bs.length:Int)-1):=by omega
  have l3:((bs.length:Int)-1).toNat=bs.length-1:=by omega
  have l4:IntKind.i64.wrap ((bs.length:Int)-1)=(bs.length:Int)-1:=wrapI9 (by omega) (by omega)
  have HLV:Hid (lvF (insAt' bs (bs.length-1)).op=decide ((insAt' bs (bs.length-1)).op=25∨(insAt' bs (bs.length-1)).op=28∨(insAt' bs (bs.length-1)).op=29)):=rfl
  generalize insAt' bs (bs.length-1)=lst at *
  obtain⟨op,x,y⟩:=lst
  simp only at i0 i1 i2 HLV HFN
  go_wp2_with fail
  refine(specInsLeaves_any op x y w2).mono ?_
  rintro e w3 ⟨rfl,b3⟩
  have B3:=hide (B2.out.trans (b3.mono B2.out.size))
  have w23:=hide b3
  rw[←HLV.out]
  clear b3 i0 i1 i2
  cases hlv:lvF op with
  | false =>
   rw[hlv,if_pos rfl] at HFN
   clear hlv HLV
   go_wp2_with fail
   have hq:Ending.returned (.tuple #[.int .i64 ((bs.length:Int)-1),.int .i64 6])=Ending.returned (.tuple #[.int .i64 R.1,.int .i64 R.2])∧Below w.heap.size w w3:=⟨by rw[HFN.out],B3.out⟩
   exact bodyPost_ret (results_tmp2 (t:=4) (u:=5) rfl _ _ _) rfl hq
  | true =>
   rw[hlv,if_neg (by decide)] at HFN
   clear hlv HLV l1 l2 l3 l4
   go_wp2_with fail
   go_loopw [10] (fun v wr=>∃i:Nat,i≤bs.length∧v=.int .i64 i∧jf bs.length 0=jf (bs.length-i) i∧wr=w3) (fun v wr=>bs.length-(intOf v).toNat)
   case atStart=>exact⟨0,Nat.zero_le _,rfl,rfl,rfl⟩
   case round =>
    obtain⟨i,hi,rfl,hj,rfl⟩:=hrel
    have HJ1:=hide hj
    clear hj
    by_cases hlt:i<bs.length
    ·obtain⟨i0,i1,i2⟩:=HIN.out i hlt
     have i0:=(B3.out.cell (p:=⟨ib,io+i*3,none⟩) hib).trans i0
     have i1:=(B3.out.cell (p:=⟨ib,io+i*3+1,none⟩) hib).trans i1
     have hji:=HJJ.out i hlt
     have hb0:=HB0.out i hlt
     have HS:=hide (HJ1.out.trans (HJS.out i hlt))
     have g1:(i:Int)<(bs.length:Int):=by omega
     have g2:(0:Int)≤(i:Int):=by omega
     have g3:¬(bs.length:Int)≤(i:Int):=by omega
     clear i2 HJ1
     generalize insAt' bs i=ins at *
     obtain⟨o,x,y⟩:=ins
     simp only at i0 i1 hji hb0
     by_cases hjmp:o=25∨o=26
     ·obtain⟨q1,q2⟩:=hji hjmp
      obtain⟨m,rfl⟩:=Int.eq_ofNat_of_zero_le q1
      obtain⟨sa,sc,hv,_⟩:=HT.out m (by omega)
      have cm:=(w23.out.cell (p:=⟨g,m,none⟩) hg).trans (HG.out m _ hv)
      rw[decide_eq_true hjmp,Bool.true_and,show((m:Nat):Int).toNat=m from rfl] at hb0
      have q3:¬(bs.length:Int)≤(m:Int):=by omega
      by_cases hpos:0<(st m).1.length
      ·rw[decide_eq_true hpos] at hb0
       rw[hb0,if_pos rfl] at HS
       have hp2:(0:Int)<((st m).1.length:Int):=by omega
       have hq:Ending.returned (.tuple #[.int .i64 (i:Int),.int .i64 4])=Ending.returned (.tuple #[.int .i64 R.1,.int .i64 R.2])∧Below w.heap.size w wr:=⟨by rw[HFN.out,HS.out],B3.out⟩
       clear hb0 HS HFN hji
       rcases hjmp with rfl|rfl
       ·go_wp2_with fail
        exact bodyPost_ret (results_tmp2 (t:=4) (u:=5) rfl _ _ _) rfl hq
       ·go_wp2_with fail
        exact bodyPost_ret (results_tmp2 (t:=4) (u:=5) rfl _ _ _) rfl hq
      ·rw[decide_eq_false hpos] at hb0
       rw[hb0,if_neg (by decide)] at HS
       have hp2:¬(0:Int)<((st m).1.length:Int):=by omega
       clear hb0 HFN hji
       rcases hjmp with rfl|rfl
       ·go_wp2_with fail
        exact⟨⟨i+1,by omega,by go_num,HS.out,by first|rfl|trivial⟩,by simp[intOf];omega⟩
       ·go_wp2_with fail
        exact⟨⟨i+1,by omega,by go_num,HS.out,by first|rfl|trivial⟩,by simp[intOf];omega⟩
     ·have n1:¬o=25:=fun h=>hjmp (.inl h)
      have n2:¬o=26:=fun h=>hjmp (.inr h)
      rw[decide_eq_false hjmp,Bool.false_and] at hb0
      rw[hb0,if_neg (by decide)] at HS
      clear hb0 HFN hji
      go_wp2_with fail
      exact⟨⟨i+1,by omega,by go_num,HS.out,by first|rfl|trivial⟩,by simp[intOf];omega⟩
    ·obtain rfl:i=bs.length:=by omega
     have hq:¬(bs.length:Int)<(bs.length:Int):=by omega
     have hq2:Ending.returned (.tuple #[.int .i64 0,.int .i64 0])=Ending.returned (.tuple #[.int .i64 R.1,.int .i64 R.2])∧Below w.heap.size w wr:=⟨by rw[HFN.out,HJ1.out,HJE.out],B3.out⟩
     go_wp2_with fail
     exact bodyPost_ret (results_tmp2 (t:=4) (u:=5) rfl _ _ _) rfl hq2
 ·rw[if_pos h0] at HFN
  have l4:IntKind.i64.wrap ((wn:Int)-1)=(wn:Int)-1:=wrapI9 (by omega) (by omega)
  have hq:Ending.returned (.tuple #[.int .i64 ((wn:Int)-1),.int .i64 wc])=Ending.returned (.tuple #[.int .i64 R.1,.int .i64 R.2])∧Below w.heap.size w w2:=⟨by rw[HFN.out],B2.out⟩
  go_wp2_with fail
  exact bodyPost_ret (results_tmp2 (t:=4) (u:=5) rfl _ _ _) rfl hq
end Go.Proofs.YtpaneomkphjpcaaGreatDoor
