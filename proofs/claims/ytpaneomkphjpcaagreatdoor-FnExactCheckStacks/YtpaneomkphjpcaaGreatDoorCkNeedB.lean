/- What is held behind an instruction, as the model tells it. Written by tools/made/ckneedb.py. -/
import Derived.Test.YtpaneomkphjpcaaGreatDoorPcReg
import Derived.Test.YtpaneomkphjpcaaGreatDoorCkNeedA
import Derived.Test.YtpaneomkphjpcaaGreatDoorCkNeed9
namespace Go.Proofs.YtpaneomkphjpcaaGreatDoor
open Go.ChangeShapes Go.WideShapes Go.ChangeAt Go.RowKit Go.Deep
set_option linter.unusedVariables false
set_option linter.unusedSimpArgs false
structure SW (b nb:Nat) (pv iv nv:List Value) (w':World):Prop where
 p:Rec w' b 37 pv
 i:Rec w' (b+1) 40 iv
 n:Rec w' nb 115 nv
theorem SW.below {b nb:Nat} {pv iv nv:List Value} {w w':World} (h:SW b nb pv iv nv w) (hb:Below w.heap.size w w'):SW b nb pv iv nv w':=⟨h.p.below hb h.p.lt,h.i.below hb h.i.lt,h.n.below hb h.n.lt⟩
theorem SW.drew {b nb:Nat} {pv iv nv:List Value} {w:World} (h:SW b nb pv iv nv w):SW b nb pv iv nv w.drew:=⟨h.p,h.i,h.n⟩
def DoP (w:World) (r:List Fd×Int) (e:Ending) (w':World):Prop:=(∃a c,e=.returned (.tuple #[.slice a r.1.length c,.int .i64 r.2])∧FdRow w' w.heap.size (.slice a r.1.length c) r.1)∧Below w.heap.size w w'
theorem FOk.sortR {gs:List (List Ty)} {f:Fd} (h:FOk gs f):SortR gs f:=by
 have hk:=h.kind
 unfold FOk fieldOk at h
 split at h
 ·have:=of_decide_eq_true h;exact⟨by omega,.inr (by assumption)⟩
 ·split at h
  ·have:=of_decide_eq_true h;exact⟨by omega,.inl (by omega)⟩
  ·cases h
set_option maxHeartbeats 40000000 in
set_option maxRecDepth 100000 in
theorem l4Do_any {md:Bool} (ra ga fa sa:Option Addr) (rc cg cf sc lo hi lo1 hi1 k:Nat) (p:GProg) (st:List Fd) (i:GIns) (w:World) (hF:PF p) (hB:ProgB 1048576 p) (hx:PM md w lo hi ra ga fa p) (hc:p.types.length≤rc) (hl:lo≤hi) (hh:hi≤w.heap.size) (hk:k<p.funs.length)
  (hio:insOk i.op i.a i.b=true) (hs:FieldsIn w lo1 hi1 sa st) (hh1:hi1≤w.heap.size) (hn:st.length≤1000) (hsc:st.length≤sc) (hso:∀x∈st,FOk p.types x) :
  Calls Tryz.prog 35 #[.agg #[.slice ra p.types.length rc,.slice ga p.glob.length cg,.slice fa p.funs.length cf],.int .i64 (k:Int),.slice sa st.length sc,.agg #[.int .i64 i.op,.int .i64 i.a,.int .i64 i.b]] w fun e w'=>DoP w (l4DoF p k st i) e w':=by
 have hx':=hx
 obtain⟨x0,x1,x2⟩:=hx'
 rcases x2 with h0|⟨fb,fo,rfl,z1,z2,_,z3⟩
 ·rw[h0] at hk;exact absurd hk (Nat.not_lt_zero _)
 have hfb:fb<w.heap.size:=by omega
 have hb0:=ins_bounds hio
 have HN:=hide (fun W (hb:Below w.heap.size w W)=>needs_any ra ga _ sa rc cg cf sc lo hi lo1 hi1 k p st i W hF hB (hx.keep (hb.mono hh)) hl (Nat.le_trans hh hb.size) hk hio (hs.keepB (hb.mono hh1)) (Nat.le_trans hh1 hb.size) hn)
 have HSO:Hid (∀j,j<st.length→SortR p.types (fdAt st j)):=fun j hj=>(hso _ (fdAt_in hj)).sortR
 have HTO:Hid (ruleN p k i=true→∀j,j<(needT p k st i).length→(fdAt (needT p k st i) j).kind<0∨SortR p.types (fdAt (needT p k st i) j)):=by
  intro hr j hj
  by_cases h6:i.op=6
  ·have e:needT p k st i=[⟨-1,0,false⟩]:=if_pos h6
   rw[e] at hj ⊢
   obtain rfl:j=0:=by simp at hj;omega
   exact .inl (by decide)
  ·have e:needT p k st i=ruleT p k (lastFd st) i:=if_neg h6
   rw[e] at hj ⊢
   exact .inr (ruleT_ok hF hk hio hr h6 _ (fdAt_in hj)).sortR
 have HFIT:=hide (fun W (T:List Fd) ta tc m (hb:Below w.heap.size w W) (hT:FieldsIn W w.heap.size W.heap.size ta T) (hm:st.length=m+T.length) (ht:∀j,j<T.length→(fdAt T j).kind<0∨SortR p.types (fdAt T j))=>l4Fit_any ra sa ta rc sc tc lo hi lo1 hi1 w.heap.size W.heap.size m p.types st T W hF.pa hB.1 hc hl (Nat.le_trans hh hb.size) (x0.1.keep (hb.mono hh)) (hs.keepB (hb.mono hh1)) (Nat.le_trans hh1 hb.size) hT (Nat.le_refl _) hm hn HSO.out ht)
 have hia:ruleN p k i=true→i.op=28→0≤i.a∧i.a<(p.funs.length:Int):=by
  intro e1 e2
  obtain⟨op,ia,ib⟩:=i
  simp only at e1 e2 hb0 ⊢
  subst e2
  exact⟨hb0.2.2.2.1 (by decide) (by decide) (by decide),of_decide_eq_true e1⟩
 have HSRT:=hide (fun W (hb:Below w.heap.size w W) (x:Nat) (hx:x<p.funs.length)=>l1Sort_any ra rc lo hi p.types (funAt' p.funs x).gives (funAt' p.funs k).gives W hF.pa hB.1 hc hl (Nat.le_trans hh hb.size) (x0.1.keep (hb.mono hh)) (hF.fn x hx).gv.1.sortR.1 (hF.fn x hx).gv.1.sortR.2 (hF.fn k hk).gv.1.sortR.1 (hF.fn k hk).gv.1.sortR.2)
 have HZ:=hide z3
 have HXS:=hide hs
 clear hx x0 x1 z3 hF hB hio hso hs hc
 obtain⟨r,hr⟩:∃r,l4DoF p k st i=r:=⟨_,rfl⟩
 rw[hr]
 unfold l4DoF at hr
 have HTO2:=hide (And.intro HTO.out hia)
 clear HTO hia
 unfold NeedsP at HN
 generalize ruleN p k i=nm at *
 generalize needT p k st i=T0 at *
 generalize needG p k st i=G0 at *
 obtain⟨op,ia,ib⟩:=i
 simp only at hr HN HTO2 hb0 ⊢
 have HR:=hide hr
 clear hr
 obtain⟨w1,hw1⟩:∃w1,w1=(w.alloc (.cells #[.slice ra p.types.length rc,.slice ga p.glob.length cg,.slice (some ⟨fb,fo,none⟩) p.funs.length cf] 37)).alloc (.cells #[.int .i64 op,.int .i64 ia,.int .i64 ib] 40):=⟨_,rfl⟩
 have B1:Hid (Below w.heap.size w w1):=by show Below _ _ _;rw[hw1];exact((Below.refl _ _).alloc (Nat.le_refl _) _).alloc (by simp) _
 have P1:Hid (Rec w1 w.heap.size 37 [.slice ra p.types.length rc,.slice ga p.glob.length cg,.slice (some ⟨fb,fo,none⟩) p.funs.length cf]):=by show Rec _ _ _ _;rw[hw1];exact(Rec.new _ _ _).alloc _
 have I1:Hid (Rec w1 (w.heap.size+1) 40 [.int .i64 op,.int .i64 ia,.int .i64 ib]):=by show Rec _ _ _ _;rw[hw1];exact Rec.new' _ _ _ _ (by simp)
 have p0:=P1.out.cell (o:=0) rfl
 have p1:=P1.out.cell (o:=1) rfl
 have p2:=P1.out.cell (o:=2) rfl
 have i0:=I1.out.cell (o:=0) rfl
 have i1:=I1.out.cell (o:=1) rfl
 have i2:=I1.out.cell (o:=2) rfl
 go_enter Tryz.func35,Tryz.ntmps35
 go_upto_region 1 with(fail)
 rw[←hw1]
 clear hw1
 go_wp2_with fail
 refine(HN.out w1 B1.out).mono ?_
 rintro e u ⟨T,G,⟨ta,tc,na,nc,rfl,hT,hG,hb⟩,lT,lG,hTG⟩
 have B2:=hide (B1.out.trans (hb.mono B1.out.size))
 have P2:=hide (P1.out.below hb P1.out.lt)
 have I2:=hide (I1.out.below hb I1.out.lt)
 have HTG:=hide hTG
 have s1:=B1.out.size
 have HT:=hide (FieldsIn.wid hT s1 (Nat.le_refl _))
 have HG:=hide (FieldsIn.wid hG s1 (Nat.le_refl _))
 clear hT hG hb hTG B1 P1 I1 p0 p1 p2 i0 i1 i2 HN s1
 go_upto_region 3 with(fail)
 obtain⟨w3,hw3⟩:∃w3,w3=((u.alloc (.cells #[.slice ta T.length tc,.slice na G.length nc,.bool nm] 115)).alloc (.cells #[] 68)):=⟨_,rfl⟩
 obtain⟨nb,hnb⟩:∃nb,nb=u.heap.size:=⟨_,rfl⟩
 have B3:Hid (Below w.heap.size w w3):=by show Below _ _ _;rw[hw3];exact(B2.out.alloc B2.out.size _).alloc (by have:=B2.out.size;simp;omega) _
 have S3:Hid (SW w.heap.size nb [.slice ra p.types.length rc,.slice ga p.glob.length cg,.slice (some ⟨fb,fo,none⟩) p.funs.length cf] [.int .i64 op,.int .i64 ia,.int .i64 ib] [.slice ta T.length tc,.slice na G.length nc,.bool nm] w3):=by
  show SW _ _ _ _ _ _
  rw[hw3,hnb]
  exact⟨(P2.out.alloc _).alloc _,(I2.out.alloc _).alloc _,(Rec.new _ _ _).alloc _⟩
 have NR3:Hid (FdRow w3 (nb+1) (.slice (some ⟨nb+1,0,none⟩) 0 0) []):=by
  show FdRow _ _ _ _
  rw[hw3,hnb]
  exact⟨rfl,.inr ⟨u.heap.size+1,0,#[],rfl,Nat.le_refl _,by have:=Deep.blk_alloc_new (u.alloc (.cells #[.slice ta T.length tc,.slice na G.length nc,.bool nm] 115)) (.cells #[] 68);simpa using this,Nat.le_refl _,Nat.zero_le _,rfl,rfl⟩⟩
 have s3:Hid (w3.heap.size=nb+1+1):=by show _=_;rw[hw3,hnb];simp
 have BU:Hid (Below u.heap.size u w3):=by show Below _ _ _;rw[hw3];exact((Below.refl _ _).alloc (Nat.le_refl _) _).alloc (by simp) _
 have T3:Hid (FieldsIn w3 w.heap.size w3.heap.size ta T):=FieldsIn.wid (HT.out.keepB BU.out) (Nat.le_refl _) BU.out.size
 have G3:Hid (FieldsIn w3 w.heap.size nb na G):=by show FieldsIn _ _ _ _ _;rw[hnb];exact HG.out.keepB BU.out
 have hnw:Hid (w.heap.size≤nb):=by show _≤_;rw[hnb];exact B2.out.size
 rw[←hw3,←hnb]
 clear hw3 hnb P2 I2 B2 BU HT HG
 have n0:=S3.out.n.cell (o:=0) rfl
 have n1:=S3.out.n.cell (o:=1) rfl
 have n2:=S3.out.n.cell (o:=2) rfl
 cases nm with
 | false =>
  have hR:Hid (r=([],1)):=by show _=_;rw[←HR.out];rfl
  clear HR
  go_wp2_with (fail)
  rw[hR.out]
  exact bodyPost_ret (results_tmp2 (t:=8) (u:=9) rfl _ _ _) rfl ⟨⟨_,_,rfl,NR3.out.lower (Nat.le_succ_of_le hnw.out)⟩,B3.out⟩
 | true =>
  have hTG:=HTG.out (by trivial)
  obtain⟨rfl,rfl⟩:=hTG
  obtain⟨hto,hia⟩:=HTO2.out
  have HTOo:=hide (hto (by trivial))
  have HIA:=hide (hia (by trivial))
  clear HTO2 HTG hto hia
  rw[if_neg (show ¬(true=false) by decide)] at HR
  by_cases h2:st.length<T.length
  ·have hR:Hid (r=([],2)):=by show _=_;rw[←HR.out,if_pos h2]
   clear HR
   have q1:(st.length:Int)-(T.length:Int)<0:=by omega
   go_wp2_with (fail)
   rw[hR.out]
   exact bodyPost_ret (results_tmp2 (t:=8) (u:=9) rfl _ _ _) rfl ⟨⟨_,_,rfl,NR3.out.lower (Nat.le_succ_of_le hnw.out)⟩,B3.out⟩
  rw[if_neg h2] at HR
  obtain⟨m,hm⟩:∃m,st.length=m+T.length:=⟨st.length-T.length,by omega⟩
  have hm2:st.length-T.length=m:=by omega
  have hm3:(st.length:Int)-(T.length:Int)=(m:Int):=by omega
  have hm4:¬((m:Int)<0):=by omega
  have hm5:m≤1000:=by omega
  rw[hm2] at HR
  have hmH:=hide hm
  have p0:=S3.out.p.cell (o:=0) rfl
  have p1:=S3.out.p.cell (o:=1) rfl
  have p2:=S3.out.p.cell (o:=2) rfl
  have HC:=hide (HFIT.out w3 T ta tc m B3.out T3.out hm HTOo.out)
  clear hm hm2 HFIT HTOo
  generalize upTo (fun j=>fit1 p.types (fdAt st (m+j)) (fdAt T j)) T.length=fv at HC HR
  go_wp2_with (fail)
  refine HC.out.mono ?_
  rintro e w4 ⟨rfl,b4⟩
  have B4:=hide (B3.out.trans (b4.mono B3.out.size))
  have S4:=hide (S3.out.below b4)
  have NR4:=hide (NR3.out.below b4)
  have T4:Hid (FieldsIn w4 w.heap.size nb na G):=G3.out.keepB (b4.mono (by have:=s3.out;omega))
  have s4:Hid (nb+1+1≤w4.heap.size):=by show _≤_;rw[←s3.out];exact b4.size
  clear b4 B3 S3 NR3 G3 T3 n0 n1 n2 p0 p1 p2 s3 HC
  cases fv with
  | false =>
   have hR:Hid (r=([],3)):=by show _=_;rw[←HR.out];rfl
   clear HR
   go_wp2_with (fail)
   rw[hR.out]
   exact bodyPost_ret (results_tmp2 (t:=8) (u:=9) rfl _ _ _) rfl ⟨⟨_,_,rfl,NR4.out.lower (Nat.le_succ_of_le hnw.out)⟩,B4.out⟩
  | true =>
   rw[if_neg (show ¬(true=false) by decide)] at HR
   go_upto_region 10 with(fail)
   go_cut [43] from 44 to 65 (fun v wx=>v=.bool (decide (op=28∧sortF p.types (funAt' p.funs ia.toNat).gives (funAt' p.funs k).gives=false))∧Hid (SW w.heap.size nb [.slice ra p.types.length rc,.slice ga p.glob.length cg,.slice (some ⟨fb,fo,none⟩) p.funs.length cf] [.int .i64 op,.int .i64 ia,.int .i64 ib] [.slice ta T.length tc,.slice na G.length nc,.bool true] wx)∧Hid (FdRow wx (nb+1) (.slice (some ⟨nb+1,0,none⟩) 0 0) [])∧Hid (FieldsIn wx w.heap.size nb na G)∧Hid (Below w.heap.size w wx)∧Hid (nb+1+1≤wx.heap.size))
   case first =>
    have BD:=B4.out.drew
    by_cases h28:op=28
    ·subst h28
     obtain⟨h0,h1⟩:=HIA.out rfl
     obtain⟨x,rfl⟩:∃x:Nat,ia=x:=⟨ia.toNat,by omega⟩
     have hx:x<p.funs.length:=by omega
     obtain⟨_,_,_,_,_,_,_,y1,y2,y3,_,_,_,_,_⟩:=HZ.out x hx
     obtain⟨_,_,_,_,_,_,_,z1,z2,z3,_,_,_,_,_⟩:=HZ.out k hk
     have Y1:=hide y1
     have Y2:=hide y2
     have Y3:=hide y3
     have Z1:=hide z1
     have Z2:=hide z2
     have Z3:=hide z3
     have HCC:=hide (HSRT.out w4.drew BD x hx)
     clear y1 y2 y3 z1 z2 z3 HSRT
     have HRR:=hide HR.out
     obtain⟨sv,hsv⟩:∃sv,sortF p.types (funAt' p.funs x).gives (funAt' p.funs k).gives=sv:=⟨_,rfl⟩
     rw[hsv] at HCC
     have HSV:=hide hsv
     clear hsv
     generalize hgf:(funAt' p.funs x).gives=f at *
     generalize hgg:(funAt' p.funs k).gives=g at *
     have HGF:=hide hgf
     have HGG:=hide hgg
     clear hgf hgg
     obtain⟨fk,fo9,fm⟩:=f
     obtain⟨gk,go,gm⟩:=g
     simp only at Y1 Y2 Y3 Z1 Z2 Z3 HCC
     have j1:(0:Int)≤(x:Int):=by omega
     have j2:(x:Int)<(p.funs.length:Int):=by omega
     have j3:(0:Int)≤(k:Int):=by omega
     have j4:(k:Int)<(p.funs.length:Int):=by omega
     refine wp_region_noPanic ?_
     refine wp_region_held_drew (S:=fun w'=>SW w.heap.size nb [.slice ra p.types.length rc,.slice ga p.glob.length cg,.slice (some ⟨fb,fo,none⟩) p.funs.length cf] [.int .i64 28,.int .i64 (x:Int),.int .i64 ib] [.slice ta T.length tc,.slice na G.length nc,.bool true] w'∧Below w.heap.size w w') (by kernel_rfl) ⟨S4.out.drew,BD⟩ (fun hHeld=>?_)
     (try simp only[Act.put,lA,lB,lC])
     refine tL 0 (v:=?v0f1) hHeld ?y0f1 ?r0f1
     case y0f1=>(intro w _;go_simp;try with_reducible rfl)
     (try simp only[Act.put,lA,lB,lC])
     refine tL 1 (v:=?v1f2) hHeld ?y1f2 ?r1f2
     case y1f2=>(intro w hSw;have sp0:=hSw.1.p.cell (o:=0) rfl;have sp1:=hSw.1.p.cell (o:=1) rfl;have sp2:=hSw.1.p.cell (o:=2) rfl;have si0:=hSw.1.i.cell (o:=0) rfl;have si1:=hSw.1.i.cell (o:=1) rfl;have y1:=(hSw.2.cell (p:=⟨fb,fo+x*6+1,none⟩) hfb).trans Y1.out;have y2:=(hSw.2.cell (p:=⟨fb,fo+x*6+2,none⟩) hfb).trans Y2.out;have y3:=(hSw.2.cell (p:=⟨fb,fo+x*6+3,none⟩) hfb).trans Y3.out;have z1:=(hSw.2.cell (p:=⟨fb,fo+k*6+1,none⟩) hfb).trans Z1.out;have z2:=(hSw.2.cell (p:=⟨fb,fo+k*6+2,none⟩) hfb).trans Z2.out;have z3:=(hSw.2.cell (p:=⟨fb,fo+k*6+3,none⟩) hfb).trans Z3.out;clear hSw;go_simp;try with_reducible rfl)
     (try simp only[Act.put,lA,lB,lC])
     refine tL 2 (v:=?v2f3) hHeld ?y2f3 ?r2f3
     case y2f3=>(intro w _;go_simp;try with_reducible rfl)
     (try simp only[Act.put,lA,lB,lC])
     refine tL 3 (v:=?v3f4) hHeld ?y3f4 ?r3f4
     case y3f4=>(intro w _;go_simp;try with_reducible rfl)
     (try simp only[Act.put,lA,lB,lC])
     refine tL 4 (v:=?v4f5) hHeld ?y4f5 ?r4f5
     case y4f5=>(intro w _;go_simp;try with_reducible rfl)
     (try simp only[Act.put,lA,lB,lC])
     refine tL 5 (v:=?v5f6) hHeld ?y5f6 ?r5f6
     case y5f6=>(intro w hSw;have sp0:=hSw.1.p.cell (o:=0) rfl;have sp1:=hSw.1.p.cell (o:=1) rfl;have sp2:=hSw.1.p.cell (o:=2) rfl;have si0:=hSw.1.i.cell (o:=0) rfl;have si1:=hSw.1.i.cell (o:=1) rfl;have y1:=(hSw.2.cell (p:=⟨fb,fo+x*6+1,none⟩) hfb).trans Y1.out;have y2:=(hSw.2.cell (p:=⟨fb,fo+x*6+2,none⟩) hfb).trans Y2.out;have y3:=(hSw.2.cell (p:=⟨fb,fo+x*6+3,none⟩) hfb).trans Y3.out;have z1:=(hSw.2.cell (p:=⟨fb,fo+k*6+1,none⟩) hfb).trans Z1.out;have z2:=(hSw.2.cell (p:=⟨fb,fo+k*6+2,none⟩) hfb).trans Z2.out;have z3:=(hSw.2.cell (p:=⟨fb,fo+k*6+3,none⟩) hfb).trans Z3.out;clear hSw;go_simp;try with_reducible rfl)
     (try simp only[Act.put,lA,lB,lC])
     refine tL 6 (v:=?v6f7) hHeld ?y6f7 ?r6f7
     case y6f7=>(intro w _;go_simp;try with_reducible rfl)
     (try simp only[Act.put,lA,lB,lC])
     refine tL 7 (v:=?v7f8) hHeld ?y7f8 ?r7f8
     case y7f8=>(intro w hSw;have sp0:=hSw.1.p.cell (o:=0) rfl;have sp1:=hSw.1.p.cell (o:=1) rfl;have sp2:=hSw.1.p.cell (o:=2) rfl;have si0:=hSw.1.i.cell (o:=0) rfl;have si1:=hSw.1.i.cell (o:=1) rfl;have y1:=(hSw.2.cell (p:=⟨fb,fo+x*6+1,none⟩) hfb).trans Y1.out;have y2:=(hSw.2.cell (p:=⟨fb,fo+x*6+2,none⟩) hfb).trans Y2.out;have y3:=(hSw.2.cell (p:=⟨fb,fo+x*6+3,none⟩) hfb).trans Y3.out;have z1:=(hSw.2.cell (p:=⟨fb,fo+k*6+1,none⟩) hfb).trans Z1.out;have z2:=(hSw.2.cell (p:=⟨fb,fo+k*6+2,none⟩) hfb).trans Z2.out;have z3:=(hSw.2.cell (p:=⟨fb,fo+k*6+3,none⟩) hfb).trans Z3.out;clear hSw;go_simp;try with_reducible rfl)
     (try simp only[Act.put,lA,lB,lC])
     refine tL 8 (v:=?v8f9) hHeld ?y8f9 ?r8f9
     case y8f9=>(intro w _;go_simp;try with_reducible rfl)
     (try simp only[Act.put,lA,lB,lC])
     refine tL 9 (v:=?v9f10) hHeld ?y9f10 ?r9f10
     case y9f10=>(intro w hSw;have sp0:=hSw.1.p.cell (o:=0) rfl;have sp1:=hSw.1.p.cell (o:=1) rfl;have sp2:=hSw.1.p.cell (o:=2) rfl;have si0:=hSw.1.i.cell (o:=0) rfl;have si1:=hSw.1.i.cell (o:=1) rfl;have y1:=(hSw.2.cell (p:=⟨fb,fo+x*6+1,none⟩) hfb).trans Y1.out;have y2:=(hSw.2.cell (p:=⟨fb,fo+x*6+2,none⟩) hfb).trans Y2.out;have y3:=(hSw.2.cell (p:=⟨fb,fo+x*6+3,none⟩) hfb).trans Y3.out;have z1:=(hSw.2.cell (p:=⟨fb,fo+k*6+1,none⟩) hfb).trans Z1.out;have z2:=(hSw.2.cell (p:=⟨fb,fo+k*6+2,none⟩) hfb).trans Z2.out;have z3:=(hSw.2.cell (p:=⟨fb,fo+k*6+3,none⟩) hfb).trans Z3.out;clear hSw;go_simp;try with_reducible rfl)
     (try simp only[Act.put,lA,lB,lC])
     refine tL 10 (v:=?v10f11) hHeld ?y10f11 ?r10f11
     case y10f11=>(intro w _;go_simp;try with_reducible rfl)
     (try simp only[Act.put,lA,lB,lC])
     refine tL 11 (v:=?v11f12) hHeld ?y11f12 ?r11f12
     case y11f12=>(intro w _;go_simp;try with_reducible rfl)
     (try simp only[Act.put,lA,lB,lC])
     refine tL 12 (v:=?v12f13) hHeld ?y12f13 ?r12f13
     case y12f13=>(intro w hSw;have sp0:=hSw.1.p.cell (o:=0) rfl;have sp1:=hSw.1.p.cell (o:=1) rfl;have sp2:=hSw.1.p.cell (o:=2) rfl;have si0:=hSw.1.i.cell (o:=0) rfl;have si1:=hSw.1.i.cell (o:=1) rfl;have y1:=(hSw.2.cell (p:=⟨fb,fo+x*6+1,none⟩) hfb).trans Y1.out;have y2:=(hSw.2.cell (p:=⟨fb,fo+x*6+2,none⟩) hfb).trans Y2.out;have y3:=(hSw.2.cell (p:=⟨fb,fo+x*6+3,none⟩) hfb).trans Y3.out;have z1:=(hSw.2.cell (p:=⟨fb,fo+k*6+1,none⟩) hfb).trans Z1.out;have z2:=(hSw.2.cell (p:=⟨fb,fo+k*6+2,none⟩) hfb).trans Z2.out;have z3:=(hSw.2.cell (p:=⟨fb,fo+k*6+3,none⟩) hfb).trans Z3.out;clear hSw;go_simp;try with_reducible rfl)
     (try simp only[Act.put,lA,lB,lC])
     refine tL 13 (v:=?v13f14) hHeld ?y13f14 ?r13f14
     case y13f14=>(intro w _;go_simp;try with_reducible rfl)
     (try simp only[Act.put,lA,lB,lC])
     refine tL 14 (v:=?v14f15) hHeld ?y14f15 ?r14f15
     case y14f15=>(intro w hSw;have sp0:=hSw.1.p.cell (o:=0) rfl;have sp1:=hSw.1.p.cell (o:=1) rfl;have sp2:=hSw.1.p.cell (o:=2) rfl;have si0:=hSw.1.i.cell (o:=0) rfl;have si1:=hSw.1.i.cell (o:=1) rfl;have y1:=(hSw.2.cell (p:=⟨fb,fo+x*6+1,none⟩) hfb).trans Y1.out;have y2:=(hSw.2.cell (p:=⟨fb,fo+x*6+2,none⟩) hfb).trans Y2.out;have y3:=(hSw.2.cell (p:=⟨fb,fo+x*6+3,none⟩) hfb).trans Y3.out;have z1:=(hSw.2.cell (p:=⟨fb,fo+k*6+1,none⟩) hfb).trans Z1.out;have z2:=(hSw.2.cell (p:=⟨fb,fo+k*6+2,none⟩) hfb).trans Z2.out;have z3:=(hSw.2.cell (p:=⟨fb,fo+k*6+3,none⟩) hfb).trans Z3.out;clear hSw;go_simp;try with_reducible rfl)
     (try simp only[Act.put,lA,lB,lC])
     refine tL 15 (v:=?v15f16) hHeld ?y15f16 ?r15f16
     case y15f16=>(intro w _;go_simp;try with_reducible rfl)
     (try simp only[Act.put,lA,lB,lC])
     refine tL 16 (v:=?v16f17) hHeld ?y16f17 ?r16f17
     case y16f17=>(intro w _;go_simp;try with_reducible rfl)
     (try simp only[Act.put,lA,lB,lC])
     refine tL 17 (v:=?v17f18) hHeld ?y17f18 ?r17f18
     case y17f18=>(intro w _;go_simp;try with_reducible rfl)
     (try simp only[Act.put,lA,lB,lC])
     refine tL 18 (v:=?v18f19) hHeld ?y18f19 ?r18f19
     case y18f19=>(intro w hSw;have sp0:=hSw.1.p.cell (o:=0) rfl;have sp1:=hSw.1.p.cell (o:=1) rfl;have sp2:=hSw.1.p.cell (o:=2) rfl;have si0:=hSw.1.i.cell (o:=0) rfl;have si1:=hSw.1.i.cell (o:=1) rfl;have y1:=(hSw.2.cell (p:=⟨fb,fo+x*6+1,none⟩) hfb).trans Y1.out;have y2:=(hSw.2.cell (p:=⟨fb,fo+x*6+2,none⟩) hfb).trans Y2.out;have y3:=(hSw.2.cell (p:=⟨fb,fo+x*6+3,none⟩) hfb).trans Y3.out;have z1:=(hSw.2.cell (p:=⟨fb,fo+k*6+1,none⟩) hfb).trans Z1.out;have z2:=(hSw.2.cell (p:=⟨fb,fo+k*6+2,none⟩) hfb).trans Z2.out;have z3:=(hSw.2.cell (p:=⟨fb,fo+k*6+3,none⟩) hfb).trans Z3.out;clear hSw;go_simp;try with_reducible rfl)
     (try simp only[Act.put,lA,lB,lC])
     refine dL 19 (fun K hK=>?_)
     go_simp
     (go_at_call 63;refine HCC.out.mono ?_;rintro e w6 ⟨rfl,b6⟩)
     have NR6:Hid (FdRow w6 (nb+1) (.slice (some ⟨nb+1,0,none⟩) 0 0) []):=FdRow.below (w:=w4.drew) NR4.out b6
     have T6:Hid (FieldsIn w6 w.heap.size nb na G):=FieldsIn.keepB (w:=w4.drew) T4.out (b6.mono (by have:=s4.out;show nb≤w4.heap.size;omega))
     have s6:Hid (nb+1+1≤w6.heap.size):=Nat.le_trans s4.out b6.size
     refine hK.out _ _ ⟨hHeld.1.below b6,hHeld.2.trans (b6.mono hHeld.2.size)⟩ (fun hHeld=>?_)
     clear hK K b6
     (try simp only[Act.put,lA,lB,lC])
     refine tL 20 (v:=?v20f20) hHeld ?y20f20 ?r20f20
     case y20f20=>(intro w _;go_simp;try with_reducible rfl)
     (try simp only[Act.put,lA,lB,lC])
     refine tL 21 (v:=?v21f21) hHeld ?y21f21 ?r21f21
     case y21f21=>(intro w _;go_simp;try with_reducible rfl)
     (try simp only[Act.put,lA,lB,lC])
     refine tL 22 (v:=?v22f22) hHeld ?y22f22 ?r22f22
     case y22f22=>(intro w _;go_simp;try with_reducible rfl)
     (try simp only[Act.put,lA,lB,lC])
     refine wpAnyH_done (by kernel_rfl) ?_ _
     refine NoPanic.normal ?_
     have HS:=hHeld
     clear hHeld
     go_wp2_with (fail)
     go_meet
     exact⟨by simp only[Int.toNat_natCast,HGF.out,HGG.out,HSV.out];cases sv<;>rfl,HS.1,NR6,T6,HS.2,s6⟩
    ·have hd:decide (op=28∧sortF p.types (funAt' p.funs ia.toNat).gives (funAt' p.funs k).gives=false)=false:=decide_eq_false (fun h=>h28 h.1)
     have hb28:(op==28)=false:=by simp[h28]
     refine wp_region_noPanic ?_
     refine wp_region_held_drew (S:=fun w'=>SW w.heap.size nb [.slice ra p.types.length rc,.slice ga p.glob.length cg,.slice (some ⟨fb,fo,none⟩) p.funs.length cf] [.int .i64 op,.int .i64 ia,.int .i64 ib] [.slice ta T.length tc,.slice na G.length nc,.bool true] w'∧Below w.heap.size w w') (by kernel_rfl) ⟨S4.out.drew,BD⟩ (fun hHeld=>?_)
     (try simp only[Act.put,lA,lB,lC])
     refine tL 0 (v:=?v0f23) hHeld ?y0f23 ?r0f23
     case y0f23=>(intro w _;go_simp;try with_reducible rfl)
     (try simp only[Act.put,lA,lB,lC])
     refine tL 1 (v:=?v1f24) hHeld ?y1f24 ?r1f24
     case y1f24=>(intro w hSw;have si0:=hSw.1.i.cell (o:=0) rfl;have si1:=hSw.1.i.cell (o:=1) rfl;clear hSw;go_simp;try with_reducible rfl)
     (try simp only[Act.put,lA,lB,lC])
     refine tL 2 (v:=?v2f25) hHeld ?y2f25 ?r2f25
     case y2f25=>(intro w _;go_simp;try with_reducible rfl)
     (try simp only[Act.put,lA,lB,lC])
     refine tL 3 (v:=?v3f26) hHeld ?y3f26 ?r3f26
     case y3f26=>(intro w _;go_simp;try with_reducible rfl)
     (try simp only[Act.put,lA,lB,lC])
     refine sL 4 hHeld ?_
     (try simp only[Act.put,lA,lB,lC])
     refine sL 5 hHeld ?_
     (try simp only[Act.put,lA,lB,lC])
     refine sL 6 hHeld ?_
     (try simp only[Act.put,lA,lB,lC])
     refine sL 7 hHeld ?_
     (try simp only[Act.put,lA,lB,lC])
     refine sL 8 hHeld ?_
     (try simp only[Act.put,lA,lB,lC])
     refine sL 9 hHeld ?_
     (try simp only[Act.put,lA,lB,lC])
     refine sL 10 hHeld ?_
     (try simp only[Act.put,lA,lB,lC])
     refine sL 11 hHeld ?_
     (try simp only[Act.put,lA,lB,lC])
     refine sL 12 hHeld ?_
     (try simp only[Act.put,lA,lB,lC])
     refine sL 13 hHeld ?_
     (try simp only[Act.put,lA,lB,lC])
     refine sL 14 hHeld ?_
     (try simp only[Act.put,lA,lB,lC])
     refine sL 15 hHeld ?_
     (try simp only[Act.put,lA,lB,lC])
     refine sL 16 hHeld ?_
     (try simp only[Act.put,lA,lB,lC])
     refine sL 17 hHeld ?_
     (try simp only[Act.put,lA,lB,lC])
     refine sL 18 hHeld ?_
     (try simp only[Act.put,lA,lB,lC])
     refine sL 19 hHeld ?_
     (try simp only[Act.put,lA,lB,lC])
     refine sL 20 hHeld ?_
     (try simp only[Act.put,lA,lB,lC])
     refine tL 21 (v:=?v21f27) hHeld ?y21f27 ?r21f27
     case y21f27=>(intro w _;go_simp;try with_reducible rfl)
     (try simp only[Act.put,lA,lB,lC])
     refine tL 22 (v:=?v22f28) hHeld ?y22f28 ?r22f28
     case y22f28=>(intro w _;go_simp;try with_reducible rfl)
     (try simp only[Act.put,lA,lB,lC])
     refine wpAnyH_done (by kernel_rfl) ?_ _
     refine NoPanic.normal ?_
     have HS:=hHeld
     clear hHeld
     go_wp2_with (fail)
     go_meet
     exact⟨by rw[hd],HS.1,NR4,T4,HS.2,s4⟩
   case rest =>
    obtain⟨rfl,S5,NR5,G5,B5,s5⟩:=hcut
    clear S4 NR4 T4 B4 s4
    by_cases h3:op=28∧sortF p.types (funAt' p.funs ia.toNat).gives (funAt' p.funs k).gives=false
    ·rw[decide_eq_true h3]
     rw[if_pos h3] at HR
     have hR:Hid (r=([],3)):=HR.out.symm
     clear HR
     go_wp2_with (fail)
     rw[hR.out]
     exact bodyPost_ret (results_tmp2 (t:=8) (u:=9) rfl _ _ _) rfl ⟨⟨_,_,rfl,NR5.out.lower (Nat.le_succ_of_le hnw.out)⟩,B5.out⟩
    ·rw [decide_eq_false h3]
     rw[if_neg h3] at HR
     clear h3
     go_upto_region 12 with(fail)
     go_cut [67] from 68 to 78 (fun v wx=>v=.bool ((decide (op=25∨op=28∨op=29)||decide (op=26))&&decide (0<m))∧Hid (SW w.heap.size nb [.slice ra p.types.length rc,.slice ga p.glob.length cg,.slice (some ⟨fb,fo,none⟩) p.funs.length cf] [.int .i64 op,.int .i64 ia,.int .i64 ib] [.slice ta T.length tc,.slice na G.length nc,.bool true] wx)∧Hid (FdRow wx (nb+1) (.slice (some ⟨nb+1,0,none⟩) 0 0) [])∧Hid (FieldsIn wx w.heap.size nb na G)∧Hid (Below w.heap.size w wx)∧Hid (nb+1+1≤wx.heap.size))
     case first =>
      have i0:=S5.out.i.cell (o:=0) rfl
      have i1:=S5.out.i.cell (o:=1) rfl
      have i2:=S5.out.i.cell (o:=2) rfl
      have HLV:=hide (fun W=>specInsLeaves_any op ia ib W)
      obtain⟨lv,hlv⟩:∃z,decide (op=25∨op=28∨op=29)=z:=⟨_,rfl⟩
      rw[hlv] at HLV
      have HLD:=hide hlv
      clear hlv
      obtain⟨z26,hz26⟩:∃z,decide (op=26)=z:=⟨_,rfl⟩
      have hb26:(op==26)=z26:=by rw[←hz26];rfl
      have HZ26:=hide hz26
      clear hz26
      by_cases hm0:0<m
      ·have hmi:(0:Int)<(m:Int):=by omega
       have hd0:Hid (decide (0<m)=true):=decide_eq_true hm0
       go_wp2_with fail
       refine(HLV.out _).mono ?_
       rintro e w6 ⟨rfl,b6⟩
       have B6:=hide (B5.out.trans (b6.mono B5.out.size))
       have S6:=hide (S5.out.below b6)
       have NR6:=hide (NR5.out.below b6)
       have G6:Hid (FieldsIn w6 w.heap.size nb na G):=G5.out.keepB (b6.mono (by have:=s5.out;omega))
       have s6:Hid (nb+1+1≤w6.heap.size):=Nat.le_trans s5.out b6.size
       clear b6 i0 i1 i2
       have i0:=S6.out.i.cell (o:=0) rfl
       cases lv<;>cases z26
       all_goals
        go_wp2_with fail
        go_meet
        exact⟨by rw[HLD.out,HZ26.out,hd0.out];rfl,S6,NR6,G6,B6,s6⟩
      ·have hmi:¬(0:Int)<(m:Int):=by omega
       have hd0:Hid (decide (0<m)=false):=decide_eq_false hm0
       go_wp2_with fail
       refine(HLV.out _).mono ?_
       rintro e w6 ⟨rfl,b6⟩
       have B6:=hide (B5.out.trans (b6.mono B5.out.size))
       have S6:=hide (S5.out.below b6)
       have NR6:=hide (NR5.out.below b6)
       have G6:Hid (FieldsIn w6 w.heap.size nb na G):=G5.out.keepB (b6.mono (by have:=s5.out;omega))
       have s6:Hid (nb+1+1≤w6.heap.size):=Nat.le_trans s5.out b6.size
       clear b6 i0 i1 i2
       have i0:=S6.out.i.cell (o:=0) rfl
       cases lv<;>cases z26
       all_goals
        go_wp2_with fail
        go_meet
        exact⟨by rw[HLD.out,HZ26.out,hd0.out];rfl,S6,NR6,G6,B6,s6⟩
     case rest =>
      obtain⟨rfl,S6,NR6,G6,B6,s6⟩:=hcut
      clear S5 NR5 G5 B5 s5
      have hdm:decide (0<m)=decide (T.length<st.length):=decide_eq_decide.2 (by have:=hmH.out;omega)
      rw[hdm]
      clear hdm
      by_cases h4:(decide (op=25∨op=28∨op=29)||decide (op=26))=true∧T.length<st.length
      ·rw[h4.1,decide_eq_true h4.2]
       rw[if_pos h4] at HR
       have hR:Hid (r=([],4)):=HR.out.symm
       clear HR h4
       go_wp2_with (fail)
       rw[hR.out]
       exact bodyPost_ret (results_tmp2 (t:=8) (u:=9) rfl _ _ _) rfl ⟨⟨_,_,rfl,NR6.out.lower (Nat.le_succ_of_le hnw.out)⟩,B6.out⟩
      ·have h4':((decide (op=25∨op=28∨op=29)||decide (op=26))&&decide (T.length<st.length))=false:=by
        rw[Bool.eq_false_iff]
        intro h
        rw[Bool.and_eq_true,decide_eq_true_eq (p:=T.length<st.length)] at h
        exact h4 h
       rw[h4']
       rw[if_neg h4] at HR
       clear h4 h4'
       have n1:=S6.out.n.cell (o:=1) rfl
       by_cases h8:8<m+G.length
       ·have h8i:(8:Int)<(m:Int)+(G.length:Int):=by omega
        rw[if_pos h8] at HR
        have hR:Hid (r=([],5)):=HR.out.symm
        clear HR
        go_wp2_with (fail)
        rw[hR.out]
        exact bodyPost_ret (results_tmp2 (t:=8) (u:=9) rfl _ _ _) rfl ⟨⟨_,_,rfl,NR6.out.lower (Nat.le_succ_of_le hnw.out)⟩,B6.out⟩
       ·have h8i:¬(8:Int)<(m:Int)+(G.length:Int):=by omega
        rw[if_neg h8] at HR
        have hR:Hid (r=(st.take m++G,0)):=HR.out.symm
        clear HR
        go_upto_region 16 with(fail)
        have htl:(st.take m).length=m:=by have:=hmH.out;simp;omega
        have hx9:=(HXS.out.keepB (B6.out.mono hh1)).takeL m
        have hmS:(m:Int)≤(sc:Int):=by have:=hmH.out;omega
        have j0:(0:Int)≤(m:Int):=by omega
        have BD:=B6.out.drew
        have NRd:Hid (FdRow wc.drew (nb+1) (.slice (some ⟨nb+1,0,none⟩) 0 0) []):=NR6.out
        have hxd:Hid (FieldsIn wc.drew lo1 hi1 sa (st.take m)):=hx9
        have zd:nb+1≤wc.drew.heap.size:=Nat.le_of_succ_le s6.out
        clear hx9
        rcases sa with _|⟨sb,so,sp⟩
        ·go_region_held3 (fun w'=>w'.cell? ⟨nb,1,none⟩=some (.slice na G.length nc)) (go_keep) ((first
          | (refine step_app_fields (by rfl) _ _ (by rfl) (nb+1) (.slice a1 ([]++st.take m).length k1) ([]++st.take m) na nc w.heap.size nb G (by rfl) S7.out (by rfl) (by simp;omega) (by omega) G7.out z7 ?_;intro a2 k2 w8 h8 b8;have q1:=(R7.out.below b8 (Nat.lt_succ_self _)).cell (o:=1) rfl)
          | (refine step_app_fields (by rfl) _ _ (by rfl) (nb+1) (.slice (some ⟨nb+1,0,none⟩) 0 0) [] none sc lo1 hi1 (st.take m) (by rfl) NRd.out (by rw[htl];rfl) (by simp) (by rw[htl];omega) hxd.out zd ?_;intro a1 k1 w7 h7 b7;have S7:=hide h7;have B7:=hide (BD.trans (b7.mono (Nat.le_succ_of_le hnw.out)));have R7:=hide (Rec.below (w:=wc.drew) S6.out.n b7 (Nat.lt_succ_self _));have q1:=R7.out.cell (o:=1) rfl;have G7:=hide (FieldsIn.keepB (w:=wc.drew) G6.out (b7.mono (Nat.le_succ _)));have z7:nb+1≤w7.heap.size:=Nat.le_trans zd b7.size;clear h7 b7)))
         have S8:=hide h8
         have B8:=hide (B7.out.trans (b8.mono (Nat.le_succ_of_le hnw.out)))
         clear h8 b8
         go_wp2_with fail
         rw[hR.out]
         have hq:DoP w (st.take m++G,0) (.returned (.tuple #[.slice a2 (m+G.length) k2,.int .i64 0])) w8:=⟨⟨a2,k2,by show _=Ending.returned (.tuple #[.slice a2 (st.take m++G).length k2,.int .i64 0]);rw[List.length_append,htl],S8.out.lower (Nat.le_succ_of_le hnw.out)⟩,B8.out⟩
         exact bodyPost_ret (results_tmp2 (t:=8) (u:=9) rfl _ _ _) rfl hq
        ·go_region_held3 (fun w'=>w'.cell? ⟨nb,1,none⟩=some (.slice na G.length nc)) (go_keep) ((first
          | (refine step_app_fields (by rfl) _ _ (by rfl) (nb+1) (.slice a1 ([]++st.take m).length k1) ([]++st.take m) na nc w.heap.size nb G (by rfl) S7.out (by rfl) (by simp;omega) (by omega) G7.out z7 ?_;intro a2 k2 w8 h8 b8;have q1:=(R7.out.below b8 (Nat.lt_succ_self _)).cell (o:=1) rfl)
          | (refine step_app_fields (by rfl) _ _ (by rfl) (nb+1) (.slice (some ⟨nb+1,0,none⟩) 0 0) [] (some ⟨sb,so,sp⟩) sc lo1 hi1 (st.take m) (by rfl) NRd.out (by rw[htl];rfl) (by simp) (by rw[htl];omega) hxd.out zd ?_;intro a1 k1 w7 h7 b7;have S7:=hide h7;have B7:=hide (BD.trans (b7.mono (Nat.le_succ_of_le hnw.out)));have R7:=hide (Rec.below (w:=wc.drew) S6.out.n b7 (Nat.lt_succ_self _));have q1:=R7.out.cell (o:=1) rfl;have G7:=hide (FieldsIn.keepB (w:=wc.drew) G6.out (b7.mono (Nat.le_succ _)));have z7:nb+1≤w7.heap.size:=Nat.le_trans zd b7.size;clear h7 b7)))
         have S8:=hide h8
         have B8:=hide (B7.out.trans (b8.mono (Nat.le_succ_of_le hnw.out)))
         clear h8 b8
         go_wp2_with fail
         rw[hR.out]
         have hq:DoP w (st.take m++G,0) (.returned (.tuple #[.slice a2 (m+G.length) k2,.int .i64 0])) w8:=⟨⟨a2,k2,by show _=Ending.returned (.tuple #[.slice a2 (st.take m++G).length k2,.int .i64 0]);rw[List.length_append,htl],S8.out.lower (Nat.le_succ_of_le hnw.out)⟩,B8.out⟩
         exact bodyPost_ret (results_tmp2 (t:=8) (u:=9) rfl _ _ _) rfl hq
end Go.Proofs.YtpaneomkphjpcaaGreatDoor
