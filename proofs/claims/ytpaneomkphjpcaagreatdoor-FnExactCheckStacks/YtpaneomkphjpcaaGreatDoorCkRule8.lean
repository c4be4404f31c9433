/- Rules of a row's length, of calls, and of what is made. Written by tools/made/ckrule8.py. -/
import Derived.Test.YtpaneomkphjpcaaGreatDoorPcReg
import Derived.Test.YtpaneomkphjpcaaGreatDoorCkRule7
namespace Go.Proofs.YtpaneomkphjpcaaGreatDoor
open Go.ChangeShapes Go.WideShapes Go.ChangeAt Go.RowKit
set_option linter.unusedVariables false
set_option linter.unusedSimpArgs false
def EffP (lo:Nat) (W:World) (T G:List Fd) (nm:Bool) (e:Ending) (w':World):Prop :=
 ∃(ta:Option Addr) (tc:Nat) (ga:Option Addr) (gc:Nat),e=.returned (.tuple #[.agg #[.slice ta T.length tc,.slice ga G.length gc],.bool nm])∧FieldsIn w' lo w'.heap.size ta T∧FieldsIn w' lo w'.heap.size ga G∧Below W.heap.size W w'
theorem EffPost.low {lo:Nat} {W:World} {T G:List Fd} {nm:Bool} {e:Ending} {w':World} (h:EffPost W T G nm e w') (hl:lo≤W.heap.size):EffP lo W T G nm e w':=by
 obtain⟨ta,tc,ga,gc,h1,h2,h3,h4⟩:=h
 exact⟨ta,tc,ga,gc,h1,h2.same (fun _ _ _=>rfl) hl (Nat.le_refl _),h3.same (fun _ _ _=>rfl) hl (Nat.le_refl _),h4⟩
theorem FdRow.ownN {w:World} {S n cap:Nat} {a:Option Addr} {xs:List Fd} (h:FdRow w S (.slice a n cap) xs) (hn:n=xs.length):FieldsM true w S w.heap.size a xs:=by subst hn;exact h.own
theorem FieldsIn.wid {w:World} {lo hi lo' hi':Nat} {a:Option Addr} {fs:List Fd} (h:FieldsIn w lo hi a fs) (h1:lo'≤lo) (h2:hi≤hi'):FieldsIn w lo' hi' a fs:=h.same (fun _ _ _=>rfl) h1 h2
set_option maxHeartbeats 2000000 in
set_option maxRecDepth 100000 in
theorem checkLen_any (vs:List Value) (op a b tk to:Int) (tm:Bool) (w:World) (lo hi k:Nat) (p:GProg) (h:Scp w lo hi p k vs) (hn:kinCount p.types≤1099511627776) (hP:Parts p.types) :
  Calls Tryz.prog 157 #[.agg vs.toArray,.agg #[.int .i64 op,.int .i64 a,.int .i64 b],.agg #[.int .i64 tk,.int .i64 to,.bool tm]] w fun e w'=>EffPost w [⟨2,a,false⟩] [⟨1,0,false⟩] (tyIs p.types a 2) e w':=by
 obtain⟨w1,hw1,B1,E1,S1⟩:=entS vs op a b tk to tm w
 have hsz:(Tryz.prog.info? 94).map (·.size)=some vs.length:=by rw[h.len];kernel_rfl
 have i0:=S1.out.i.cell (o:=0) rfl
 have i1:=S1.out.i.cell (o:=1) rfl
 have i2:=S1.out.i.cell (o:=2) rfl
 have HC:=hide (rowField_any vs lo hi k p op a b w1 (h.keep (B1.out.mono h.hh)) hn hP)
 clear h
 generalize tyIs p.types a 2=nm at HC ⊢
 generalize rwF p.types a=f at HC
 obtain⟨fk,fo,fm⟩:=f
 go_enter Tryz.func157,Tryz.ntmps157
 go_upto_region 1 with(fail)
 rw[←hw1]
 clear hw1
 go_wp2_with (refine wpList_load_rec rfl 94 _ rfl w.heap.size 94 vs _ rfl S1.out.v Tryz.underlying94 rfl hsz ?_)
 refine HC.out.mono ?_
 rintro e w2 ⟨rfl,b2⟩
 have c2:=b2.trans ((Below.refl w2.heap.size w2).alloc (Nat.le_refl _) (.cells #[.int .i64 fk,.int .i64 fo,.bool fm] 68) |>.mono b2.size)
 have E2:=hide (E1.out.below c2 E1.out.lt)
 have S2:=hide (S1.out.below c2)
 have B2:=hide (B1.out.trans (c2.mono B1.out.size))
 clear b2 c2 i0 i1 i2 S1 E1 B1 HC
 go_upto_region 2 with(fail)
 generalize w2.alloc (.cells #[.int .i64 fk,.int .i64 fo,.bool fm] 68)=w5 at *
 have i1:=S2.out.i.cell (o:=1) rfl
 go_wp2_with fail
 refine(sortRef_any a _).mono ?_
 rintro e w3 ⟨rfl,b3⟩
 have B3:=hide ((B2.out.trans (b3.mono B2.out.size)).alloc (Nat.le_trans B2.out.size b3.size) (.cells #[.int .i64 2,.int .i64 a,.bool false] 68))
 have E3:=hide ((E2.out.below b3 E2.out.lt).alloc (.cells #[.int .i64 2,.int .i64 a,.bool false] 68))
 have N3:Hid (Rec (w3.alloc (.cells #[.int .i64 2,.int .i64 a,.bool false] 68)) w3.heap.size 68 (fcells [⟨2,a,false⟩])):=by show Rec _ _ _ _;rw[fcells_l1];exact Rec.new' _ _ _ _ rfl
 have l3:w.heap.size≤w3.heap.size:=Nat.le_trans B2.out.size b3.size
 have l3e:w.heap.size+1+1+1<w3.heap.size:=Nat.lt_of_lt_of_le E2.out.lt b3.size
 clear b3
 go_wp2_with fail
 refine(sortNum_any _).mono ?_
 rintro e w4 ⟨rfl,b4⟩
 have B4:=hide (B3.out.trans (b4.mono B3.out.size))
 have E4:=hide (E3.out.below b4 E3.out.lt)
 have N4:=hide (N3.out.below b4 N3.out.lt)
 have hlt:=E4.out.lt
 have s4:=B4.out.size
 have e0:=E4.out.cell (o:=0) rfl
 have e1:=E4.out.cell (o:=1) rfl
 have f0:=E4.out.frozen 0
 have f1:=E4.out.frozen 1
 clear b4
 obtain⟨W9,hW9⟩:∃x,x=(((w4.setCell ⟨w.heap.size+1+1+1,0,none⟩ (.slice (some ⟨w3.heap.size,0,none⟩) 1 1)).setCell ⟨w.heap.size+1+1+1,1,none⟩ (.slice (some ⟨w4.heap.size,0,none⟩) 1 1)).alloc (.cells #[.int .i64 1,.int .i64 0,.bool false] 68)):=⟨_,rfl⟩
 have NR:Hid (Rec W9 w4.heap.size 68 (fcells [⟨1,0,false⟩])):=by subst hW9;show Rec _ _ _ _;rw[fcells_l1];exact Rec.new' _ _ _ _ (by simp)
 have TR:Hid (Rec W9 w3.heap.size 68 (fcells [⟨2,a,false⟩])):=by subst hW9;exact((N4.out.other (by omega) 0 _).other (by omega) 1 _).alloc _
 have ER:Hid (Rec W9 (w.heap.size+1+1+1) 160 [.slice (some ⟨w3.heap.size,0,none⟩) 1 1,.slice (some ⟨w4.heap.size,0,none⟩) 1 1]):=by subst hW9;exact((E4.out.set 0 _).set 1 _).alloc _
 have BR:Hid (Below w.heap.size w W9):=by subst hW9;exact((B4.out.setCell (by show w.heap.size≤w.heap.size+1+1+1;omega) _).setCell (by show w.heap.size≤w.heap.size+1+1+1;omega) _).alloc (by simp;exact s4) _
 subst hW9
 go_wp2_with fail
 exact bodyPost_ret (results_ct rfl rfl ER.out Tryz.underlying160 rfl (by kernel_rfl)) rfl ⟨_,_,_,_,rfl,rec_fields TR.out l3 TR.out.lt,rec_fields NR.out s4 NR.out.lt,BR.out⟩
def caT (p:GProg) (a:Int):List Fd:=if a<(p.funs.length:Int) then(funAt' p.funs a.toNat).takes else []
def caG (p:GProg) (a:Int):List Fd:=if a<(p.funs.length:Int) then [(funAt' p.funs a.toNat).gives] else []
def CallPost (lo hi:Nat) (W:World) (T G:List Fd) (nm:Bool) (e:Ending) (w':World):Prop :=
 ∃(ta:Option Addr) (tc:Nat) (ga:Option Addr) (gc:Nat),e=.returned (.tuple #[.agg #[.slice ta T.length tc,.slice ga G.length gc],.bool nm])∧FieldsIn w' lo hi ta T∧FieldsIn w' W.heap.size w'.heap.size ga G∧Below W.heap.size W w'
set_option maxHeartbeats 2000000 in
set_option maxRecDepth 100000 in
theorem checkCall_core (vs:List Value) (op a b tk to:Int) (tm:Bool) (w:World) (lo hi k:Nat) (p:GProg) (h:Scp w lo hi p k vs) (ha:0≤a) :
  Calls Tryz.prog 165 #[.agg vs.toArray,.agg #[.int .i64 op,.int .i64 a,.int .i64 b],.agg #[.int .i64 tk,.int .i64 to,.bool tm]] w fun e w'=>CallPost lo hi w (caT p a) (caG p a) (decide (a<(p.funs.length:Int))) e w':=by
 obtain⟨w1,hw1,B1,E1,S1⟩:=entS vs op a b tk to tm w
 have hsz:(Tryz.prog.info? 94).map (·.size)=some vs.length:=by rw[h.len];kernel_rfl
 have i1:=S1.out.i.cell (o:=1) rfl
 obtain⟨fa,fc,e2,hf⟩:=h.fu
 have v2:=S1.out.v.cell e2
 have hh:=h.hh
 clear h e2
 by_cases hn:a<(p.funs.length:Int)
 ·have eT:caT p a=(funAt' p.funs a.toNat).takes:=if_pos hn
  have eG:caG p a=[(funAt' p.funs a.toNat).gives]:=if_pos hn
  have eD:decide (a<(p.funs.length:Int))=true:=by simp[hn]
  rw[eT,eG,eD]
  clear eT eG eD
  obtain⟨x,rfl⟩:∃x:Nat,a=x:=⟨a.toNat,by omega⟩
  rw[Int.toNat_natCast]
  have hx:x<p.funs.length:=by omega
  rcases hf with hnil|⟨fb,fo,rfl,z1,z2,_,z3⟩
  ·rw[hnil] at hx;exact absurd hx (Nat.not_lt_zero _)
  have hfb:fb<w.heap.size:=by omega
  obtain⟨p0,q0,p4,q4,p5,q5,y0,y1,y2,y3,y4,y5,t0,_,_⟩:=z3 x hx
  have HT:=hide t0.1
  clear z3 t0
  have y0:=(B1.out.cell (p:=⟨fb,fo+x*6,none⟩) hfb).trans y0
  have y1:=(B1.out.cell (p:=⟨fb,fo+x*6+1,none⟩) hfb).trans y1
  have y2:=(B1.out.cell (p:=⟨fb,fo+x*6+2,none⟩) hfb).trans y2
  have y3:=(B1.out.cell (p:=⟨fb,fo+x*6+3,none⟩) hfb).trans y3
  have y4:=(B1.out.cell (p:=⟨fb,fo+x*6+4,none⟩) hfb).trans y4
  have y5:=(B1.out.cell (p:=⟨fb,fo+x*6+5,none⟩) hfb).trans y5
  generalize hN:p.funs.length=N at *
  generalize funAt' p.funs x=F at y0 y1 y2 y3 y4 y5 HT ⊢
  obtain⟨ts,⟨gk,go,gm⟩,os,bs⟩:=F
  simp only at y0 y1 y2 y3 y4 y5 HT ⊢
  clear hN
  have hfb1:fb<w1.heap.size:=Nat.lt_of_lt_of_le hfb B1.out.size
  have j2:(x:Int)<(N:Int):=hn
  have j3:¬(N:Int)≤(x:Int):=by omega
  have l1:=B1.out.size
  have hlt:=E1.out.lt
  go_enter Tryz.func165,Tryz.ntmps165
  go_upto_region 1 with(fail)
  rw[←hw1]
  clear hw1
  go_upto_region 4 with(fail)
  have E2:=hide (E1.out.alloc (.cells #[.slice p0 ts.length q0,.int .i64 gk,.int .i64 go,.bool gm,.slice p4 os.length q4,.slice p5 bs.length q5] 92))
  have FR:=hide (Rec.new w1 92 [.slice p0 ts.length q0,.int .i64 gk,.int .i64 go,.bool gm,.slice p4 os.length q4,.slice p5 bs.length q5])
  have B2:=hide (B1.out.alloc l1 (.cells #[.slice p0 ts.length q0,.int .i64 gk,.int .i64 go,.bool gm,.slice p4 os.length q4,.slice p5 bs.length q5] 92))
  have hw12:w1.heap.size<(w1.alloc (.cells #[.slice p0 ts.length q0,.int .i64 gk,.int .i64 go,.bool gm,.slice p4 os.length q4,.slice p5 bs.length q5] 92)).heap.size:=by simp
  generalize w1.alloc (.cells #[.slice p0 ts.length q0,.int .i64 gk,.int .i64 go,.bool gm,.slice p4 os.length q4,.slice p5 bs.length q5] 92)=w2 at *
  have g0:=FR.out.cell (o:=0) rfl
  have g1:=FR.out.cell (o:=1) rfl
  have g2:=FR.out.cell (o:=2) rfl
  have g3:=FR.out.cell (o:=3) rfl
  have e0:=E2.out.cell (o:=0) rfl
  have e1:=E2.out.cell (o:=1) rfl
  have f0:=E2.out.frozen 0
  have f1:=E2.out.frozen 1
  have hlt2:=E2.out.lt
  have s2:=B2.out.size
  obtain⟨W9,hW9⟩:∃x,x=(((w2.setCell ⟨w.heap.size+1+1+1,0,none⟩ (.slice p0 ts.length q0)).setCell ⟨w.heap.size+1+1+1,1,none⟩ (.slice (some ⟨w2.heap.size,0,none⟩) 1 1)).alloc (.cells #[.int .i64 gk,.int .i64 go,.bool gm] 68)):=⟨_,rfl⟩
  have NR:Hid (Rec W9 w2.heap.size 68 (fcells [⟨gk,go,gm⟩])):=by subst hW9;show Rec _ _ _ _;rw[fcells_l1];exact Rec.new' _ _ _ _ (by simp)
  have ER:Hid (Rec W9 (w.heap.size+1+1+1) 160 [.slice p0 ts.length q0,.slice (some ⟨w2.heap.size,0,none⟩) 1 1]):=by subst hW9;exact((E2.out.set 0 _).set 1 _).alloc _
  have BR:Hid (Below w.heap.size w W9):=by subst hW9;exact((B2.out.setCell (by show w.heap.size≤w.heap.size+1+1+1;omega) _).setCell (by show w.heap.size≤w.heap.size+1+1+1;omega) _).alloc (by simp;exact s2) _
  subst hW9
  have TF:=hide (HT.out.same (Same.of_below BR.out hh) (Nat.le_refl _) (Nat.le_refl _))
  go_wp2_with fail
  exact bodyPost_ret (results_ct rfl rfl ER.out Tryz.underlying160 rfl (by kernel_rfl)) rfl ⟨_,_,_,_,rfl,TF.out,rec_fields NR.out (by omega) NR.out.lt,BR.out⟩
 ·have eT:caT p a=[]:=if_neg hn
  have eG:caG p a=[]:=if_neg hn
  have eD:decide (a<(p.funs.length:Int))=false:=by simp[hn]
  rw[eT,eG,eD]
  clear eT eG eD
  have j3:(p.funs.length:Int)≤a:=by omega
  generalize p.funs.length=N at *
  clear hf
  have e0:=E1.out.cell (o:=0) rfl
  have e1:=E1.out.cell (o:=1) rfl
  have f0:=E1.out.frozen 0
  have f1:=E1.out.frozen 1
  go_enter Tryz.func165,Tryz.ntmps165
  go_upto_region 1 with(fail)
  rw[←hw1]
  clear hw1
  go_wp2_with fail
  exact bodyPost_ret (results_ct rfl rfl ((E1.out.set 0 (.slice none 0 0)).set 1 (.slice none 0 0)) Tryz.underlying160 rfl (by kernel_rfl)) rfl ⟨none,0,none,0,rfl,.inl rfl,.inl rfl,(B1.out.setCell (by show w.heap.size≤w.heap.size+1+1+1;omega) _).setCell (by show w.heap.size≤w.heap.size+1+1+1;omega) _⟩
theorem checkCall_any (vs:List Value) (op a b tk to:Int) (tm:Bool) (w:World) (lo hi k:Nat) (p:GProg) (h:Scp w lo hi p k vs) (ha:0≤a) (hl:lo≤w.heap.size) :
  Calls Tryz.prog 165 #[.agg vs.toArray,.agg #[.int .i64 op,.int .i64 a,.int .i64 b],.agg #[.int .i64 tk,.int .i64 to,.bool tm]] w fun e w'=>EffP lo w (caT p a) (caG p a) (decide (a<(p.funs.length:Int))) e w':=by
 refine(checkCall_core vs op a b tk to tm w lo hi k p h ha).mono ?_
 rintro e w' ⟨ta,tc,ga,gc,h1,h2,h3,h4⟩
 exact⟨ta,tc,ga,gc,h1,h2.wid (Nat.le_refl _) (Nat.le_trans h.hh h4.size),h3.wid hl (Nat.le_refl _),h4⟩
set_option maxHeartbeats 2000000 in
set_option maxRecDepth 100000 in
theorem checkPass_any (vs:List Value) (op a b tk to:Int) (tm:Bool) (w:World) (lo hi k:Nat) (p:GProg) (h:Scp w lo hi p k vs) (ha:0≤a) (hl:lo≤w.heap.size) :
  Calls Tryz.prog 166 #[.agg vs.toArray,.agg #[.int .i64 op,.int .i64 a,.int .i64 b],.agg #[.int .i64 tk,.int .i64 to,.bool tm]] w fun e w'=>EffP lo w (caT p a) [] (decide (a<(p.funs.length:Int))) e w':=by
 obtain⟨w1,hw1,B1,E1,S1⟩:=entS vs op a b tk to tm w
 have hsz:(Tryz.prog.info? 94).map (·.size)=some vs.length:=by rw[h.len];kernel_rfl
 have i0:=S1.out.i.cell (o:=0) rfl
 have i1:=S1.out.i.cell (o:=1) rfl
 have i2:=S1.out.i.cell (o:=2) rfl
 have t0:=S1.out.t.cell (o:=0) rfl
 have t1:=S1.out.t.cell (o:=1) rfl
 have t2:=S1.out.t.cell (o:=2) rfl
 have l1:=B1.out.size
 have HC:=hide (checkCall_core vs op a b tk to tm w1 lo hi k p (h.keep (B1.out.mono h.hh)) ha)
 have hh:=h.hh
 clear h
 generalize caT p a=T at HC ⊢
 generalize caG p a=G at HC
 generalize decide (a<(p.funs.length:Int))=nm at HC ⊢
 go_enter Tryz.func166,Tryz.ntmps166
 go_upto_region 1 with(fail)
 rw[←hw1]
 clear hw1
 go_wp2_with (refine wpList_load_rec rfl 94 _ rfl w.heap.size 94 vs _ rfl S1.out.v Tryz.underlying94 rfl hsz ?_)
 refine HC.out.mono ?_
 rintro e w2 ⟨ta,tc,ga,gc,rfl,hT,hG,b2⟩
 have bn:=(Below.refl w2.heap.size w2).alloc (Nat.le_refl _) (.cells #[.slice ta T.length tc,.slice ga G.length gc] 160)
 have c2:=b2.trans (bn.mono b2.size)
 have E2:=hide (E1.out.below c2 E1.out.lt)
 have B2:=hide (B1.out.trans (c2.mono l1))
 have X2:=hide (Rec.new w2 160 [.slice ta T.length tc,.slice ga G.length gc])
 have T2:=hide (hT.keepB (bn.mono (Nat.le_trans hh (Nat.le_trans l1 b2.size))))
 have z2:=bn.size
 have ze:w.heap.size+1+1+1<w2.heap.size:=Nat.lt_of_lt_of_le E1.out.lt b2.size
 clear b2 c2 bn i0 i1 i2 t0 t1 t2 S1 E1 B1 HC hG hT
 go_upto_region 2 with(fail)
 generalize w2.alloc (.cells #[.slice ta T.length tc,.slice ga G.length gc] 160)=w3 at *
 have x0:=X2.out.cell (o:=0) rfl
 have e0:=E2.out.cell (o:=0) rfl
 have e1:=E2.out.cell (o:=1) rfl
 have f0:=E2.out.frozen 0
 have f1:=E2.out.frozen 1
 have hne:¬w2.heap.size=w.heap.size+1+1+1:=by omega
 go_wp2_with fail
 refine bodyPost_ret (results_ct rfl rfl ((E2.out.set 0 (.slice ta T.length tc)).set 1 (.slice none 0 0)) Tryz.underlying160 rfl (by kernel_rfl)) rfl ⟨ta,tc,none,0,rfl,?_,.inl rfl,(B2.out.setCell (by show w.heap.size≤w.heap.size+1+1+1;omega) _).setCell (by show w.heap.size≤w.heap.size+1+1+1;omega) _⟩
 have hz:=B2.out.size
 exact T2.out.same (((Same.refl _ _ _).set (.inr (by omega)) _ _).set (.inr (by omega)) _ _) (Nat.le_refl _) (by simp;omega)
set_option maxHeartbeats 4000000 in
set_option maxRecDepth 100000 in
theorem checkNew_any (vs:List Value) (op a b tk to:Int) (tm:Bool) (w:World) (lo hi k:Nat) (p:GProg) (h:Scp w lo hi p k vs) (hn:kinCount p.types≤1099511627776) (hLn:(tyF p.types a).fields.length≤1000) :
  Calls Tryz.prog 151 #[.agg vs.toArray,.agg #[.int .i64 op,.int .i64 a,.int .i64 b],.agg #[.int .i64 tk,.int .i64 to,.bool tm]] w fun e w'=>EffPost w ((tyF p.types a).fields.map sOf) [⟨3,a,false⟩] (tyIs p.types a 1) e w':=by
 obtain⟨w1,hw1,B1,E1,S1⟩:=entS vs op a b tk to tm w
 have hsz:(Tryz.prog.info? 94).map (·.size)=some vs.length:=by rw[h.len];kernel_rfl
 have i1:=S1.out.i.cell (o:=1) rfl
 have HC:=hide (typeOf_any vs lo hi k p a 1 w1 (h.keep (B1.out.mono h.hh)) hn)
 have hh:=h.hh
 have HL:=hide hLn
 clear hLn h
 generalize tyIs p.types a 1=nm at HC ⊢
 generalize tyF p.types a=t at HC HL ⊢
 obtain⟨yk,yu,yl,yf⟩:=t
 simp only at HC HL ⊢
 go_enter Tryz.func151,Tryz.ntmps151
 go_upto_region 1 with(fail)
 rw[←hw1]
 clear hw1
 go_wp2_with (refine wpList_load_rec rfl 94 _ rfl w.heap.size 94 vs _ rfl S1.out.v Tryz.underlying94 rfl hsz ?_)
 refine HC.out.mono ?_
 rintro e w2 ⟨fa,fc,rfl,hf,b2⟩
 have bn:=(Below.refl w2.heap.size w2).alloc (Nat.le_refl _) (.cells #[.int .i64 yk,.int .i64 yu,.bool yl,.slice fa yf.length fc] 143)
 have c2:=b2.trans (bn.mono b2.size)
 have hx:w.heap.size+1+1+1<w2.heap.size:=Nat.lt_of_lt_of_le E1.out.lt b2.size
 have S2:Hid (SBX w.heap.size w2.heap.size 143 vs [.int .i64 op,.int .i64 a,.int .i64 b] [.int .i64 tk,.int .i64 to,.bool tm] [.int .i64 yk,.int .i64 yu,.bool yl,.slice fa yf.length fc] (w2.alloc (.cells #[.int .i64 yk,.int .i64 yu,.bool yl,.slice fa yf.length fc] 143))):=⟨S1.out.v.below c2 S1.out.v.lt,S1.out.i.below c2 S1.out.i.lt,S1.out.t.below c2 S1.out.t.lt,Rec.new _ _ _,hx⟩
 have E2:=hide (E1.out.below c2 E1.out.lt)
 have B2:=hide (B1.out.trans (c2.mono B1.out.size))
 have F2:=hide (hf.keepB (bn.mono (Nat.le_trans hh (Nat.le_trans B1.out.size b2.size))))
 have hi2:hi≤(w2.alloc (.cells #[.int .i64 yk,.int .i64 yu,.bool yl,.slice fa yf.length fc] 143)).heap.size:=Nat.le_trans hh B2.out.size
 clear b2 c2 bn i1 S1 E1 B1 HC hf
 go_upto_region 2 with(fail)
 generalize w2.alloc (.cells #[.int .i64 yk,.int .i64 yu,.bool yl,.slice fa yf.length fc] 143)=w1 at *
 generalize w2.heap.size=bx at *
 have Bd:=hide B2.out.drew
 have Ed:=hide E2.out.drew'
 have SLd:=hide S2.out.drew
 have hld:=Ed.out.lt
 have F1:Hid (FieldsIn w1.drew lo hi fa yf):=F2.out
 have hi1:hi≤w1.drew.heap.size:=hi2
 refine beginA (S:=SBX w.heap.size bx 143 vs [.int .i64 op,.int .i64 a,.int .i64 b] [.int .i64 tk,.int .i64 to,.bool tm] [.int .i64 yk,.int .i64 yu,.bool yl,.slice fa yf.length fc]) 10 (by kernel_rfl) SLd.out (fun hHeld=>?_)
 try simp only[Act.put,lA,lB,lC]
 refine tA 0 (v:=?v0n1) ?y0n1 ?r0n1
 case y0n1=>(intro w _;go_simp;try with_reducible rfl)
 (try simp only[Act.put,lA,lB,lC])
 refine tA 1 (v:=?v1n2) ?y1n2 ?r1n2
 case y1n2=>(intro w hSw;have si1:=hSw.i.cell (o:=1) rfl;have sx0:=hSw.x.cell (o:=0) rfl;have sx1:=hSw.x.cell (o:=1) rfl;have sx2:=hSw.x.cell (o:=2) rfl;have sx3:=hSw.x.cell (o:=3) rfl;clear hSw;go_simp;try with_reducible rfl)
 (try simp only[Act.put,lA,lB,lC])
 refine tA 3 (v:=?v3n3) ?y3n3 ?r3n3
 case y3n3=>(intro w _;go_simp;try with_reducible rfl)
 (try simp only[Act.put,lA,lB,lC])
 refine tA 4 (v:=?v4n4) ?y4n4 ?r4n4
 case y4n4=>(intro w hSw;have si1:=hSw.i.cell (o:=1) rfl;have sx0:=hSw.x.cell (o:=0) rfl;have sx1:=hSw.x.cell (o:=1) rfl;have sx2:=hSw.x.cell (o:=2) rfl;have sx3:=hSw.x.cell (o:=3) rfl;clear hSw;go_simp;try with_reducible rfl)
 (try simp only[Act.put,lA,lB,lC])
 refine tA 8 (v:=?v8n5) ?y8n5 ?r8n5
 case y8n5=>(intro w _;go_simp;try with_reducible rfl)
 (try simp only[Act.put,lA,lB,lC])
 refine oA 2 (fun K hK=>?_)
 go_simp
 (go_at_call 187;refine(sortsOf_any fa fc lo hi yf _ F1.out hi1 HL.out).mono ?_;rintro e w3 ⟨ra9,rc9,rfl,hr9,b3⟩)
 have B3:=hide (Bd.out.trans (b3.mono Bd.out.size))
 have E3:=hide (Ed.out.below b3 Ed.out.lt)
 have Q3:=hide hr9
 have z3:w1.heap.size≤w3.heap.size:=b3.size
 have HH:=hHeld.below b3
 clear b3 hr9
 refine hK.out _ _ HH (fun hHeld=>?_)
 clear hK K HH
 (try simp only[Act.put,lA,lB,lC])
 refine oA 5 (fun K hK=>?_)
 go_simp
 (go_at_call 183;refine(sortSure_any a _).mono ?_;rintro e w4 ⟨rfl,b4⟩)
 have B4:=hide (B3.out.trans (b4.mono B3.out.size))
 have E4:=hide (E3.out.below b4 E3.out.lt)
 have Q4:=hide (Q3.out.below b4)
 have z4:=Nat.le_trans z3 b4.size
 have HH:=hHeld.below b4
 have SL4:=hide HH
 clear b4
 refine hK.out _ _ HH (fun hHeld=>?_)
 clear hK K HH
 (try simp only[Act.put,lA,lB,lC])
 refine oA 6 (fun K hK=>?_)
 go_simp
 refine hK.out _ _ (hHeld.alloc (.cells #[.int .i64 3,.int .i64 a,.bool false] 68)) (fun hHeld=>?_)
 clear hK K
 (try simp only[Act.put,lA,lB,lC])
 refine tA 7 (v:=?v7n6) ?y7n6 ?r7n6
 case y7n6=>(intro w _;go_simp;try with_reducible rfl)
 (try simp only[Act.put,lA,lB,lC])
 refine oA 9 (fun K hK=>?_)
 have e0:=E4.out.cell (o:=0) rfl
 have e1:=E4.out.cell (o:=1) rfl
 have f0:=E4.out.frozen 0
 have f1:=E4.out.frozen 1
 have hlt:=E4.out.lt
 have sw:=B4.out.size
 go_simp
 refine hK.out _ _ ?_ (fun hHeld=>?_)
 ·exact(SL4.out.eff _ _).alloc _
 clear hK K e0 e1 f0 f1
 (try simp only[Act.put,lA,lB,lC])
 refine eA 10 (fun K hK=>?_)
 go_simp
 refine hK.out _ _ ?_
 clear hK K
 (try simp only[Act.put,lA,lB,lC])
 refine doneA (by kernel_rfl) ?_ _
 obtain⟨W9,hW9⟩:∃x,x=(((w4.setCell ⟨w.heap.size+1+1+1,0,none⟩ (.slice ra9 yf.length rc9)).setCell ⟨w.heap.size+1+1+1,1,none⟩ (.slice (some ⟨w4.heap.size,0,none⟩) 1 1)).alloc (.cells #[.int .i64 3,.int .i64 a,.bool false] 68)):=⟨_,rfl⟩
 have NR:Hid (Rec W9 w4.heap.size 68 (fcells [⟨3,a,false⟩])):=by subst hW9;show Rec _ _ _ _;rw[fcells_l1];exact Rec.new' _ _ _ _ (by simp)
 have ER:Hid (Rec W9 (w.heap.size+1+1+1) 160 [.slice ra9 yf.length rc9,.slice (some ⟨w4.heap.size,0,none⟩) 1 1]):=by subst hW9;exact((E4.out.set 0 _).set 1 _).alloc _
 have BR:Hid (Below w.heap.size w W9):=by subst hW9;exact((B4.out.setCell (by show w.heap.size≤w.heap.size+1+1+1;omega) _).setCell (by show w.heap.size≤w.heap.size+1+1+1;omega) _).alloc (by simp;exact sw) _
 subst hW9
 have hld2:w.heap.size+1+1+1<w1.heap.size:=hld
 have TR:Hid (FdRow (((w4.setCell ⟨w.heap.size+1+1+1,0,none⟩ (.slice ra9 yf.length rc9)).setCell ⟨w.heap.size+1+1+1,1,none⟩ (.slice (some ⟨w4.heap.size,0,none⟩) 1 1)).alloc (.cells #[.int .i64 3,.int .i64 a,.bool false] 68)) w1.heap.size (.slice ra9 yf.length rc9) (yf.map sOf)):=FdRow.alloc (owns_of_block Q4.out fun q hq=>by have h1:=owns_base Q4.out q hq;have h2:w1.heap.size≤q:=h1;rw[Below.heap_setCell _ _ _ _ (by show q≠w.heap.size+1+1+1;omega),Below.heap_setCell _ _ _ _ (by show q≠w.heap.size+1+1+1;omega)]) _
 have hwl:w.heap.size≤w1.heap.size:=Bd.out.size
 go_wp2_with fail
 have hTf:FieldsIn (((w4.setCell ⟨w.heap.size+1+1+1,0,none⟩ (.slice ra9 yf.length rc9)).setCell ⟨w.heap.size+1+1+1,1,none⟩ (.slice (some ⟨w4.heap.size,0,none⟩) 1 1)).alloc (.cells #[.int .i64 3,.int .i64 a,.bool false] 68)) w1.heap.size (((w4.setCell ⟨w.heap.size+1+1+1,0,none⟩ (.slice ra9 yf.length rc9)).setCell ⟨w.heap.size+1+1+1,1,none⟩ (.slice (some ⟨w4.heap.size,0,none⟩) 1 1)).alloc (.cells #[.int .i64 3,.int .i64 a,.bool false] 68)).heap.size ra9 (yf.map sOf):=(TR.out.ownN (by simp)).1
 exact bodyPost_ret (results_ct rfl rfl ER.out Tryz.underlying160 rfl (by kernel_rfl)) rfl ⟨ra9,rc9,some ⟨w4.heap.size,0,none⟩,1,by rw[List.length_map];rfl,hTf.wid hwl (Nat.le_refl _),rec_fields NR.out sw NR.out.lt,BR.out⟩
end Go.Proofs.YtpaneomkphjpcaaGreatDoor
