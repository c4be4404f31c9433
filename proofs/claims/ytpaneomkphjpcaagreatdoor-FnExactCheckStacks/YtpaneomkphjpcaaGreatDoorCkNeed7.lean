/- What an instruction of a type takes and gives, as the model tells it. Written by tools/made/ckneed7.py. -/
import Derived.Test.YtpaneomkphjpcaaGreatDoorPcReg
import Derived.Test.YtpaneomkphjpcaaGreatDoorCkNeed6
namespace Go.Proofs.YtpaneomkphjpcaaGreatDoor
open Go.ChangeShapes Go.WideShapes Go.ChangeAt Go.RowKit
set_option linter.unusedVariables false
set_option linter.unusedSimpArgs false
structure SY (b tb q:Nat) (pv iv:List Value) (t:Ty) (qa:Option Addr) (qc:Nat) (w':World):Prop where
 p:Rec w' b 37 pv
 i:Rec w' (b+1) 40 iv
 c0:w'.cell? ⟨tb,q,none⟩=some (.int .i64 t.kind)
 c1:w'.cell? ⟨tb,q+1,none⟩=some (.int .i64 t.up)
 c2:w'.cell? ⟨tb,q+2,none⟩=some (.bool t.last)
 c3:w'.cell? ⟨tb,q+3,none⟩=some (.slice qa t.fields.length qc)
 lt:tb<w'.heap.size
theorem SY.below {b tb q qc:Nat} {pv iv:List Value} {t:Ty} {qa:Option Addr} {w w':World} (h:SY b tb q pv iv t qa qc w) (hb:Below w.heap.size w w'):SY b tb q pv iv t qa qc w' :=
 ⟨h.p.below hb h.p.lt,h.i.below hb h.i.lt,(hb.cell (p:=⟨tb,q,none⟩) h.lt).trans h.c0,(hb.cell (p:=⟨tb,q+1,none⟩) h.lt).trans h.c1,(hb.cell (p:=⟨tb,q+2,none⟩) h.lt).trans h.c2,(hb.cell (p:=⟨tb,q+3,none⟩) h.lt).trans h.c3,Nat.lt_of_lt_of_le h.lt hb.size⟩
theorem SY.drew {b tb q qc:Nat} {pv iv:List Value} {t:Ty} {qa:Option Addr} {w:World} (h:SY b tb q pv iv t qa qc w):SY b tb q pv iv t qa qc w.drew:=⟨h.p,h.i,h.c0,h.c1,h.c2,h.c3,h.lt⟩
set_option maxHeartbeats 4000000 in
set_option maxRecDepth 100000 in
theorem l4Thing_none (ra ga fa:Option Addr) (rc ng cg nf cf k lo hi:Nat) (gs:List (List Ty)) (op y:Int) (w:World) (hN:Few gs) (hx:GroupsIn w lo hi ra gs) (hh:hi≤w.heap.size) (hl:lo≤hi) (hk:kinCount gs≤k) :
  Calls Tryz.prog 89 #[.agg #[.slice ra gs.length rc,.slice ga ng cg,.slice fa nf cf],.agg #[.int .i64 op,.int .i64 (k:Int),.int .i64 y]] w fun e w'=>NeedPost w [] [] false e w':=by
 have j1:(kinCount gs:Int)≤(k:Int):=by omega
 have HX:=hide hx
 clear hx
 obtain⟨w1,hw1⟩:∃w1,w1=(((w.alloc (.cells #[.slice ra gs.length rc,.slice ga ng cg,.slice fa nf cf] 37)).alloc (.cells #[.int .i64 op,.int .i64 (k:Int),.int .i64 y] 40)).alloc (.cells #[.slice none 0 0,.slice none 0 0,.bool false] 115)):=⟨_,rfl⟩
 have BB:Hid (Below w.heap.size w w1):=by show Below _ _ _;rw[hw1];exact(((Below.refl _ _).alloc (Nat.le_refl _) _).alloc (by simp) _).alloc (by simp;omega) _
 have EE:Hid (Rec w1 (w.heap.size+1+1) 115 [.slice none 0 0,.slice none 0 0,.bool false]):=by show Rec _ _ _ _;rw[hw1];exact Rec.new' _ _ _ _ (by simp)
 have II:Hid (Rec w1 (w.heap.size+1) 40 [.int .i64 op,.int .i64 (k:Int),.int .i64 y]):=by show Rec _ _ _ _;rw[hw1];exact(Rec.new' _ _ _ _ (by simp)).alloc _
 have PP:Hid (Rec w1 w.heap.size 37 [.slice ra gs.length rc,.slice ga ng cg,.slice fa nf cf]):=by show Rec _ _ _ _;rw[hw1];exact((Rec.new _ _ _).alloc _).alloc _
 have HF:=hide (l1Flat_any ra rc lo hi gs w1 hN (HX.out.keep (BB.out.mono hh)) (Nat.le_trans hh BB.out.size) hl)
 have p0:=PP.out.cell (o:=0) rfl
 have i0:=II.out.cell (o:=0) rfl
 have i1:=II.out.cell (o:=1) rfl
 go_enter Tryz.func89,Tryz.ntmps89
 go_upto_region 1 with(fail)
 rw[←hw1]
 clear hw1
 go_wp2_with fail
 refine HF.out.mono ?_
 rintro e w0 ⟨na,nc,rfl,hT,b2⟩
 have B0:=hide (BB.out.trans (b2.mono BB.out.size))
 have E0:=hide (EE.out.below b2 EE.out.lt)
 have I0:=hide (II.out.below b2 II.out.lt)
 have P0:=hide (PP.out.below b2 PP.out.lt)
 have HT:=hide hT
 clear hT b2 BB EE II PP p0 i0 i1 HF
 have i0:=I0.out.cell (o:=0) rfl
 have i1:=I0.out.cell (o:=1) rfl
 have e0:=E0.out.cell (o:=0) rfl
 have e1:=E0.out.cell (o:=1) rfl
 have e2:=E0.out.cell (o:=2) rfl
 have f0:=E0.out.frozen 0
 have f1:=E0.out.frozen 1
 have f2:=E0.out.frozen 2
 go_wp2_with fail
 exact bodyPost_ret (rec_res rfl rfl (((E0.out.set 0 (.slice none 0 0)).set 1 (.slice none 0 0)).set 2 (.bool false)) Tryz.underlying115 rfl (by kernel_rfl)) rfl ⟨none,0,none,0,rfl,.inl rfl,.inl rfl,((B0.out.setCell (by show w.heap.size≤w.heap.size+1+1;omega) _).setCell (by show w.heap.size≤w.heap.size+1+1;omega) _).setCell (by show w.heap.size≤w.heap.size+1+1;omega) _⟩
set_option maxHeartbeats 40000000 in
set_option maxRecDepth 100000 in
theorem l4Thing_box (ra ga fa:Option Addr) (rc ng cg nf cf k lo hi:Nat) (gs:List (List Ty)) (op y:Int) (T G:List Fd) (nm:Bool) (w:World) (hN:Few gs) (hx:GroupsIn w lo hi ra gs) (hh:hi≤w.heap.size) (hl:lo≤hi) (hk:k<kinCount gs) (hop:op=13∨op=14∨op=15)
  (HC:∀W qa qc,FieldsIn W lo W.heap.size qa (tyAt (flat gs) k).fields→Calls Tryz.prog 120 #[.agg #[.int .i64 (tyAt (flat gs) k).kind,.int .i64 (tyAt (flat gs) k).up,.bool (tyAt (flat gs) k).last,.slice qa (tyAt (flat gs) k).fields.length qc],.agg #[.int .i64 op,.int .i64 (k:Int),.int .i64 y]] W fun e w'=>NeedPost W T G nm e w') :
  Calls Tryz.prog 89 #[.agg #[.slice ra gs.length rc,.slice ga ng cg,.slice fa nf cf],.agg #[.int .i64 op,.int .i64 (k:Int),.int .i64 y]] w fun e w'=>NeedPost w T G nm e w':=by
 have j1:(k:Int)<(kinCount gs:Int):=by omega
 have j2:¬(kinCount gs:Int)≤(k:Int):=by omega
 have j3:(0:Int)≤(k:Int):=by omega
 replace HC:=hide HC
 have HX:=hide hx
 clear hx
 obtain⟨w1,hw1⟩:∃w1,w1=(((w.alloc (.cells #[.slice ra gs.length rc,.slice ga ng cg,.slice fa nf cf] 37)).alloc (.cells #[.int .i64 op,.int .i64 (k:Int),.int .i64 y] 40)).alloc (.cells #[.slice none 0 0,.slice none 0 0,.bool false] 115)):=⟨_,rfl⟩
 have BB:Hid (Below w.heap.size w w1):=by show Below _ _ _;rw[hw1];exact(((Below.refl _ _).alloc (Nat.le_refl _) _).alloc (by simp) _).alloc (by simp;omega) _
 have EE:Hid (Rec w1 (w.heap.size+1+1) 115 [.slice none 0 0,.slice none 0 0,.bool false]):=by show Rec _ _ _ _;rw[hw1];exact Rec.new' _ _ _ _ (by simp)
 have II:Hid (Rec w1 (w.heap.size+1) 40 [.int .i64 op,.int .i64 (k:Int),.int .i64 y]):=by show Rec _ _ _ _;rw[hw1];exact(Rec.new' _ _ _ _ (by simp)).alloc _
 have PP:Hid (Rec w1 w.heap.size 37 [.slice ra gs.length rc,.slice ga ng cg,.slice fa nf cf]):=by show Rec _ _ _ _;rw[hw1];exact((Rec.new _ _ _).alloc _).alloc _
 have HF:=hide (l1Flat_any ra rc lo hi gs w1 hN (HX.out.keep (BB.out.mono hh)) (Nat.le_trans hh BB.out.size) hl)
 have p0:=PP.out.cell (o:=0) rfl
 have i0:=II.out.cell (o:=0) rfl
 have i1:=II.out.cell (o:=1) rfl
 go_enter Tryz.func89,Tryz.ntmps89
 go_upto_region 1 with(fail)
 rw[←hw1]
 clear hw1
 go_wp2_with fail
 refine HF.out.mono ?_
 rintro e w0 ⟨na,nc,rfl,hT,b2⟩
 have B0:=hide (BB.out.trans (b2.mono BB.out.size))
 have E0:=hide (EE.out.below b2 EE.out.lt)
 have I0:=hide (II.out.below b2 II.out.lt)
 have P0:=hide (PP.out.below b2 PP.out.lt)
 have HT:=hide hT
 clear hT b2 BB EE II PP p0 i0 i1 HF
 have i0:=I0.out.cell (o:=0) rfl
 have i1:=I0.out.cell (o:=1) rfl
 rcases HT.out with hnil|⟨tb,to,rfl,g1,g2,g3⟩
 ·have:=flat_length gs
  rw[hnil] at this
  simp at this
  omega
 obtain⟨c0,c1,c2,qa,qc,c3,hq⟩:=g3 k (by rw[flat_length];exact hk)
 have HQ:=hide hq
 have S0:Hid (SY w.heap.size tb (to+k*4) [.slice ra gs.length rc,.slice ga ng cg,.slice fa nf cf] [.int .i64 op,.int .i64 (k:Int),.int .i64 y] (tyAt (flat gs) k) qa qc w0):=⟨P0.out,I0.out,c0,c1,c2,c3,g2⟩
 clear c0 c1 c2 c3 g1 g2 g3 hq HT P0 I0
 generalize tyAt (flat gs) k=t at *
 obtain⟨tk,tu,tl,tf⟩:=t
 simp only at HC HQ S0
 rcases hop with rfl|rfl|rfl
 ·go_upto_region 5 with(fail)
  clear i0 i1
  have Bd:=hide B0.out.drew
  have Ed:=hide (Rec.drew' E0.out)
  have SLd:=hide S0.out.drew
  refine beginA (S:=SY w.heap.size tb (to+k*4) [.slice ra gs.length rc,.slice ga ng cg,.slice fa nf cf] [.int .i64 13,.int .i64 (k:Int),.int .i64 y] ⟨tk,tu,tl,tf⟩ qa qc) 7 (by kernel_rfl) SLd.out (fun hHeld=>?_)
  (try simp only[Act.put,lA,lB,lC])
  refine tA 0 (v:=?v0n1) ?y0n1 ?r0n1
  case y0n1=>(intro w _;go_simp;try with_reducible rfl)
  (try simp only[Act.put,lA,lB,lC])
  refine tA 1 (v:=?v1n2) ?y1n2 ?r1n2
  case y1n2=>(intro w _;go_simp;try with_reducible rfl)
  (try simp only[Act.put,lA,lB,lC])
  refine tA 2 (v:=?v2n3) ?y2n3 ?r2n3
  case y2n3=>(intro w hSw;have sp0:=hSw.p.cell (o:=0) rfl;have si0:=hSw.i.cell (o:=0) rfl;have si1:=hSw.i.cell (o:=1) rfl;have si2:=hSw.i.cell (o:=2) rfl;have sc0:=hSw.c0;have sc1:=hSw.c1;have sc2:=hSw.c2;have sc3:=hSw.c3;go_simp;try with_reducible rfl)
  (try simp only[Act.put,lA,lB,lC])
  refine tA 3 (v:=?v3n4) ?y3n4 ?r3n4
  case y3n4=>(intro w _;go_simp;try with_reducible rfl)
  (try simp only[Act.put,lA,lB,lC])
  refine tA 4 (v:=?v4n5) ?y4n5 ?r4n5
  case y4n5=>(intro w hSw;have sp0:=hSw.p.cell (o:=0) rfl;have si0:=hSw.i.cell (o:=0) rfl;have si1:=hSw.i.cell (o:=1) rfl;have si2:=hSw.i.cell (o:=2) rfl;have sc0:=hSw.c0;have sc1:=hSw.c1;have sc2:=hSw.c2;have sc3:=hSw.c3;go_simp;try with_reducible rfl)
  (try simp only[Act.put,lA,lB,lC])
  refine tA 5 (v:=?v5n6) ?y5n6 ?r5n6
  case y5n6=>(intro w hSw;have sp0:=hSw.p.cell (o:=0) rfl;have si0:=hSw.i.cell (o:=0) rfl;have si1:=hSw.i.cell (o:=1) rfl;have si2:=hSw.i.cell (o:=2) rfl;have sc0:=hSw.c0;have sc1:=hSw.c1;have sc2:=hSw.c2;have sc3:=hSw.c3;go_simp;try with_reducible rfl)
  (try simp only[Act.put,lA,lB,lC])
  refine oA 6 (fun K hK=>?_)
  go_simp
  (go_at_call 120;refine(HC.out w0.drew qa qc HQ.out).mono ?_;rintro e w1 ⟨tA,tC,gA,gC,rfl,R1,R2,b1⟩)
  have B1:=hide (Bd.out.trans (b1.mono Bd.out.size))
  have E1:=hide (Ed.out.below b1 Ed.out.lt)
  have N1T:=hide (R1.wid Bd.out.size (Nat.le_refl _))
  have N1G:=hide (R2.wid Bd.out.size (Nat.le_refl _))
  have HH:=hHeld.below b1
  clear b1 R1 R2
  refine hK.out _ _ HH (fun hHeld=>?_)
  clear hK K HH
  (try simp only[Act.put,lA,lB,lC])
  refine eA 7 (fun K hK=>?_)
  have e0:=E1.out.cell (o:=0) rfl
  have e1:=E1.out.cell (o:=1) rfl
  have e2:=E1.out.cell (o:=2) rfl
  have f0:=E1.out.frozen 0
  have f1:=E1.out.frozen 1
  have f2:=E1.out.frozen 2
  have hlt:=E1.out.lt
  have sw:=B1.out.size
  go_simp
  refine hK.out _ _ ?_
  clear hK K
  (try simp only[Act.put,lA,lB,lC])
  refine doneA (by kernel_rfl) ?_ _
  go_wp2_with fail
  exact need_done E1.out B1.out (by show w.heap.size≤w.heap.size+1+1;omega) (need_lst N1T.out E1.out) (need_lst N1G.out E1.out) rfl rfl rfl
 ·go_upto_region 5 with(fail)
  clear i0 i1
  have Bd:=hide B0.out.drew
  have Ed:=hide (Rec.drew' E0.out)
  have SLd:=hide S0.out.drew
  refine beginA (S:=SY w.heap.size tb (to+k*4) [.slice ra gs.length rc,.slice ga ng cg,.slice fa nf cf] [.int .i64 14,.int .i64 (k:Int),.int .i64 y] ⟨tk,tu,tl,tf⟩ qa qc) 7 (by kernel_rfl) SLd.out (fun hHeld=>?_)
  (try simp only[Act.put,lA,lB,lC])
  refine tA 0 (v:=?v0n7) ?y0n7 ?r0n7
  case y0n7=>(intro w _;go_simp;try with_reducible rfl)
  (try simp only[Act.put,lA,lB,lC])
  refine tA 1 (v:=?v1n8) ?y1n8 ?r1n8
  case y1n8=>(intro w _;go_simp;try with_reducible rfl)
  (try simp only[Act.put,lA,lB,lC])
  refine tA 2 (v:=?v2n9) ?y2n9 ?r2n9
  case y2n9=>(intro w hSw;have sp0:=hSw.p.cell (o:=0) rfl;have si0:=hSw.i.cell (o:=0) rfl;have si1:=hSw.i.cell (o:=1) rfl;have si2:=hSw.i.cell (o:=2) rfl;have sc0:=hSw.c0;have sc1:=hSw.c1;have sc2:=hSw.c2;have sc3:=hSw.c3;go_simp;try with_reducible rfl)
  (try simp only[Act.put,lA,lB,lC])
  refine tA 3 (v:=?v3n10) ?y3n10 ?r3n10
  case y3n10=>(intro w _;go_simp;try with_reducible rfl)
  (try simp only[Act.put,lA,lB,lC])
  refine tA 4 (v:=?v4n11) ?y4n11 ?r4n11
  case y4n11=>(intro w hSw;have sp0:=hSw.p.cell (o:=0) rfl;have si0:=hSw.i.cell (o:=0) rfl;have si1:=hSw.i.cell (o:=1) rfl;have si2:=hSw.i.cell (o:=2) rfl;have sc0:=hSw.c0;have sc1:=hSw.c1;have sc2:=hSw.c2;have sc3:=hSw.c3;go_simp;try with_reducible rfl)
  (try simp only[Act.put,lA,lB,lC])
  refine tA 5 (v:=?v5n12) ?y5n12 ?r5n12
  case y5n12=>(intro w hSw;have sp0:=hSw.p.cell (o:=0) rfl;have si0:=hSw.i.cell (o:=0) rfl;have si1:=hSw.i.cell (o:=1) rfl;have si2:=hSw.i.cell (o:=2) rfl;have sc0:=hSw.c0;have sc1:=hSw.c1;have sc2:=hSw.c2;have sc3:=hSw.c3;go_simp;try with_reducible rfl)
  (try simp only[Act.put,lA,lB,lC])
  refine oA 6 (fun K hK=>?_)
  go_simp
  (go_at_call 120;refine(HC.out w0.drew qa qc HQ.out).mono ?_;rintro e w2 ⟨tA,tC,gA,gC,rfl,R1,R2,b2⟩)
  have B2:=hide (Bd.out.trans (b2.mono Bd.out.size))
  have E2:=hide (Ed.out.below b2 Ed.out.lt)
  have N2T:=hide (R1.wid Bd.out.size (Nat.le_refl _))
  have N2G:=hide (R2.wid Bd.out.size (Nat.le_refl _))
  have HH:=hHeld.below b2
  clear b2 R1 R2
  refine hK.out _ _ HH (fun hHeld=>?_)
  clear hK K HH
  (try simp only[Act.put,lA,lB,lC])
  refine eA 7 (fun K hK=>?_)
  have e0:=E2.out.cell (o:=0) rfl
  have e1:=E2.out.cell (o:=1) rfl
  have e2:=E2.out.cell (o:=2) rfl
  have f0:=E2.out.frozen 0
  have f1:=E2.out.frozen 1
  have f2:=E2.out.frozen 2
  have hlt:=E2.out.lt
  have sw:=B2.out.size
  go_simp
  refine hK.out _ _ ?_
  clear hK K
  (try simp only[Act.put,lA,lB,lC])
  refine doneA (by kernel_rfl) ?_ _
  go_wp2_with fail
  exact need_done E2.out B2.out (by show w.heap.size≤w.heap.size+1+1;omega) (need_lst N2T.out E2.out) (need_lst N2G.out E2.out) rfl rfl rfl
 ·go_upto_region 5 with(fail)
  clear i0 i1
  have Bd:=hide B0.out.drew
  have Ed:=hide (Rec.drew' E0.out)
  have SLd:=hide S0.out.drew
  refine beginA (S:=SY w.heap.size tb (to+k*4) [.slice ra gs.length rc,.slice ga ng cg,.slice fa nf cf] [.int .i64 15,.int .i64 (k:Int),.int .i64 y] ⟨tk,tu,tl,tf⟩ qa qc) 7 (by kernel_rfl) SLd.out (fun hHeld=>?_)
  (try simp only[Act.put,lA,lB,lC])
  refine tA 0 (v:=?v0n13) ?y0n13 ?r0n13
  case y0n13=>(intro w _;go_simp;try with_reducible rfl)
  (try simp only[Act.put,lA,lB,lC])
  refine tA 1 (v:=?v1n14) ?y1n14 ?r1n14
  case y1n14=>(intro w _;go_simp;try with_reducible rfl)
  (try simp only[Act.put,lA,lB,lC])
  refine tA 2 (v:=?v2n15) ?y2n15 ?r2n15
  case y2n15=>(intro w hSw;have sp0:=hSw.p.cell (o:=0) rfl;have si0:=hSw.i.cell (o:=0) rfl;have si1:=hSw.i.cell (o:=1) rfl;have si2:=hSw.i.cell (o:=2) rfl;have sc0:=hSw.c0;have sc1:=hSw.c1;have sc2:=hSw.c2;have sc3:=hSw.c3;go_simp;try with_reducible rfl)
  (try simp only[Act.put,lA,lB,lC])
  refine tA 3 (v:=?v3n16) ?y3n16 ?r3n16
  case y3n16=>(intro w _;go_simp;try with_reducible rfl)
  (try simp only[Act.put,lA,lB,lC])
  refine tA 4 (v:=?v4n17) ?y4n17 ?r4n17
  case y4n17=>(intro w hSw;have sp0:=hSw.p.cell (o:=0) rfl;have si0:=hSw.i.cell (o:=0) rfl;have si1:=hSw.i.cell (o:=1) rfl;have si2:=hSw.i.cell (o:=2) rfl;have sc0:=hSw.c0;have sc1:=hSw.c1;have sc2:=hSw.c2;have sc3:=hSw.c3;go_simp;try with_reducible rfl)
  (try simp only[Act.put,lA,lB,lC])
  refine tA 5 (v:=?v5n18) ?y5n18 ?r5n18
  case y5n18=>(intro w hSw;have sp0:=hSw.p.cell (o:=0) rfl;have si0:=hSw.i.cell (o:=0) rfl;have si1:=hSw.i.cell (o:=1) rfl;have si2:=hSw.i.cell (o:=2) rfl;have sc0:=hSw.c0;have sc1:=hSw.c1;have sc2:=hSw.c2;have sc3:=hSw.c3;go_simp;try with_reducible rfl)
  (try simp only[Act.put,lA,lB,lC])
  refine oA 6 (fun K hK=>?_)
  go_simp
  (go_at_call 120;refine(HC.out w0.drew qa qc HQ.out).mono ?_;rintro e w3 ⟨tA,tC,gA,gC,rfl,R1,R2,b3⟩)
  have B3:=hide (Bd.out.trans (b3.mono Bd.out.size))
  have E3:=hide (Ed.out.below b3 Ed.out.lt)
  have N3T:=hide (R1.wid Bd.out.size (Nat.le_refl _))
  have N3G:=hide (R2.wid Bd.out.size (Nat.le_refl _))
  have HH:=hHeld.below b3
  clear b3 R1 R2
  refine hK.out _ _ HH (fun hHeld=>?_)
  clear hK K HH
  (try simp only[Act.put,lA,lB,lC])
  refine eA 7 (fun K hK=>?_)
  have e0:=E3.out.cell (o:=0) rfl
  have e1:=E3.out.cell (o:=1) rfl
  have e2:=E3.out.cell (o:=2) rfl
  have f0:=E3.out.frozen 0
  have f1:=E3.out.frozen 1
  have f2:=E3.out.frozen 2
  have hlt:=E3.out.lt
  have sw:=B3.out.size
  go_simp
  refine hK.out _ _ ?_
  clear hK K
  (try simp only[Act.put,lA,lB,lC])
  refine doneA (by kernel_rfl) ?_ _
  go_wp2_with fail
  exact need_done E3.out B3.out (by show w.heap.size≤w.heap.size+1+1;omega) (need_lst N3T.out E3.out) (need_lst N3G.out E3.out) rfl rfl rfl
set_option maxHeartbeats 40000000 in
set_option maxRecDepth 100000 in
theorem l4Thing_row (ra ga fa:Option Addr) (rc ng cg nf cf k lo hi:Nat) (gs:List (List Ty)) (op y:Int) (T G:List Fd) (nm:Bool) (w:World) (hN:Few gs) (hx:GroupsIn w lo hi ra gs) (hh:hi≤w.heap.size) (hl:lo≤hi) (hk:k<kinCount gs) (hop:op=16∨op=17∨op=18∨op=19)
  (HC:∀W qa qc,FieldsIn W lo W.heap.size qa (tyAt (flat gs) k).fields→Calls Tryz.prog 121 #[.agg #[.int .i64 (tyAt (flat gs) k).kind,.int .i64 (tyAt (flat gs) k).up,.bool (tyAt (flat gs) k).last,.slice qa (tyAt (flat gs) k).fields.length qc],.agg #[.int .i64 op,.int .i64 (k:Int),.int .i64 y]] W fun e w'=>NeedPost W T G nm e w') :
  Calls Tryz.prog 89 #[.agg #[.slice ra gs.length rc,.slice ga ng cg,.slice fa nf cf],.agg #[.int .i64 op,.int .i64 (k:Int),.int .i64 y]] w fun e w'=>NeedPost w T G nm e w':=by
 have j1:(k:Int)<(kinCount gs:Int):=by omega
 have j2:¬(kinCount gs:Int)≤(k:Int):=by omega
 have j3:(0:Int)≤(k:Int):=by omega
 replace HC:=hide HC
 have HX:=hide hx
 clear hx
 obtain⟨w1,hw1⟩:∃w1,w1=(((w.alloc (.cells #[.slice ra gs.length rc,.slice ga ng cg,.slice fa nf cf] 37)).alloc (.cells #[.int .i64 op,.int .i64 (k:Int),.int .i64 y] 40)).alloc (.cells #[.slice none 0 0,.slice none 0 0,.bool false] 115)):=⟨_,rfl⟩
 have BB:Hid (Below w.heap.size w w1):=by show Below _ _ _;rw[hw1];exact(((Below.refl _ _).alloc (Nat.le_refl _) _).alloc (by simp) _).alloc (by simp;omega) _
 have EE:Hid (Rec w1 (w.heap.size+1+1) 115 [.slice none 0 0,.slice none 0 0,.bool false]):=by show Rec _ _ _ _;rw[hw1];exact Rec.new' _ _ _ _ (by simp)
 have II:Hid (Rec w1 (w.heap.size+1) 40 [.int .i64 op,.int .i64 (k:Int),.int .i64 y]):=by show Rec _ _ _ _;rw[hw1];exact(Rec.new' _ _ _ _ (by simp)).alloc _
 have PP:Hid (Rec w1 w.heap.size 37 [.slice ra gs.length rc,.slice ga ng cg,.slice fa nf cf]):=by show Rec _ _ _ _;rw[hw1];exact((Rec.new _ _ _).alloc _).alloc _
 have HF:=hide (l1Flat_any ra rc lo hi gs w1 hN (HX.out.keep (BB.out.mono hh)) (Nat.le_trans hh BB.out.size) hl)
 have p0:=PP.out.cell (o:=0) rfl
 have i0:=II.out.cell (o:=0) rfl
 have i1:=II.out.cell (o:=1) rfl
 go_enter Tryz.func89,Tryz.ntmps89
 go_upto_region 1 with(fail)
 rw[←hw1]
 clear hw1
 go_wp2_with fail
 refine HF.out.mono ?_
 rintro e w0 ⟨na,nc,rfl,hT,b2⟩
 have B0:=hide (BB.out.trans (b2.mono BB.out.size))
 have E0:=hide (EE.out.below b2 EE.out.lt)
 have I0:=hide (II.out.below b2 II.out.lt)
 have P0:=hide (PP.out.below b2 PP.out.lt)
 have HT:=hide hT
 clear hT b2 BB EE II PP p0 i0 i1 HF
 have i0:=I0.out.cell (o:=0) rfl
 have i1:=I0.out.cell (o:=1) rfl
 rcases HT.out with hnil|⟨tb,to,rfl,g1,g2,g3⟩
 ·have:=flat_length gs
  rw[hnil] at this
  simp at this
  omega
 obtain⟨c0,c1,c2,qa,qc,c3,hq⟩:=g3 k (by rw[flat_length];exact hk)
 have HQ:=hide hq
 have S0:Hid (SY w.heap.size tb (to+k*4) [.slice ra gs.length rc,.slice ga ng cg,.slice fa nf cf] [.int .i64 op,.int .i64 (k:Int),.int .i64 y] (tyAt (flat gs) k) qa qc w0):=⟨P0.out,I0.out,c0,c1,c2,c3,g2⟩
 clear c0 c1 c2 c3 g1 g2 g3 hq HT P0 I0
 generalize tyAt (flat gs) k=t at *
 obtain⟨tk,tu,tl,tf⟩:=t
 simp only at HC HQ S0
 rcases hop with rfl|rfl|rfl|rfl
 ·go_upto_region 6 with(fail)
  clear i0 i1
  have Bd:=hide B0.out.drew
  have Ed:=hide (Rec.drew' E0.out)
  have SLd:=hide S0.out.drew
  refine beginA (S:=SY w.heap.size tb (to+k*4) [.slice ra gs.length rc,.slice ga ng cg,.slice fa nf cf] [.int .i64 16,.int .i64 (k:Int),.int .i64 y] ⟨tk,tu,tl,tf⟩ qa qc) 7 (by kernel_rfl) SLd.out (fun hHeld=>?_)
  (try simp only[Act.put,lA,lB,lC])
  refine tA 0 (v:=?v0n19) ?y0n19 ?r0n19
  case y0n19=>(intro w _;go_simp;try with_reducible rfl)
  (try simp only[Act.put,lA,lB,lC])
  refine tA 1 (v:=?v1n20) ?y1n20 ?r1n20
  case y1n20=>(intro w _;go_simp;try with_reducible rfl)
  (try simp only[Act.put,lA,lB,lC])
  refine tA 2 (v:=?v2n21) ?y2n21 ?r2n21
  case y2n21=>(intro w hSw;have sp0:=hSw.p.cell (o:=0) rfl;have si0:=hSw.i.cell (o:=0) rfl;have si1:=hSw.i.cell (o:=1) rfl;have si2:=hSw.i.cell (o:=2) rfl;have sc0:=hSw.c0;have sc1:=hSw.c1;have sc2:=hSw.c2;have sc3:=hSw.c3;go_simp;try with_reducible rfl)
  (try simp only[Act.put,lA,lB,lC])
  refine tA 3 (v:=?v3n22) ?y3n22 ?r3n22
  case y3n22=>(intro w _;go_simp;try with_reducible rfl)
  (try simp only[Act.put,lA,lB,lC])
  refine tA 4 (v:=?v4n23) ?y4n23 ?r4n23
  case y4n23=>(intro w hSw;have sp0:=hSw.p.cell (o:=0) rfl;have si0:=hSw.i.cell (o:=0) rfl;have si1:=hSw.i.cell (o:=1) rfl;have si2:=hSw.i.cell (o:=2) rfl;have sc0:=hSw.c0;have sc1:=hSw.c1;have sc2:=hSw.c2;have sc3:=hSw.c3;go_simp;try with_reducible rfl)
  (try simp only[Act.put,lA,lB,lC])
  refine tA 5 (v:=?v5n24) ?y5n24 ?r5n24
  case y5n24=>(intro w hSw;have sp0:=hSw.p.cell (o:=0) rfl;have si0:=hSw.i.cell (o:=0) rfl;have si1:=hSw.i.cell (o:=1) rfl;have si2:=hSw.i.cell (o:=2) rfl;have sc0:=hSw.c0;have sc1:=hSw.c1;have sc2:=hSw.c2;have sc3:=hSw.c3;go_simp;try with_reducible rfl)
  (try simp only[Act.put,lA,lB,lC])
  refine oA 6 (fun K hK=>?_)
  go_simp
  (go_at_call 121;refine(HC.out w0.drew qa qc HQ.out).mono ?_;rintro e w4 ⟨tA,tC,gA,gC,rfl,R1,R2,b4⟩)
  have B4:=hide (Bd.out.trans (b4.mono Bd.out.size))
  have E4:=hide (Ed.out.below b4 Ed.out.lt)
  have N4T:=hide (R1.wid Bd.out.size (Nat.le_refl _))
  have N4G:=hide (R2.wid Bd.out.size (Nat.le_refl _))
  have HH:=hHeld.below b4
  clear b4 R1 R2
  refine hK.out _ _ HH (fun hHeld=>?_)
  clear hK K HH
  (try simp only[Act.put,lA,lB,lC])
  refine eA 7 (fun K hK=>?_)
  have e0:=E4.out.cell (o:=0) rfl
  have e1:=E4.out.cell (o:=1) rfl
  have e2:=E4.out.cell (o:=2) rfl
  have f0:=E4.out.frozen 0
  have f1:=E4.out.frozen 1
  have f2:=E4.out.frozen 2
  have hlt:=E4.out.lt
  have sw:=B4.out.size
  go_simp
  refine hK.out _ _ ?_
  clear hK K
  (try simp only[Act.put,lA,lB,lC])
  refine doneA (by kernel_rfl) ?_ _
  go_wp2_with fail
  exact need_done E4.out B4.out (by show w.heap.size≤w.heap.size+1+1;omega) (need_lst N4T.out E4.out) (need_lst N4G.out E4.out) rfl rfl rfl
 ·go_upto_region 6 with(fail)
  clear i0 i1
  have Bd:=hide B0.out.drew
  have Ed:=hide (Rec.drew' E0.out)
  have SLd:=hide S0.out.drew
  refine beginA (S:=SY w.heap.size tb (to+k*4) [.slice ra gs.length rc,.slice ga ng cg,.slice fa nf cf] [.int .i64 17,.int .i64 (k:Int),.int .i64 y] ⟨tk,tu,tl,tf⟩ qa qc) 7 (by kernel_rfl) SLd.out (fun hHeld=>?_)
  (try simp only[Act.put,lA,lB,lC])
  refine tA 0 (v:=?v0n25) ?y0n25 ?r0n25
  case y0n25=>(intro w _;go_simp;try with_reducible rfl)
  (try simp only[Act.put,lA,lB,lC])
  refine tA 1 (v:=?v1n26) ?y1n26 ?r1n26
  case y1n26=>(intro w _;go_simp;try with_reducible rfl)
  (try simp only[Act.put,lA,lB,lC])
  refine tA 2 (v:=?v2n27) ?y2n27 ?r2n27
  case y2n27=>(intro w hSw;have sp0:=hSw.p.cell (o:=0) rfl;have si0:=hSw.i.cell (o:=0) rfl;have si1:=hSw.i.cell (o:=1) rfl;have si2:=hSw.i.cell (o:=2) rfl;have sc0:=hSw.c0;have sc1:=hSw.c1;have sc2:=hSw.c2;have sc3:=hSw.c3;go_simp;try with_reducible rfl)
  (try simp only[Act.put,lA,lB,lC])
  refine tA 3 (v:=?v3n28) ?y3n28 ?r3n28
  case y3n28=>(intro w _;go_simp;try with_reducible rfl)
  (try simp only[Act.put,lA,lB,lC])
  refine tA 4 (v:=?v4n29) ?y4n29 ?r4n29
  case y4n29=>(intro w hSw;have sp0:=hSw.p.cell (o:=0) rfl;have si0:=hSw.i.cell (o:=0) rfl;have si1:=hSw.i.cell (o:=1) rfl;have si2:=hSw.i.cell (o:=2) rfl;have sc0:=hSw.c0;have sc1:=hSw.c1;have sc2:=hSw.c2;have sc3:=hSw.c3;go_simp;try with_reducible rfl)
  (try simp only[Act.put,lA,lB,lC])
  refine tA 5 (v:=?v5n30) ?y5n30 ?r5n30
  case y5n30=>(intro w hSw;have sp0:=hSw.p.cell (o:=0) rfl;have si0:=hSw.i.cell (o:=0) rfl;have si1:=hSw.i.cell (o:=1) rfl;have si2:=hSw.i.cell (o:=2) rfl;have sc0:=hSw.c0;have sc1:=hSw.c1;have sc2:=hSw.c2;have sc3:=hSw.c3;go_simp;try with_reducible rfl)
  (try simp only[Act.put,lA,lB,lC])
  refine oA 6 (fun K hK=>?_)
  go_simp
  (go_at_call 121;refine(HC.out w0.drew qa qc HQ.out).mono ?_;rintro e w5 ⟨tA,tC,gA,gC,rfl,R1,R2,b5⟩)
  have B5:=hide (Bd.out.trans (b5.mono Bd.out.size))
  have E5:=hide (Ed.out.below b5 Ed.out.lt)
  have N5T:=hide (R1.wid Bd.out.size (Nat.le_refl _))
  have N5G:=hide (R2.wid Bd.out.size (Nat.le_refl _))
  have HH:=hHeld.below b5
  clear b5 R1 R2
  refine hK.out _ _ HH (fun hHeld=>?_)
  clear hK K HH
  (try simp only[Act.put,lA,lB,lC])
  refine eA 7 (fun K hK=>?_)
  have e0:=E5.out.cell (o:=0) rfl
  have e1:=E5.out.cell (o:=1) rfl
  have e2:=E5.out.cell (o:=2) rfl
  have f0:=E5.out.frozen 0
  have f1:=E5.out.frozen 1
  have f2:=E5.out.frozen 2
  have hlt:=E5.out.lt
  have sw:=B5.out.size
  go_simp
  refine hK.out _ _ ?_
  clear hK K
  (try simp only[Act.put,lA,lB,lC])
  refine doneA (by kernel_rfl) ?_ _
  go_wp2_with fail
  exact need_done E5.out B5.out (by show w.heap.size≤w.heap.size+1+1;omega) (need_lst N5T.out E5.out) (need_lst N5G.out E5.out) rfl rfl rfl
 ·go_upto_region 6 with(fail)
  clear i0 i1
  have Bd:=hide B0.out.drew
  have Ed:=hide (Rec.drew' E0.out)
  have SLd:=hide S0.out.drew
  refine beginA (S:=SY w.heap.size tb (to+k*4) [.slice ra gs.length rc,.slice ga ng cg,.slice fa nf cf] [.int .i64 18,.int .i64 (k:Int),.int .i64 y] ⟨tk,tu,tl,tf⟩ qa qc) 7 (by kernel_rfl) SLd.out (fun hHeld=>?_)
  (try simp only[Act.put,lA,lB,lC])
  refine tA 0 (v:=?v0n31) ?y0n31 ?r0n31
  case y0n31=>(intro w _;go_simp;try with_reducible rfl)
  (try simp only[Act.put,lA,lB,lC])
  refine tA 1 (v:=?v1n32) ?y1n32 ?r1n32
  case y1n32=>(intro w _;go_simp;try with_reducible rfl)
  (try simp only[Act.put,lA,lB,lC])
  refine tA 2 (v:=?v2n33) ?y2n33 ?r2n33
  case y2n33=>(intro w hSw;have sp0:=hSw.p.cell (o:=0) rfl;have si0:=hSw.i.cell (o:=0) rfl;have si1:=hSw.i.cell (o:=1) rfl;have si2:=hSw.i.cell (o:=2) rfl;have sc0:=hSw.c0;have sc1:=hSw.c1;have sc2:=hSw.c2;have sc3:=hSw.c3;go_simp;try with_reducible rfl)
  (try simp only[Act.put,lA,lB,lC])
  refine tA 3 (v:=?v3n34) ?y3n34 ?r3n34
  case y3n34=>(intro w _;go_simp;try with_reducible rfl)
  (try simp only[Act.put,lA,lB,lC])
  refine tA 4 (v:=?v4n35) ?y4n35 ?r4n35
  case y4n35=>(intro w hSw;have sp0:=hSw.p.cell (o:=0) rfl;have si0:=hSw.i.cell (o:=0) rfl;have si1:=hSw.i.cell (o:=1) rfl;have si2:=hSw.i.cell (o:=2) rfl;have sc0:=hSw.c0;have sc1:=hSw.c1;have sc2:=hSw.c2;have sc3:=hSw.c3;go_simp;try with_reducible rfl)
  (try simp only[Act.put,lA,lB,lC])
  refine tA 5 (v:=?v5n36) ?y5n36 ?r5n36
  case y5n36=>(intro w hSw;have sp0:=hSw.p.cell (o:=0) rfl;have si0:=hSw.i.cell (o:=0) rfl;have si1:=hSw.i.cell (o:=1) rfl;have si2:=hSw.i.cell (o:=2) rfl;have sc0:=hSw.c0;have sc1:=hSw.c1;have sc2:=hSw.c2;have sc3:=hSw.c3;go_simp;try with_reducible rfl)
  (try simp only[Act.put,lA,lB,lC])
  refine oA 6 (fun K hK=>?_)
  go_simp
  (go_at_call 121;refine(HC.out w0.drew qa qc HQ.out).mono ?_;rintro e w6 ⟨tA,tC,gA,gC,rfl,R1,R2,b6⟩)
  have B6:=hide (Bd.out.trans (b6.mono Bd.out.size))
  have E6:=hide (Ed.out.below b6 Ed.out.lt)
  have N6T:=hide (R1.wid Bd.out.size (Nat.le_refl _))
  have N6G:=hide (R2.wid Bd.out.size (Nat.le_refl _))
  have HH:=hHeld.below b6
  clear b6 R1 R2
  refine hK.out _ _ HH (fun hHeld=>?_)
  clear hK K HH
  (try simp only[Act.put,lA,lB,lC])
  refine eA 7 (fun K hK=>?_)
  have e0:=E6.out.cell (o:=0) rfl
  have e1:=E6.out.cell (o:=1) rfl
  have e2:=E6.out.cell (o:=2) rfl
  have f0:=E6.out.frozen 0
  have f1:=E6.out.frozen 1
  have f2:=E6.out.frozen 2
  have hlt:=E6.out.lt
  have sw:=B6.out.size
  go_simp
  refine hK.out _ _ ?_
  clear hK K
  (try simp only[Act.put,lA,lB,lC])
  refine doneA (by kernel_rfl) ?_ _
  go_wp2_with fail
  exact need_done E6.out B6.out (by show w.heap.size≤w.heap.size+1+1;omega) (need_lst N6T.out E6.out) (need_lst N6G.out E6.out) rfl rfl rfl
 ·go_upto_region 6 with(fail)
  clear i0 i1
  have Bd:=hide B0.out.drew
  have Ed:=hide (Rec.drew' E0.out)
  have SLd:=hide S0.out.drew
  refine beginA (S:=SY w.heap.size tb (to+k*4) [.slice ra gs.length rc,.slice ga ng cg,.slice fa nf cf] [.int .i64 19,.int .i64 (k:Int),.int .i64 y] ⟨tk,tu,tl,tf⟩ qa qc) 7 (by kernel_rfl) SLd.out (fun hHeld=>?_)
  (try simp only[Act.put,lA,lB,lC])
  refine tA 0 (v:=?v0n37) ?y0n37 ?r0n37
  case y0n37=>(intro w _;go_simp;try with_reducible rfl)
  (try simp only[Act.put,lA,lB,lC])
  refine tA 1 (v:=?v1n38) ?y1n38 ?r1n38
  case y1n38=>(intro w _;go_simp;try with_reducible rfl)
  (try simp only[Act.put,lA,lB,lC])
  refine tA 2 (v:=?v2n39) ?y2n39 ?r2n39
  case y2n39=>(intro w hSw;have sp0:=hSw.p.cell (o:=0) rfl;have si0:=hSw.i.cell (o:=0) rfl;have si1:=hSw.i.cell (o:=1) rfl;have si2:=hSw.i.cell (o:=2) rfl;have sc0:=hSw.c0;have sc1:=hSw.c1;have sc2:=hSw.c2;have sc3:=hSw.c3;go_simp;try with_reducible rfl)
  (try simp only[Act.put,lA,lB,lC])
  refine tA 3 (v:=?v3n40) ?y3n40 ?r3n40
  case y3n40=>(intro w _;go_simp;try with_reducible rfl)
  (try simp only[Act.put,lA,lB,lC])
  refine tA 4 (v:=?v4n41) ?y4n41 ?r4n41
  case y4n41=>(intro w hSw;have sp0:=hSw.p.cell (o:=0) rfl;have si0:=hSw.i.cell (o:=0) rfl;have si1:=hSw.i.cell (o:=1) rfl;have si2:=hSw.i.cell (o:=2) rfl;have sc0:=hSw.c0;have sc1:=hSw.c1;have sc2:=hSw.c2;have sc3:=hSw.c3;go_simp;try with_reducible rfl)
  (try simp only[Act.put,lA,lB,lC])
  refine tA 5 (v:=?v5n42) ?y5n42 ?r5n42
  case y5n42=>(intro w hSw;have sp0:=hSw.p.cell (o:=0) rfl;have si0:=hSw.i.cell (o:=0) rfl;have si1:=hSw.i.cell (o:=1) rfl;have si2:=hSw.i.cell (o:=2) rfl;have sc0:=hSw.c0;have sc1:=hSw.c1;have sc2:=hSw.c2;have sc3:=hSw.c3;go_simp;try with_reducible rfl)
  (try simp only[Act.put,lA,lB,lC])
  refine oA 6 (fun K hK=>?_)
  go_simp
  (go_at_call 121;refine(HC.out w0.drew qa qc HQ.out).mono ?_;rintro e w7 ⟨tA,tC,gA,gC,rfl,R1,R2,b7⟩)
  have B7:=hide (Bd.out.trans (b7.mono Bd.out.size))
  have E7:=hide (Ed.out.below b7 Ed.out.lt)
  have N7T:=hide (R1.wid Bd.out.size (Nat.le_refl _))
  have N7G:=hide (R2.wid Bd.out.size (Nat.le_refl _))
  have HH:=hHeld.below b7
  clear b7 R1 R2
  refine hK.out _ _ HH (fun hHeld=>?_)
  clear hK K HH
  (try simp only[Act.put,lA,lB,lC])
  refine eA 7 (fun K hK=>?_)
  have e0:=E7.out.cell (o:=0) rfl
  have e1:=E7.out.cell (o:=1) rfl
  have e2:=E7.out.cell (o:=2) rfl
  have f0:=E7.out.frozen 0
  have f1:=E7.out.frozen 1
  have f2:=E7.out.frozen 2
  have hlt:=E7.out.lt
  have sw:=B7.out.size
  go_simp
  refine hK.out _ _ ?_
  clear hK K
  (try simp only[Act.put,lA,lB,lC])
  refine doneA (by kernel_rfl) ?_ _
  go_wp2_with fail
  exact need_done E7.out B7.out (by show w.heap.size≤w.heap.size+1+1;omega) (need_lst N7T.out E7.out) (need_lst N7G.out E7.out) rfl rfl rfl
end Go.Proofs.YtpaneomkphjpcaaGreatDoor
