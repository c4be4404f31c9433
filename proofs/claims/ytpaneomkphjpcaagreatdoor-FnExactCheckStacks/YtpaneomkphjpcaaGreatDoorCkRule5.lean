/- Rules of instructions that draw their order. Written by tools/made/ckrule5.py. -/
import Derived.Test.YtpaneomkphjpcaaGreatDoorPcReg
import Derived.Test.YtpaneomkphjpcaaGreatDoorPcR1
import Derived.Test.YtpaneomkphjpcaaGreatDoorPcKin
namespace Go.Proofs.YtpaneomkphjpcaaGreatDoor
open Go.ChangeShapes Go.WideShapes Go.ChangeAt Go.RowKit
set_option linter.unusedVariables false
set_option linter.unusedSimpArgs false
structure SB (b:Nat) (vs iv tv:List Value) (w':World):Prop where
 v:Rec w' b 94 vs
 i:Rec w' (b+1) 40 iv
 t:Rec w' (b+1+1) 68 tv
theorem SB.below {b:Nat} {vs iv tv:List Value} {w w':World} (h:SB b vs iv tv w) (hb:Below w.heap.size w w'):SB b vs iv tv w':=⟨h.v.below hb h.v.lt,h.i.below hb h.i.lt,h.t.below hb h.t.lt⟩
theorem SB.alloc {b:Nat} {vs iv tv:List Value} {w:World} (h:SB b vs iv tv w) (o:Obj):SB b vs iv tv (w.alloc o):=⟨h.v.alloc o,h.i.alloc o,h.t.alloc o⟩
theorem SB.drew {b:Nat} {vs iv tv:List Value} {w:World} (h:SB b vs iv tv w):SB b vs iv tv w.drew:=⟨h.v,h.i,h.t⟩
theorem SB.eff {b:Nat} {vs iv tv:List Value} {w:World} (h:SB b vs iv tv w) (x y:Value):SB b vs iv tv ((w.setCell ⟨b+1+1+1,0,none⟩ x).setCell ⟨b+1+1+1,1,none⟩ y) :=
 ⟨(h.v.other (by omega) 0 x).other (by omega) 1 y,(h.i.other (by omega) 0 x).other (by omega) 1 y,(h.t.other (by omega) 0 x).other (by omega) 1 y⟩
theorem entS (vs:List Value) (op a b tk to:Int) (tm:Bool) (w:World):∃w1,w1=((((w.alloc (.cells vs.toArray 94)).alloc (.cells #[.int .i64 op,.int .i64 a,.int .i64 b] 40)).alloc (.cells #[.int .i64 tk,.int .i64 to,.bool tm] 68)).alloc (.cells #[.slice none 0 0,.slice none 0 0] 160))∧Hid (Below w.heap.size w w1)∧Hid (Rec w1 (w.heap.size+1+1+1) 160 [.slice none 0 0,.slice none 0 0])∧Hid (SB w.heap.size vs [.int .i64 op,.int .i64 a,.int .i64 b] [.int .i64 tk,.int .i64 to,.bool tm] w1):=by
 obtain⟨w1,h,B,E⟩:=entB vs op a b tk to tm w
 exact⟨w1,h,B,E,by rw[h];exact⟨(((Rec.new _ _ _).alloc _).alloc _).alloc _,((Rec.new' _ _ _ _ (by simp)).alloc _).alloc _,(Rec.new' _ _ _ _ (by simp)).alloc _⟩⟩
set_option maxHeartbeats 4000000 in
set_option maxRecDepth 100000 in
theorem checkSure_any (vs:List Value) (op a b tk to:Int) (tm:Bool) (w:World) :
  Calls Tryz.prog 162 #[.agg vs.toArray,.agg #[.int .i64 op,.int .i64 a,.int .i64 b],.agg #[.int .i64 tk,.int .i64 to,.bool tm]] w fun e w'=>EffPost w [⟨2,-1,false⟩] [⟨3,to,false⟩] true e w':=by
 obtain⟨w1,hw1,B1,E1,S1⟩:=entS vs op a b tk to tm w
 have Bd:=hide B1.out.drew
 have Ed:=hide E1.out.drew'
 have SLd:=hide S1.out.drew
 have hld:=Ed.out.lt
 go_enter Tryz.func162,Tryz.ntmps162
 go_upto_region 1 with(fail)
 rw[←hw1]
 clear hw1
 refine beginA (S:=SB w.heap.size vs [.int .i64 op,.int .i64 a,.int .i64 b] [.int .i64 tk,.int .i64 to,.bool tm]) 8 (by kernel_rfl) SLd.out (fun hHeld=>?_)
 try simp only[Act.put,lA,lB,lC]
 refine tA 2 (v:=?v2n1) ?y2n1 ?r2n1
 case y2n1=>(intro w _;go_simp;try with_reducible rfl)
 (try simp only[Act.put,lA,lB,lC])
 refine tA 3 (v:=?v3n2) ?y3n2 ?r3n2
 case y3n2=>(intro w hSw;have si1:=hSw.i.cell (o:=1) rfl;have st1:=hSw.t.cell (o:=1) rfl;clear hSw;go_simp;try with_reducible rfl)
 (try simp only[Act.put,lA,lB,lC])
 refine oA 0 (fun K hK=>?_)
 go_simp
 (go_at_call 184;refine(sortRef_any (-1) _).mono ?_;rintro e w2 ⟨rfl,b2⟩)
 have C2:=Bd.out
 have B2:=hide (C2.trans (b2.mono C2.size))
 have X2:=Ed.out
 have E2:=hide (X2.below b2 X2.lt)
 have hl2:=E2.out.lt
 have HH:=hHeld.below b2
 have SL2:=hide HH
 clear b2 C2 X2
 refine hK.out _ _ HH (fun hHeld=>?_)
 clear hK K HH
 (try simp only[Act.put,lA,lB,lC])
 refine rA [1,4] ?_
 refine AllL.cons rfl (fun K hK=>?_) ?_
 ·go_simp
  refine hK.out _ _ (hHeld.alloc (.cells #[.int .i64 2,.int .i64 (-1),.bool false] 68)) (fun hHeld=>?_)
  clear hK K
  (try simp only[Act.put,lA,lB,lC])
  refine oA 4 (fun K hK=>?_)
  go_simp
  (go_at_call 183;refine(sortSure_any to _).mono ?_;rintro e w3 ⟨rfl,b3⟩)
  have C3:=(B2.out.alloc B2.out.size (.cells #[.int .i64 2,.int .i64 (-1),.bool false] 68))
  have B3:=hide (C3.trans (b3.mono C3.size))
  have X3:=(E2.out.alloc (.cells #[.int .i64 2,.int .i64 (-1),.bool false] 68))
  have E3:=hide (X3.below b3 X3.lt)
  have Y3t9:=(show Rec (w2.alloc (.cells #[.int .i64 2,.int .i64 (-1),.bool false] 68)) (w2.heap.size) 68 (fcells [⟨2,-1,false⟩]) by rw[fcells_l1];exact Rec.new' _ _ _ _ (by simp))
  have N3t9:=hide (Y3t9.below b3 Y3t9.lt)
  have lo3t9:w.heap.size≤w2.heap.size:=by have:=B2.out.size;omega
  have hl3:=E3.out.lt
  have HH:=hHeld.below b3
  have SL3:=hide HH
  clear b3 C3 X3
  refine hK.out _ _ HH (fun hHeld=>?_)
  clear hK K HH
  (try simp only[Act.put,lA,lB,lC])
  refine oA 5 (fun K hK=>?_)
  go_simp
  refine hK.out _ _ (hHeld.alloc (.cells #[.int .i64 3,.int .i64 to,.bool false] 68)) (fun hHeld=>?_)
  clear hK K
  (try simp only[Act.put,lA,lB,lC])
  refine tA 6 (v:=?v6n3) ?y6n3 ?r6n3
  case y6n3=>(intro w _;go_simp;try with_reducible rfl)
  (try simp only[Act.put,lA,lB,lC])
  refine oA 7 (fun K hK=>?_)
  have e0:=E3.out.cell (o:=0) rfl
  have e1:=E3.out.cell (o:=1) rfl
  have f0:=E3.out.frozen 0
  have f1:=E3.out.frozen 1
  have hlt:=E3.out.lt
  have sw:=B3.out.size
  go_simp
  refine hK.out _ _ ?_ (fun hHeld=>?_)
  ·first|exact((SL3.out.eff _ _).alloc _)|exact(((SL3.out.eff _ _).alloc _)).drew|exact(hHeld.eff _ _)
  clear hK K e0 e1 f0 f1
  (try simp only[Act.put,lA,lB,lC])
  refine eA 8 (fun K hK=>?_)
  go_simp
  refine hK.out _ _ ?_
  clear hK K
  (try simp only[Act.put,lA,lB,lC])
  refine doneA (by kernel_rfl) ?_ _
  obtain⟨W9,hW9⟩:∃x,x=(((w3.setCell ⟨w.heap.size+1+1+1,0,none⟩ (.slice (some ⟨w2.heap.size,0,none⟩) 1 1)).setCell ⟨w.heap.size+1+1+1,1,none⟩ (.slice (some ⟨w3.heap.size,0,none⟩) 1 1)).alloc (.cells #[.int .i64 3,.int .i64 to,.bool false] 68)):=⟨_,rfl⟩
  have NRt9:Hid (Rec W9 (w2.heap.size) 68 (fcells [⟨2,-1,false⟩])):=by subst hW9;exact(((N3t9.out.other (by omega) 0 _).other (by omega) 1 _).alloc _)
  have NRt13:Hid (Rec W9 (w3.heap.size) 68 (fcells [⟨3,to,false⟩])):=by subst hW9;exact(show Rec _ (w3.heap.size) 68 (fcells [⟨3,to,false⟩]) by rw[fcells_l1];exact Rec.new' _ _ _ _ (by simp))
  have ER:Hid (Rec W9 (w.heap.size+1+1+1) 160 [.slice (some ⟨w2.heap.size,0,none⟩) 1 1,.slice (some ⟨w3.heap.size,0,none⟩) 1 1]):=by subst hW9;exact(((E3.out.set 0 _).set 1 _).alloc _)
  have BR:Hid (Below w.heap.size w W9):=by subst hW9;exact(((B3.out.setCell (by show w.heap.size≤w.heap.size+1+1+1;omega) _).setCell (by show w.heap.size≤w.heap.size+1+1+1;omega) _).alloc (by simp<;>omega) _)
  subst hW9
  go_wp2_with fail
  exact bodyPost_ret (results_ct rfl rfl ER.out Tryz.underlying160 rfl (by kernel_rfl)) rfl ⟨_,_,_,_,rfl,rec_fields NRt9.out (by omega) NRt9.out.lt,rec_fields NRt13.out (by omega) NRt13.out.lt,BR.out⟩
 refine AllL.cons rfl (fun K hK=>?_) ?_
 ·go_simp
  (go_at_call 183;refine(sortSure_any to _).mono ?_;rintro e w4 ⟨rfl,b4⟩)
  have C4:=B2.out
  have B4:=hide (C4.trans (b4.mono C4.size))
  have X4:=E2.out
  have E4:=hide (X4.below b4 X4.lt)
  have hl4:=E4.out.lt
  have HH:=hHeld.below b4
  have SL4:=hide HH
  clear b4 C4 X4
  refine hK.out _ _ HH (fun hHeld=>?_)
  clear hK K HH
  (try simp only[Act.put,lA,lB,lC])
  refine rA [1,5] ?_
  refine AllL.cons rfl (fun K hK=>?_) ?_
  ·go_simp
   refine hK.out _ _ (hHeld.alloc (.cells #[.int .i64 2,.int .i64 (-1),.bool false] 68)) (fun hHeld=>?_)
   clear hK K
   (try simp only[Act.put,lA,lB,lC])
   refine oA 5 (fun K hK=>?_)
   go_simp
   refine hK.out _ _ (hHeld.alloc (.cells #[.int .i64 3,.int .i64 to,.bool false] 68)) (fun hHeld=>?_)
   clear hK K
   (try simp only[Act.put,lA,lB,lC])
   refine tA 6 (v:=?v6n4) ?y6n4 ?r6n4
   case y6n4=>(intro w _;go_simp;try with_reducible rfl)
   (try simp only[Act.put,lA,lB,lC])
   refine oA 7 (fun K hK=>?_)
   have e0:=E4.out.cell (o:=0) rfl
   have e1:=E4.out.cell (o:=1) rfl
   have f0:=E4.out.frozen 0
   have f1:=E4.out.frozen 1
   have hlt:=E4.out.lt
   have sw:=B4.out.size
   have hlt1:w.heap.size+1+1+1<w4.heap.size+1:=by omega
   go_simp
   refine hK.out _ _ ?_ (fun hHeld=>?_)
   ·first|exact(((SL4.out.eff _ _).alloc _).alloc _)|exact((((SL4.out.eff _ _).alloc _).alloc _)).drew|exact(hHeld.eff _ _)
   clear hK K e0 e1 f0 f1
   (try simp only[Act.put,lA,lB,lC])
   refine eA 8 (fun K hK=>?_)
   go_simp
   refine hK.out _ _ ?_
   clear hK K
   (try simp only[Act.put,lA,lB,lC])
   refine doneA (by kernel_rfl) ?_ _
   obtain⟨W9,hW9⟩:∃x,x=((((w4.setCell ⟨w.heap.size+1+1+1,0,none⟩ (.slice (some ⟨w4.heap.size,0,none⟩) 1 1)).setCell ⟨w.heap.size+1+1+1,1,none⟩ (.slice (some ⟨w4.heap.size+1,0,none⟩) 1 1)).alloc (.cells #[.int .i64 2,.int .i64 (-1),.bool false] 68)).alloc (.cells #[.int .i64 3,.int .i64 to,.bool false] 68)):=⟨_,rfl⟩
   have NRt9:Hid (Rec W9 (w4.heap.size) 68 (fcells [⟨2,-1,false⟩])):=by subst hW9;exact((show Rec (((w4.setCell ⟨w.heap.size+1+1+1,0,none⟩ (.slice (some ⟨w4.heap.size,0,none⟩) 1 1)).setCell ⟨w.heap.size+1+1+1,1,none⟩ (.slice (some ⟨w4.heap.size+1,0,none⟩) 1 1)).alloc (.cells #[.int .i64 2,.int .i64 (-1),.bool false] 68)) (w4.heap.size) 68 (fcells [⟨2,-1,false⟩]) by rw[fcells_l1];exact Rec.new' _ _ _ _ (by simp)).alloc _)
   have NRt13:Hid (Rec W9 (w4.heap.size+1) 68 (fcells [⟨3,to,false⟩])):=by subst hW9;exact(show Rec _ (w4.heap.size+1) 68 (fcells [⟨3,to,false⟩]) by rw[fcells_l1];exact Rec.new' _ _ _ _ (by simp))
   have ER:Hid (Rec W9 (w.heap.size+1+1+1) 160 [.slice (some ⟨w4.heap.size,0,none⟩) 1 1,.slice (some ⟨w4.heap.size+1,0,none⟩) 1 1]):=by subst hW9;exact((((E4.out.set 0 _).set 1 _).alloc _).alloc _)
   have BR:Hid (Below w.heap.size w W9):=by subst hW9;exact((((B4.out.setCell (by show w.heap.size≤w.heap.size+1+1+1;omega) _).setCell (by show w.heap.size≤w.heap.size+1+1+1;omega) _).alloc (by simp<;>omega) _).alloc (by simp<;>omega) _)
   subst hW9
   go_wp2_with fail
   exact bodyPost_ret (results_ct rfl rfl ER.out Tryz.underlying160 rfl (by kernel_rfl)) rfl ⟨_,_,_,_,rfl,rec_fields NRt9.out (by omega) NRt9.out.lt,rec_fields NRt13.out (by omega) NRt13.out.lt,BR.out⟩
  refine AllL.cons rfl (fun K hK=>?_) ?_
  ·go_simp
   refine hK.out _ _ (hHeld.alloc (.cells #[.int .i64 3,.int .i64 to,.bool false] 68)) (fun hHeld=>?_)
   clear hK K
   (try simp only[Act.put,lA,lB,lC])
   refine oA 1 (fun K hK=>?_)
   go_simp
   refine hK.out _ _ (hHeld.alloc (.cells #[.int .i64 2,.int .i64 (-1),.bool false] 68)) (fun hHeld=>?_)
   clear hK K
   (try simp only[Act.put,lA,lB,lC])
   refine tA 6 (v:=?v6n5) ?y6n5 ?r6n5
   case y6n5=>(intro w _;go_simp;try with_reducible rfl)
   (try simp only[Act.put,lA,lB,lC])
   refine oA 7 (fun K hK=>?_)
   have e0:=E4.out.cell (o:=0) rfl
   have e1:=E4.out.cell (o:=1) rfl
   have f0:=E4.out.frozen 0
   have f1:=E4.out.frozen 1
   have hlt:=E4.out.lt
   have sw:=B4.out.size
   have hlt1:w.heap.size+1+1+1<w4.heap.size+1:=by omega
   go_simp
   refine hK.out _ _ ?_ (fun hHeld=>?_)
   ·first|exact(((SL4.out.eff _ _).alloc _).alloc _)|exact((((SL4.out.eff _ _).alloc _).alloc _)).drew|exact(hHeld.eff _ _)
   clear hK K e0 e1 f0 f1
   (try simp only[Act.put,lA,lB,lC])
   refine eA 8 (fun K hK=>?_)
   go_simp
   refine hK.out _ _ ?_
   clear hK K
   (try simp only[Act.put,lA,lB,lC])
   refine doneA (by kernel_rfl) ?_ _
   obtain⟨W9,hW9⟩:∃x,x=((((w4.setCell ⟨w.heap.size+1+1+1,0,none⟩ (.slice (some ⟨w4.heap.size+1,0,none⟩) 1 1)).setCell ⟨w.heap.size+1+1+1,1,none⟩ (.slice (some ⟨w4.heap.size,0,none⟩) 1 1)).alloc (.cells #[.int .i64 3,.int .i64 to,.bool false] 68)).alloc (.cells #[.int .i64 2,.int .i64 (-1),.bool false] 68)):=⟨_,rfl⟩
   have NRt9:Hid (Rec W9 (w4.heap.size+1) 68 (fcells [⟨2,-1,false⟩])):=by subst hW9;exact(show Rec _ (w4.heap.size+1) 68 (fcells [⟨2,-1,false⟩]) by rw[fcells_l1];exact Rec.new' _ _ _ _ (by simp))
   have NRt13:Hid (Rec W9 (w4.heap.size) 68 (fcells [⟨3,to,false⟩])):=by subst hW9;exact((show Rec (((w4.setCell ⟨w.heap.size+1+1+1,0,none⟩ (.slice (some ⟨w4.heap.size+1,0,none⟩) 1 1)).setCell ⟨w.heap.size+1+1+1,1,none⟩ (.slice (some ⟨w4.heap.size,0,none⟩) 1 1)).alloc (.cells #[.int .i64 3,.int .i64 to,.bool false] 68)) (w4.heap.size) 68 (fcells [⟨3,to,false⟩]) by rw[fcells_l1];exact Rec.new' _ _ _ _ (by simp)).alloc _)
   have ER:Hid (Rec W9 (w.heap.size+1+1+1) 160 [.slice (some ⟨w4.heap.size+1,0,none⟩) 1 1,.slice (some ⟨w4.heap.size,0,none⟩) 1 1]):=by subst hW9;exact((((E4.out.set 0 _).set 1 _).alloc _).alloc _)
   have BR:Hid (Below w.heap.size w W9):=by subst hW9;exact((((B4.out.setCell (by show w.heap.size≤w.heap.size+1+1+1;omega) _).setCell (by show w.heap.size≤w.heap.size+1+1+1;omega) _).alloc (by simp<;>omega) _).alloc (by simp<;>omega) _)
   subst hW9
   go_wp2_with fail
   exact bodyPost_ret (results_ct rfl rfl ER.out Tryz.underlying160 rfl (by kernel_rfl)) rfl ⟨_,_,_,_,rfl,rec_fields NRt9.out (by omega) NRt9.out.lt,rec_fields NRt13.out (by omega) NRt13.out.lt,BR.out⟩
  exact AllL.nil
 exact AllL.nil
set_option maxHeartbeats 4000000 in
set_option maxRecDepth 100000 in
theorem checkJump_any (vs:List Value) (op a b tk to:Int) (tm:Bool) (w:World) (lo hi k:Nat) (p:GProg) (h:Scp w lo hi p k vs) :
  Calls Tryz.prog 163 #[.agg vs.toArray,.agg #[.int .i64 op,.int .i64 a,.int .i64 b],.agg #[.int .i64 tk,.int .i64 to,.bool tm]] w fun e w'=>EffPost w [] [] (decide (a<((funAt' p.funs k).body.length:Int))) e w':=by
 obtain⟨w1,hw1,B1,E1,S1⟩:=entS vs op a b tk to tm w
 have Bd:=hide B1.out.drew
 have Ed:=hide E1.out.drew'
 have SLd:=hide S1.out.drew
 have hld:=Ed.out.lt
 obtain⟨ba,bc,e5,_⟩:=h.bd
 clear h
 have KV5:=hide e5
 generalize (funAt' p.funs k).body.length=n at *
 clear e5
 go_enter Tryz.func163,Tryz.ntmps163
 go_upto_region 1 with(fail)
 rw[←hw1]
 clear hw1
 refine beginA (S:=SB w.heap.size vs [.int .i64 op,.int .i64 a,.int .i64 b] [.int .i64 tk,.int .i64 to,.bool tm]) 9 (by kernel_rfl) SLd.out (fun hHeld=>?_)
 try simp only[Act.put,lA,lB,lC]
 refine tA 0 (v:=?v0n6) ?y0n6 ?r0n6
 case y0n6=>(intro w _;go_simp;try with_reducible rfl)
 (try simp only[Act.put,lA,lB,lC])
 refine tA 1 (v:=?v1n7) ?y1n7 ?r1n7
 case y1n7=>(intro w _;go_simp;try with_reducible rfl)
 (try simp only[Act.put,lA,lB,lC])
 refine tA 2 (v:=?v2n8) ?y2n8 ?r2n8
 case y2n8=>(intro w hSw;have si1:=hSw.i.cell (o:=1) rfl;have st1:=hSw.t.cell (o:=1) rfl;have sv5:=hSw.v.cell KV5.out;clear hSw;go_simp;try with_reducible rfl)
 (try simp only[Act.put,lA,lB,lC])
 refine tA 3 (v:=?v3n9) ?y3n9 ?r3n9
 case y3n9=>(intro w _;go_simp;try with_reducible rfl)
 (try simp only[Act.put,lA,lB,lC])
 refine tA 4 (v:=?v4n10) ?y4n10 ?r4n10
 case y4n10=>(intro w _;go_simp;try with_reducible rfl)
 (try simp only[Act.put,lA,lB,lC])
 refine tA 5 (v:=?v5n11) ?y5n11 ?r5n11
 case y5n11=>(intro w hSw;have si1:=hSw.i.cell (o:=1) rfl;have st1:=hSw.t.cell (o:=1) rfl;have sv5:=hSw.v.cell KV5.out;clear hSw;go_simp;try with_reducible rfl)
 (try simp only[Act.put,lA,lB,lC])
 refine tA 6 (v:=?v6n12) ?y6n12 ?r6n12
 case y6n12=>(intro w _;go_simp;try with_reducible rfl)
 (try simp only[Act.put,lA,lB,lC])
 refine tA 7 (v:=?v7n13) ?y7n13 ?r7n13
 case y7n13=>(intro w _;go_simp;try with_reducible rfl)
 (try simp only[Act.put,lA,lB,lC])
 refine oA 8 (fun K hK=>?_)
 have e0:=E1.out.cell (o:=0) rfl
 have e1:=E1.out.cell (o:=1) rfl
 have f0:=E1.out.frozen 0
 have f1:=E1.out.frozen 1
 have hlt:=E1.out.lt
 have sw:=B1.out.size
 go_simp
 refine hK.out _ _ ?_ (fun hHeld=>?_)
 ·first|exact(S1.out.eff _ _)|exact((S1.out.eff _ _)).drew|exact(hHeld.eff _ _)
 clear hK K e0 e1 f0 f1
 (try simp only[Act.put,lA,lB,lC])
 refine eA 9 (fun K hK=>?_)
 go_simp
 refine hK.out _ _ ?_
 clear hK K
 (try simp only[Act.put,lA,lB,lC])
 refine doneA (by kernel_rfl) ?_ _
 obtain⟨W9,hW9⟩:∃x,x=((w1.setCell ⟨w.heap.size+1+1+1,0,none⟩ (.slice none 0 0)).setCell ⟨w.heap.size+1+1+1,1,none⟩ (.slice none 0 0)):=⟨_,rfl⟩
 have ER:Hid (Rec W9.drew (w.heap.size+1+1+1) 160 [.slice none 0 0,.slice none 0 0]):=by subst hW9;exact Rec.drew' ((E1.out.set 0 _).set 1 _)
 have BR:Hid (Below w.heap.size w W9.drew):=by subst hW9;exact Below.drew ((B1.out.setCell (by show w.heap.size≤w.heap.size+1+1+1;omega) _).setCell (by show w.heap.size≤w.heap.size+1+1+1;omega) _)
 subst hW9
 go_wp2_with fail
 exact bodyPost_ret (results_ct rfl rfl ER.out Tryz.underlying160 rfl (by kernel_rfl)) rfl ⟨_,_,_,_,rfl,.inl rfl,.inl rfl,BR.out⟩
set_option maxHeartbeats 4000000 in
set_option maxRecDepth 100000 in
theorem checkIf_any (vs:List Value) (op a b tk to:Int) (tm:Bool) (w:World) (lo hi k:Nat) (p:GProg) (h:Scp w lo hi p k vs) :
  Calls Tryz.prog 164 #[.agg vs.toArray,.agg #[.int .i64 op,.int .i64 a,.int .i64 b],.agg #[.int .i64 tk,.int .i64 to,.bool tm]] w fun e w'=>EffPost w [⟨1,0,false⟩] [] (decide (a<((funAt' p.funs k).body.length:Int))) e w':=by
 obtain⟨w1,hw1,B1,E1,S1⟩:=entS vs op a b tk to tm w
 have Bd:=hide B1.out.drew
 have Ed:=hide E1.out.drew'
 have SLd:=hide S1.out.drew
 have hld:=Ed.out.lt
 obtain⟨ba,bc,e5,_⟩:=h.bd
 clear h
 have KV5:=hide e5
 generalize (funAt' p.funs k).body.length=n at *
 clear e5
 go_enter Tryz.func164,Tryz.ntmps164
 go_upto_region 1 with(fail)
 rw[←hw1]
 clear hw1
 refine beginA (S:=SB w.heap.size vs [.int .i64 op,.int .i64 a,.int .i64 b] [.int .i64 tk,.int .i64 to,.bool tm]) 11 (by kernel_rfl) SLd.out (fun hHeld=>?_)
 try simp only[Act.put,lA,lB,lC]
 refine tA 3 (v:=?v3n14) ?y3n14 ?r3n14
 case y3n14=>(intro w _;go_simp;try with_reducible rfl)
 (try simp only[Act.put,lA,lB,lC])
 refine tA 4 (v:=?v4n15) ?y4n15 ?r4n15
 case y4n15=>(intro w hSw;have si1:=hSw.i.cell (o:=1) rfl;have st1:=hSw.t.cell (o:=1) rfl;have sv5:=hSw.v.cell KV5.out;clear hSw;go_simp;try with_reducible rfl)
 (try simp only[Act.put,lA,lB,lC])
 refine tA 5 (v:=?v5n16) ?y5n16 ?r5n16
 case y5n16=>(intro w _;go_simp;try with_reducible rfl)
 (try simp only[Act.put,lA,lB,lC])
 refine tA 6 (v:=?v6n17) ?y6n17 ?r6n17
 case y6n17=>(intro w _;go_simp;try with_reducible rfl)
 (try simp only[Act.put,lA,lB,lC])
 refine tA 7 (v:=?v7n18) ?y7n18 ?r7n18
 case y7n18=>(intro w hSw;have si1:=hSw.i.cell (o:=1) rfl;have st1:=hSw.t.cell (o:=1) rfl;have sv5:=hSw.v.cell KV5.out;clear hSw;go_simp;try with_reducible rfl)
 (try simp only[Act.put,lA,lB,lC])
 refine tA 8 (v:=?v8n19) ?y8n19 ?r8n19
 case y8n19=>(intro w _;go_simp;try with_reducible rfl)
 (try simp only[Act.put,lA,lB,lC])
 refine tA 9 (v:=?v9n20) ?y9n20 ?r9n20
 case y9n20=>(intro w _;go_simp;try with_reducible rfl)
 (try simp only[Act.put,lA,lB,lC])
 refine oA 0 (fun K hK=>?_)
 go_simp
 (go_at_call 181;refine(sortNum_any _).mono ?_;rintro e w2 ⟨rfl,b2⟩)
 have C2:=Bd.out
 have B2:=hide (C2.trans (b2.mono C2.size))
 have X2:=Ed.out
 have E2:=hide (X2.below b2 X2.lt)
 have hl2:=E2.out.lt
 have HH:=hHeld.below b2
 have SL2:=hide HH
 clear b2 C2 X2
 refine hK.out _ _ HH (fun hHeld=>?_)
 clear hK K HH
 (try simp only[Act.put,lA,lB,lC])
 refine oA 1 (fun K hK=>?_)
 go_simp
 refine hK.out _ _ (hHeld.alloc (.cells #[.int .i64 1,.int .i64 0,.bool false] 68)) (fun hHeld=>?_)
 clear hK K
 (try simp only[Act.put,lA,lB,lC])
 refine tA 2 (v:=?v2n21) ?y2n21 ?r2n21
 case y2n21=>(intro w _;go_simp;try with_reducible rfl)
 (try simp only[Act.put,lA,lB,lC])
 refine oA 10 (fun K hK=>?_)
 have e0:=E2.out.cell (o:=0) rfl
 have e1:=E2.out.cell (o:=1) rfl
 have f0:=E2.out.frozen 0
 have f1:=E2.out.frozen 1
 have hlt:=E2.out.lt
 have sw:=B2.out.size
 go_simp
 refine hK.out _ _ ?_ (fun hHeld=>?_)
 ·first|exact((SL2.out.eff _ _).alloc _)|exact(((SL2.out.eff _ _).alloc _)).drew|exact(hHeld.eff _ _)
 clear hK K e0 e1 f0 f1
 (try simp only[Act.put,lA,lB,lC])
 refine eA 11 (fun K hK=>?_)
 go_simp
 refine hK.out _ _ ?_
 clear hK K
 (try simp only[Act.put,lA,lB,lC])
 refine doneA (by kernel_rfl) ?_ _
 obtain⟨W9,hW9⟩:∃x,x=(((w2.setCell ⟨w.heap.size+1+1+1,0,none⟩ (.slice (some ⟨w2.heap.size,0,none⟩) 1 1)).setCell ⟨w.heap.size+1+1+1,1,none⟩ (.slice none 0 0)).alloc (.cells #[.int .i64 1,.int .i64 0,.bool false] 68)):=⟨_,rfl⟩
 have NRt9:Hid (Rec W9 (w2.heap.size) 68 (fcells [⟨1,0,false⟩])):=by subst hW9;exact(show Rec _ (w2.heap.size) 68 (fcells [⟨1,0,false⟩]) by rw[fcells_l1];exact Rec.new' _ _ _ _ (by simp))
 have ER:Hid (Rec W9 (w.heap.size+1+1+1) 160 [.slice (some ⟨w2.heap.size,0,none⟩) 1 1,.slice none 0 0]):=by subst hW9;exact(((E2.out.set 0 _).set 1 _).alloc _)
 have BR:Hid (Below w.heap.size w W9):=by subst hW9;exact(((B2.out.setCell (by show w.heap.size≤w.heap.size+1+1+1;omega) _).setCell (by show w.heap.size≤w.heap.size+1+1+1;omega) _).alloc (by simp<;>omega) _)
 subst hW9
 go_wp2_with fail
 exact bodyPost_ret (results_ct rfl rfl ER.out Tryz.underlying160 rfl (by kernel_rfl)) rfl ⟨_,_,_,_,rfl,rec_fields NRt9.out (by omega) NRt9.out.lt,.inl rfl,BR.out⟩
set_option maxHeartbeats 4000000 in
set_option maxRecDepth 100000 in
theorem checkNull_any (vs:List Value) (op a b tk to:Int) (tm:Bool) (w:World) (lo hi k:Nat) (p:GProg) (h:Scp w lo hi p k vs) (hn:kinCount p.types≤1099511627776) :
  Calls Tryz.prog 150 #[.agg vs.toArray,.agg #[.int .i64 op,.int .i64 a,.int .i64 b],.agg #[.int .i64 tk,.int .i64 to,.bool tm]] w fun e w'=>EffPost w [] [⟨2,a,false⟩] (isRefF p.types a) e w':=by
 obtain⟨w1,hw1,B1,E1,S1⟩:=entS vs op a b tk to tm w
 have Bd:=hide B1.out.drew
 have Ed:=hide E1.out.drew'
 have SLd:=hide S1.out.drew
 have hld:=Ed.out.lt
 obtain⟨ra,rc,cb,e3,e4,_⟩:=h.tab
 clear h
 have KV3:=hide e3
 have KV4:=hide e4
 generalize hgs:p.types=gs at *
 clear e3 e4 hgs
 go_enter Tryz.func150,Tryz.ntmps150
 go_upto_region 1 with(fail)
 rw[←hw1]
 clear hw1
 refine beginA (S:=SB w.heap.size vs [.int .i64 op,.int .i64 a,.int .i64 b] [.int .i64 tk,.int .i64 to,.bool tm]) 11 (by kernel_rfl) SLd.out (fun hHeld=>?_)
 try simp only[Act.put,lA,lB,lC]
 refine tA 0 (v:=?v0n22) ?y0n22 ?r0n22
 case y0n22=>(intro w _;go_simp;try with_reducible rfl)
 (try simp only[Act.put,lA,lB,lC])
 refine tA 1 (v:=?v1n23) ?y1n23 ?r1n23
 case y1n23=>(intro w hSw;have si1:=hSw.i.cell (o:=1) rfl;have st1:=hSw.t.cell (o:=1) rfl;have sv3:=hSw.v.cell KV3.out;have sv4:=hSw.v.cell KV4.out;clear hSw;go_simp;try with_reducible rfl)
 (try simp only[Act.put,lA,lB,lC])
 refine tA 5 (v:=?v5n24) ?y5n24 ?r5n24
 case y5n24=>(intro w _;go_simp;try with_reducible rfl)
 (try simp only[Act.put,lA,lB,lC])
 refine tA 6 (v:=?v6n25) ?y6n25 ?r6n25
 case y6n25=>(intro w hSw;have si1:=hSw.i.cell (o:=1) rfl;have st1:=hSw.t.cell (o:=1) rfl;have sv3:=hSw.v.cell KV3.out;have sv4:=hSw.v.cell KV4.out;clear hSw;go_simp;try with_reducible rfl)
 (try simp only[Act.put,lA,lB,lC])
 refine tA 7 (v:=?v7n26) ?y7n26 ?r7n26
 case y7n26=>(intro w _;go_simp;try with_reducible rfl)
 (try simp only[Act.put,lA,lB,lC])
 refine tA 8 (v:=?v8n27) ?y8n27 ?r8n27
 case y8n27=>(intro w hSw;have si1:=hSw.i.cell (o:=1) rfl;have st1:=hSw.t.cell (o:=1) rfl;have sv3:=hSw.v.cell KV3.out;have sv4:=hSw.v.cell KV4.out;clear hSw;go_simp;try with_reducible rfl)
 (try simp only[Act.put,lA,lB,lC])
 refine oA 2 (fun K hK=>?_)
 go_simp
 (go_at_call 184;refine(sortRef_any a _).mono ?_;rintro e w2 ⟨rfl,b2⟩)
 have C2:=Bd.out
 have B2:=hide (C2.trans (b2.mono C2.size))
 have X2:=Ed.out
 have E2:=hide (X2.below b2 X2.lt)
 have hl2:=E2.out.lt
 have HH:=hHeld.below b2
 have SL2:=hide HH
 clear b2 C2 X2
 refine hK.out _ _ HH (fun hHeld=>?_)
 clear hK K HH
 (try simp only[Act.put,lA,lB,lC])
 refine rA [3,9] ?_
 refine AllL.cons rfl (fun K hK=>?_) ?_
 ·go_simp
  refine hK.out _ _ (hHeld.alloc (.cells #[.int .i64 2,.int .i64 a,.bool false] 68)) (fun hHeld=>?_)
  clear hK K
  (try simp only[Act.put,lA,lB,lC])
  refine tA 4 (v:=?v4n28) ?y4n28 ?r4n28
  case y4n28=>(intro w _;go_simp;try with_reducible rfl)
  (try simp only[Act.put,lA,lB,lC])
  refine oA 9 (fun K hK=>?_)
  go_simp
  (go_at_call 185;refine(isRef_any ra (some ⟨cb,0,none⟩) rc (kinCount gs) gs a _ hn).mono ?_;rintro e w3 ⟨rfl,b3⟩)
  have C3:=(B2.out.alloc B2.out.size (.cells #[.int .i64 2,.int .i64 a,.bool false] 68))
  have B3:=hide (C3.trans (b3.mono C3.size))
  have X3:=(E2.out.alloc (.cells #[.int .i64 2,.int .i64 a,.bool false] 68))
  have E3:=hide (X3.below b3 X3.lt)
  have Y3t11:=(show Rec (w2.alloc (.cells #[.int .i64 2,.int .i64 a,.bool false] 68)) (w2.heap.size) 68 (fcells [⟨2,a,false⟩]) by rw[fcells_l1];exact Rec.new' _ _ _ _ (by simp))
  have N3t11:=hide (Y3t11.below b3 Y3t11.lt)
  have lo3t11:w.heap.size≤w2.heap.size:=by have:=B2.out.size;omega
  have hl3:=E3.out.lt
  have HH:=hHeld.below b3
  have SL3:=hide HH
  clear b3 C3 X3
  refine hK.out _ _ HH (fun hHeld=>?_)
  clear hK K HH
  (try simp only[Act.put,lA,lB,lC])
  refine oA 10 (fun K hK=>?_)
  have e0:=E3.out.cell (o:=0) rfl
  have e1:=E3.out.cell (o:=1) rfl
  have f0:=E3.out.frozen 0
  have f1:=E3.out.frozen 1
  have hlt:=E3.out.lt
  have sw:=B3.out.size
  go_simp
  refine hK.out _ _ ?_ (fun hHeld=>?_)
  ·first|exact(SL3.out.eff _ _)|exact((SL3.out.eff _ _)).drew|exact(hHeld.eff _ _)
  clear hK K e0 e1 f0 f1
  (try simp only[Act.put,lA,lB,lC])
  refine eA 11 (fun K hK=>?_)
  go_simp
  refine hK.out _ _ ?_
  clear hK K
  (try simp only[Act.put,lA,lB,lC])
  refine doneA (by kernel_rfl) ?_ _
  obtain⟨W9,hW9⟩:∃x,x=((w3.setCell ⟨w.heap.size+1+1+1,0,none⟩ (.slice none 0 0)).setCell ⟨w.heap.size+1+1+1,1,none⟩ (.slice (some ⟨w2.heap.size,0,none⟩) 1 1)):=⟨_,rfl⟩
  have NRt11:Hid (Rec W9 (w2.heap.size) 68 (fcells [⟨2,a,false⟩])):=by subst hW9;exact((N3t11.out.other (by omega) 0 _).other (by omega) 1 _)
  have ER:Hid (Rec W9 (w.heap.size+1+1+1) 160 [.slice none 0 0,.slice (some ⟨w2.heap.size,0,none⟩) 1 1]):=by subst hW9;exact((E3.out.set 0 _).set 1 _)
  have BR:Hid (Below w.heap.size w W9):=by subst hW9;exact((B3.out.setCell (by show w.heap.size≤w.heap.size+1+1+1;omega) _).setCell (by show w.heap.size≤w.heap.size+1+1+1;omega) _)
  subst hW9
  go_wp2_with fail
  exact bodyPost_ret (results_ct rfl rfl ER.out Tryz.underlying160 rfl (by kernel_rfl)) rfl ⟨_,_,_,_,rfl,.inl rfl,rec_fields NRt11.out (by omega) NRt11.out.lt,BR.out⟩
 refine AllL.cons rfl (fun K hK=>?_) ?_
 ·go_simp
  (go_at_call 185;refine(isRef_any ra (some ⟨cb,0,none⟩) rc (kinCount gs) gs a _ hn).mono ?_;rintro e w4 ⟨rfl,b4⟩)
  have C4:=B2.out
  have B4:=hide (C4.trans (b4.mono C4.size))
  have X4:=E2.out
  have E4:=hide (X4.below b4 X4.lt)
  have hl4:=E4.out.lt
  have HH:=hHeld.below b4
  have SL4:=hide HH
  clear b4 C4 X4
  refine hK.out _ _ HH (fun hHeld=>?_)
  clear hK K HH
  (try simp only[Act.put,lA,lB,lC])
  refine oA 3 (fun K hK=>?_)
  go_simp
  refine hK.out _ _ (hHeld.alloc (.cells #[.int .i64 2,.int .i64 a,.bool false] 68)) (fun hHeld=>?_)
  clear hK K
  (try simp only[Act.put,lA,lB,lC])
  refine tA 4 (v:=?v4n29) ?y4n29 ?r4n29
  case y4n29=>(intro w _;go_simp;try with_reducible rfl)
  (try simp only[Act.put,lA,lB,lC])
  refine oA 10 (fun K hK=>?_)
  have e0:=E4.out.cell (o:=0) rfl
  have e1:=E4.out.cell (o:=1) rfl
  have f0:=E4.out.frozen 0
  have f1:=E4.out.frozen 1
  have hlt:=E4.out.lt
  have sw:=B4.out.size
  go_simp
  refine hK.out _ _ ?_ (fun hHeld=>?_)
  ·first|exact((SL4.out.eff _ _).alloc _)|exact(((SL4.out.eff _ _).alloc _)).drew|exact(hHeld.eff _ _)
  clear hK K e0 e1 f0 f1
  (try simp only[Act.put,lA,lB,lC])
  refine eA 11 (fun K hK=>?_)
  go_simp
  refine hK.out _ _ ?_
  clear hK K
  (try simp only[Act.put,lA,lB,lC])
  refine doneA (by kernel_rfl) ?_ _
  obtain⟨W9,hW9⟩:∃x,x=(((w4.setCell ⟨w.heap.size+1+1+1,0,none⟩ (.slice none 0 0)).setCell ⟨w.heap.size+1+1+1,1,none⟩ (.slice (some ⟨w4.heap.size,0,none⟩) 1 1)).alloc (.cells #[.int .i64 2,.int .i64 a,.bool false] 68)):=⟨_,rfl⟩
  have NRt11:Hid (Rec W9 (w4.heap.size) 68 (fcells [⟨2,a,false⟩])):=by subst hW9;exact(show Rec _ (w4.heap.size) 68 (fcells [⟨2,a,false⟩]) by rw[fcells_l1];exact Rec.new' _ _ _ _ (by simp))
  have ER:Hid (Rec W9 (w.heap.size+1+1+1) 160 [.slice none 0 0,.slice (some ⟨w4.heap.size,0,none⟩) 1 1]):=by subst hW9;exact(((E4.out.set 0 _).set 1 _).alloc _)
  have BR:Hid (Below w.heap.size w W9):=by subst hW9;exact(((B4.out.setCell (by show w.heap.size≤w.heap.size+1+1+1;omega) _).setCell (by show w.heap.size≤w.heap.size+1+1+1;omega) _).alloc (by simp<;>omega) _)
  subst hW9
  go_wp2_with fail
  exact bodyPost_ret (results_ct rfl rfl ER.out Tryz.underlying160 rfl (by kernel_rfl)) rfl ⟨_,_,_,_,rfl,.inl rfl,rec_fields NRt11.out (by omega) NRt11.out.lt,BR.out⟩
 exact AllL.nil
set_option maxHeartbeats 4000000 in
set_option maxRecDepth 100000 in
theorem checkTest_any (vs:List Value) (op a b tk to:Int) (tm:Bool) (w:World) (lo hi k:Nat) (p:GProg) (h:Scp w lo hi p k vs) (hn:kinCount p.types≤1099511627776) :
  Calls Tryz.prog 160 #[.agg vs.toArray,.agg #[.int .i64 op,.int .i64 a,.int .i64 b],.agg #[.int .i64 tk,.int .i64 to,.bool tm]] w fun e w'=>EffPost w [⟨2,-1,false⟩] [⟨1,0,false⟩] (isRefF p.types a) e w':=by
 obtain⟨w1,hw1,B1,E1,S1⟩:=entS vs op a b tk to tm w
 have Bd:=hide B1.out.drew
 have Ed:=hide E1.out.drew'
 have SLd:=hide S1.out.drew
 have hld:=Ed.out.lt
 obtain⟨ra,rc,cb,e3,e4,_⟩:=h.tab
 clear h
 have KV3:=hide e3
 have KV4:=hide e4
 generalize hgs:p.types=gs at *
 clear e3 e4 hgs
 go_enter Tryz.func160,Tryz.ntmps160
 go_upto_region 1 with(fail)
 rw[←hw1]
 clear hw1
 refine beginA (S:=SB w.heap.size vs [.int .i64 op,.int .i64 a,.int .i64 b] [.int .i64 tk,.int .i64 to,.bool tm]) 11 (by kernel_rfl) SLd.out (fun hHeld=>?_)
 try simp only[Act.put,lA,lB,lC]
 refine tA 5 (v:=?v5n30) ?y5n30 ?r5n30
 case y5n30=>(intro w _;go_simp;try with_reducible rfl)
 (try simp only[Act.put,lA,lB,lC])
 refine tA 6 (v:=?v6n31) ?y6n31 ?r6n31
 case y6n31=>(intro w hSw;have si1:=hSw.i.cell (o:=1) rfl;have st1:=hSw.t.cell (o:=1) rfl;have sv3:=hSw.v.cell KV3.out;have sv4:=hSw.v.cell KV4.out;clear hSw;go_simp;try with_reducible rfl)
 (try simp only[Act.put,lA,lB,lC])
 refine tA 7 (v:=?v7n32) ?y7n32 ?r7n32
 case y7n32=>(intro w _;go_simp;try with_reducible rfl)
 (try simp only[Act.put,lA,lB,lC])
 refine tA 8 (v:=?v8n33) ?y8n33 ?r8n33
 case y8n33=>(intro w hSw;have si1:=hSw.i.cell (o:=1) rfl;have st1:=hSw.t.cell (o:=1) rfl;have sv3:=hSw.v.cell KV3.out;have sv4:=hSw.v.cell KV4.out;clear hSw;go_simp;try with_reducible rfl)
 (try simp only[Act.put,lA,lB,lC])
 refine oA 0 (fun K hK=>?_)
 go_simp
 (go_at_call 184;refine(sortRef_any (-1) _).mono ?_;rintro e w2 ⟨rfl,b2⟩)
 have C2:=Bd.out
 have B2:=hide (C2.trans (b2.mono C2.size))
 have X2:=Ed.out
 have E2:=hide (X2.below b2 X2.lt)
 have hl2:=E2.out.lt
 have HH:=hHeld.below b2
 have SL2:=hide HH
 clear b2 C2 X2
 refine hK.out _ _ HH (fun hHeld=>?_)
 clear hK K HH
 (try simp only[Act.put,lA,lB,lC])
 refine rA [1,2] ?_
 refine AllL.cons rfl (fun K hK=>?_) ?_
 ·go_simp
  refine hK.out _ _ (hHeld.alloc (.cells #[.int .i64 2,.int .i64 (-1),.bool false] 68)) (fun hHeld=>?_)
  clear hK K
  (try simp only[Act.put,lA,lB,lC])
  refine oA 2 (fun K hK=>?_)
  go_simp
  (go_at_call 181;refine(sortNum_any _).mono ?_;rintro e w3 ⟨rfl,b3⟩)
  have C3:=(B2.out.alloc B2.out.size (.cells #[.int .i64 2,.int .i64 (-1),.bool false] 68))
  have B3:=hide (C3.trans (b3.mono C3.size))
  have X3:=(E2.out.alloc (.cells #[.int .i64 2,.int .i64 (-1),.bool false] 68))
  have E3:=hide (X3.below b3 X3.lt)
  have Y3t9:=(show Rec (w2.alloc (.cells #[.int .i64 2,.int .i64 (-1),.bool false] 68)) (w2.heap.size) 68 (fcells [⟨2,-1,false⟩]) by rw[fcells_l1];exact Rec.new' _ _ _ _ (by simp))
  have N3t9:=hide (Y3t9.below b3 Y3t9.lt)
  have lo3t9:w.heap.size≤w2.heap.size:=by have:=B2.out.size;omega
  have hl3:=E3.out.lt
  have HH:=hHeld.below b3
  have SL3:=hide HH
  clear b3 C3 X3
  refine hK.out _ _ HH (fun hHeld=>?_)
  clear hK K HH
  (try simp only[Act.put,lA,lB,lC])
  refine rA [3,9] ?_
  refine AllL.cons rfl (fun K hK=>?_) ?_
  ·go_simp
   refine hK.out _ _ (hHeld.alloc (.cells #[.int .i64 1,.int .i64 0,.bool false] 68)) (fun hHeld=>?_)
   clear hK K
   (try simp only[Act.put,lA,lB,lC])
   refine tA 4 (v:=?v4n34) ?y4n34 ?r4n34
   case y4n34=>(intro w _;go_simp;try with_reducible rfl)
   (try simp only[Act.put,lA,lB,lC])
   refine oA 9 (fun K hK=>?_)
   go_simp
   (go_at_call 185;refine(isRef_any ra (some ⟨cb,0,none⟩) rc (kinCount gs) gs a _ hn).mono ?_;rintro e w4 ⟨rfl,b4⟩)
   have C4:=(B3.out.alloc B3.out.size (.cells #[.int .i64 1,.int .i64 0,.bool false] 68))
   have B4:=hide (C4.trans (b4.mono C4.size))
   have X4:=(E3.out.alloc (.cells #[.int .i64 1,.int .i64 0,.bool false] 68))
   have E4:=hide (X4.below b4 X4.lt)
   have Y4t9:=(N3t9.out.alloc (.cells #[.int .i64 1,.int .i64 0,.bool false] 68))
   have N4t9:=hide (Y4t9.below b4 Y4t9.lt)
   have Y4t11:=(show Rec (w3.alloc (.cells #[.int .i64 1,.int .i64 0,.bool false] 68)) (w3.heap.size) 68 (fcells [⟨1,0,false⟩]) by rw[fcells_l1];exact Rec.new' _ _ _ _ (by simp))
   have N4t11:=hide (Y4t11.below b4 Y4t11.lt)
   have lo4t11:w.heap.size≤w3.heap.size:=by have:=B3.out.size;omega
   have hl4:=E4.out.lt
   have HH:=hHeld.below b4
   have SL4:=hide HH
   clear b4 C4 X4
   refine hK.out _ _ HH (fun hHeld=>?_)
   clear hK K HH
   (try simp only[Act.put,lA,lB,lC])
   refine oA 10 (fun K hK=>?_)
   have e0:=E4.out.cell (o:=0) rfl
   have e1:=E4.out.cell (o:=1) rfl
   have f0:=E4.out.frozen 0
   have f1:=E4.out.frozen 1
   have hlt:=E4.out.lt
   have sw:=B4.out.size
   go_simp
   refine hK.out _ _ ?_ (fun hHeld=>?_)
   ·first|exact(SL4.out.eff _ _)|exact((SL4.out.eff _ _)).drew|exact(hHeld.eff _ _)
   clear hK K e0 e1 f0 f1
   (try simp only[Act.put,lA,lB,lC])
   refine eA 11 (fun K hK=>?_)
   go_simp
   refine hK.out _ _ ?_
   clear hK K
   (try simp only[Act.put,lA,lB,lC])
   refine doneA (by kernel_rfl) ?_ _
   obtain⟨W9,hW9⟩:∃x,x=((w4.setCell ⟨w.heap.size+1+1+1,0,none⟩ (.slice (some ⟨w2.heap.size,0,none⟩) 1 1)).setCell ⟨w.heap.size+1+1+1,1,none⟩ (.slice (some ⟨w3.heap.size,0,none⟩) 1 1)):=⟨_,rfl⟩
   have NRt9:Hid (Rec W9 (w2.heap.size) 68 (fcells [⟨2,-1,false⟩])):=by subst hW9;exact((N4t9.out.other (by omega) 0 _).other (by omega) 1 _)
   have NRt11:Hid (Rec W9 (w3.heap.size) 68 (fcells [⟨1,0,false⟩])):=by subst hW9;exact((N4t11.out.other (by omega) 0 _).other (by omega) 1 _)
   have ER:Hid (Rec W9 (w.heap.size+1+1+1) 160 [.slice (some ⟨w2.heap.size,0,none⟩) 1 1,.slice (some ⟨w3.heap.size,0,none⟩) 1 1]):=by subst hW9;exact((E4.out.set 0 _).set 1 _)
   have BR:Hid (Below w.heap.size w W9):=by subst hW9;exact((B4.out.setCell (by show w.heap.size≤w.heap.size+1+1+1;omega) _).setCell (by show w.heap.size≤w.heap.size+1+1+1;omega) _)
   subst hW9
   go_wp2_with fail
   exact bodyPost_ret (results_ct rfl rfl ER.out Tryz.underlying160 rfl (by kernel_rfl)) rfl ⟨_,_,_,_,rfl,rec_fields NRt9.out (by omega) NRt9.out.lt,rec_fields NRt11.out (by omega) NRt11.out.lt,BR.out⟩
  refine AllL.cons rfl (fun K hK=>?_) ?_
  ·go_simp
   (go_at_call 185;refine(isRef_any ra (some ⟨cb,0,none⟩) rc (kinCount gs) gs a _ hn).mono ?_;rintro e w5 ⟨rfl,b5⟩)
   have C5:=B3.out
   have B5:=hide (C5.trans (b5.mono C5.size))
   have X5:=E3.out
   have E5:=hide (X5.below b5 X5.lt)
   have Y5t9:=N3t9.out
   have N5t9:=hide (Y5t9.below b5 Y5t9.lt)
   have hl5:=E5.out.lt
   have HH:=hHeld.below b5
   have SL5:=hide HH
   clear b5 C5 X5
   refine hK.out _ _ HH (fun hHeld=>?_)
   clear hK K HH
   (try simp only[Act.put,lA,lB,lC])
   refine oA 3 (fun K hK=>?_)
   go_simp
   refine hK.out _ _ (hHeld.alloc (.cells #[.int .i64 1,.int .i64 0,.bool false] 68)) (fun hHeld=>?_)
   clear hK K
   (try simp only[Act.put,lA,lB,lC])
   refine tA 4 (v:=?v4n35) ?y4n35 ?r4n35
   case y4n35=>(intro w _;go_simp;try with_reducible rfl)
   (try simp only[Act.put,lA,lB,lC])
   refine oA 10 (fun K hK=>?_)
   have e0:=E5.out.cell (o:=0) rfl
   have e1:=E5.out.cell (o:=1) rfl
   have f0:=E5.out.frozen 0
   have f1:=E5.out.frozen 1
   have hlt:=E5.out.lt
   have sw:=B5.out.size
   go_simp
   refine hK.out _ _ ?_ (fun hHeld=>?_)
   ·first|exact((SL5.out.eff _ _).alloc _)|exact(((SL5.out.eff _ _).alloc _)).drew|exact(hHeld.eff _ _)
   clear hK K e0 e1 f0 f1
   (try simp only[Act.put,lA,lB,lC])
   refine eA 11 (fun K hK=>?_)
   go_simp
   refine hK.out _ _ ?_
   clear hK K
   (try simp only[Act.put,lA,lB,lC])
   refine doneA (by kernel_rfl) ?_ _
   obtain⟨W9,hW9⟩:∃x,x=(((w5.setCell ⟨w.heap.size+1+1+1,0,none⟩ (.slice (some ⟨w2.heap.size,0,none⟩) 1 1)).setCell ⟨w.heap.size+1+1+1,1,none⟩ (.slice (some ⟨w5.heap.size,0,none⟩) 1 1)).alloc (.cells #[.int .i64 1,.int .i64 0,.bool false] 68)):=⟨_,rfl⟩
   have NRt9:Hid (Rec W9 (w2.heap.size) 68 (fcells [⟨2,-1,false⟩])):=by subst hW9;exact(((N5t9.out.other (by omega) 0 _).other (by omega) 1 _).alloc _)
   have NRt11:Hid (Rec W9 (w5.heap.size) 68 (fcells [⟨1,0,false⟩])):=by subst hW9;exact(show Rec _ (w5.heap.size) 68 (fcells [⟨1,0,false⟩]) by rw[fcells_l1];exact Rec.new' _ _ _ _ (by simp))
   have ER:Hid (Rec W9 (w.heap.size+1+1+1) 160 [.slice (some ⟨w2.heap.size,0,none⟩) 1 1,.slice (some ⟨w5.heap.size,0,none⟩) 1 1]):=by subst hW9;exact(((E5.out.set 0 _).set 1 _).alloc _)
   have BR:Hid (Below w.heap.size w W9):=by subst hW9;exact(((B5.out.setCell (by show w.heap.size≤w.heap.size+1+1+1;omega) _).setCell (by show w.heap.size≤w.heap.size+1+1+1;omega) _).alloc (by simp<;>omega) _)
   subst hW9
   go_wp2_with fail
   exact bodyPost_ret (results_ct rfl rfl ER.out Tryz.underlying160 rfl (by kernel_rfl)) rfl ⟨_,_,_,_,rfl,rec_fields NRt9.out (by omega) NRt9.out.lt,rec_fields NRt11.out (by omega) NRt11.out.lt,BR.out⟩
  exact AllL.nil
 refine AllL.cons rfl (fun K hK=>?_) ?_
 ·go_simp
  (go_at_call 181;refine(sortNum_any _).mono ?_;rintro e w6 ⟨rfl,b6⟩)
  have C6:=B2.out
  have B6:=hide (C6.trans (b6.mono C6.size))
  have X6:=E2.out
  have E6:=hide (X6.below b6 X6.lt)
  have hl6:=E6.out.lt
  have HH:=hHeld.below b6
  have SL6:=hide HH
  clear b6 C6 X6
  refine hK.out _ _ HH (fun hHeld=>?_)
  clear hK K HH
  (try simp only[Act.put,lA,lB,lC])
  refine rA [1,3,9] ?_
  refine AllL.cons rfl (fun K hK=>?_) ?_
  ·go_simp
   refine hK.out _ _ (hHeld.alloc (.cells #[.int .i64 2,.int .i64 (-1),.bool false] 68)) (fun hHeld=>?_)
   clear hK K
   (try simp only[Act.put,lA,lB,lC])
   refine rA [3,9] ?_
   refine AllL.cons rfl (fun K hK=>?_) ?_
   ·go_simp
    refine hK.out _ _ (hHeld.alloc (.cells #[.int .i64 1,.int .i64 0,.bool false] 68)) (fun hHeld=>?_)
    clear hK K
    (try simp only[Act.put,lA,lB,lC])
    refine tA 4 (v:=?v4n36) ?y4n36 ?r4n36
    case y4n36=>(intro w _;go_simp;try with_reducible rfl)
    (try simp only[Act.put,lA,lB,lC])
    refine oA 9 (fun K hK=>?_)
    go_simp
    (go_at_call 185;refine(isRef_any ra (some ⟨cb,0,none⟩) rc (kinCount gs) gs a _ hn).mono ?_;rintro e w7 ⟨rfl,b7⟩)
    have C7:=((B6.out.alloc B6.out.size (.cells #[.int .i64 2,.int .i64 (-1),.bool false] 68)).alloc (by simp<;>omega) (.cells #[.int .i64 1,.int .i64 0,.bool false] 68))
    have B7:=hide (C7.trans (b7.mono C7.size))
    have X7:=((E6.out.alloc (.cells #[.int .i64 2,.int .i64 (-1),.bool false] 68)).alloc (.cells #[.int .i64 1,.int .i64 0,.bool false] 68))
    have E7:=hide (X7.below b7 X7.lt)
    have Y7t9:=((show Rec (w6.alloc (.cells #[.int .i64 2,.int .i64 (-1),.bool false] 68)) (w6.heap.size) 68 (fcells [⟨2,-1,false⟩]) by rw[fcells_l1];exact Rec.new' _ _ _ _ (by simp)).alloc (.cells #[.int .i64 1,.int .i64 0,.bool false] 68))
    have N7t9:=hide (Y7t9.below b7 Y7t9.lt)
    have lo7t9:w.heap.size≤w6.heap.size:=by have:=B6.out.size;omega
    have Y7t11:=(show Rec ((w6.alloc (.cells #[.int .i64 2,.int .i64 (-1),.bool false] 68)).alloc (.cells #[.int .i64 1,.int .i64 0,.bool false] 68)) (w6.heap.size+1) 68 (fcells [⟨1,0,false⟩]) by rw[fcells_l1];exact Rec.new' _ _ _ _ (by simp))
    have N7t11:=hide (Y7t11.below b7 Y7t11.lt)
    have lo7t11:w.heap.size≤w6.heap.size+1:=by have:=B6.out.size;omega
    have hl7:=E7.out.lt
    have HH:=hHeld.below b7
    have SL7:=hide HH
    clear b7 C7 X7
    refine hK.out _ _ HH (fun hHeld=>?_)
    clear hK K HH
    (try simp only[Act.put,lA,lB,lC])
    refine oA 10 (fun K hK=>?_)
    have e0:=E7.out.cell (o:=0) rfl
    have e1:=E7.out.cell (o:=1) rfl
    have f0:=E7.out.frozen 0
    have f1:=E7.out.frozen 1
    have hlt:=E7.out.lt
    have sw:=B7.out.size
    go_simp
    refine hK.out _ _ ?_ (fun hHeld=>?_)
    ·first|exact(SL7.out.eff _ _)|exact((SL7.out.eff _ _)).drew|exact(hHeld.eff _ _)
    clear hK K e0 e1 f0 f1
    (try simp only[Act.put,lA,lB,lC])
    refine eA 11 (fun K hK=>?_)
    go_simp
    refine hK.out _ _ ?_
    clear hK K
    (try simp only[Act.put,lA,lB,lC])
    refine doneA (by kernel_rfl) ?_ _
    obtain⟨W9,hW9⟩:∃x,x=((w7.setCell ⟨w.heap.size+1+1+1,0,none⟩ (.slice (some ⟨w6.heap.size,0,none⟩) 1 1)).setCell ⟨w.heap.size+1+1+1,1,none⟩ (.slice (some ⟨w6.heap.size+1,0,none⟩) 1 1)):=⟨_,rfl⟩
    have NRt9:Hid (Rec W9 (w6.heap.size) 68 (fcells [⟨2,-1,false⟩])):=by subst hW9;exact((N7t9.out.other (by omega) 0 _).other (by omega) 1 _)
    have NRt11:Hid (Rec W9 (w6.heap.size+1) 68 (fcells [⟨1,0,false⟩])):=by subst hW9;exact((N7t11.out.other (by omega) 0 _).other (by omega) 1 _)
    have ER:Hid (Rec W9 (w.heap.size+1+1+1) 160 [.slice (some ⟨w6.heap.size,0,none⟩) 1 1,.slice (some ⟨w6.heap.size+1,0,none⟩) 1 1]):=by subst hW9;exact((E7.out.set 0 _).set 1 _)
    have BR:Hid (Below w.heap.size w W9):=by subst hW9;exact((B7.out.setCell (by show w.heap.size≤w.heap.size+1+1+1;omega) _).setCell (by show w.heap.size≤w.heap.size+1+1+1;omega) _)
    subst hW9
    go_wp2_with fail
    exact bodyPost_ret (results_ct rfl rfl ER.out Tryz.underlying160 rfl (by kernel_rfl)) rfl ⟨_,_,_,_,rfl,rec_fields NRt9.out (by omega) NRt9.out.lt,rec_fields NRt11.out (by omega) NRt11.out.lt,BR.out⟩
   refine AllL.cons rfl (fun K hK=>?_) ?_
   ·go_simp
    (go_at_call 185;refine(isRef_any ra (some ⟨cb,0,none⟩) rc (kinCount gs) gs a _ hn).mono ?_;rintro e w8 ⟨rfl,b8⟩)
    have C8:=(B6.out.alloc B6.out.size (.cells #[.int .i64 2,.int .i64 (-1),.bool false] 68))
    have B8:=hide (C8.trans (b8.mono C8.size))
    have X8:=(E6.out.alloc (.cells #[.int .i64 2,.int .i64 (-1),.bool false] 68))
    have E8:=hide (X8.below b8 X8.lt)
    have Y8t9:=(show Rec (w6.alloc (.cells #[.int .i64 2,.int .i64 (-1),.bool false] 68)) (w6.heap.size) 68 (fcells [⟨2,-1,false⟩]) by rw[fcells_l1];exact Rec.new' _ _ _ _ (by simp))
    have N8t9:=hide (Y8t9.below b8 Y8t9.lt)
    have lo8t9:w.heap.size≤w6.heap.size:=by have:=B6.out.size;omega
    have hl8:=E8.out.lt
    have HH:=hHeld.below b8
    have SL8:=hide HH
    clear b8 C8 X8
    refine hK.out _ _ HH (fun hHeld=>?_)
    clear hK K HH
    (try simp only[Act.put,lA,lB,lC])
    refine oA 3 (fun K hK=>?_)
    go_simp
    refine hK.out _ _ (hHeld.alloc (.cells #[.int .i64 1,.int .i64 0,.bool false] 68)) (fun hHeld=>?_)
    clear hK K
    (try simp only[Act.put,lA,lB,lC])
    refine tA 4 (v:=?v4n37) ?y4n37 ?r4n37
    case y4n37=>(intro w _;go_simp;try with_reducible rfl)
    (try simp only[Act.put,lA,lB,lC])
    refine oA 10 (fun K hK=>?_)
    have e0:=E8.out.cell (o:=0) rfl
    have e1:=E8.out.cell (o:=1) rfl
    have f0:=E8.out.frozen 0
    have f1:=E8.out.frozen 1
    have hlt:=E8.out.lt
    have sw:=B8.out.size
    go_simp
    refine hK.out _ _ ?_ (fun hHeld=>?_)
    ·first|exact((SL8.out.eff _ _).alloc _)|exact(((SL8.out.eff _ _).alloc _)).drew|exact(hHeld.eff _ _)
    clear hK K e0 e1 f0 f1
    (try simp only[Act.put,lA,lB,lC])
    refine eA 11 (fun K hK=>?_)
    go_simp
    refine hK.out _ _ ?_
    clear hK K
    (try simp only[Act.put,lA,lB,lC])
    refine doneA (by kernel_rfl) ?_ _
    obtain⟨W9,hW9⟩:∃x,x=(((w8.setCell ⟨w.heap.size+1+1+1,0,none⟩ (.slice (some ⟨w6.heap.size,0,none⟩) 1 1)).setCell ⟨w.heap.size+1+1+1,1,none⟩ (.slice (some ⟨w8.heap.size,0,none⟩) 1 1)).alloc (.cells #[.int .i64 1,.int .i64 0,.bool false] 68)):=⟨_,rfl⟩
    have NRt9:Hid (Rec W9 (w6.heap.size) 68 (fcells [⟨2,-1,false⟩])):=by subst hW9;exact(((N8t9.out.other (by omega) 0 _).other (by omega) 1 _).alloc _)
    have NRt11:Hid (Rec W9 (w8.heap.size) 68 (fcells [⟨1,0,false⟩])):=by subst hW9;exact(show Rec _ (w8.heap.size) 68 (fcells [⟨1,0,false⟩]) by rw[fcells_l1];exact Rec.new' _ _ _ _ (by simp))
    have ER:Hid (Rec W9 (w.heap.size+1+1+1) 160 [.slice (some ⟨w6.heap.size,0,none⟩) 1 1,.slice (some ⟨w8.heap.size,0,none⟩) 1 1]):=by subst hW9;exact(((E8.out.set 0 _).set 1 _).alloc _)
    have BR:Hid (Below w.heap.size w W9):=by subst hW9;exact(((B8.out.setCell (by show w.heap.size≤w.heap.size+1+1+1;omega) _).setCell (by show w.heap.size≤w.heap.size+1+1+1;omega) _).alloc (by simp<;>omega) _)
    subst hW9
    go_wp2_with fail
    exact bodyPost_ret (results_ct rfl rfl ER.out Tryz.underlying160 rfl (by kernel_rfl)) rfl ⟨_,_,_,_,rfl,rec_fields NRt9.out (by omega) NRt9.out.lt,rec_fields NRt11.out (by omega) NRt11.out.lt,BR.out⟩
   exact AllL.nil
  refine AllL.cons rfl (fun K hK=>?_) ?_
  ·go_simp
   refine hK.out _ _ (hHeld.alloc (.cells #[.int .i64 1,.int .i64 0,.bool false] 68)) (fun hHeld=>?_)
   clear hK K
   (try simp only[Act.put,lA,lB,lC])
   refine rA [1,9] ?_
   refine AllL.cons rfl (fun K hK=>?_) ?_
   ·go_simp
    refine hK.out _ _ (hHeld.alloc (.cells #[.int .i64 2,.int .i64 (-1),.bool false] 68)) (fun hHeld=>?_)
    clear hK K
    (try simp only[Act.put,lA,lB,lC])
    refine tA 4 (v:=?v4n38) ?y4n38 ?r4n38
    case y4n38=>(intro w _;go_simp;try with_reducible rfl)
    (try simp only[Act.put,lA,lB,lC])
    refine oA 9 (fun K hK=>?_)
    go_simp
    (go_at_call 185;refine(isRef_any ra (some ⟨cb,0,none⟩) rc (kinCount gs) gs a _ hn).mono ?_;rintro e w9 ⟨rfl,b9⟩)
    have C9:=((B6.out.alloc B6.out.size (.cells #[.int .i64 1,.int .i64 0,.bool false] 68)).alloc (by simp<;>omega) (.cells #[.int .i64 2,.int .i64 (-1),.bool false] 68))
    have B9:=hide (C9.trans (b9.mono C9.size))
    have X9:=((E6.out.alloc (.cells #[.int .i64 1,.int .i64 0,.bool false] 68)).alloc (.cells #[.int .i64 2,.int .i64 (-1),.bool false] 68))
    have E9:=hide (X9.below b9 X9.lt)
    have Y9t11:=((show Rec (w6.alloc (.cells #[.int .i64 1,.int .i64 0,.bool false] 68)) (w6.heap.size) 68 (fcells [⟨1,0,false⟩]) by rw[fcells_l1];exact Rec.new' _ _ _ _ (by simp)).alloc (.cells #[.int .i64 2,.int .i64 (-1),.bool false] 68))
    have N9t11:=hide (Y9t11.below b9 Y9t11.lt)
    have lo9t11:w.heap.size≤w6.heap.size:=by have:=B6.out.size;omega
    have Y9t9:=(show Rec ((w6.alloc (.cells #[.int .i64 1,.int .i64 0,.bool false] 68)).alloc (.cells #[.int .i64 2,.int .i64 (-1),.bool false] 68)) (w6.heap.size+1) 68 (fcells [⟨2,-1,false⟩]) by rw[fcells_l1];exact Rec.new' _ _ _ _ (by simp))
    have N9t9:=hide (Y9t9.below b9 Y9t9.lt)
    have lo9t9:w.heap.size≤w6.heap.size+1:=by have:=B6.out.size;omega
    have hl9:=E9.out.lt
    have HH:=hHeld.below b9
    have SL9:=hide HH
    clear b9 C9 X9
    refine hK.out _ _ HH (fun hHeld=>?_)
    clear hK K HH
    (try simp only[Act.put,lA,lB,lC])
    refine oA 10 (fun K hK=>?_)
    have e0:=E9.out.cell (o:=0) rfl
    have e1:=E9.out.cell (o:=1) rfl
    have f0:=E9.out.frozen 0
    have f1:=E9.out.frozen 1
    have hlt:=E9.out.lt
    have sw:=B9.out.size
    go_simp
    refine hK.out _ _ ?_ (fun hHeld=>?_)
    ·first|exact(SL9.out.eff _ _)|exact((SL9.out.eff _ _)).drew|exact(hHeld.eff _ _)
    clear hK K e0 e1 f0 f1
    (try simp only[Act.put,lA,lB,lC])
    refine eA 11 (fun K hK=>?_)
    go_simp
    refine hK.out _ _ ?_
    clear hK K
    (try simp only[Act.put,lA,lB,lC])
    refine doneA (by kernel_rfl) ?_ _
    obtain⟨W9,hW9⟩:∃x,x=((w9.setCell ⟨w.heap.size+1+1+1,0,none⟩ (.slice (some ⟨w6.heap.size+1,0,none⟩) 1 1)).setCell ⟨w.heap.size+1+1+1,1,none⟩ (.slice (some ⟨w6.heap.size,0,none⟩) 1 1)):=⟨_,rfl⟩
    have NRt9:Hid (Rec W9 (w6.heap.size+1) 68 (fcells [⟨2,-1,false⟩])):=by subst hW9;exact((N9t9.out.other (by omega) 0 _).other (by omega) 1 _)
    have NRt11:Hid (Rec W9 (w6.heap.size) 68 (fcells [⟨1,0,false⟩])):=by subst hW9;exact((N9t11.out.other (by omega) 0 _).other (by omega) 1 _)
    have ER:Hid (Rec W9 (w.heap.size+1+1+1) 160 [.slice (some ⟨w6.heap.size+1,0,none⟩) 1 1,.slice (some ⟨w6.heap.size,0,none⟩) 1 1]):=by subst hW9;exact((E9.out.set 0 _).set 1 _)
    have BR:Hid (Below w.heap.size w W9):=by subst hW9;exact((B9.out.setCell (by show w.heap.size≤w.heap.size+1+1+1;omega) _).setCell (by show w.heap.size≤w.heap.size+1+1+1;omega) _)
    subst hW9
    go_wp2_with fail
    exact bodyPost_ret (results_ct rfl rfl ER.out Tryz.underlying160 rfl (by kernel_rfl)) rfl ⟨_,_,_,_,rfl,rec_fields NRt9.out (by omega) NRt9.out.lt,rec_fields NRt11.out (by omega) NRt11.out.lt,BR.out⟩
   refine AllL.cons rfl (fun K hK=>?_) ?_
   ·go_simp
    (go_at_call 185;refine(isRef_any ra (some ⟨cb,0,none⟩) rc (kinCount gs) gs a _ hn).mono ?_;rintro e w10 ⟨rfl,b10⟩)
    have C10:=(B6.out.alloc B6.out.size (.cells #[.int .i64 1,.int .i64 0,.bool false] 68))
    have B10:=hide (C10.trans (b10.mono C10.size))
    have X10:=(E6.out.alloc (.cells #[.int .i64 1,.int .i64 0,.bool false] 68))
    have E10:=hide (X10.below b10 X10.lt)
    have Y10t11:=(show Rec (w6.alloc (.cells #[.int .i64 1,.int .i64 0,.bool false] 68)) (w6.heap.size) 68 (fcells [⟨1,0,false⟩]) by rw[fcells_l1];exact Rec.new' _ _ _ _ (by simp))
    have N10t11:=hide (Y10t11.below b10 Y10t11.lt)
    have lo10t11:w.heap.size≤w6.heap.size:=by have:=B6.out.size;omega
    have hl10:=E10.out.lt
    have HH:=hHeld.below b10
    have SL10:=hide HH
    clear b10 C10 X10
    refine hK.out _ _ HH (fun hHeld=>?_)
    clear hK K HH
    (try simp only[Act.put,lA,lB,lC])
    refine oA 1 (fun K hK=>?_)
    go_simp
    refine hK.out _ _ (hHeld.alloc (.cells #[.int .i64 2,.int .i64 (-1),.bool false] 68)) (fun hHeld=>?_)
    clear hK K
    (try simp only[Act.put,lA,lB,lC])
    refine tA 4 (v:=?v4n39) ?y4n39 ?r4n39
    case y4n39=>(intro w _;go_simp;try with_reducible rfl)
    (try simp only[Act.put,lA,lB,lC])
    refine oA 10 (fun K hK=>?_)
    have e0:=E10.out.cell (o:=0) rfl
    have e1:=E10.out.cell (o:=1) rfl
    have f0:=E10.out.frozen 0
    have f1:=E10.out.frozen 1
    have hlt:=E10.out.lt
    have sw:=B10.out.size
    go_simp
    refine hK.out _ _ ?_ (fun hHeld=>?_)
    ·first|exact((SL10.out.eff _ _).alloc _)|exact(((SL10.out.eff _ _).alloc _)).drew|exact(hHeld.eff _ _)
    clear hK K e0 e1 f0 f1
    (try simp only[Act.put,lA,lB,lC])
    refine eA 11 (fun K hK=>?_)
    go_simp
    refine hK.out _ _ ?_
    clear hK K
    (try simp only[Act.put,lA,lB,lC])
    refine doneA (by kernel_rfl) ?_ _
    obtain⟨W9,hW9⟩:∃x,x=(((w10.setCell ⟨w.heap.size+1+1+1,0,none⟩ (.slice (some ⟨w10.heap.size,0,none⟩) 1 1)).setCell ⟨w.heap.size+1+1+1,1,none⟩ (.slice (some ⟨w6.heap.size,0,none⟩) 1 1)).alloc (.cells #[.int .i64 2,.int .i64 (-1),.bool false] 68)):=⟨_,rfl⟩
    have NRt9:Hid (Rec W9 (w10.heap.size) 68 (fcells [⟨2,-1,false⟩])):=by subst hW9;exact(show Rec _ (w10.heap.size) 68 (fcells [⟨2,-1,false⟩]) by rw[fcells_l1];exact Rec.new' _ _ _ _ (by simp))
    have NRt11:Hid (Rec W9 (w6.heap.size) 68 (fcells [⟨1,0,false⟩])):=by subst hW9;exact(((N10t11.out.other (by omega) 0 _).other (by omega) 1 _).alloc _)
    have ER:Hid (Rec W9 (w.heap.size+1+1+1) 160 [.slice (some ⟨w10.heap.size,0,none⟩) 1 1,.slice (some ⟨w6.heap.size,0,none⟩) 1 1]):=by subst hW9;exact(((E10.out.set 0 _).set 1 _).alloc _)
    have BR:Hid (Below w.heap.size w W9):=by subst hW9;exact(((B10.out.setCell (by show w.heap.size≤w.heap.size+1+1+1;omega) _).setCell (by show w.heap.size≤w.heap.size+1+1+1;omega) _).alloc (by simp<;>omega) _)
    subst hW9
    go_wp2_with fail
    exact bodyPost_ret (results_ct rfl rfl ER.out Tryz.underlying160 rfl (by kernel_rfl)) rfl ⟨_,_,_,_,rfl,rec_fields NRt9.out (by omega) NRt9.out.lt,rec_fields NRt11.out (by omega) NRt11.out.lt,BR.out⟩
   exact AllL.nil
  refine AllL.cons rfl (fun K hK=>?_) ?_
  ·go_simp
   (go_at_call 185;refine(isRef_any ra (some ⟨cb,0,none⟩) rc (kinCount gs) gs a _ hn).mono ?_;rintro e w11 ⟨rfl,b11⟩)
   have C11:=B6.out
   have B11:=hide (C11.trans (b11.mono C11.size))
   have X11:=E6.out
   have E11:=hide (X11.below b11 X11.lt)
   have hl11:=E11.out.lt
   have HH:=hHeld.below b11
   have SL11:=hide HH
   clear b11 C11 X11
   refine hK.out _ _ HH (fun hHeld=>?_)
   clear hK K HH
   (try simp only[Act.put,lA,lB,lC])
   refine rA [1,3] ?_
   refine AllL.cons rfl (fun K hK=>?_) ?_
   ·go_simp
    refine hK.out _ _ (hHeld.alloc (.cells #[.int .i64 2,.int .i64 (-1),.bool false] 68)) (fun hHeld=>?_)
    clear hK K
    (try simp only[Act.put,lA,lB,lC])
    refine oA 3 (fun K hK=>?_)
    go_simp
    refine hK.out _ _ (hHeld.alloc (.cells #[.int .i64 1,.int .i64 0,.bool false] 68)) (fun hHeld=>?_)
    clear hK K
    (try simp only[Act.put,lA,lB,lC])
    refine tA 4 (v:=?v4n40) ?y4n40 ?r4n40
    case y4n40=>(intro w _;go_simp;try with_reducible rfl)
    (try simp only[Act.put,lA,lB,lC])
    refine oA 10 (fun K hK=>?_)
    have e0:=E11.out.cell (o:=0) rfl
    have e1:=E11.out.cell (o:=1) rfl
    have f0:=E11.out.frozen 0
    have f1:=E11.out.frozen 1
    have hlt:=E11.out.lt
    have sw:=B11.out.size
    have hlt1:w.heap.size+1+1+1<w11.heap.size+1:=by omega
    go_simp
    refine hK.out _ _ ?_ (fun hHeld=>?_)
    ·first|exact(((SL11.out.eff _ _).alloc _).alloc _)|exact((((SL11.out.eff _ _).alloc _).alloc _)).drew|exact(hHeld.eff _ _)
    clear hK K e0 e1 f0 f1
    (try simp only[Act.put,lA,lB,lC])
    refine eA 11 (fun K hK=>?_)
    go_simp
    refine hK.out _ _ ?_
    clear hK K
    (try simp only[Act.put,lA,lB,lC])
    refine doneA (by kernel_rfl) ?_ _
    obtain⟨W9,hW9⟩:∃x,x=((((w11.setCell ⟨w.heap.size+1+1+1,0,none⟩ (.slice (some ⟨w11.heap.size,0,none⟩) 1 1)).setCell ⟨w.heap.size+1+1+1,1,none⟩ (.slice (some ⟨w11.heap.size+1,0,none⟩) 1 1)).alloc (.cells #[.int .i64 2,.int .i64 (-1),.bool false] 68)).alloc (.cells #[.int .i64 1,.int .i64 0,.bool false] 68)):=⟨_,rfl⟩
    have NRt9:Hid (Rec W9 (w11.heap.size) 68 (fcells [⟨2,-1,false⟩])):=by subst hW9;exact((show Rec (((w11.setCell ⟨w.heap.size+1+1+1,0,none⟩ (.slice (some ⟨w11.heap.size,0,none⟩) 1 1)).setCell ⟨w.heap.size+1+1+1,1,none⟩ (.slice (some ⟨w11.heap.size+1,0,none⟩) 1 1)).alloc (.cells #[.int .i64 2,.int .i64 (-1),.bool false] 68)) (w11.heap.size) 68 (fcells [⟨2,-1,false⟩]) by rw[fcells_l1];exact Rec.new' _ _ _ _ (by simp)).alloc _)
    have NRt11:Hid (Rec W9 (w11.heap.size+1) 68 (fcells [⟨1,0,false⟩])):=by subst hW9;exact(show Rec _ (w11.heap.size+1) 68 (fcells [⟨1,0,false⟩]) by rw[fcells_l1];exact Rec.new' _ _ _ _ (by simp))
    have ER:Hid (Rec W9 (w.heap.size+1+1+1) 160 [.slice (some ⟨w11.heap.size,0,none⟩) 1 1,.slice (some ⟨w11.heap.size+1,0,none⟩) 1 1]):=by subst hW9;exact((((E11.out.set 0 _).set 1 _).alloc _).alloc _)
    have BR:Hid (Below w.heap.size w W9):=by subst hW9;exact((((B11.out.setCell (by show w.heap.size≤w.heap.size+1+1+1;omega) _).setCell (by show w.heap.size≤w.heap.size+1+1+1;omega) _).alloc (by simp<;>omega) _).alloc (by simp<;>omega) _)
    subst hW9
    go_wp2_with fail
    exact bodyPost_ret (results_ct rfl rfl ER.out Tryz.underlying160 rfl (by kernel_rfl)) rfl ⟨_,_,_,_,rfl,rec_fields NRt9.out (by omega) NRt9.out.lt,rec_fields NRt11.out (by omega) NRt11.out.lt,BR.out⟩
   refine AllL.cons rfl (fun K hK=>?_) ?_
   ·go_simp
    refine hK.out _ _ (hHeld.alloc (.cells #[.int .i64 1,.int .i64 0,.bool false] 68)) (fun hHeld=>?_)
    clear hK K
    (try simp only[Act.put,lA,lB,lC])
    refine oA 1 (fun K hK=>?_)
    go_simp
    refine hK.out _ _ (hHeld.alloc (.cells #[.int .i64 2,.int .i64 (-1),.bool false] 68)) (fun hHeld=>?_)
    clear hK K
    (try simp only[Act.put,lA,lB,lC])
    refine tA 4 (v:=?v4n41) ?y4n41 ?r4n41
    case y4n41=>(intro w _;go_simp;try with_reducible rfl)
    (try simp only[Act.put,lA,lB,lC])
    refine oA 10 (fun K hK=>?_)
    have e0:=E11.out.cell (o:=0) rfl
    have e1:=E11.out.cell (o:=1) rfl
    have f0:=E11.out.frozen 0
    have f1:=E11.out.frozen 1
    have hlt:=E11.out.lt
    have sw:=B11.out.size
    have hlt1:w.heap.size+1+1+1<w11.heap.size+1:=by omega
    go_simp
    refine hK.out _ _ ?_ (fun hHeld=>?_)
    ·first|exact(((SL11.out.eff _ _).alloc _).alloc _)|exact((((SL11.out.eff _ _).alloc _).alloc _)).drew|exact(hHeld.eff _ _)
    clear hK K e0 e1 f0 f1
    (try simp only[Act.put,lA,lB,lC])
    refine eA 11 (fun K hK=>?_)
    go_simp
    refine hK.out _ _ ?_
    clear hK K
    (try simp only[Act.put,lA,lB,lC])
    refine doneA (by kernel_rfl) ?_ _
    obtain⟨W9,hW9⟩:∃x,x=((((w11.setCell ⟨w.heap.size+1+1+1,0,none⟩ (.slice (some ⟨w11.heap.size+1,0,none⟩) 1 1)).setCell ⟨w.heap.size+1+1+1,1,none⟩ (.slice (some ⟨w11.heap.size,0,none⟩) 1 1)).alloc (.cells #[.int .i64 1,.int .i64 0,.bool false] 68)).alloc (.cells #[.int .i64 2,.int .i64 (-1),.bool false] 68)):=⟨_,rfl⟩
    have NRt9:Hid (Rec W9 (w11.heap.size+1) 68 (fcells [⟨2,-1,false⟩])):=by subst hW9;exact(show Rec _ (w11.heap.size+1) 68 (fcells [⟨2,-1,false⟩]) by rw[fcells_l1];exact Rec.new' _ _ _ _ (by simp))
    have NRt11:Hid (Rec W9 (w11.heap.size) 68 (fcells [⟨1,0,false⟩])):=by subst hW9;exact((show Rec (((w11.setCell ⟨w.heap.size+1+1+1,0,none⟩ (.slice (some ⟨w11.heap.size+1,0,none⟩) 1 1)).setCell ⟨w.heap.size+1+1+1,1,none⟩ (.slice (some ⟨w11.heap.size,0,none⟩) 1 1)).alloc (.cells #[.int .i64 1,.int .i64 0,.bool false] 68)) (w11.heap.size) 68 (fcells [⟨1,0,false⟩]) by rw[fcells_l1];exact Rec.new' _ _ _ _ (by simp)).alloc _)
    have ER:Hid (Rec W9 (w.heap.size+1+1+1) 160 [.slice (some ⟨w11.heap.size+1,0,none⟩) 1 1,.slice (some ⟨w11.heap.size,0,none⟩) 1 1]):=by subst hW9;exact((((E11.out.set 0 _).set 1 _).alloc _).alloc _)
    have BR:Hid (Below w.heap.size w W9):=by subst hW9;exact((((B11.out.setCell (by show w.heap.size≤w.heap.size+1+1+1;omega) _).setCell (by show w.heap.size≤w.heap.size+1+1+1;omega) _).alloc (by simp<;>omega) _).alloc (by simp<;>omega) _)
    subst hW9
    go_wp2_with fail
    exact bodyPost_ret (results_ct rfl rfl ER.out Tryz.underlying160 rfl (by kernel_rfl)) rfl ⟨_,_,_,_,rfl,rec_fields NRt9.out (by omega) NRt9.out.lt,rec_fields NRt11.out (by omega) NRt11.out.lt,BR.out⟩
   exact AllL.nil
  exact AllL.nil
 exact AllL.nil
set_option maxHeartbeats 4000000 in
set_option maxRecDepth 100000 in
theorem checkCast_any (vs:List Value) (op a b tk to:Int) (tm:Bool) (w:World) (lo hi k:Nat) (p:GProg) (h:Scp w lo hi p k vs) (hn:kinCount p.types≤1099511627776) :
  Calls Tryz.prog 161 #[.agg vs.toArray,.agg #[.int .i64 op,.int .i64 a,.int .i64 b],.agg #[.int .i64 tk,.int .i64 to,.bool tm]] w fun e w'=>EffPost w [⟨2,-1,false⟩] [⟨3,a,false⟩] (isRefF p.types a) e w':=by
 obtain⟨w1,hw1,B1,E1,S1⟩:=entS vs op a b tk to tm w
 have Bd:=hide B1.out.drew
 have Ed:=hide E1.out.drew'
 have SLd:=hide S1.out.drew
 have hld:=Ed.out.lt
 obtain⟨ra,rc,cb,e3,e4,_⟩:=h.tab
 clear h
 have KV3:=hide e3
 have KV4:=hide e4
 generalize hgs:p.types=gs at *
 clear e3 e4 hgs
 go_enter Tryz.func161,Tryz.ntmps161
 go_upto_region 1 with(fail)
 rw[←hw1]
 clear hw1
 refine beginA (S:=SB w.heap.size vs [.int .i64 op,.int .i64 a,.int .i64 b] [.int .i64 tk,.int .i64 to,.bool tm]) 13 (by kernel_rfl) SLd.out (fun hHeld=>?_)
 try simp only[Act.put,lA,lB,lC]
 refine tA 2 (v:=?v2n42) ?y2n42 ?r2n42
 case y2n42=>(intro w _;go_simp;try with_reducible rfl)
 (try simp only[Act.put,lA,lB,lC])
 refine tA 3 (v:=?v3n43) ?y3n43 ?r3n43
 case y3n43=>(intro w hSw;have si1:=hSw.i.cell (o:=1) rfl;have st1:=hSw.t.cell (o:=1) rfl;have sv3:=hSw.v.cell KV3.out;have sv4:=hSw.v.cell KV4.out;clear hSw;go_simp;try with_reducible rfl)
 (try simp only[Act.put,lA,lB,lC])
 refine tA 7 (v:=?v7n44) ?y7n44 ?r7n44
 case y7n44=>(intro w _;go_simp;try with_reducible rfl)
 (try simp only[Act.put,lA,lB,lC])
 refine tA 8 (v:=?v8n45) ?y8n45 ?r8n45
 case y8n45=>(intro w hSw;have si1:=hSw.i.cell (o:=1) rfl;have st1:=hSw.t.cell (o:=1) rfl;have sv3:=hSw.v.cell KV3.out;have sv4:=hSw.v.cell KV4.out;clear hSw;go_simp;try with_reducible rfl)
 (try simp only[Act.put,lA,lB,lC])
 refine tA 9 (v:=?v9n46) ?y9n46 ?r9n46
 case y9n46=>(intro w _;go_simp;try with_reducible rfl)
 (try simp only[Act.put,lA,lB,lC])
 refine tA 10 (v:=?v10n47) ?y10n47 ?r10n47
 case y10n47=>(intro w hSw;have si1:=hSw.i.cell (o:=1) rfl;have st1:=hSw.t.cell (o:=1) rfl;have sv3:=hSw.v.cell KV3.out;have sv4:=hSw.v.cell KV4.out;clear hSw;go_simp;try with_reducible rfl)
 (try simp only[Act.put,lA,lB,lC])
 refine oA 0 (fun K hK=>?_)
 go_simp
 (go_at_call 184;refine(sortRef_any (-1) _).mono ?_;rintro e w2 ⟨rfl,b2⟩)
 have C2:=Bd.out
 have B2:=hide (C2.trans (b2.mono C2.size))
 have X2:=Ed.out
 have E2:=hide (X2.below b2 X2.lt)
 have hl2:=E2.out.lt
 have HH:=hHeld.below b2
 have SL2:=hide HH
 clear b2 C2 X2
 refine hK.out _ _ HH (fun hHeld=>?_)
 clear hK K HH
 (try simp only[Act.put,lA,lB,lC])
 refine rA [1,4] ?_
 refine AllL.cons rfl (fun K hK=>?_) ?_
 ·go_simp
  refine hK.out _ _ (hHeld.alloc (.cells #[.int .i64 2,.int .i64 (-1),.bool false] 68)) (fun hHeld=>?_)
  clear hK K
  (try simp only[Act.put,lA,lB,lC])
  refine oA 4 (fun K hK=>?_)
  go_simp
  (go_at_call 183;refine(sortSure_any a _).mono ?_;rintro e w3 ⟨rfl,b3⟩)
  have C3:=(B2.out.alloc B2.out.size (.cells #[.int .i64 2,.int .i64 (-1),.bool false] 68))
  have B3:=hide (C3.trans (b3.mono C3.size))
  have X3:=(E2.out.alloc (.cells #[.int .i64 2,.int .i64 (-1),.bool false] 68))
  have E3:=hide (X3.below b3 X3.lt)
  have Y3t9:=(show Rec (w2.alloc (.cells #[.int .i64 2,.int .i64 (-1),.bool false] 68)) (w2.heap.size) 68 (fcells [⟨2,-1,false⟩]) by rw[fcells_l1];exact Rec.new' _ _ _ _ (by simp))
  have N3t9:=hide (Y3t9.below b3 Y3t9.lt)
  have lo3t9:w.heap.size≤w2.heap.size:=by have:=B2.out.size;omega
  have hl3:=E3.out.lt
  have HH:=hHeld.below b3
  have SL3:=hide HH
  clear b3 C3 X3
  refine hK.out _ _ HH (fun hHeld=>?_)
  clear hK K HH
  (try simp only[Act.put,lA,lB,lC])
  refine rA [5,11] ?_
  refine AllL.cons rfl (fun K hK=>?_) ?_
  ·go_simp
   refine hK.out _ _ (hHeld.alloc (.cells #[.int .i64 3,.int .i64 a,.bool false] 68)) (fun hHeld=>?_)
   clear hK K
   (try simp only[Act.put,lA,lB,lC])
   refine tA 6 (v:=?v6n48) ?y6n48 ?r6n48
   case y6n48=>(intro w _;go_simp;try with_reducible rfl)
   (try simp only[Act.put,lA,lB,lC])
   refine oA 11 (fun K hK=>?_)
   go_simp
   (go_at_call 185;refine(isRef_any ra (some ⟨cb,0,none⟩) rc (kinCount gs) gs a _ hn).mono ?_;rintro e w4 ⟨rfl,b4⟩)
   have C4:=(B3.out.alloc B3.out.size (.cells #[.int .i64 3,.int .i64 a,.bool false] 68))
   have B4:=hide (C4.trans (b4.mono C4.size))
   have X4:=(E3.out.alloc (.cells #[.int .i64 3,.int .i64 a,.bool false] 68))
   have E4:=hide (X4.below b4 X4.lt)
   have Y4t9:=(N3t9.out.alloc (.cells #[.int .i64 3,.int .i64 a,.bool false] 68))
   have N4t9:=hide (Y4t9.below b4 Y4t9.lt)
   have Y4t13:=(show Rec (w3.alloc (.cells #[.int .i64 3,.int .i64 a,.bool false] 68)) (w3.heap.size) 68 (fcells [⟨3,a,false⟩]) by rw[fcells_l1];exact Rec.new' _ _ _ _ (by simp))
   have N4t13:=hide (Y4t13.below b4 Y4t13.lt)
   have lo4t13:w.heap.size≤w3.heap.size:=by have:=B3.out.size;omega
   have hl4:=E4.out.lt
   have HH:=hHeld.below b4
   have SL4:=hide HH
   clear b4 C4 X4
   refine hK.out _ _ HH (fun hHeld=>?_)
   clear hK K HH
   (try simp only[Act.put,lA,lB,lC])
   refine oA 12 (fun K hK=>?_)
   have e0:=E4.out.cell (o:=0) rfl
   have e1:=E4.out.cell (o:=1) rfl
   have f0:=E4.out.frozen 0
   have f1:=E4.out.frozen 1
   have hlt:=E4.out.lt
   have sw:=B4.out.size
   go_simp
   refine hK.out _ _ ?_ (fun hHeld=>?_)
   ·first|exact(SL4.out.eff _ _)|exact((SL4.out.eff _ _)).drew|exact(hHeld.eff _ _)
   clear hK K e0 e1 f0 f1
   (try simp only[Act.put,lA,lB,lC])
   refine eA 13 (fun K hK=>?_)
   go_simp
   refine hK.out _ _ ?_
   clear hK K
   (try simp only[Act.put,lA,lB,lC])
   refine doneA (by kernel_rfl) ?_ _
   obtain⟨W9,hW9⟩:∃x,x=((w4.setCell ⟨w.heap.size+1+1+1,0,none⟩ (.slice (some ⟨w2.heap.size,0,none⟩) 1 1)).setCell ⟨w.heap.size+1+1+1,1,none⟩ (.slice (some ⟨w3.heap.size,0,none⟩) 1 1)):=⟨_,rfl⟩
   have NRt9:Hid (Rec W9 (w2.heap.size) 68 (fcells [⟨2,-1,false⟩])):=by subst hW9;exact((N4t9.out.other (by omega) 0 _).other (by omega) 1 _)
   have NRt13:Hid (Rec W9 (w3.heap.size) 68 (fcells [⟨3,a,false⟩])):=by subst hW9;exact((N4t13.out.other (by omega) 0 _).other (by omega) 1 _)
   have ER:Hid (Rec W9 (w.heap.size+1+1+1) 160 [.slice (some ⟨w2.heap.size,0,none⟩) 1 1,.slice (some ⟨w3.heap.size,0,none⟩) 1 1]):=by subst hW9;exact((E4.out.set 0 _).set 1 _)
   have BR:Hid (Below w.heap.size w W9):=by subst hW9;exact((B4.out.setCell (by show w.heap.size≤w.heap.size+1+1+1;omega) _).setCell (by show w.heap.size≤w.heap.size+1+1+1;omega) _)
   subst hW9
   go_wp2_with fail
   exact bodyPost_ret (results_ct rfl rfl ER.out Tryz.underlying160 rfl (by kernel_rfl)) rfl ⟨_,_,_,_,rfl,rec_fields NRt9.out (by omega) NRt9.out.lt,rec_fields NRt13.out (by omega) NRt13.out.lt,BR.out⟩
  refine AllL.cons rfl (fun K hK=>?_) ?_
  ·go_simp
   (go_at_call 185;refine(isRef_any ra (some ⟨cb,0,none⟩) rc (kinCount gs) gs a _ hn).mono ?_;rintro e w5 ⟨rfl,b5⟩)
   have C5:=B3.out
   have B5:=hide (C5.trans (b5.mono C5.size))
   have X5:=E3.out
   have E5:=hide (X5.below b5 X5.lt)
   have Y5t9:=N3t9.out
   have N5t9:=hide (Y5t9.below b5 Y5t9.lt)
   have hl5:=E5.out.lt
   have HH:=hHeld.below b5
   have SL5:=hide HH
   clear b5 C5 X5
   refine hK.out _ _ HH (fun hHeld=>?_)
   clear hK K HH
   (try simp only[Act.put,lA,lB,lC])
   refine oA 5 (fun K hK=>?_)
   go_simp
   refine hK.out _ _ (hHeld.alloc (.cells #[.int .i64 3,.int .i64 a,.bool false] 68)) (fun hHeld=>?_)
   clear hK K
   (try simp only[Act.put,lA,lB,lC])
   refine tA 6 (v:=?v6n49) ?y6n49 ?r6n49
   case y6n49=>(intro w _;go_simp;try with_reducible rfl)
   (try simp only[Act.put,lA,lB,lC])
   refine oA 12 (fun K hK=>?_)
   have e0:=E5.out.cell (o:=0) rfl
   have e1:=E5.out.cell (o:=1) rfl
   have f0:=E5.out.frozen 0
   have f1:=E5.out.frozen 1
   have hlt:=E5.out.lt
   have sw:=B5.out.size
   go_simp
   refine hK.out _ _ ?_ (fun hHeld=>?_)
   ·first|exact((SL5.out.eff _ _).alloc _)|exact(((SL5.out.eff _ _).alloc _)).drew|exact(hHeld.eff _ _)
   clear hK K e0 e1 f0 f1
   (try simp only[Act.put,lA,lB,lC])
   refine eA 13 (fun K hK=>?_)
   go_simp
   refine hK.out _ _ ?_
   clear hK K
   (try simp only[Act.put,lA,lB,lC])
   refine doneA (by kernel_rfl) ?_ _
   obtain⟨W9,hW9⟩:∃x,x=(((w5.setCell ⟨w.heap.size+1+1+1,0,none⟩ (.slice (some ⟨w2.heap.size,0,none⟩) 1 1)).setCell ⟨w.heap.size+1+1+1,1,none⟩ (.slice (some ⟨w5.heap.size,0,none⟩) 1 1)).alloc (.cells #[.int .i64 3,.int .i64 a,.bool false] 68)):=⟨_,rfl⟩
   have NRt9:Hid (Rec W9 (w2.heap.size) 68 (fcells [⟨2,-1,false⟩])):=by subst hW9;exact(((N5t9.out.other (by omega) 0 _).other (by omega) 1 _).alloc _)
   have NRt13:Hid (Rec W9 (w5.heap.size) 68 (fcells [⟨3,a,false⟩])):=by subst hW9;exact(show Rec _ (w5.heap.size) 68 (fcells [⟨3,a,false⟩]) by rw[fcells_l1];exact Rec.new' _ _ _ _ (by simp))
   have ER:Hid (Rec W9 (w.heap.size+1+1+1) 160 [.slice (some ⟨w2.heap.size,0,none⟩) 1 1,.slice (some ⟨w5.heap.size,0,none⟩) 1 1]):=by subst hW9;exact(((E5.out.set 0 _).set 1 _).alloc _)
   have BR:Hid (Below w.heap.size w W9):=by subst hW9;exact(((B5.out.setCell (by show w.heap.size≤w.heap.size+1+1+1;omega) _).setCell (by show w.heap.size≤w.heap.size+1+1+1;omega) _).alloc (by simp<;>omega) _)
   subst hW9
   go_wp2_with fail
   exact bodyPost_ret (results_ct rfl rfl ER.out Tryz.underlying160 rfl (by kernel_rfl)) rfl ⟨_,_,_,_,rfl,rec_fields NRt9.out (by omega) NRt9.out.lt,rec_fields NRt13.out (by omega) NRt13.out.lt,BR.out⟩
  exact AllL.nil
 refine AllL.cons rfl (fun K hK=>?_) ?_
 ·go_simp
  (go_at_call 183;refine(sortSure_any a _).mono ?_;rintro e w6 ⟨rfl,b6⟩)
  have C6:=B2.out
  have B6:=hide (C6.trans (b6.mono C6.size))
  have X6:=E2.out
  have E6:=hide (X6.below b6 X6.lt)
  have hl6:=E6.out.lt
  have HH:=hHeld.below b6
  have SL6:=hide HH
  clear b6 C6 X6
  refine hK.out _ _ HH (fun hHeld=>?_)
  clear hK K HH
  (try simp only[Act.put,lA,lB,lC])
  refine rA [1,5,11] ?_
  refine AllL.cons rfl (fun K hK=>?_) ?_
  ·go_simp
   refine hK.out _ _ (hHeld.alloc (.cells #[.int .i64 2,.int .i64 (-1),.bool false] 68)) (fun hHeld=>?_)
   clear hK K
   (try simp only[Act.put,lA,lB,lC])
   refine rA [5,11] ?_
   refine AllL.cons rfl (fun K hK=>?_) ?_
   ·go_simp
    refine hK.out _ _ (hHeld.alloc (.cells #[.int .i64 3,.int .i64 a,.bool false] 68)) (fun hHeld=>?_)
    clear hK K
    (try simp only[Act.put,lA,lB,lC])
    refine tA 6 (v:=?v6n50) ?y6n50 ?r6n50
    case y6n50=>(intro w _;go_simp;try with_reducible rfl)
    (try simp only[Act.put,lA,lB,lC])
    refine oA 11 (fun K hK=>?_)
    go_simp
    (go_at_call 185;refine(isRef_any ra (some ⟨cb,0,none⟩) rc (kinCount gs) gs a _ hn).mono ?_;rintro e w7 ⟨rfl,b7⟩)
    have C7:=((B6.out.alloc B6.out.size (.cells #[.int .i64 2,.int .i64 (-1),.bool false] 68)).alloc (by simp<;>omega) (.cells #[.int .i64 3,.int .i64 a,.bool false] 68))
    have B7:=hide (C7.trans (b7.mono C7.size))
    have X7:=((E6.out.alloc (.cells #[.int .i64 2,.int .i64 (-1),.bool false] 68)).alloc (.cells #[.int .i64 3,.int .i64 a,.bool false] 68))
    have E7:=hide (X7.below b7 X7.lt)
    have Y7t9:=((show Rec (w6.alloc (.cells #[.int .i64 2,.int .i64 (-1),.bool false] 68)) (w6.heap.size) 68 (fcells [⟨2,-1,false⟩]) by rw[fcells_l1];exact Rec.new' _ _ _ _ (by simp)).alloc (.cells #[.int .i64 3,.int .i64 a,.bool false] 68))
    have N7t9:=hide (Y7t9.below b7 Y7t9.lt)
    have lo7t9:w.heap.size≤w6.heap.size:=by have:=B6.out.size;omega
    have Y7t13:=(show Rec ((w6.alloc (.cells #[.int .i64 2,.int .i64 (-1),.bool false] 68)).alloc (.cells #[.int .i64 3,.int .i64 a,.bool false] 68)) (w6.heap.size+1) 68 (fcells [⟨3,a,false⟩]) by rw[fcells_l1];exact Rec.new' _ _ _ _ (by simp))
    have N7t13:=hide (Y7t13.below b7 Y7t13.lt)
    have lo7t13:w.heap.size≤w6.heap.size+1:=by have:=B6.out.size;omega
    have hl7:=E7.out.lt
    have HH:=hHeld.below b7
    have SL7:=hide HH
    clear b7 C7 X7
    refine hK.out _ _ HH (fun hHeld=>?_)
    clear hK K HH
    (try simp only[Act.put,lA,lB,lC])
    refine oA 12 (fun K hK=>?_)
    have e0:=E7.out.cell (o:=0) rfl
    have e1:=E7.out.cell (o:=1) rfl
    have f0:=E7.out.frozen 0
    have f1:=E7.out.frozen 1
    have hlt:=E7.out.lt
    have sw:=B7.out.size
    go_simp
    refine hK.out _ _ ?_ (fun hHeld=>?_)
    ·first|exact(SL7.out.eff _ _)|exact((SL7.out.eff _ _)).drew|exact(hHeld.eff _ _)
    clear hK K e0 e1 f0 f1
    (try simp only[Act.put,lA,lB,lC])
    refine eA 13 (fun K hK=>?_)
    go_simp
    refine hK.out _ _ ?_
    clear hK K
    (try simp only[Act.put,lA,lB,lC])
    refine doneA (by kernel_rfl) ?_ _
    obtain⟨W9,hW9⟩:∃x,x=((w7.setCell ⟨w.heap.size+1+1+1,0,none⟩ (.slice (some ⟨w6.heap.size,0,none⟩) 1 1)).setCell ⟨w.heap.size+1+1+1,1,none⟩ (.slice (some ⟨w6.heap.size+1,0,none⟩) 1 1)):=⟨_,rfl⟩
    have NRt9:Hid (Rec W9 (w6.heap.size) 68 (fcells [⟨2,-1,false⟩])):=by subst hW9;exact((N7t9.out.other (by omega) 0 _).other (by omega) 1 _)
    have NRt13:Hid (Rec W9 (w6.heap.size+1) 68 (fcells [⟨3,a,false⟩])):=by subst hW9;exact((N7t13.out.other (by omega) 0 _).other (by omega) 1 _)
    have ER:Hid (Rec W9 (w.heap.size+1+1+1) 160 [.slice (some ⟨w6.heap.size,0,none⟩) 1 1,.slice (some ⟨w6.heap.size+1,0,none⟩) 1 1]):=by subst hW9;exact((E7.out.set 0 _).set 1 _)
    have BR:Hid (Below w.heap.size w W9):=by subst hW9;exact((B7.out.setCell (by show w.heap.size≤w.heap.size+1+1+1;omega) _).setCell (by show w.heap.size≤w.heap.size+1+1+1;omega) _)
    subst hW9
    go_wp2_with fail
    exact bodyPost_ret (results_ct rfl rfl ER.out Tryz.underlying160 rfl (by kernel_rfl)) rfl ⟨_,_,_,_,rfl,rec_fields NRt9.out (by omega) NRt9.out.lt,rec_fields NRt13.out (by omega) NRt13.out.lt,BR.out⟩
   refine AllL.cons rfl (fun K hK=>?_) ?_
   ·go_simp
    (go_at_call 185;refine(isRef_any ra (some ⟨cb,0,none⟩) rc (kinCount gs) gs a _ hn).mono ?_;rintro e w8 ⟨rfl,b8⟩)
    have C8:=(B6.out.alloc B6.out.size (.cells #[.int .i64 2,.int .i64 (-1),.bool false] 68))
    have B8:=hide (C8.trans (b8.mono C8.size))
    have X8:=(E6.out.alloc (.cells #[.int .i64 2,.int .i64 (-1),.bool false] 68))
    have E8:=hide (X8.below b8 X8.lt)
    have Y8t9:=(show Rec (w6.alloc (.cells #[.int .i64 2,.int .i64 (-1),.bool false] 68)) (w6.heap.size) 68 (fcells [⟨2,-1,false⟩]) by rw[fcells_l1];exact Rec.new' _ _ _ _ (by simp))
    have N8t9:=hide (Y8t9.below b8 Y8t9.lt)
    have lo8t9:w.heap.size≤w6.heap.size:=by have:=B6.out.size;omega
    have hl8:=E8.out.lt
    have HH:=hHeld.below b8
    have SL8:=hide HH
    clear b8 C8 X8
    refine hK.out _ _ HH (fun hHeld=>?_)
    clear hK K HH
    (try simp only[Act.put,lA,lB,lC])
    refine oA 5 (fun K hK=>?_)
    go_simp
    refine hK.out _ _ (hHeld.alloc (.cells #[.int .i64 3,.int .i64 a,.bool false] 68)) (fun hHeld=>?_)
    clear hK K
    (try simp only[Act.put,lA,lB,lC])
    refine tA 6 (v:=?v6n51) ?y6n51 ?r6n51
    case y6n51=>(intro w _;go_simp;try with_reducible rfl)
    (try simp only[Act.put,lA,lB,lC])
    refine oA 12 (fun K hK=>?_)
    have e0:=E8.out.cell (o:=0) rfl
    have e1:=E8.out.cell (o:=1) rfl
    have f0:=E8.out.frozen 0
    have f1:=E8.out.frozen 1
    have hlt:=E8.out.lt
    have sw:=B8.out.size
    go_simp
    refine hK.out _ _ ?_ (fun hHeld=>?_)
    ·first|exact((SL8.out.eff _ _).alloc _)|exact(((SL8.out.eff _ _).alloc _)).drew|exact(hHeld.eff _ _)
    clear hK K e0 e1 f0 f1
    (try simp only[Act.put,lA,lB,lC])
    refine eA 13 (fun K hK=>?_)
    go_simp
    refine hK.out _ _ ?_
    clear hK K
    (try simp only[Act.put,lA,lB,lC])
    refine doneA (by kernel_rfl) ?_ _
    obtain⟨W9,hW9⟩:∃x,x=(((w8.setCell ⟨w.heap.size+1+1+1,0,none⟩ (.slice (some ⟨w6.heap.size,0,none⟩) 1 1)).setCell ⟨w.heap.size+1+1+1,1,none⟩ (.slice (some ⟨w8.heap.size,0,none⟩) 1 1)).alloc (.cells #[.int .i64 3,.int .i64 a,.bool false] 68)):=⟨_,rfl⟩
    have NRt9:Hid (Rec W9 (w6.heap.size) 68 (fcells [⟨2,-1,false⟩])):=by subst hW9;exact(((N8t9.out.other (by omega) 0 _).other (by omega) 1 _).alloc _)
    have NRt13:Hid (Rec W9 (w8.heap.size) 68 (fcells [⟨3,a,false⟩])):=by subst hW9;exact(show Rec _ (w8.heap.size) 68 (fcells [⟨3,a,false⟩]) by rw[fcells_l1];exact Rec.new' _ _ _ _ (by simp))
    have ER:Hid (Rec W9 (w.heap.size+1+1+1) 160 [.slice (some ⟨w6.heap.size,0,none⟩) 1 1,.slice (some ⟨w8.heap.size,0,none⟩) 1 1]):=by subst hW9;exact(((E8.out.set 0 _).set 1 _).alloc _)
    have BR:Hid (Below w.heap.size w W9):=by subst hW9;exact(((B8.out.setCell (by show w.heap.size≤w.heap.size+1+1+1;omega) _).setCell (by show w.heap.size≤w.heap.size+1+1+1;omega) _).alloc (by simp<;>omega) _)
    subst hW9
    go_wp2_with fail
    exact bodyPost_ret (results_ct rfl rfl ER.out Tryz.underlying160 rfl (by kernel_rfl)) rfl ⟨_,_,_,_,rfl,rec_fields NRt9.out (by omega) NRt9.out.lt,rec_fields NRt13.out (by omega) NRt13.out.lt,BR.out⟩
   exact AllL.nil
  refine AllL.cons rfl (fun K hK=>?_) ?_
  ·go_simp
   refine hK.out _ _ (hHeld.alloc (.cells #[.int .i64 3,.int .i64 a,.bool false] 68)) (fun hHeld=>?_)
   clear hK K
   (try simp only[Act.put,lA,lB,lC])
   refine rA [1,11] ?_
   refine AllL.cons rfl (fun K hK=>?_) ?_
   ·go_simp
    refine hK.out _ _ (hHeld.alloc (.cells #[.int .i64 2,.int .i64 (-1),.bool false] 68)) (fun hHeld=>?_)
    clear hK K
    (try simp only[Act.put,lA,lB,lC])
    refine tA 6 (v:=?v6n52) ?y6n52 ?r6n52
    case y6n52=>(intro w _;go_simp;try with_reducible rfl)
    (try simp only[Act.put,lA,lB,lC])
    refine oA 11 (fun K hK=>?_)
    go_simp
    (go_at_call 185;refine(isRef_any ra (some ⟨cb,0,none⟩) rc (kinCount gs) gs a _ hn).mono ?_;rintro e w9 ⟨rfl,b9⟩)
    have C9:=((B6.out.alloc B6.out.size (.cells #[.int .i64 3,.int .i64 a,.bool false] 68)).alloc (by simp<;>omega) (.cells #[.int .i64 2,.int .i64 (-1),.bool false] 68))
    have B9:=hide (C9.trans (b9.mono C9.size))
    have X9:=((E6.out.alloc (.cells #[.int .i64 3,.int .i64 a,.bool false] 68)).alloc (.cells #[.int .i64 2,.int .i64 (-1),.bool false] 68))
    have E9:=hide (X9.below b9 X9.lt)
    have Y9t13:=((show Rec (w6.alloc (.cells #[.int .i64 3,.int .i64 a,.bool false] 68)) (w6.heap.size) 68 (fcells [⟨3,a,false⟩]) by rw[fcells_l1];exact Rec.new' _ _ _ _ (by simp)).alloc (.cells #[.int .i64 2,.int .i64 (-1),.bool false] 68))
    have N9t13:=hide (Y9t13.below b9 Y9t13.lt)
    have lo9t13:w.heap.size≤w6.heap.size:=by have:=B6.out.size;omega
    have Y9t9:=(show Rec ((w6.alloc (.cells #[.int .i64 3,.int .i64 a,.bool false] 68)).alloc (.cells #[.int .i64 2,.int .i64 (-1),.bool false] 68)) (w6.heap.size+1) 68 (fcells [⟨2,-1,false⟩]) by rw[fcells_l1];exact Rec.new' _ _ _ _ (by simp))
    have N9t9:=hide (Y9t9.below b9 Y9t9.lt)
    have lo9t9:w.heap.size≤w6.heap.size+1:=by have:=B6.out.size;omega
    have hl9:=E9.out.lt
    have HH:=hHeld.below b9
    have SL9:=hide HH
    clear b9 C9 X9
    refine hK.out _ _ HH (fun hHeld=>?_)
    clear hK K HH
    (try simp only[Act.put,lA,lB,lC])
    refine oA 12 (fun K hK=>?_)
    have e0:=E9.out.cell (o:=0) rfl
    have e1:=E9.out.cell (o:=1) rfl
    have f0:=E9.out.frozen 0
    have f1:=E9.out.frozen 1
    have hlt:=E9.out.lt
    have sw:=B9.out.size
    go_simp
    refine hK.out _ _ ?_ (fun hHeld=>?_)
    ·first|exact(SL9.out.eff _ _)|exact((SL9.out.eff _ _)).drew|exact(hHeld.eff _ _)
    clear hK K e0 e1 f0 f1
    (try simp only[Act.put,lA,lB,lC])
    refine eA 13 (fun K hK=>?_)
    go_simp
    refine hK.out _ _ ?_
    clear hK K
    (try simp only[Act.put,lA,lB,lC])
    refine doneA (by kernel_rfl) ?_ _
    obtain⟨W9,hW9⟩:∃x,x=((w9.setCell ⟨w.heap.size+1+1+1,0,none⟩ (.slice (some ⟨w6.heap.size+1,0,none⟩) 1 1)).setCell ⟨w.heap.size+1+1+1,1,none⟩ (.slice (some ⟨w6.heap.size,0,none⟩) 1 1)):=⟨_,rfl⟩
    have NRt9:Hid (Rec W9 (w6.heap.size+1) 68 (fcells [⟨2,-1,false⟩])):=by subst hW9;exact((N9t9.out.other (by omega) 0 _).other (by omega) 1 _)
    have NRt13:Hid (Rec W9 (w6.heap.size) 68 (fcells [⟨3,a,false⟩])):=by subst hW9;exact((N9t13.out.other (by omega) 0 _).other (by omega) 1 _)
    have ER:Hid (Rec W9 (w.heap.size+1+1+1) 160 [.slice (some ⟨w6.heap.size+1,0,none⟩) 1 1,.slice (some ⟨w6.heap.size,0,none⟩) 1 1]):=by subst hW9;exact((E9.out.set 0 _).set 1 _)
    have BR:Hid (Below w.heap.size w W9):=by subst hW9;exact((B9.out.setCell (by show w.heap.size≤w.heap.size+1+1+1;omega) _).setCell (by show w.heap.size≤w.heap.size+1+1+1;omega) _)
    subst hW9
    go_wp2_with fail
    exact bodyPost_ret (results_ct rfl rfl ER.out Tryz.underlying160 rfl (by kernel_rfl)) rfl ⟨_,_,_,_,rfl,rec_fields NRt9.out (by omega) NRt9.out.lt,rec_fields NRt13.out (by omega) NRt13.out.lt,BR.out⟩
   refine AllL.cons rfl (fun K hK=>?_) ?_
   ·go_simp
    (go_at_call 185;refine(isRef_any ra (some ⟨cb,0,none⟩) rc (kinCount gs) gs a _ hn).mono ?_;rintro e w10 ⟨rfl,b10⟩)
    have C10:=(B6.out.alloc B6.out.size (.cells #[.int .i64 3,.int .i64 a,.bool false] 68))
    have B10:=hide (C10.trans (b10.mono C10.size))
    have X10:=(E6.out.alloc (.cells #[.int .i64 3,.int .i64 a,.bool false] 68))
    have E10:=hide (X10.below b10 X10.lt)
    have Y10t13:=(show Rec (w6.alloc (.cells #[.int .i64 3,.int .i64 a,.bool false] 68)) (w6.heap.size) 68 (fcells [⟨3,a,false⟩]) by rw[fcells_l1];exact Rec.new' _ _ _ _ (by simp))
    have N10t13:=hide (Y10t13.below b10 Y10t13.lt)
    have lo10t13:w.heap.size≤w6.heap.size:=by have:=B6.out.size;omega
    have hl10:=E10.out.lt
    have HH:=hHeld.below b10
    have SL10:=hide HH
    clear b10 C10 X10
    refine hK.out _ _ HH (fun hHeld=>?_)
    clear hK K HH
    (try simp only[Act.put,lA,lB,lC])
    refine oA 1 (fun K hK=>?_)
    go_simp
    refine hK.out _ _ (hHeld.alloc (.cells #[.int .i64 2,.int .i64 (-1),.bool false] 68)) (fun hHeld=>?_)
    clear hK K
    (try simp only[Act.put,lA,lB,lC])
    refine tA 6 (v:=?v6n53) ?y6n53 ?r6n53
    case y6n53=>(intro w _;go_simp;try with_reducible rfl)
    (try simp only[Act.put,lA,lB,lC])
    refine oA 12 (fun K hK=>?_)
    have e0:=E10.out.cell (o:=0) rfl
    have e1:=E10.out.cell (o:=1) rfl
    have f0:=E10.out.frozen 0
    have f1:=E10.out.frozen 1
    have hlt:=E10.out.lt
    have sw:=B10.out.size
    go_simp
    refine hK.out _ _ ?_ (fun hHeld=>?_)
    ·first|exact((SL10.out.eff _ _).alloc _)|exact(((SL10.out.eff _ _).alloc _)).drew|exact(hHeld.eff _ _)
    clear hK K e0 e1 f0 f1
    (try simp only[Act.put,lA,lB,lC])
    refine eA 13 (fun K hK=>?_)
    go_simp
    refine hK.out _ _ ?_
    clear hK K
    (try simp only[Act.put,lA,lB,lC])
    refine doneA (by kernel_rfl) ?_ _
    obtain⟨W9,hW9⟩:∃x,x=(((w10.setCell ⟨w.heap.size+1+1+1,0,none⟩ (.slice (some ⟨w10.heap.size,0,none⟩) 1 1)).setCell ⟨w.heap.size+1+1+1,1,none⟩ (.slice (some ⟨w6.heap.size,0,none⟩) 1 1)).alloc (.cells #[.int .i64 2,.int .i64 (-1),.bool false] 68)):=⟨_,rfl⟩
    have NRt9:Hid (Rec W9 (w10.heap.size) 68 (fcells [⟨2,-1,false⟩])):=by subst hW9;exact(show Rec _ (w10.heap.size) 68 (fcells [⟨2,-1,false⟩]) by rw[fcells_l1];exact Rec.new' _ _ _ _ (by simp))
    have NRt13:Hid (Rec W9 (w6.heap.size) 68 (fcells [⟨3,a,false⟩])):=by subst hW9;exact(((N10t13.out.other (by omega) 0 _).other (by omega) 1 _).alloc _)
    have ER:Hid (Rec W9 (w.heap.size+1+1+1) 160 [.slice (some ⟨w10.heap.size,0,none⟩) 1 1,.slice (some ⟨w6.heap.size,0,none⟩) 1 1]):=by subst hW9;exact(((E10.out.set 0 _).set 1 _).alloc _)
    have BR:Hid (Below w.heap.size w W9):=by subst hW9;exact(((B10.out.setCell (by show w.heap.size≤w.heap.size+1+1+1;omega) _).setCell (by show w.heap.size≤w.heap.size+1+1+1;omega) _).alloc (by simp<;>omega) _)
    subst hW9
    go_wp2_with fail
    exact bodyPost_ret (results_ct rfl rfl ER.out Tryz.underlying160 rfl (by kernel_rfl)) rfl ⟨_,_,_,_,rfl,rec_fields NRt9.out (by omega) NRt9.out.lt,rec_fields NRt13.out (by omega) NRt13.out.lt,BR.out⟩
   exact AllL.nil
  refine AllL.cons rfl (fun K hK=>?_) ?_
  ·go_simp
   (go_at_call 185;refine(isRef_any ra (some ⟨cb,0,none⟩) rc (kinCount gs) gs a _ hn).mono ?_;rintro e w11 ⟨rfl,b11⟩)
   have C11:=B6.out
   have B11:=hide (C11.trans (b11.mono C11.size))
   have X11:=E6.out
   have E11:=hide (X11.below b11 X11.lt)
   have hl11:=E11.out.lt
   have HH:=hHeld.below b11
   have SL11:=hide HH
   clear b11 C11 X11
   refine hK.out _ _ HH (fun hHeld=>?_)
   clear hK K HH
   (try simp only[Act.put,lA,lB,lC])
   refine rA [1,5] ?_
   refine AllL.cons rfl (fun K hK=>?_) ?_
   ·go_simp
    refine hK.out _ _ (hHeld.alloc (.cells #[.int .i64 2,.int .i64 (-1),.bool false] 68)) (fun hHeld=>?_)
    clear hK K
    (try simp only[Act.put,lA,lB,lC])
    refine oA 5 (fun K hK=>?_)
    go_simp
    refine hK.out _ _ (hHeld.alloc (.cells #[.int .i64 3,.int .i64 a,.bool false] 68)) (fun hHeld=>?_)
    clear hK K
    (try simp only[Act.put,lA,lB,lC])
    refine tA 6 (v:=?v6n54) ?y6n54 ?r6n54
    case y6n54=>(intro w _;go_simp;try with_reducible rfl)
    (try simp only[Act.put,lA,lB,lC])
    refine oA 12 (fun K hK=>?_)
    have e0:=E11.out.cell (o:=0) rfl
    have e1:=E11.out.cell (o:=1) rfl
    have f0:=E11.out.frozen 0
    have f1:=E11.out.frozen 1
    have hlt:=E11.out.lt
    have sw:=B11.out.size
    have hlt1:w.heap.size+1+1+1<w11.heap.size+1:=by omega
    go_simp
    refine hK.out _ _ ?_ (fun hHeld=>?_)
    ·first|exact(((SL11.out.eff _ _).alloc _).alloc _)|exact((((SL11.out.eff _ _).alloc _).alloc _)).drew|exact(hHeld.eff _ _)
    clear hK K e0 e1 f0 f1
    (try simp only[Act.put,lA,lB,lC])
    refine eA 13 (fun K hK=>?_)
    go_simp
    refine hK.out _ _ ?_
    clear hK K
    (try simp only[Act.put,lA,lB,lC])
    refine doneA (by kernel_rfl) ?_ _
    obtain⟨W9,hW9⟩:∃x,x=((((w11.setCell ⟨w.heap.size+1+1+1,0,none⟩ (.slice (some ⟨w11.heap.size,0,none⟩) 1 1)).setCell ⟨w.heap.size+1+1+1,1,none⟩ (.slice (some ⟨w11.heap.size+1,0,none⟩) 1 1)).alloc (.cells #[.int .i64 2,.int .i64 (-1),.bool false] 68)).alloc (.cells #[.int .i64 3,.int .i64 a,.bool false] 68)):=⟨_,rfl⟩
    have NRt9:Hid (Rec W9 (w11.heap.size) 68 (fcells [⟨2,-1,false⟩])):=by subst hW9;exact((show Rec (((w11.setCell ⟨w.heap.size+1+1+1,0,none⟩ (.slice (some ⟨w11.heap.size,0,none⟩) 1 1)).setCell ⟨w.heap.size+1+1+1,1,none⟩ (.slice (some ⟨w11.heap.size+1,0,none⟩) 1 1)).alloc (.cells #[.int .i64 2,.int .i64 (-1),.bool false] 68)) (w11.heap.size) 68 (fcells [⟨2,-1,false⟩]) by rw[fcells_l1];exact Rec.new' _ _ _ _ (by simp)).alloc _)
    have NRt13:Hid (Rec W9 (w11.heap.size+1) 68 (fcells [⟨3,a,false⟩])):=by subst hW9;exact(show Rec _ (w11.heap.size+1) 68 (fcells [⟨3,a,false⟩]) by rw[fcells_l1];exact Rec.new' _ _ _ _ (by simp))
    have ER:Hid (Rec W9 (w.heap.size+1+1+1) 160 [.slice (some ⟨w11.heap.size,0,none⟩) 1 1,.slice (some ⟨w11.heap.size+1,0,none⟩) 1 1]):=by subst hW9;exact((((E11.out.set 0 _).set 1 _).alloc _).alloc _)
    have BR:Hid (Below w.heap.size w W9):=by subst hW9;exact((((B11.out.setCell (by show w.heap.size≤w.heap.size+1+1+1;omega) _).setCell (by show w.heap.size≤w.heap.size+1+1+1;omega) _).alloc (by simp<;>omega) _).alloc (by simp<;>omega) _)
    subst hW9
    go_wp2_with fail
    exact bodyPost_ret (results_ct rfl rfl ER.out Tryz.underlying160 rfl (by kernel_rfl)) rfl ⟨_,_,_,_,rfl,rec_fields NRt9.out (by omega) NRt9.out.lt,rec_fields NRt13.out (by omega) NRt13.out.lt,BR.out⟩
   refine AllL.cons rfl (fun K hK=>?_) ?_
   ·go_simp
    refine hK.out _ _ (hHeld.alloc (.cells #[.int .i64 3,.int .i64 a,.bool false] 68)) (fun hHeld=>?_)
    clear hK K
    (try simp only[Act.put,lA,lB,lC])
    refine oA 1 (fun K hK=>?_)
    go_simp
    refine hK.out _ _ (hHeld.alloc (.cells #[.int .i64 2,.int .i64 (-1),.bool false] 68)) (fun hHeld=>?_)
    clear hK K
    (try simp only[Act.put,lA,lB,lC])
    refine tA 6 (v:=?v6n55) ?y6n55 ?r6n55
    case y6n55=>(intro w _;go_simp;try with_reducible rfl)
    (try simp only[Act.put,lA,lB,lC])
    refine oA 12 (fun K hK=>?_)
    have e0:=E11.out.cell (o:=0) rfl
    have e1:=E11.out.cell (o:=1) rfl
    have f0:=E11.out.frozen 0
    have f1:=E11.out.frozen 1
    have hlt:=E11.out.lt
    have sw:=B11.out.size
    have hlt1:w.heap.size+1+1+1<w11.heap.size+1:=by omega
    go_simp
    refine hK.out _ _ ?_ (fun hHeld=>?_)
    ·first|exact(((SL11.out.eff _ _).alloc _).alloc _)|exact((((SL11.out.eff _ _).alloc _).alloc _)).drew|exact(hHeld.eff _ _)
    clear hK K e0 e1 f0 f1
    (try simp only[Act.put,lA,lB,lC])
    refine eA 13 (fun K hK=>?_)
    go_simp
    refine hK.out _ _ ?_
    clear hK K
    (try simp only[Act.put,lA,lB,lC])
    refine doneA (by kernel_rfl) ?_ _
    obtain⟨W9,hW9⟩:∃x,x=((((w11.setCell ⟨w.heap.size+1+1+1,0,none⟩ (.slice (some ⟨w11.heap.size+1,0,none⟩) 1 1)).setCell ⟨w.heap.size+1+1+1,1,none⟩ (.slice (some ⟨w11.heap.size,0,none⟩) 1 1)).alloc (.cells #[.int .i64 3,.int .i64 a,.bool false] 68)).alloc (.cells #[.int .i64 2,.int .i64 (-1),.bool false] 68)):=⟨_,rfl⟩
    have NRt9:Hid (Rec W9 (w11.heap.size+1) 68 (fcells [⟨2,-1,false⟩])):=by subst hW9;exact(show Rec _ (w11.heap.size+1) 68 (fcells [⟨2,-1,false⟩]) by rw[fcells_l1];exact Rec.new' _ _ _ _ (by simp))
    have NRt13:Hid (Rec W9 (w11.heap.size) 68 (fcells [⟨3,a,false⟩])):=by subst hW9;exact((show Rec (((w11.setCell ⟨w.heap.size+1+1+1,0,none⟩ (.slice (some ⟨w11.heap.size+1,0,none⟩) 1 1)).setCell ⟨w.heap.size+1+1+1,1,none⟩ (.slice (some ⟨w11.heap.size,0,none⟩) 1 1)).alloc (.cells #[.int .i64 3,.int .i64 a,.bool false] 68)) (w11.heap.size) 68 (fcells [⟨3,a,false⟩]) by rw[fcells_l1];exact Rec.new' _ _ _ _ (by simp)).alloc _)
    have ER:Hid (Rec W9 (w.heap.size+1+1+1) 160 [.slice (some ⟨w11.heap.size+1,0,none⟩) 1 1,.slice (some ⟨w11.heap.size,0,none⟩) 1 1]):=by subst hW9;exact((((E11.out.set 0 _).set 1 _).alloc _).alloc _)
    have BR:Hid (Below w.heap.size w W9):=by subst hW9;exact((((B11.out.setCell (by show w.heap.size≤w.heap.size+1+1+1;omega) _).setCell (by show w.heap.size≤w.heap.size+1+1+1;omega) _).alloc (by simp<;>omega) _).alloc (by simp<;>omega) _)
    subst hW9
    go_wp2_with fail
    exact bodyPost_ret (results_ct rfl rfl ER.out Tryz.underlying160 rfl (by kernel_rfl)) rfl ⟨_,_,_,_,rfl,rec_fields NRt9.out (by omega) NRt9.out.lt,rec_fields NRt13.out (by omega) NRt13.out.lt,BR.out⟩
   exact AllL.nil
  exact AllL.nil
 exact AllL.nil
end Go.Proofs.YtpaneomkphjpcaaGreatDoor
