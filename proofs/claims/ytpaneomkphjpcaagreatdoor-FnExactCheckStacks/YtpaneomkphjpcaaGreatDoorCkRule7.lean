/- Rules of instructions of boxes and rows. Written by tools/made/ckrule7.py. -/
import Derived.Test.YtpaneomkphjpcaaGreatDoorPcReg
import Derived.Test.YtpaneomkphjpcaaGreatDoorCkRule6
namespace Go.Proofs.YtpaneomkphjpcaaGreatDoor
open Go.ChangeShapes Go.WideShapes Go.ChangeAt Go.RowKit
set_option linter.unusedVariables false
set_option linter.unusedSimpArgs false
theorem skipA {P:Program} {md:Region.Mode} {l:List Oper} {Q:Exit→Act→World→Prop} {S:World→Prop} {L:Nat} {i:Nat} {oi:Oper} {fuel:Nat} {listed:Array Bool} {a:Act} {w:World} (hi:l[i]?=some oi) (hs:Region.noSelect l.toArray=true) (hf:Region.free md l.toArray listed i=true) (hr:(Region.ready md l.toArray listed).contains i=true)
  (hQ:∀c a w,Q (.panic c) (a.put oi.dst undef) w→Q (.panic c) a w) (hw:Region.wanted oi (yielded l.toArray a.tmps)=false) (hL:waits md l.toArray L i=true) (hS:S w)
  (h:AnyL P md l.toArray Q S L fuel (listed.setIfInBounds i true) (a.put oi.dst undef) w):AnyL P md l.toArray Q S L (fuel+1) listed a w :=
 AnyL.first (by simpa using hi) (Region.noSelect_spec hs) hQ hL fuel listed a w (Region.free_spec (by simpa using hi) hf) (by simpa using hr) (Or.inr ⟨hw,rfl⟩) hS h
structure SBX (b bx:Nat) (T:TypeId) (vs iv tv xv:List Value) (w':World):Prop where
 v:Rec w' b 94 vs
 i:Rec w' (b+1) 40 iv
 t:Rec w' (b+1+1) 68 tv
 x:Rec w' bx T xv
 hx:b+1+1+1<bx
theorem SBX.below {b bx:Nat} {T:TypeId} {vs iv tv xv:List Value} {w w':World} (h:SBX b bx T vs iv tv xv w) (hb:Below w.heap.size w w'):SBX b bx T vs iv tv xv w':=⟨h.v.below hb h.v.lt,h.i.below hb h.i.lt,h.t.below hb h.t.lt,h.x.below hb h.x.lt,h.hx⟩
theorem SBX.alloc {b bx:Nat} {T:TypeId} {vs iv tv xv:List Value} {w:World} (h:SBX b bx T vs iv tv xv w) (o:Obj):SBX b bx T vs iv tv xv (w.alloc o):=⟨h.v.alloc o,h.i.alloc o,h.t.alloc o,h.x.alloc o,h.hx⟩
theorem SBX.drew {b bx:Nat} {T:TypeId} {vs iv tv xv:List Value} {w:World} (h:SBX b bx T vs iv tv xv w):SBX b bx T vs iv tv xv w.drew:=⟨h.v,h.i,h.t,h.x,h.hx⟩
theorem SBX.eff {b bx:Nat} {T:TypeId} {vs iv tv xv:List Value} {w:World} (h:SBX b bx T vs iv tv xv w) (x y:Value):SBX b bx T vs iv tv xv ((w.setCell ⟨b+1+1+1,0,none⟩ x).setCell ⟨b+1+1+1,1,none⟩ y) :=
 ⟨(h.v.other (by omega) 0 x).other (by omega) 1 y,(h.i.other (by omega) 0 x).other (by omega) 1 y,(h.t.other (by omega) 0 x).other (by omega) 1 y,(h.x.other (by have:=h.hx;omega) 0 x).other (by have:=h.hx;omega) 1 y,h.hx⟩
set_option maxHeartbeats 4000000 in
set_option maxRecDepth 100000 in
theorem checkLook_any (vs:List Value) (op a b tk to:Int) (tm:Bool) (w:World) (lo hi k:Nat) (p:GProg) (h:Scp w lo hi p k vs) (hn:kinCount p.types≤1099511627776) (hb:0≤b) :
  Calls Tryz.prog 152 #[.agg vs.toArray,.agg #[.int .i64 op,.int .i64 a,.int .i64 b],.agg #[.int .i64 tk,.int .i64 to,.bool tm]] w fun e w'=>EffPost w [⟨2,a,false⟩] [⟨(bxF p.types a b).kind,(bxF p.types a b).of,false⟩] (bxIs p.types a b) e w':=by
 obtain⟨w1,hw1,B1,E1,S1⟩:=entS vs op a b tk to tm w
 have hsz:(Tryz.prog.info? 94).map (·.size)=some vs.length:=by rw[h.len];kernel_rfl
 have i0:=S1.out.i.cell (o:=0) rfl
 have i1:=S1.out.i.cell (o:=1) rfl
 have i2:=S1.out.i.cell (o:=2) rfl
 have HC:=hide (boxField_any vs lo hi k p op a b w1 (h.keep (B1.out.mono h.hh)) hn hb)
 clear h
 generalize bxIs p.types a b=nm at HC ⊢
 generalize bxF p.types a b=f at HC ⊢
 obtain⟨fk,fo,fm⟩:=f
 simp only at HC ⊢
 go_enter Tryz.func152,Tryz.ntmps152
 go_upto_region 1 with(fail)
 rw[←hw1]
 clear hw1
 go_wp2_with (refine wpList_load_rec rfl 94 _ rfl w.heap.size 94 vs _ rfl S1.out.v Tryz.underlying94 rfl hsz ?_)
 refine HC.out.mono ?_
 rintro e w2 ⟨rfl,b2⟩
 have c2:=b2.trans ((Below.refl w2.heap.size w2).alloc (Nat.le_refl _) (.cells #[.int .i64 fk,.int .i64 fo,.bool fm] 68) |>.mono b2.size)
 have hx:w.heap.size+1+1+1<w2.heap.size:=Nat.lt_of_lt_of_le E1.out.lt b2.size
 have S2:Hid (SBX w.heap.size w2.heap.size 68 vs [.int .i64 op,.int .i64 a,.int .i64 b] [.int .i64 tk,.int .i64 to,.bool tm] [.int .i64 fk,.int .i64 fo,.bool fm] (w2.alloc (.cells #[.int .i64 fk,.int .i64 fo,.bool fm] 68))):=⟨S1.out.v.below c2 S1.out.v.lt,S1.out.i.below c2 S1.out.i.lt,S1.out.t.below c2 S1.out.t.lt,Rec.new _ _ _,hx⟩
 have E2:=hide (E1.out.below c2 E1.out.lt)
 have B2:=hide (B1.out.trans (c2.mono B1.out.size))
 clear b2 c2 i0 i1 i2 S1 E1 B1 HC
 go_upto_region 2 with(fail)
 generalize w2.alloc (.cells #[.int .i64 fk,.int .i64 fo,.bool fm] 68)=w1 at *
 generalize w2.heap.size=bx at *
 have Bd:=hide B2.out.drew
 have Ed:=hide E2.out.drew'
 have SLd:=hide S2.out.drew
 have hld:=Ed.out.lt
 refine beginA (S:=SBX w.heap.size bx 68 vs [.int .i64 op,.int .i64 a,.int .i64 b] [.int .i64 tk,.int .i64 to,.bool tm] [.int .i64 fk,.int .i64 fo,.bool fm]) 10 (by kernel_rfl) SLd.out (fun hHeld=>?_)
 try simp only[Act.put,lA,lB,lC]
 refine tA 0 (v:=?v0n1) ?y0n1 ?r0n1
 case y0n1=>(intro w _;go_simp;try with_reducible rfl)
 (try simp only[Act.put,lA,lB,lC])
 refine tA 1 (v:=?v1n2) ?y1n2 ?r1n2
 case y1n2=>(intro w hSw;have si1:=hSw.i.cell (o:=1) rfl;have sx0:=hSw.x.cell (o:=0) rfl;have sx1:=hSw.x.cell (o:=1) rfl;have sx2:=hSw.x.cell (o:=2) rfl;clear hSw;go_simp;try with_reducible rfl)
 (try simp only[Act.put,lA,lB,lC])
 refine tA 4 (v:=?v4n3) ?y4n3 ?r4n3
 case y4n3=>(intro w hSw;have si1:=hSw.i.cell (o:=1) rfl;have sx0:=hSw.x.cell (o:=0) rfl;have sx1:=hSw.x.cell (o:=1) rfl;have sx2:=hSw.x.cell (o:=2) rfl;clear hSw;go_simp;try with_reducible rfl)
 (try simp only[Act.put,lA,lB,lC])
 refine tA 8 (v:=?v8n4) ?y8n4 ?r8n4
 case y8n4=>(intro w _;go_simp;try with_reducible rfl)
 (try simp only[Act.put,lA,lB,lC])
 refine oA 2 (fun K hK=>?_)
 go_simp
 (go_at_call 184;refine(sortRef_any a _).mono ?_;rintro e w2 ⟨rfl,b2⟩)
 have C2:=Bd.out
 have B2:=hide (C2.trans (b2.mono C2.size))
 have X2:=Ed.out
 have E2:=hide (X2.below b2 X2.lt)
 have hl2:=E2.out.lt
 have HH:=hHeld.below b2
 have SL2:=hide HH
 clear b2 C2 X2
 refine hK.out _ _ HH (fun hHeld=>?_)
 clear hK K HH
 (try simp only[Act.put,lA,lB,lC])
 refine rA [3,5] ?_
 refine AllL.cons rfl (fun K hK=>?_) ?_
 ·go_simp
  refine hK.out _ _ (hHeld.alloc (.cells #[.int .i64 2,.int .i64 a,.bool false] 68)) (fun hHeld=>?_)
  clear hK K
  (try simp only[Act.put,lA,lB,lC])
  refine oA 5 (fun K hK=>?_)
  go_simp
  (go_at_call 189;refine(sortOf_any fk fo fm _).mono ?_;rintro e w3 ⟨rfl,b3⟩)
  have C3:=(B2.out.alloc B2.out.size (.cells #[.int .i64 2,.int .i64 a,.bool false] 68))
  have B3:=hide (C3.trans (b3.mono C3.size))
  have X3:=(E2.out.alloc (.cells #[.int .i64 2,.int .i64 a,.bool false] 68))
  have E3:=hide (X3.below b3 X3.lt)
  have Y3t19:=(show Rec (w2.alloc (.cells #[.int .i64 2,.int .i64 a,.bool false] 68)) (w2.heap.size) 68 (fcells [⟨2,a,false⟩]) by rw[fcells_l1];exact Rec.new' _ _ _ _ (by simp))
  have N3t19:=hide (Y3t19.below b3 Y3t19.lt)
  have lo3t19:w.heap.size≤w2.heap.size:=by have:=B2.out.size;omega
  have hl3:=E3.out.lt
  have HH:=hHeld.below b3
  have SL3:=hide HH
  clear b3 C3 X3
  refine hK.out _ _ HH (fun hHeld=>?_)
  clear hK K HH
  (try simp only[Act.put,lA,lB,lC])
  refine oA 6 (fun K hK=>?_)
  go_simp
  refine hK.out _ _ (hHeld.alloc (.cells #[.int .i64 fk,.int .i64 fo,.bool false] 68)) (fun hHeld=>?_)
  clear hK K
  (try simp only[Act.put,lA,lB,lC])
  refine tA 7 (v:=?v7n5) ?y7n5 ?r7n5
  case y7n5=>(intro w _;go_simp;try with_reducible rfl)
  (try simp only[Act.put,lA,lB,lC])
  refine oA 9 (fun K hK=>?_)
  have e0:=E3.out.cell (o:=0) rfl
  have e1:=E3.out.cell (o:=1) rfl
  have f0:=E3.out.frozen 0
  have f1:=E3.out.frozen 1
  have hlt:=E3.out.lt
  have sw:=B3.out.size
  go_simp
  refine hK.out _ _ ?_ (fun hHeld=>?_)
  ·first|exact((SL3.out.eff _ _).alloc _)|exact(((SL3.out.eff _ _).alloc _)).drew|exact(hHeld.eff _ _)
  clear hK K e0 e1 f0 f1
  (try simp only[Act.put,lA,lB,lC])
  refine eA 10 (fun K hK=>?_)
  go_simp
  refine hK.out _ _ ?_
  clear hK K
  (try simp only[Act.put,lA,lB,lC])
  refine doneA (by kernel_rfl) ?_ _
  obtain⟨W9,hW9⟩:∃x,x=(((w3.setCell ⟨w.heap.size+1+1+1,0,none⟩ (.slice (some ⟨w2.heap.size,0,none⟩) 1 1)).setCell ⟨w.heap.size+1+1+1,1,none⟩ (.slice (some ⟨w3.heap.size,0,none⟩) 1 1)).alloc (.cells #[.int .i64 fk,.int .i64 fo,.bool false] 68)):=⟨_,rfl⟩
  have NRt19:Hid (Rec W9 (w2.heap.size) 68 (fcells [⟨2,a,false⟩])):=by subst hW9;exact(((N3t19.out.other (by omega) 0 _).other (by omega) 1 _).alloc _)
  have NRt22:Hid (Rec W9 (w3.heap.size) 68 (fcells [⟨fk,fo,false⟩])):=by subst hW9;exact(show Rec _ (w3.heap.size) 68 (fcells [⟨fk,fo,false⟩]) by rw[fcells_l1];exact Rec.new' _ _ _ _ (by simp))
  have ER:Hid (Rec W9 (w.heap.size+1+1+1) 160 [.slice (some ⟨w2.heap.size,0,none⟩) 1 1,.slice (some ⟨w3.heap.size,0,none⟩) 1 1]):=by subst hW9;exact(((E3.out.set 0 _).set 1 _).alloc _)
  have BR:Hid (Below w.heap.size w W9):=by subst hW9;exact(((B3.out.setCell (by show w.heap.size≤w.heap.size+1+1+1;omega) _).setCell (by show w.heap.size≤w.heap.size+1+1+1;omega) _).alloc (by simp<;>omega) _)
  subst hW9
  go_wp2_with fail
  exact bodyPost_ret (results_ct rfl rfl ER.out Tryz.underlying160 rfl (by kernel_rfl)) rfl ⟨_,_,_,_,rfl,rec_fields NRt19.out (by omega) NRt19.out.lt,rec_fields NRt22.out (by omega) NRt22.out.lt,BR.out⟩
 refine AllL.cons rfl (fun K hK=>?_) ?_
 ·go_simp
  (go_at_call 189;refine(sortOf_any fk fo fm _).mono ?_;rintro e w4 ⟨rfl,b4⟩)
  have C4:=B2.out
  have B4:=hide (C4.trans (b4.mono C4.size))
  have X4:=E2.out
  have E4:=hide (X4.below b4 X4.lt)
  have hl4:=E4.out.lt
  have HH:=hHeld.below b4
  have SL4:=hide HH
  clear b4 C4 X4
  refine hK.out _ _ HH (fun hHeld=>?_)
  clear hK K HH
  (try simp only[Act.put,lA,lB,lC])
  refine rA [3,6] ?_
  refine AllL.cons rfl (fun K hK=>?_) ?_
  ·go_simp
   refine hK.out _ _ (hHeld.alloc (.cells #[.int .i64 2,.int .i64 a,.bool false] 68)) (fun hHeld=>?_)
   clear hK K
   (try simp only[Act.put,lA,lB,lC])
   refine oA 6 (fun K hK=>?_)
   go_simp
   refine hK.out _ _ (hHeld.alloc (.cells #[.int .i64 fk,.int .i64 fo,.bool false] 68)) (fun hHeld=>?_)
   clear hK K
   (try simp only[Act.put,lA,lB,lC])
   refine tA 7 (v:=?v7n6) ?y7n6 ?r7n6
   case y7n6=>(intro w _;go_simp;try with_reducible rfl)
   (try simp only[Act.put,lA,lB,lC])
   refine oA 9 (fun K hK=>?_)
   have e0:=E4.out.cell (o:=0) rfl
   have e1:=E4.out.cell (o:=1) rfl
   have f0:=E4.out.frozen 0
   have f1:=E4.out.frozen 1
   have hlt:=E4.out.lt
   have sw:=B4.out.size
   have hlt1:w.heap.size+1+1+1<w4.heap.size+1:=by omega
   go_simp
   refine hK.out _ _ ?_ (fun hHeld=>?_)
   ·first|exact(((SL4.out.eff _ _).alloc _).alloc _)|exact((((SL4.out.eff _ _).alloc _).alloc _)).drew|exact(hHeld.eff _ _)
   clear hK K e0 e1 f0 f1
   (try simp only[Act.put,lA,lB,lC])
   refine eA 10 (fun K hK=>?_)
   go_simp
   refine hK.out _ _ ?_
   clear hK K
   (try simp only[Act.put,lA,lB,lC])
   refine doneA (by kernel_rfl) ?_ _
   obtain⟨W9,hW9⟩:∃x,x=((((w4.setCell ⟨w.heap.size+1+1+1,0,none⟩ (.slice (some ⟨w4.heap.size,0,none⟩) 1 1)).setCell ⟨w.heap.size+1+1+1,1,none⟩ (.slice (some ⟨w4.heap.size+1,0,none⟩) 1 1)).alloc (.cells #[.int .i64 2,.int .i64 a,.bool false] 68)).alloc (.cells #[.int .i64 fk,.int .i64 fo,.bool false] 68)):=⟨_,rfl⟩
   have NRt19:Hid (Rec W9 (w4.heap.size) 68 (fcells [⟨2,a,false⟩])):=by subst hW9;exact((show Rec (((w4.setCell ⟨w.heap.size+1+1+1,0,none⟩ (.slice (some ⟨w4.heap.size,0,none⟩) 1 1)).setCell ⟨w.heap.size+1+1+1,1,none⟩ (.slice (some ⟨w4.heap.size+1,0,none⟩) 1 1)).alloc (.cells #[.int .i64 2,.int .i64 a,.bool false] 68)) (w4.heap.size) 68 (fcells [⟨2,a,false⟩]) by rw[fcells_l1];exact Rec.new' _ _ _ _ (by simp)).alloc _)
   have NRt22:Hid (Rec W9 (w4.heap.size+1) 68 (fcells [⟨fk,fo,false⟩])):=by subst hW9;exact(show Rec _ (w4.heap.size+1) 68 (fcells [⟨fk,fo,false⟩]) by rw[fcells_l1];exact Rec.new' _ _ _ _ (by simp))
   have ER:Hid (Rec W9 (w.heap.size+1+1+1) 160 [.slice (some ⟨w4.heap.size,0,none⟩) 1 1,.slice (some ⟨w4.heap.size+1,0,none⟩) 1 1]):=by subst hW9;exact((((E4.out.set 0 _).set 1 _).alloc _).alloc _)
   have BR:Hid (Below w.heap.size w W9):=by subst hW9;exact((((B4.out.setCell (by show w.heap.size≤w.heap.size+1+1+1;omega) _).setCell (by show w.heap.size≤w.heap.size+1+1+1;omega) _).alloc (by simp<;>omega) _).alloc (by simp<;>omega) _)
   subst hW9
   go_wp2_with fail
   exact bodyPost_ret (results_ct rfl rfl ER.out Tryz.underlying160 rfl (by kernel_rfl)) rfl ⟨_,_,_,_,rfl,rec_fields NRt19.out (by omega) NRt19.out.lt,rec_fields NRt22.out (by omega) NRt22.out.lt,BR.out⟩
  refine AllL.cons rfl (fun K hK=>?_) ?_
  ·go_simp
   refine hK.out _ _ (hHeld.alloc (.cells #[.int .i64 fk,.int .i64 fo,.bool false] 68)) (fun hHeld=>?_)
   clear hK K
   (try simp only[Act.put,lA,lB,lC])
   refine oA 3 (fun K hK=>?_)
   go_simp
   refine hK.out _ _ (hHeld.alloc (.cells #[.int .i64 2,.int .i64 a,.bool false] 68)) (fun hHeld=>?_)
   clear hK K
   (try simp only[Act.put,lA,lB,lC])
   refine tA 7 (v:=?v7n7) ?y7n7 ?r7n7
   case y7n7=>(intro w _;go_simp;try with_reducible rfl)
   (try simp only[Act.put,lA,lB,lC])
   refine oA 9 (fun K hK=>?_)
   have e0:=E4.out.cell (o:=0) rfl
   have e1:=E4.out.cell (o:=1) rfl
   have f0:=E4.out.frozen 0
   have f1:=E4.out.frozen 1
   have hlt:=E4.out.lt
   have sw:=B4.out.size
   have hlt1:w.heap.size+1+1+1<w4.heap.size+1:=by omega
   go_simp
   refine hK.out _ _ ?_ (fun hHeld=>?_)
   ·first|exact(((SL4.out.eff _ _).alloc _).alloc _)|exact((((SL4.out.eff _ _).alloc _).alloc _)).drew|exact(hHeld.eff _ _)
   clear hK K e0 e1 f0 f1
   (try simp only[Act.put,lA,lB,lC])
   refine eA 10 (fun K hK=>?_)
   go_simp
   refine hK.out _ _ ?_
   clear hK K
   (try simp only[Act.put,lA,lB,lC])
   refine doneA (by kernel_rfl) ?_ _
   obtain⟨W9,hW9⟩:∃x,x=((((w4.setCell ⟨w.heap.size+1+1+1,0,none⟩ (.slice (some ⟨w4.heap.size+1,0,none⟩) 1 1)).setCell ⟨w.heap.size+1+1+1,1,none⟩ (.slice (some ⟨w4.heap.size,0,none⟩) 1 1)).alloc (.cells #[.int .i64 fk,.int .i64 fo,.bool false] 68)).alloc (.cells #[.int .i64 2,.int .i64 a,.bool false] 68)):=⟨_,rfl⟩
   have NRt19:Hid (Rec W9 (w4.heap.size+1) 68 (fcells [⟨2,a,false⟩])):=by subst hW9;exact(show Rec _ (w4.heap.size+1) 68 (fcells [⟨2,a,false⟩]) by rw[fcells_l1];exact Rec.new' _ _ _ _ (by simp))
   have NRt22:Hid (Rec W9 (w4.heap.size) 68 (fcells [⟨fk,fo,false⟩])):=by subst hW9;exact((show Rec (((w4.setCell ⟨w.heap.size+1+1+1,0,none⟩ (.slice (some ⟨w4.heap.size+1,0,none⟩) 1 1)).setCell ⟨w.heap.size+1+1+1,1,none⟩ (.slice (some ⟨w4.heap.size,0,none⟩) 1 1)).alloc (.cells #[.int .i64 fk,.int .i64 fo,.bool false] 68)) (w4.heap.size) 68 (fcells [⟨fk,fo,false⟩]) by rw[fcells_l1];exact Rec.new' _ _ _ _ (by simp)).alloc _)
   have ER:Hid (Rec W9 (w.heap.size+1+1+1) 160 [.slice (some ⟨w4.heap.size+1,0,none⟩) 1 1,.slice (some ⟨w4.heap.size,0,none⟩) 1 1]):=by subst hW9;exact((((E4.out.set 0 _).set 1 _).alloc _).alloc _)
   have BR:Hid (Below w.heap.size w W9):=by subst hW9;exact((((B4.out.setCell (by show w.heap.size≤w.heap.size+1+1+1;omega) _).setCell (by show w.heap.size≤w.heap.size+1+1+1;omega) _).alloc (by simp<;>omega) _).alloc (by simp<;>omega) _)
   subst hW9
   go_wp2_with fail
   exact bodyPost_ret (results_ct rfl rfl ER.out Tryz.underlying160 rfl (by kernel_rfl)) rfl ⟨_,_,_,_,rfl,rec_fields NRt19.out (by omega) NRt19.out.lt,rec_fields NRt22.out (by omega) NRt22.out.lt,BR.out⟩
  exact AllL.nil
 exact AllL.nil
set_option maxHeartbeats 4000000 in
set_option maxRecDepth 100000 in
theorem checkPut_any (vs:List Value) (op a b tk to:Int) (tm:Bool) (w:World) (lo hi k:Nat) (p:GProg) (h:Scp w lo hi p k vs) (hn:kinCount p.types≤1099511627776) (hb:0≤b) :
  Calls Tryz.prog 153 #[.agg vs.toArray,.agg #[.int .i64 op,.int .i64 a,.int .i64 b],.agg #[.int .i64 tk,.int .i64 to,.bool tm]] w fun e w'=>EffPost w [⟨2,a,false⟩,⟨(bxF p.types a b).kind,(bxF p.types a b).of,false⟩] [] ((bxIs p.types a b)&&(bxF p.types a b).mt) e w':=by
 obtain⟨w1,hw1,B1,E1,S1⟩:=entS vs op a b tk to tm w
 have hsz:(Tryz.prog.info? 94).map (·.size)=some vs.length:=by rw[h.len];kernel_rfl
 have i0:=S1.out.i.cell (o:=0) rfl
 have i1:=S1.out.i.cell (o:=1) rfl
 have i2:=S1.out.i.cell (o:=2) rfl
 have HC:=hide (boxField_any vs lo hi k p op a b w1 (h.keep (B1.out.mono h.hh)) hn hb)
 clear h
 generalize bxIs p.types a b=nm at HC ⊢
 generalize bxF p.types a b=f at HC ⊢
 obtain⟨fk,fo,fm⟩:=f
 simp only at HC ⊢
 cases nm
 ·go_enter Tryz.func153,Tryz.ntmps153
  go_upto_region 1 with(fail)
  rw[←hw1]
  clear hw1
  go_wp2_with (refine wpList_load_rec rfl 94 _ rfl w.heap.size 94 vs _ rfl S1.out.v Tryz.underlying94 rfl hsz ?_)
  refine HC.out.mono ?_
  rintro e w2 ⟨rfl,b2⟩
  have c2:=b2.trans ((Below.refl w2.heap.size w2).alloc (Nat.le_refl _) (.cells #[.int .i64 fk,.int .i64 fo,.bool fm] 68) |>.mono b2.size)
  have hx:w.heap.size+1+1+1<w2.heap.size:=Nat.lt_of_lt_of_le E1.out.lt b2.size
  have S2:Hid (SBX w.heap.size w2.heap.size 68 vs [.int .i64 op,.int .i64 a,.int .i64 b] [.int .i64 tk,.int .i64 to,.bool tm] [.int .i64 fk,.int .i64 fo,.bool fm] (w2.alloc (.cells #[.int .i64 fk,.int .i64 fo,.bool fm] 68))):=⟨S1.out.v.below c2 S1.out.v.lt,S1.out.i.below c2 S1.out.i.lt,S1.out.t.below c2 S1.out.t.lt,Rec.new _ _ _,hx⟩
  have E2:=hide (E1.out.below c2 E1.out.lt)
  have B2:=hide (B1.out.trans (c2.mono B1.out.size))
  clear b2 c2 i0 i1 i2 S1 E1 B1 HC
  go_upto_region 2 with(fail)
  generalize w2.alloc (.cells #[.int .i64 fk,.int .i64 fo,.bool fm] 68)=w1 at *
  generalize w2.heap.size=bx at *
  have Bd:=hide B2.out.drew
  have Ed:=hide E2.out.drew'
  have SLd:=hide S2.out.drew
  have hld:=Ed.out.lt
  refine beginA (S:=SBX w.heap.size bx 68 vs [.int .i64 op,.int .i64 a,.int .i64 b] [.int .i64 tk,.int .i64 to,.bool tm] [.int .i64 fk,.int .i64 fo,.bool fm]) 13 (by kernel_rfl) SLd.out (fun hHeld=>?_)
  try simp only[Act.put,lA,lB,lC]
  refine tA 0 (v:=?v0n8) ?y0n8 ?r0n8
  case y0n8=>(intro w _;go_simp;try with_reducible rfl)
  (try simp only[Act.put,lA,lB,lC])
  refine tA 1 (v:=?v1n9) ?y1n9 ?r1n9
  case y1n9=>(intro w hSw;have si1:=hSw.i.cell (o:=1) rfl;have sx0:=hSw.x.cell (o:=0) rfl;have sx1:=hSw.x.cell (o:=1) rfl;have sx2:=hSw.x.cell (o:=2) rfl;clear hSw;go_simp;try with_reducible rfl)
  (try simp only[Act.put,lA,lB,lC])
  refine tA 3 (v:=?v3n10) ?y3n10 ?r3n10
  case y3n10=>(intro w hSw;have si1:=hSw.i.cell (o:=1) rfl;have sx0:=hSw.x.cell (o:=0) rfl;have sx1:=hSw.x.cell (o:=1) rfl;have sx2:=hSw.x.cell (o:=2) rfl;clear hSw;go_simp;try with_reducible rfl)
  (try simp only[Act.put,lA,lB,lC])
  refine tA 7 (v:=?v7n11) ?y7n11 ?r7n11
  case y7n11=>(intro w _;go_simp;try with_reducible rfl)
  (try simp only[Act.put,lA,lB,lC])
  refine oA 2 (fun K hK=>?_)
  go_simp
  (go_at_call 184;refine(sortRef_any a _).mono ?_;rintro e w2 ⟨rfl,b2⟩)
  have C2:=Bd.out
  have B2:=hide (C2.trans (b2.mono C2.size))
  have X2:=Ed.out
  have E2:=hide (X2.below b2 X2.lt)
  have hl2:=E2.out.lt
  have HH:=hHeld.below b2
  have SL2:=hide HH
  clear b2 C2 X2
  refine hK.out _ _ HH (fun hHeld=>?_)
  clear hK K HH
  (try simp only[Act.put,lA,lB,lC])
  refine oA 4 (fun K hK=>?_)
  go_simp
  (go_at_call 189;refine(sortOf_any fk fo fm _).mono ?_;rintro e w3 ⟨rfl,b3⟩)
  have C3:=B2.out
  have B3:=hide (C3.trans (b3.mono C3.size))
  have X3:=E2.out
  have E3:=hide (X3.below b3 X3.lt)
  have hl3:=E3.out.lt
  have HH:=hHeld.below b3
  have SL3:=hide HH
  clear b3 C3 X3
  refine hK.out _ _ HH (fun hHeld=>?_)
  clear hK K HH
  (try simp only[Act.put,lA,lB,lC])
  refine tA 8 (v:=?v8n12) ?y8n12 ?r8n12
  case y8n12=>(intro w _;go_simp;try with_reducible rfl)
  (try simp only[Act.put,lA,lB,lC])
  refine sA 9 ?_
  (try simp only[Act.put,lA,lB,lC])
  refine sA 10 ?_
  (try simp only[Act.put,lA,lB,lC])
  refine tA 11 (v:=?v11n13) ?y11n13 ?r11n13
  case y11n13=>(intro w _;go_simp;try with_reducible rfl)
  (try simp only[Act.put,lA,lB,lC])
  refine oA 5 (fun K hK=>?_)
  go_simp
  refine hK.out _ _ (hHeld.alloc (.cells #[.int .i64 2,.int .i64 a,.bool false,.int .i64 fk,.int .i64 fo,.bool false] 68)) (fun hHeld=>?_)
  clear hK K
  (try simp only[Act.put,lA,lB,lC])
  refine tA 6 (v:=?v6n14) ?y6n14 ?r6n14
  case y6n14=>(intro w _;go_simp;try with_reducible rfl)
  (try simp only[Act.put,lA,lB,lC])
  refine oA 12 (fun K hK=>?_)
  have e0:=E3.out.cell (o:=0) rfl
  have e1:=E3.out.cell (o:=1) rfl
  have f0:=E3.out.frozen 0
  have f1:=E3.out.frozen 1
  have hlt:=E3.out.lt
  have sw:=B3.out.size
  go_simp
  refine hK.out _ _ ?_ (fun hHeld=>?_)
  ·first|exact((SL3.out.eff _ _).alloc _)|exact(((SL3.out.eff _ _).alloc _)).drew|exact(hHeld.eff _ _)
  clear hK K e0 e1 f0 f1
  (try simp only[Act.put,lA,lB,lC])
  refine eA 13 (fun K hK=>?_)
  go_simp
  refine hK.out _ _ ?_
  clear hK K
  (try simp only[Act.put,lA,lB,lC])
  refine doneA (by kernel_rfl) ?_ _
  obtain⟨W9,hW9⟩:∃x,x=(((w3.setCell ⟨w.heap.size+1+1+1,0,none⟩ (.slice (some ⟨w3.heap.size,0,none⟩) 2 2)).setCell ⟨w.heap.size+1+1+1,1,none⟩ (.slice none 0 0)).alloc (.cells #[.int .i64 2,.int .i64 a,.bool false,.int .i64 fk,.int .i64 fo,.bool false] 68)):=⟨_,rfl⟩
  have NRt21:Hid (Rec W9 (w3.heap.size) 68 (fcells [⟨2,a,false⟩,⟨fk,fo,false⟩])):=by subst hW9;exact(show Rec _ (w3.heap.size) 68 (fcells [⟨2,a,false⟩,⟨fk,fo,false⟩]) by rw[fcells_l2];exact Rec.new' _ _ _ _ (by simp))
  have ER:Hid (Rec W9 (w.heap.size+1+1+1) 160 [.slice (some ⟨w3.heap.size,0,none⟩) 2 2,.slice none 0 0]):=by subst hW9;exact(((E3.out.set 0 _).set 1 _).alloc _)
  have BR:Hid (Below w.heap.size w W9):=by subst hW9;exact(((B3.out.setCell (by show w.heap.size≤w.heap.size+1+1+1;omega) _).setCell (by show w.heap.size≤w.heap.size+1+1+1;omega) _).alloc (by simp<;>omega) _)
  subst hW9
  go_wp2_with fail
  exact bodyPost_ret (results_ct rfl rfl ER.out Tryz.underlying160 rfl (by kernel_rfl)) rfl ⟨_,_,_,_,rfl,rec_fields NRt21.out (by omega) NRt21.out.lt,.inl rfl,BR.out⟩
 ·go_enter Tryz.func153,Tryz.ntmps153
  go_upto_region 1 with(fail)
  rw[←hw1]
  clear hw1
  go_wp2_with (refine wpList_load_rec rfl 94 _ rfl w.heap.size 94 vs _ rfl S1.out.v Tryz.underlying94 rfl hsz ?_)
  refine HC.out.mono ?_
  rintro e w2 ⟨rfl,b2⟩
  have c2:=b2.trans ((Below.refl w2.heap.size w2).alloc (Nat.le_refl _) (.cells #[.int .i64 fk,.int .i64 fo,.bool fm] 68) |>.mono b2.size)
  have hx:w.heap.size+1+1+1<w2.heap.size:=Nat.lt_of_lt_of_le E1.out.lt b2.size
  have S2:Hid (SBX w.heap.size w2.heap.size 68 vs [.int .i64 op,.int .i64 a,.int .i64 b] [.int .i64 tk,.int .i64 to,.bool tm] [.int .i64 fk,.int .i64 fo,.bool fm] (w2.alloc (.cells #[.int .i64 fk,.int .i64 fo,.bool fm] 68))):=⟨S1.out.v.below c2 S1.out.v.lt,S1.out.i.below c2 S1.out.i.lt,S1.out.t.below c2 S1.out.t.lt,Rec.new _ _ _,hx⟩
  have E2:=hide (E1.out.below c2 E1.out.lt)
  have B2:=hide (B1.out.trans (c2.mono B1.out.size))
  clear b2 c2 i0 i1 i2 S1 E1 B1 HC
  go_upto_region 2 with(fail)
  generalize w2.alloc (.cells #[.int .i64 fk,.int .i64 fo,.bool fm] 68)=w1 at *
  generalize w2.heap.size=bx at *
  have Bd:=hide B2.out.drew
  have Ed:=hide E2.out.drew'
  have SLd:=hide S2.out.drew
  have hld:=Ed.out.lt
  refine beginA (S:=SBX w.heap.size bx 68 vs [.int .i64 op,.int .i64 a,.int .i64 b] [.int .i64 tk,.int .i64 to,.bool tm] [.int .i64 fk,.int .i64 fo,.bool fm]) 13 (by kernel_rfl) SLd.out (fun hHeld=>?_)
  try simp only[Act.put,lA,lB,lC]
  refine tA 0 (v:=?v0n15) ?y0n15 ?r0n15
  case y0n15=>(intro w _;go_simp;try with_reducible rfl)
  (try simp only[Act.put,lA,lB,lC])
  refine tA 1 (v:=?v1n16) ?y1n16 ?r1n16
  case y1n16=>(intro w hSw;have si1:=hSw.i.cell (o:=1) rfl;have sx0:=hSw.x.cell (o:=0) rfl;have sx1:=hSw.x.cell (o:=1) rfl;have sx2:=hSw.x.cell (o:=2) rfl;clear hSw;go_simp;try with_reducible rfl)
  (try simp only[Act.put,lA,lB,lC])
  refine tA 3 (v:=?v3n17) ?y3n17 ?r3n17
  case y3n17=>(intro w hSw;have si1:=hSw.i.cell (o:=1) rfl;have sx0:=hSw.x.cell (o:=0) rfl;have sx1:=hSw.x.cell (o:=1) rfl;have sx2:=hSw.x.cell (o:=2) rfl;clear hSw;go_simp;try with_reducible rfl)
  (try simp only[Act.put,lA,lB,lC])
  refine tA 7 (v:=?v7n18) ?y7n18 ?r7n18
  case y7n18=>(intro w _;go_simp;try with_reducible rfl)
  (try simp only[Act.put,lA,lB,lC])
  refine oA 2 (fun K hK=>?_)
  go_simp
  (go_at_call 184;refine(sortRef_any a _).mono ?_;rintro e w2 ⟨rfl,b2⟩)
  have C2:=Bd.out
  have B2:=hide (C2.trans (b2.mono C2.size))
  have X2:=Ed.out
  have E2:=hide (X2.below b2 X2.lt)
  have hl2:=E2.out.lt
  have HH:=hHeld.below b2
  have SL2:=hide HH
  clear b2 C2 X2
  refine hK.out _ _ HH (fun hHeld=>?_)
  clear hK K HH
  (try simp only[Act.put,lA,lB,lC])
  refine oA 4 (fun K hK=>?_)
  go_simp
  (go_at_call 189;refine(sortOf_any fk fo fm _).mono ?_;rintro e w3 ⟨rfl,b3⟩)
  have C3:=B2.out
  have B3:=hide (C3.trans (b3.mono C3.size))
  have X3:=E2.out
  have E3:=hide (X3.below b3 X3.lt)
  have hl3:=E3.out.lt
  have HH:=hHeld.below b3
  have SL3:=hide HH
  clear b3 C3 X3
  refine hK.out _ _ HH (fun hHeld=>?_)
  clear hK K HH
  (try simp only[Act.put,lA,lB,lC])
  refine tA 8 (v:=?v8n19) ?y8n19 ?r8n19
  case y8n19=>(intro w _;go_simp;try with_reducible rfl)
  (try simp only[Act.put,lA,lB,lC])
  refine tA 9 (v:=?v9n20) ?y9n20 ?r9n20
  case y9n20=>(intro w _;go_simp;try with_reducible rfl)
  (try simp only[Act.put,lA,lB,lC])
  refine tA 10 (v:=?v10n21) ?y10n21 ?r10n21
  case y10n21=>(intro w hSw;have si1:=hSw.i.cell (o:=1) rfl;have sx0:=hSw.x.cell (o:=0) rfl;have sx1:=hSw.x.cell (o:=1) rfl;have sx2:=hSw.x.cell (o:=2) rfl;clear hSw;go_simp;try with_reducible rfl)
  (try simp only[Act.put,lA,lB,lC])
  refine tA 11 (v:=?v11n22) ?y11n22 ?r11n22
  case y11n22=>(intro w _;go_simp;try with_reducible rfl)
  (try simp only[Act.put,lA,lB,lC])
  refine oA 5 (fun K hK=>?_)
  go_simp
  refine hK.out _ _ (hHeld.alloc (.cells #[.int .i64 2,.int .i64 a,.bool false,.int .i64 fk,.int .i64 fo,.bool false] 68)) (fun hHeld=>?_)
  clear hK K
  (try simp only[Act.put,lA,lB,lC])
  refine tA 6 (v:=?v6n23) ?y6n23 ?r6n23
  case y6n23=>(intro w _;go_simp;try with_reducible rfl)
  (try simp only[Act.put,lA,lB,lC])
  refine oA 12 (fun K hK=>?_)
  have e0:=E3.out.cell (o:=0) rfl
  have e1:=E3.out.cell (o:=1) rfl
  have f0:=E3.out.frozen 0
  have f1:=E3.out.frozen 1
  have hlt:=E3.out.lt
  have sw:=B3.out.size
  go_simp
  refine hK.out _ _ ?_ (fun hHeld=>?_)
  ·first|exact((SL3.out.eff _ _).alloc _)|exact(((SL3.out.eff _ _).alloc _)).drew|exact(hHeld.eff _ _)
  clear hK K e0 e1 f0 f1
  (try simp only[Act.put,lA,lB,lC])
  refine eA 13 (fun K hK=>?_)
  go_simp
  refine hK.out _ _ ?_
  clear hK K
  (try simp only[Act.put,lA,lB,lC])
  refine doneA (by kernel_rfl) ?_ _
  obtain⟨W9,hW9⟩:∃x,x=(((w3.setCell ⟨w.heap.size+1+1+1,0,none⟩ (.slice (some ⟨w3.heap.size,0,none⟩) 2 2)).setCell ⟨w.heap.size+1+1+1,1,none⟩ (.slice none 0 0)).alloc (.cells #[.int .i64 2,.int .i64 a,.bool false,.int .i64 fk,.int .i64 fo,.bool false] 68)):=⟨_,rfl⟩
  have NRt21:Hid (Rec W9 (w3.heap.size) 68 (fcells [⟨2,a,false⟩,⟨fk,fo,false⟩])):=by subst hW9;exact(show Rec _ (w3.heap.size) 68 (fcells [⟨2,a,false⟩,⟨fk,fo,false⟩]) by rw[fcells_l2];exact Rec.new' _ _ _ _ (by simp))
  have ER:Hid (Rec W9 (w.heap.size+1+1+1) 160 [.slice (some ⟨w3.heap.size,0,none⟩) 2 2,.slice none 0 0]):=by subst hW9;exact(((E3.out.set 0 _).set 1 _).alloc _)
  have BR:Hid (Below w.heap.size w W9):=by subst hW9;exact(((B3.out.setCell (by show w.heap.size≤w.heap.size+1+1+1;omega) _).setCell (by show w.heap.size≤w.heap.size+1+1+1;omega) _).alloc (by simp<;>omega) _)
  subst hW9
  go_wp2_with fail
  exact bodyPost_ret (results_ct rfl rfl ER.out Tryz.underlying160 rfl (by kernel_rfl)) rfl ⟨_,_,_,_,rfl,rec_fields NRt21.out (by omega) NRt21.out.lt,.inl rfl,BR.out⟩
set_option maxHeartbeats 4000000 in
set_option maxRecDepth 100000 in
theorem checkRow_any (vs:List Value) (op a b tk to:Int) (tm:Bool) (w:World) (lo hi k:Nat) (p:GProg) (h:Scp w lo hi p k vs) (hn:kinCount p.types≤1099511627776) (hP:Parts p.types) :
  Calls Tryz.prog 154 #[.agg vs.toArray,.agg #[.int .i64 op,.int .i64 a,.int .i64 b],.agg #[.int .i64 tk,.int .i64 to,.bool tm]] w fun e w'=>EffPost w [⟨1,0,false⟩,⟨(rwF p.types a).kind,(rwF p.types a).of,false⟩] [⟨3,a,false⟩] (tyIs p.types a 2) e w':=by
 obtain⟨w1,hw1,B1,E1,S1⟩:=entS vs op a b tk to tm w
 have hsz:(Tryz.prog.info? 94).map (·.size)=some vs.length:=by rw[h.len];kernel_rfl
 have i0:=S1.out.i.cell (o:=0) rfl
 have i1:=S1.out.i.cell (o:=1) rfl
 have i2:=S1.out.i.cell (o:=2) rfl
 have HC:=hide (rowField_any vs lo hi k p op a b w1 (h.keep (B1.out.mono h.hh)) hn hP)
 clear h
 generalize tyIs p.types a 2=nm at HC ⊢
 generalize rwF p.types a=f at HC ⊢
 obtain⟨fk,fo,fm⟩:=f
 simp only at HC ⊢
 go_enter Tryz.func154,Tryz.ntmps154
 go_upto_region 1 with(fail)
 rw[←hw1]
 clear hw1
 go_wp2_with (refine wpList_load_rec rfl 94 _ rfl w.heap.size 94 vs _ rfl S1.out.v Tryz.underlying94 rfl hsz ?_)
 refine HC.out.mono ?_
 rintro e w2 ⟨rfl,b2⟩
 have c2:=b2.trans ((Below.refl w2.heap.size w2).alloc (Nat.le_refl _) (.cells #[.int .i64 fk,.int .i64 fo,.bool fm] 68) |>.mono b2.size)
 have hx:w.heap.size+1+1+1<w2.heap.size:=Nat.lt_of_lt_of_le E1.out.lt b2.size
 have S2:Hid (SBX w.heap.size w2.heap.size 68 vs [.int .i64 op,.int .i64 a,.int .i64 b] [.int .i64 tk,.int .i64 to,.bool tm] [.int .i64 fk,.int .i64 fo,.bool fm] (w2.alloc (.cells #[.int .i64 fk,.int .i64 fo,.bool fm] 68))):=⟨S1.out.v.below c2 S1.out.v.lt,S1.out.i.below c2 S1.out.i.lt,S1.out.t.below c2 S1.out.t.lt,Rec.new _ _ _,hx⟩
 have E2:=hide (E1.out.below c2 E1.out.lt)
 have B2:=hide (B1.out.trans (c2.mono B1.out.size))
 clear b2 c2 i0 i1 i2 S1 E1 B1 HC
 go_upto_region 2 with(fail)
 generalize w2.alloc (.cells #[.int .i64 fk,.int .i64 fo,.bool fm] 68)=w1 at *
 generalize w2.heap.size=bx at *
 have Bd:=hide B2.out.drew
 have Ed:=hide E2.out.drew'
 have SLd:=hide S2.out.drew
 have hld:=Ed.out.lt
 refine beginA (S:=SBX w.heap.size bx 68 vs [.int .i64 op,.int .i64 a,.int .i64 b] [.int .i64 tk,.int .i64 to,.bool tm] [.int .i64 fk,.int .i64 fo,.bool fm]) 11 (by kernel_rfl) SLd.out (fun hHeld=>?_)
 try simp only[Act.put,lA,lB,lC]
 refine tA 1 (v:=?v1n24) ?y1n24 ?r1n24
 case y1n24=>(intro w hSw;have si1:=hSw.i.cell (o:=1) rfl;have sx0:=hSw.x.cell (o:=0) rfl;have sx1:=hSw.x.cell (o:=1) rfl;have sx2:=hSw.x.cell (o:=2) rfl;clear hSw;go_simp;try with_reducible rfl)
 (try simp only[Act.put,lA,lB,lC])
 refine tA 4 (v:=?v4n25) ?y4n25 ?r4n25
 case y4n25=>(intro w _;go_simp;try with_reducible rfl)
 (try simp only[Act.put,lA,lB,lC])
 refine tA 5 (v:=?v5n26) ?y5n26 ?r5n26
 case y5n26=>(intro w hSw;have si1:=hSw.i.cell (o:=1) rfl;have sx0:=hSw.x.cell (o:=0) rfl;have sx1:=hSw.x.cell (o:=1) rfl;have sx2:=hSw.x.cell (o:=2) rfl;clear hSw;go_simp;try with_reducible rfl)
 (try simp only[Act.put,lA,lB,lC])
 refine tA 9 (v:=?v9n27) ?y9n27 ?r9n27
 case y9n27=>(intro w _;go_simp;try with_reducible rfl)
 (try simp only[Act.put,lA,lB,lC])
 refine oA 0 (fun K hK=>?_)
 go_simp
 (go_at_call 181;refine(sortNum_any _).mono ?_;rintro e w2 ⟨rfl,b2⟩)
 have C2:=Bd.out
 have B2:=hide (C2.trans (b2.mono C2.size))
 have X2:=Ed.out
 have E2:=hide (X2.below b2 X2.lt)
 have hl2:=E2.out.lt
 have HH:=hHeld.below b2
 have SL2:=hide HH
 clear b2 C2 X2
 refine hK.out _ _ HH (fun hHeld=>?_)
 clear hK K HH
 (try simp only[Act.put,lA,lB,lC])
 refine oA 2 (fun K hK=>?_)
 go_simp
 (go_at_call 189;refine(sortOf_any fk fo fm _).mono ?_;rintro e w3 ⟨rfl,b3⟩)
 have C3:=B2.out
 have B3:=hide (C3.trans (b3.mono C3.size))
 have X3:=E2.out
 have E3:=hide (X3.below b3 X3.lt)
 have hl3:=E3.out.lt
 have HH:=hHeld.below b3
 have SL3:=hide HH
 clear b3 C3 X3
 refine hK.out _ _ HH (fun hHeld=>?_)
 clear hK K HH
 (try simp only[Act.put,lA,lB,lC])
 refine rA [3,6] ?_
 refine AllL.cons rfl (fun K hK=>?_) ?_
 ·go_simp
  refine hK.out _ _ (hHeld.alloc (.cells #[.int .i64 1,.int .i64 0,.bool false,.int .i64 fk,.int .i64 fo,.bool false] 68)) (fun hHeld=>?_)
  clear hK K
  (try simp only[Act.put,lA,lB,lC])
  refine oA 6 (fun K hK=>?_)
  go_simp
  (go_at_call 183;refine(sortSure_any a _).mono ?_;rintro e w4 ⟨rfl,b4⟩)
  have C4:=(B3.out.alloc B3.out.size (.cells #[.int .i64 1,.int .i64 0,.bool false,.int .i64 fk,.int .i64 fo,.bool false] 68))
  have B4:=hide (C4.trans (b4.mono C4.size))
  have X4:=(E3.out.alloc (.cells #[.int .i64 1,.int .i64 0,.bool false,.int .i64 fk,.int .i64 fo,.bool false] 68))
  have E4:=hide (X4.below b4 X4.lt)
  have Y4t19:=(show Rec (w3.alloc (.cells #[.int .i64 1,.int .i64 0,.bool false,.int .i64 fk,.int .i64 fo,.bool false] 68)) (w3.heap.size) 68 (fcells [⟨1,0,false⟩,⟨fk,fo,false⟩]) by rw[fcells_l2];exact Rec.new' _ _ _ _ (by simp))
  have N4t19:=hide (Y4t19.below b4 Y4t19.lt)
  have lo4t19:w.heap.size≤w3.heap.size:=by have:=B3.out.size;omega
  have hl4:=E4.out.lt
  have HH:=hHeld.below b4
  have SL4:=hide HH
  clear b4 C4 X4
  refine hK.out _ _ HH (fun hHeld=>?_)
  clear hK K HH
  (try simp only[Act.put,lA,lB,lC])
  refine oA 7 (fun K hK=>?_)
  go_simp
  refine hK.out _ _ (hHeld.alloc (.cells #[.int .i64 3,.int .i64 a,.bool false] 68)) (fun hHeld=>?_)
  clear hK K
  (try simp only[Act.put,lA,lB,lC])
  refine tA 8 (v:=?v8n28) ?y8n28 ?r8n28
  case y8n28=>(intro w _;go_simp;try with_reducible rfl)
  (try simp only[Act.put,lA,lB,lC])
  refine oA 10 (fun K hK=>?_)
  have e0:=E4.out.cell (o:=0) rfl
  have e1:=E4.out.cell (o:=1) rfl
  have f0:=E4.out.frozen 0
  have f1:=E4.out.frozen 1
  have hlt:=E4.out.lt
  have sw:=B4.out.size
  go_simp
  refine hK.out _ _ ?_ (fun hHeld=>?_)
  ·first|exact((SL4.out.eff _ _).alloc _)|exact(((SL4.out.eff _ _).alloc _)).drew|exact(hHeld.eff _ _)
  clear hK K e0 e1 f0 f1
  (try simp only[Act.put,lA,lB,lC])
  refine eA 11 (fun K hK=>?_)
  go_simp
  refine hK.out _ _ ?_
  clear hK K
  (try simp only[Act.put,lA,lB,lC])
  refine doneA (by kernel_rfl) ?_ _
  obtain⟨W9,hW9⟩:∃x,x=(((w4.setCell ⟨w.heap.size+1+1+1,0,none⟩ (.slice (some ⟨w3.heap.size,0,none⟩) 2 2)).setCell ⟨w.heap.size+1+1+1,1,none⟩ (.slice (some ⟨w4.heap.size,0,none⟩) 1 1)).alloc (.cells #[.int .i64 3,.int .i64 a,.bool false] 68)):=⟨_,rfl⟩
  have NRt19:Hid (Rec W9 (w3.heap.size) 68 (fcells [⟨1,0,false⟩,⟨fk,fo,false⟩])):=by subst hW9;exact(((N4t19.out.other (by omega) 0 _).other (by omega) 1 _).alloc _)
  have NRt23:Hid (Rec W9 (w4.heap.size) 68 (fcells [⟨3,a,false⟩])):=by subst hW9;exact(show Rec _ (w4.heap.size) 68 (fcells [⟨3,a,false⟩]) by rw[fcells_l1];exact Rec.new' _ _ _ _ (by simp))
  have ER:Hid (Rec W9 (w.heap.size+1+1+1) 160 [.slice (some ⟨w3.heap.size,0,none⟩) 2 2,.slice (some ⟨w4.heap.size,0,none⟩) 1 1]):=by subst hW9;exact(((E4.out.set 0 _).set 1 _).alloc _)
  have BR:Hid (Below w.heap.size w W9):=by subst hW9;exact(((B4.out.setCell (by show w.heap.size≤w.heap.size+1+1+1;omega) _).setCell (by show w.heap.size≤w.heap.size+1+1+1;omega) _).alloc (by simp<;>omega) _)
  subst hW9
  go_wp2_with fail
  exact bodyPost_ret (results_ct rfl rfl ER.out Tryz.underlying160 rfl (by kernel_rfl)) rfl ⟨_,_,_,_,rfl,rec_fields NRt19.out (by omega) NRt19.out.lt,rec_fields NRt23.out (by omega) NRt23.out.lt,BR.out⟩
 refine AllL.cons rfl (fun K hK=>?_) ?_
 ·go_simp
  (go_at_call 183;refine(sortSure_any a _).mono ?_;rintro e w5 ⟨rfl,b5⟩)
  have C5:=B3.out
  have B5:=hide (C5.trans (b5.mono C5.size))
  have X5:=E3.out
  have E5:=hide (X5.below b5 X5.lt)
  have hl5:=E5.out.lt
  have HH:=hHeld.below b5
  have SL5:=hide HH
  clear b5 C5 X5
  refine hK.out _ _ HH (fun hHeld=>?_)
  clear hK K HH
  (try simp only[Act.put,lA,lB,lC])
  refine rA [3,7] ?_
  refine AllL.cons rfl (fun K hK=>?_) ?_
  ·go_simp
   refine hK.out _ _ (hHeld.alloc (.cells #[.int .i64 1,.int .i64 0,.bool false,.int .i64 fk,.int .i64 fo,.bool false] 68)) (fun hHeld=>?_)
   clear hK K
   (try simp only[Act.put,lA,lB,lC])
   refine oA 7 (fun K hK=>?_)
   go_simp
   refine hK.out _ _ (hHeld.alloc (.cells #[.int .i64 3,.int .i64 a,.bool false] 68)) (fun hHeld=>?_)
   clear hK K
   (try simp only[Act.put,lA,lB,lC])
   refine tA 8 (v:=?v8n29) ?y8n29 ?r8n29
   case y8n29=>(intro w _;go_simp;try with_reducible rfl)
   (try simp only[Act.put,lA,lB,lC])
   refine oA 10 (fun K hK=>?_)
   have e0:=E5.out.cell (o:=0) rfl
   have e1:=E5.out.cell (o:=1) rfl
   have f0:=E5.out.frozen 0
   have f1:=E5.out.frozen 1
   have hlt:=E5.out.lt
   have sw:=B5.out.size
   have hlt1:w.heap.size+1+1+1<w5.heap.size+1:=by omega
   go_simp
   refine hK.out _ _ ?_ (fun hHeld=>?_)
   ·first|exact(((SL5.out.eff _ _).alloc _).alloc _)|exact((((SL5.out.eff _ _).alloc _).alloc _)).drew|exact(hHeld.eff _ _)
   clear hK K e0 e1 f0 f1
   (try simp only[Act.put,lA,lB,lC])
   refine eA 11 (fun K hK=>?_)
   go_simp
   refine hK.out _ _ ?_
   clear hK K
   (try simp only[Act.put,lA,lB,lC])
   refine doneA (by kernel_rfl) ?_ _
   obtain⟨W9,hW9⟩:∃x,x=((((w5.setCell ⟨w.heap.size+1+1+1,0,none⟩ (.slice (some ⟨w5.heap.size,0,none⟩) 2 2)).setCell ⟨w.heap.size+1+1+1,1,none⟩ (.slice (some ⟨w5.heap.size+1,0,none⟩) 1 1)).alloc (.cells #[.int .i64 1,.int .i64 0,.bool false,.int .i64 fk,.int .i64 fo,.bool false] 68)).alloc (.cells #[.int .i64 3,.int .i64 a,.bool false] 68)):=⟨_,rfl⟩
   have NRt19:Hid (Rec W9 (w5.heap.size) 68 (fcells [⟨1,0,false⟩,⟨fk,fo,false⟩])):=by subst hW9;exact((show Rec (((w5.setCell ⟨w.heap.size+1+1+1,0,none⟩ (.slice (some ⟨w5.heap.size,0,none⟩) 2 2)).setCell ⟨w.heap.size+1+1+1,1,none⟩ (.slice (some ⟨w5.heap.size+1,0,none⟩) 1 1)).alloc (.cells #[.int .i64 1,.int .i64 0,.bool false,.int .i64 fk,.int .i64 fo,.bool false] 68)) (w5.heap.size) 68 (fcells [⟨1,0,false⟩,⟨fk,fo,false⟩]) by rw[fcells_l2];exact Rec.new' _ _ _ _ (by simp)).alloc _)
   have NRt23:Hid (Rec W9 (w5.heap.size+1) 68 (fcells [⟨3,a,false⟩])):=by subst hW9;exact(show Rec _ (w5.heap.size+1) 68 (fcells [⟨3,a,false⟩]) by rw[fcells_l1];exact Rec.new' _ _ _ _ (by simp))
   have ER:Hid (Rec W9 (w.heap.size+1+1+1) 160 [.slice (some ⟨w5.heap.size,0,none⟩) 2 2,.slice (some ⟨w5.heap.size+1,0,none⟩) 1 1]):=by subst hW9;exact((((E5.out.set 0 _).set 1 _).alloc _).alloc _)
   have BR:Hid (Below w.heap.size w W9):=by subst hW9;exact((((B5.out.setCell (by show w.heap.size≤w.heap.size+1+1+1;omega) _).setCell (by show w.heap.size≤w.heap.size+1+1+1;omega) _).alloc (by simp<;>omega) _).alloc (by simp<;>omega) _)
   subst hW9
   go_wp2_with fail
   exact bodyPost_ret (results_ct rfl rfl ER.out Tryz.underlying160 rfl (by kernel_rfl)) rfl ⟨_,_,_,_,rfl,rec_fields NRt19.out (by omega) NRt19.out.lt,rec_fields NRt23.out (by omega) NRt23.out.lt,BR.out⟩
  refine AllL.cons rfl (fun K hK=>?_) ?_
  ·go_simp
   refine hK.out _ _ (hHeld.alloc (.cells #[.int .i64 3,.int .i64 a,.bool false] 68)) (fun hHeld=>?_)
   clear hK K
   (try simp only[Act.put,lA,lB,lC])
   refine oA 3 (fun K hK=>?_)
   go_simp
   refine hK.out _ _ (hHeld.alloc (.cells #[.int .i64 1,.int .i64 0,.bool false,.int .i64 fk,.int .i64 fo,.bool false] 68)) (fun hHeld=>?_)
   clear hK K
   (try simp only[Act.put,lA,lB,lC])
   refine tA 8 (v:=?v8n30) ?y8n30 ?r8n30
   case y8n30=>(intro w _;go_simp;try with_reducible rfl)
   (try simp only[Act.put,lA,lB,lC])
   refine oA 10 (fun K hK=>?_)
   have e0:=E5.out.cell (o:=0) rfl
   have e1:=E5.out.cell (o:=1) rfl
   have f0:=E5.out.frozen 0
   have f1:=E5.out.frozen 1
   have hlt:=E5.out.lt
   have sw:=B5.out.size
   have hlt1:w.heap.size+1+1+1<w5.heap.size+1:=by omega
   go_simp
   refine hK.out _ _ ?_ (fun hHeld=>?_)
   ·first|exact(((SL5.out.eff _ _).alloc _).alloc _)|exact((((SL5.out.eff _ _).alloc _).alloc _)).drew|exact(hHeld.eff _ _)
   clear hK K e0 e1 f0 f1
   (try simp only[Act.put,lA,lB,lC])
   refine eA 11 (fun K hK=>?_)
   go_simp
   refine hK.out _ _ ?_
   clear hK K
   (try simp only[Act.put,lA,lB,lC])
   refine doneA (by kernel_rfl) ?_ _
   obtain⟨W9,hW9⟩:∃x,x=((((w5.setCell ⟨w.heap.size+1+1+1,0,none⟩ (.slice (some ⟨w5.heap.size+1,0,none⟩) 2 2)).setCell ⟨w.heap.size+1+1+1,1,none⟩ (.slice (some ⟨w5.heap.size,0,none⟩) 1 1)).alloc (.cells #[.int .i64 3,.int .i64 a,.bool false] 68)).alloc (.cells #[.int .i64 1,.int .i64 0,.bool false,.int .i64 fk,.int .i64 fo,.bool false] 68)):=⟨_,rfl⟩
   have NRt19:Hid (Rec W9 (w5.heap.size+1) 68 (fcells [⟨1,0,false⟩,⟨fk,fo,false⟩])):=by subst hW9;exact(show Rec _ (w5.heap.size+1) 68 (fcells [⟨1,0,false⟩,⟨fk,fo,false⟩]) by rw[fcells_l2];exact Rec.new' _ _ _ _ (by simp))
   have NRt23:Hid (Rec W9 (w5.heap.size) 68 (fcells [⟨3,a,false⟩])):=by subst hW9;exact((show Rec (((w5.setCell ⟨w.heap.size+1+1+1,0,none⟩ (.slice (some ⟨w5.heap.size+1,0,none⟩) 2 2)).setCell ⟨w.heap.size+1+1+1,1,none⟩ (.slice (some ⟨w5.heap.size,0,none⟩) 1 1)).alloc (.cells #[.int .i64 3,.int .i64 a,.bool false] 68)) (w5.heap.size) 68 (fcells [⟨3,a,false⟩]) by rw[fcells_l1];exact Rec.new' _ _ _ _ (by simp)).alloc _)
   have ER:Hid (Rec W9 (w.heap.size+1+1+1) 160 [.slice (some ⟨w5.heap.size+1,0,none⟩) 2 2,.slice (some ⟨w5.heap.size,0,none⟩) 1 1]):=by subst hW9;exact((((E5.out.set 0 _).set 1 _).alloc _).alloc _)
   have BR:Hid (Below w.heap.size w W9):=by subst hW9;exact((((B5.out.setCell (by show w.heap.size≤w.heap.size+1+1+1;omega) _).setCell (by show w.heap.size≤w.heap.size+1+1+1;omega) _).alloc (by simp<;>omega) _).alloc (by simp<;>omega) _)
   subst hW9
   go_wp2_with fail
   exact bodyPost_ret (results_ct rfl rfl ER.out Tryz.underlying160 rfl (by kernel_rfl)) rfl ⟨_,_,_,_,rfl,rec_fields NRt19.out (by omega) NRt19.out.lt,rec_fields NRt23.out (by omega) NRt23.out.lt,BR.out⟩
  exact AllL.nil
 exact AllL.nil
set_option maxHeartbeats 4000000 in
set_option maxRecDepth 100000 in
theorem checkAt_any (vs:List Value) (op a b tk to:Int) (tm:Bool) (w:World) (lo hi k:Nat) (p:GProg) (h:Scp w lo hi p k vs) (hn:kinCount p.types≤1099511627776) (hP:Parts p.types) :
  Calls Tryz.prog 155 #[.agg vs.toArray,.agg #[.int .i64 op,.int .i64 a,.int .i64 b],.agg #[.int .i64 tk,.int .i64 to,.bool tm]] w fun e w'=>EffPost w [⟨2,a,false⟩,⟨1,0,false⟩] [⟨(rwF p.types a).kind,(rwF p.types a).of,false⟩] (tyIs p.types a 2) e w':=by
 obtain⟨w1,hw1,B1,E1,S1⟩:=entS vs op a b tk to tm w
 have hsz:(Tryz.prog.info? 94).map (·.size)=some vs.length:=by rw[h.len];kernel_rfl
 have i0:=S1.out.i.cell (o:=0) rfl
 have i1:=S1.out.i.cell (o:=1) rfl
 have i2:=S1.out.i.cell (o:=2) rfl
 have HC:=hide (rowField_any vs lo hi k p op a b w1 (h.keep (B1.out.mono h.hh)) hn hP)
 clear h
 generalize tyIs p.types a 2=nm at HC ⊢
 generalize rwF p.types a=f at HC ⊢
 obtain⟨fk,fo,fm⟩:=f
 simp only at HC ⊢
 go_enter Tryz.func155,Tryz.ntmps155
 go_upto_region 1 with(fail)
 rw[←hw1]
 clear hw1
 go_wp2_with (refine wpList_load_rec rfl 94 _ rfl w.heap.size 94 vs _ rfl S1.out.v Tryz.underlying94 rfl hsz ?_)
 refine HC.out.mono ?_
 rintro e w2 ⟨rfl,b2⟩
 have c2:=b2.trans ((Below.refl w2.heap.size w2).alloc (Nat.le_refl _) (.cells #[.int .i64 fk,.int .i64 fo,.bool fm] 68) |>.mono b2.size)
 have hx:w.heap.size+1+1+1<w2.heap.size:=Nat.lt_of_lt_of_le E1.out.lt b2.size
 have S2:Hid (SBX w.heap.size w2.heap.size 68 vs [.int .i64 op,.int .i64 a,.int .i64 b] [.int .i64 tk,.int .i64 to,.bool tm] [.int .i64 fk,.int .i64 fo,.bool fm] (w2.alloc (.cells #[.int .i64 fk,.int .i64 fo,.bool fm] 68))):=⟨S1.out.v.below c2 S1.out.v.lt,S1.out.i.below c2 S1.out.i.lt,S1.out.t.below c2 S1.out.t.lt,Rec.new _ _ _,hx⟩
 have E2:=hide (E1.out.below c2 E1.out.lt)
 have B2:=hide (B1.out.trans (c2.mono B1.out.size))
 clear b2 c2 i0 i1 i2 S1 E1 B1 HC
 go_upto_region 2 with(fail)
 generalize w2.alloc (.cells #[.int .i64 fk,.int .i64 fo,.bool fm] 68)=w1 at *
 generalize w2.heap.size=bx at *
 have Bd:=hide B2.out.drew
 have Ed:=hide E2.out.drew'
 have SLd:=hide S2.out.drew
 have hld:=Ed.out.lt
 refine beginA (S:=SBX w.heap.size bx 68 vs [.int .i64 op,.int .i64 a,.int .i64 b] [.int .i64 tk,.int .i64 to,.bool tm] [.int .i64 fk,.int .i64 fo,.bool fm]) 11 (by kernel_rfl) SLd.out (fun hHeld=>?_)
 try simp only[Act.put,lA,lB,lC]
 refine tA 0 (v:=?v0n31) ?y0n31 ?r0n31
 case y0n31=>(intro w _;go_simp;try with_reducible rfl)
 (try simp only[Act.put,lA,lB,lC])
 refine tA 1 (v:=?v1n32) ?y1n32 ?r1n32
 case y1n32=>(intro w hSw;have si1:=hSw.i.cell (o:=1) rfl;have sx0:=hSw.x.cell (o:=0) rfl;have sx1:=hSw.x.cell (o:=1) rfl;have sx2:=hSw.x.cell (o:=2) rfl;clear hSw;go_simp;try with_reducible rfl)
 (try simp only[Act.put,lA,lB,lC])
 refine tA 5 (v:=?v5n33) ?y5n33 ?r5n33
 case y5n33=>(intro w hSw;have si1:=hSw.i.cell (o:=1) rfl;have sx0:=hSw.x.cell (o:=0) rfl;have sx1:=hSw.x.cell (o:=1) rfl;have sx2:=hSw.x.cell (o:=2) rfl;clear hSw;go_simp;try with_reducible rfl)
 (try simp only[Act.put,lA,lB,lC])
 refine tA 9 (v:=?v9n34) ?y9n34 ?r9n34
 case y9n34=>(intro w _;go_simp;try with_reducible rfl)
 (try simp only[Act.put,lA,lB,lC])
 refine oA 2 (fun K hK=>?_)
 go_simp
 (go_at_call 184;refine(sortRef_any a _).mono ?_;rintro e w2 ⟨rfl,b2⟩)
 have C2:=Bd.out
 have B2:=hide (C2.trans (b2.mono C2.size))
 have X2:=Ed.out
 have E2:=hide (X2.below b2 X2.lt)
 have hl2:=E2.out.lt
 have HH:=hHeld.below b2
 have SL2:=hide HH
 clear b2 C2 X2
 refine hK.out _ _ HH (fun hHeld=>?_)
 clear hK K HH
 (try simp only[Act.put,lA,lB,lC])
 refine oA 3 (fun K hK=>?_)
 go_simp
 (go_at_call 181;refine(sortNum_any _).mono ?_;rintro e w3 ⟨rfl,b3⟩)
 have C3:=B2.out
 have B3:=hide (C3.trans (b3.mono C3.size))
 have X3:=E2.out
 have E3:=hide (X3.below b3 X3.lt)
 have hl3:=E3.out.lt
 have HH:=hHeld.below b3
 have SL3:=hide HH
 clear b3 C3 X3
 refine hK.out _ _ HH (fun hHeld=>?_)
 clear hK K HH
 (try simp only[Act.put,lA,lB,lC])
 refine rA [4,6] ?_
 refine AllL.cons rfl (fun K hK=>?_) ?_
 ·go_simp
  refine hK.out _ _ (hHeld.alloc (.cells #[.int .i64 2,.int .i64 a,.bool false,.int .i64 1,.int .i64 0,.bool false] 68)) (fun hHeld=>?_)
  clear hK K
  (try simp only[Act.put,lA,lB,lC])
  refine oA 6 (fun K hK=>?_)
  go_simp
  (go_at_call 189;refine(sortOf_any fk fo fm _).mono ?_;rintro e w4 ⟨rfl,b4⟩)
  have C4:=(B3.out.alloc B3.out.size (.cells #[.int .i64 2,.int .i64 a,.bool false,.int .i64 1,.int .i64 0,.bool false] 68))
  have B4:=hide (C4.trans (b4.mono C4.size))
  have X4:=(E3.out.alloc (.cells #[.int .i64 2,.int .i64 a,.bool false,.int .i64 1,.int .i64 0,.bool false] 68))
  have E4:=hide (X4.below b4 X4.lt)
  have Y4t20:=(show Rec (w3.alloc (.cells #[.int .i64 2,.int .i64 a,.bool false,.int .i64 1,.int .i64 0,.bool false] 68)) (w3.heap.size) 68 (fcells [⟨2,a,false⟩,⟨1,0,false⟩]) by rw[fcells_l2];exact Rec.new' _ _ _ _ (by simp))
  have N4t20:=hide (Y4t20.below b4 Y4t20.lt)
  have lo4t20:w.heap.size≤w3.heap.size:=by have:=B3.out.size;omega
  have hl4:=E4.out.lt
  have HH:=hHeld.below b4
  have SL4:=hide HH
  clear b4 C4 X4
  refine hK.out _ _ HH (fun hHeld=>?_)
  clear hK K HH
  (try simp only[Act.put,lA,lB,lC])
  refine oA 7 (fun K hK=>?_)
  go_simp
  refine hK.out _ _ (hHeld.alloc (.cells #[.int .i64 fk,.int .i64 fo,.bool false] 68)) (fun hHeld=>?_)
  clear hK K
  (try simp only[Act.put,lA,lB,lC])
  refine tA 8 (v:=?v8n35) ?y8n35 ?r8n35
  case y8n35=>(intro w _;go_simp;try with_reducible rfl)
  (try simp only[Act.put,lA,lB,lC])
  refine oA 10 (fun K hK=>?_)
  have e0:=E4.out.cell (o:=0) rfl
  have e1:=E4.out.cell (o:=1) rfl
  have f0:=E4.out.frozen 0
  have f1:=E4.out.frozen 1
  have hlt:=E4.out.lt
  have sw:=B4.out.size
  go_simp
  refine hK.out _ _ ?_ (fun hHeld=>?_)
  ·first|exact((SL4.out.eff _ _).alloc _)|exact(((SL4.out.eff _ _).alloc _)).drew|exact(hHeld.eff _ _)
  clear hK K e0 e1 f0 f1
  (try simp only[Act.put,lA,lB,lC])
  refine eA 11 (fun K hK=>?_)
  go_simp
  refine hK.out _ _ ?_
  clear hK K
  (try simp only[Act.put,lA,lB,lC])
  refine doneA (by kernel_rfl) ?_ _
  obtain⟨W9,hW9⟩:∃x,x=(((w4.setCell ⟨w.heap.size+1+1+1,0,none⟩ (.slice (some ⟨w3.heap.size,0,none⟩) 2 2)).setCell ⟨w.heap.size+1+1+1,1,none⟩ (.slice (some ⟨w4.heap.size,0,none⟩) 1 1)).alloc (.cells #[.int .i64 fk,.int .i64 fo,.bool false] 68)):=⟨_,rfl⟩
  have NRt20:Hid (Rec W9 (w3.heap.size) 68 (fcells [⟨2,a,false⟩,⟨1,0,false⟩])):=by subst hW9;exact(((N4t20.out.other (by omega) 0 _).other (by omega) 1 _).alloc _)
  have NRt23:Hid (Rec W9 (w4.heap.size) 68 (fcells [⟨fk,fo,false⟩])):=by subst hW9;exact(show Rec _ (w4.heap.size) 68 (fcells [⟨fk,fo,false⟩]) by rw[fcells_l1];exact Rec.new' _ _ _ _ (by simp))
  have ER:Hid (Rec W9 (w.heap.size+1+1+1) 160 [.slice (some ⟨w3.heap.size,0,none⟩) 2 2,.slice (some ⟨w4.heap.size,0,none⟩) 1 1]):=by subst hW9;exact(((E4.out.set 0 _).set 1 _).alloc _)
  have BR:Hid (Below w.heap.size w W9):=by subst hW9;exact(((B4.out.setCell (by show w.heap.size≤w.heap.size+1+1+1;omega) _).setCell (by show w.heap.size≤w.heap.size+1+1+1;omega) _).alloc (by simp<;>omega) _)
  subst hW9
  go_wp2_with fail
  exact bodyPost_ret (results_ct rfl rfl ER.out Tryz.underlying160 rfl (by kernel_rfl)) rfl ⟨_,_,_,_,rfl,rec_fields NRt20.out (by omega) NRt20.out.lt,rec_fields NRt23.out (by omega) NRt23.out.lt,BR.out⟩
 refine AllL.cons rfl (fun K hK=>?_) ?_
 ·go_simp
  (go_at_call 189;refine(sortOf_any fk fo fm _).mono ?_;rintro e w5 ⟨rfl,b5⟩)
  have C5:=B3.out
  have B5:=hide (C5.trans (b5.mono C5.size))
  have X5:=E3.out
  have E5:=hide (X5.below b5 X5.lt)
  have hl5:=E5.out.lt
  have HH:=hHeld.below b5
  have SL5:=hide HH
  clear b5 C5 X5
  refine hK.out _ _ HH (fun hHeld=>?_)
  clear hK K HH
  (try simp only[Act.put,lA,lB,lC])
  refine rA [4,7] ?_
  refine AllL.cons rfl (fun K hK=>?_) ?_
  ·go_simp
   refine hK.out _ _ (hHeld.alloc (.cells #[.int .i64 2,.int .i64 a,.bool false,.int .i64 1,.int .i64 0,.bool false] 68)) (fun hHeld=>?_)
   clear hK K
   (try simp only[Act.put,lA,lB,lC])
   refine oA 7 (fun K hK=>?_)
   go_simp
   refine hK.out _ _ (hHeld.alloc (.cells #[.int .i64 fk,.int .i64 fo,.bool false] 68)) (fun hHeld=>?_)
   clear hK K
   (try simp only[Act.put,lA,lB,lC])
   refine tA 8 (v:=?v8n36) ?y8n36 ?r8n36
   case y8n36=>(intro w _;go_simp;try with_reducible rfl)
   (try simp only[Act.put,lA,lB,lC])
   refine oA 10 (fun K hK=>?_)
   have e0:=E5.out.cell (o:=0) rfl
   have e1:=E5.out.cell (o:=1) rfl
   have f0:=E5.out.frozen 0
   have f1:=E5.out.frozen 1
   have hlt:=E5.out.lt
   have sw:=B5.out.size
   have hlt1:w.heap.size+1+1+1<w5.heap.size+1:=by omega
   go_simp
   refine hK.out _ _ ?_ (fun hHeld=>?_)
   ·first|exact(((SL5.out.eff _ _).alloc _).alloc _)|exact((((SL5.out.eff _ _).alloc _).alloc _)).drew|exact(hHeld.eff _ _)
   clear hK K e0 e1 f0 f1
   (try simp only[Act.put,lA,lB,lC])
   refine eA 11 (fun K hK=>?_)
   go_simp
   refine hK.out _ _ ?_
   clear hK K
   (try simp only[Act.put,lA,lB,lC])
   refine doneA (by kernel_rfl) ?_ _
   obtain⟨W9,hW9⟩:∃x,x=((((w5.setCell ⟨w.heap.size+1+1+1,0,none⟩ (.slice (some ⟨w5.heap.size,0,none⟩) 2 2)).setCell ⟨w.heap.size+1+1+1,1,none⟩ (.slice (some ⟨w5.heap.size+1,0,none⟩) 1 1)).alloc (.cells #[.int .i64 2,.int .i64 a,.bool false,.int .i64 1,.int .i64 0,.bool false] 68)).alloc (.cells #[.int .i64 fk,.int .i64 fo,.bool false] 68)):=⟨_,rfl⟩
   have NRt20:Hid (Rec W9 (w5.heap.size) 68 (fcells [⟨2,a,false⟩,⟨1,0,false⟩])):=by subst hW9;exact((show Rec (((w5.setCell ⟨w.heap.size+1+1+1,0,none⟩ (.slice (some ⟨w5.heap.size,0,none⟩) 2 2)).setCell ⟨w.heap.size+1+1+1,1,none⟩ (.slice (some ⟨w5.heap.size+1,0,none⟩) 1 1)).alloc (.cells #[.int .i64 2,.int .i64 a,.bool false,.int .i64 1,.int .i64 0,.bool false] 68)) (w5.heap.size) 68 (fcells [⟨2,a,false⟩,⟨1,0,false⟩]) by rw[fcells_l2];exact Rec.new' _ _ _ _ (by simp)).alloc _)
   have NRt23:Hid (Rec W9 (w5.heap.size+1) 68 (fcells [⟨fk,fo,false⟩])):=by subst hW9;exact(show Rec _ (w5.heap.size+1) 68 (fcells [⟨fk,fo,false⟩]) by rw[fcells_l1];exact Rec.new' _ _ _ _ (by simp))
   have ER:Hid (Rec W9 (w.heap.size+1+1+1) 160 [.slice (some ⟨w5.heap.size,0,none⟩) 2 2,.slice (some ⟨w5.heap.size+1,0,none⟩) 1 1]):=by subst hW9;exact((((E5.out.set 0 _).set 1 _).alloc _).alloc _)
   have BR:Hid (Below w.heap.size w W9):=by subst hW9;exact((((B5.out.setCell (by show w.heap.size≤w.heap.size+1+1+1;omega) _).setCell (by show w.heap.size≤w.heap.size+1+1+1;omega) _).alloc (by simp<;>omega) _).alloc (by simp<;>omega) _)
   subst hW9
   go_wp2_with fail
   exact bodyPost_ret (results_ct rfl rfl ER.out Tryz.underlying160 rfl (by kernel_rfl)) rfl ⟨_,_,_,_,rfl,rec_fields NRt20.out (by omega) NRt20.out.lt,rec_fields NRt23.out (by omega) NRt23.out.lt,BR.out⟩
  refine AllL.cons rfl (fun K hK=>?_) ?_
  ·go_simp
   refine hK.out _ _ (hHeld.alloc (.cells #[.int .i64 fk,.int .i64 fo,.bool false] 68)) (fun hHeld=>?_)
   clear hK K
   (try simp only[Act.put,lA,lB,lC])
   refine oA 4 (fun K hK=>?_)
   go_simp
   refine hK.out _ _ (hHeld.alloc (.cells #[.int .i64 2,.int .i64 a,.bool false,.int .i64 1,.int .i64 0,.bool false] 68)) (fun hHeld=>?_)
   clear hK K
   (try simp only[Act.put,lA,lB,lC])
   refine tA 8 (v:=?v8n37) ?y8n37 ?r8n37
   case y8n37=>(intro w _;go_simp;try with_reducible rfl)
   (try simp only[Act.put,lA,lB,lC])
   refine oA 10 (fun K hK=>?_)
   have e0:=E5.out.cell (o:=0) rfl
   have e1:=E5.out.cell (o:=1) rfl
   have f0:=E5.out.frozen 0
   have f1:=E5.out.frozen 1
   have hlt:=E5.out.lt
   have sw:=B5.out.size
   have hlt1:w.heap.size+1+1+1<w5.heap.size+1:=by omega
   go_simp
   refine hK.out _ _ ?_ (fun hHeld=>?_)
   ·first|exact(((SL5.out.eff _ _).alloc _).alloc _)|exact((((SL5.out.eff _ _).alloc _).alloc _)).drew|exact(hHeld.eff _ _)
   clear hK K e0 e1 f0 f1
   (try simp only[Act.put,lA,lB,lC])
   refine eA 11 (fun K hK=>?_)
   go_simp
   refine hK.out _ _ ?_
   clear hK K
   (try simp only[Act.put,lA,lB,lC])
   refine doneA (by kernel_rfl) ?_ _
   obtain⟨W9,hW9⟩:∃x,x=((((w5.setCell ⟨w.heap.size+1+1+1,0,none⟩ (.slice (some ⟨w5.heap.size+1,0,none⟩) 2 2)).setCell ⟨w.heap.size+1+1+1,1,none⟩ (.slice (some ⟨w5.heap.size,0,none⟩) 1 1)).alloc (.cells #[.int .i64 fk,.int .i64 fo,.bool false] 68)).alloc (.cells #[.int .i64 2,.int .i64 a,.bool false,.int .i64 1,.int .i64 0,.bool false] 68)):=⟨_,rfl⟩
   have NRt20:Hid (Rec W9 (w5.heap.size+1) 68 (fcells [⟨2,a,false⟩,⟨1,0,false⟩])):=by subst hW9;exact(show Rec _ (w5.heap.size+1) 68 (fcells [⟨2,a,false⟩,⟨1,0,false⟩]) by rw[fcells_l2];exact Rec.new' _ _ _ _ (by simp))
   have NRt23:Hid (Rec W9 (w5.heap.size) 68 (fcells [⟨fk,fo,false⟩])):=by subst hW9;exact((show Rec (((w5.setCell ⟨w.heap.size+1+1+1,0,none⟩ (.slice (some ⟨w5.heap.size+1,0,none⟩) 2 2)).setCell ⟨w.heap.size+1+1+1,1,none⟩ (.slice (some ⟨w5.heap.size,0,none⟩) 1 1)).alloc (.cells #[.int .i64 fk,.int .i64 fo,.bool false] 68)) (w5.heap.size) 68 (fcells [⟨fk,fo,false⟩]) by rw[fcells_l1];exact Rec.new' _ _ _ _ (by simp)).alloc _)
   have ER:Hid (Rec W9 (w.heap.size+1+1+1) 160 [.slice (some ⟨w5.heap.size+1,0,none⟩) 2 2,.slice (some ⟨w5.heap.size,0,none⟩) 1 1]):=by subst hW9;exact((((E5.out.set 0 _).set 1 _).alloc _).alloc _)
   have BR:Hid (Below w.heap.size w W9):=by subst hW9;exact((((B5.out.setCell (by show w.heap.size≤w.heap.size+1+1+1;omega) _).setCell (by show w.heap.size≤w.heap.size+1+1+1;omega) _).alloc (by simp<;>omega) _).alloc (by simp<;>omega) _)
   subst hW9
   go_wp2_with fail
   exact bodyPost_ret (results_ct rfl rfl ER.out Tryz.underlying160 rfl (by kernel_rfl)) rfl ⟨_,_,_,_,rfl,rec_fields NRt20.out (by omega) NRt20.out.lt,rec_fields NRt23.out (by omega) NRt23.out.lt,BR.out⟩
  exact AllL.nil
 exact AllL.nil
set_option maxHeartbeats 4000000 in
set_option maxRecDepth 100000 in
theorem checkLay_any (vs:List Value) (op a b tk to:Int) (tm:Bool) (w:World) (lo hi k:Nat) (p:GProg) (h:Scp w lo hi p k vs) (hn:kinCount p.types≤1099511627776) (hP:Parts p.types) :
  Calls Tryz.prog 156 #[.agg vs.toArray,.agg #[.int .i64 op,.int .i64 a,.int .i64 b],.agg #[.int .i64 tk,.int .i64 to,.bool tm]] w fun e w'=>EffPost w [⟨2,a,false⟩,⟨1,0,false⟩,⟨(rwF p.types a).kind,(rwF p.types a).of,false⟩] [] ((tyIs p.types a 2)&&(rwF p.types a).mt) e w':=by
 obtain⟨w1,hw1,B1,E1,S1⟩:=entS vs op a b tk to tm w
 have hsz:(Tryz.prog.info? 94).map (·.size)=some vs.length:=by rw[h.len];kernel_rfl
 have i0:=S1.out.i.cell (o:=0) rfl
 have i1:=S1.out.i.cell (o:=1) rfl
 have i2:=S1.out.i.cell (o:=2) rfl
 have HC:=hide (rowField_any vs lo hi k p op a b w1 (h.keep (B1.out.mono h.hh)) hn hP)
 clear h
 generalize tyIs p.types a 2=nm at HC ⊢
 generalize rwF p.types a=f at HC ⊢
 obtain⟨fk,fo,fm⟩:=f
 simp only at HC ⊢
 cases nm
 ·go_enter Tryz.func156,Tryz.ntmps156
  go_upto_region 1 with(fail)
  rw[←hw1]
  clear hw1
  go_wp2_with (refine wpList_load_rec rfl 94 _ rfl w.heap.size 94 vs _ rfl S1.out.v Tryz.underlying94 rfl hsz ?_)
  refine HC.out.mono ?_
  rintro e w2 ⟨rfl,b2⟩
  have c2:=b2.trans ((Below.refl w2.heap.size w2).alloc (Nat.le_refl _) (.cells #[.int .i64 fk,.int .i64 fo,.bool fm] 68) |>.mono b2.size)
  have hx:w.heap.size+1+1+1<w2.heap.size:=Nat.lt_of_lt_of_le E1.out.lt b2.size
  have S2:Hid (SBX w.heap.size w2.heap.size 68 vs [.int .i64 op,.int .i64 a,.int .i64 b] [.int .i64 tk,.int .i64 to,.bool tm] [.int .i64 fk,.int .i64 fo,.bool fm] (w2.alloc (.cells #[.int .i64 fk,.int .i64 fo,.bool fm] 68))):=⟨S1.out.v.below c2 S1.out.v.lt,S1.out.i.below c2 S1.out.i.lt,S1.out.t.below c2 S1.out.t.lt,Rec.new _ _ _,hx⟩
  have E2:=hide (E1.out.below c2 E1.out.lt)
  have B2:=hide (B1.out.trans (c2.mono B1.out.size))
  clear b2 c2 i0 i1 i2 S1 E1 B1 HC
  go_upto_region 2 with(fail)
  generalize w2.alloc (.cells #[.int .i64 fk,.int .i64 fo,.bool fm] 68)=w1 at *
  generalize w2.heap.size=bx at *
  have Bd:=hide B2.out.drew
  have Ed:=hide E2.out.drew'
  have SLd:=hide S2.out.drew
  have hld:=Ed.out.lt
  refine beginA (S:=SBX w.heap.size bx 68 vs [.int .i64 op,.int .i64 a,.int .i64 b] [.int .i64 tk,.int .i64 to,.bool tm] [.int .i64 fk,.int .i64 fo,.bool fm]) 14 (by kernel_rfl) SLd.out (fun hHeld=>?_)
  try simp only[Act.put,lA,lB,lC]
  refine tA 0 (v:=?v0n38) ?y0n38 ?r0n38
  case y0n38=>(intro w _;go_simp;try with_reducible rfl)
  (try simp only[Act.put,lA,lB,lC])
  refine tA 1 (v:=?v1n39) ?y1n39 ?r1n39
  case y1n39=>(intro w hSw;have si1:=hSw.i.cell (o:=1) rfl;have sx0:=hSw.x.cell (o:=0) rfl;have sx1:=hSw.x.cell (o:=1) rfl;have sx2:=hSw.x.cell (o:=2) rfl;clear hSw;go_simp;try with_reducible rfl)
  (try simp only[Act.put,lA,lB,lC])
  refine tA 4 (v:=?v4n40) ?y4n40 ?r4n40
  case y4n40=>(intro w hSw;have si1:=hSw.i.cell (o:=1) rfl;have sx0:=hSw.x.cell (o:=0) rfl;have sx1:=hSw.x.cell (o:=1) rfl;have sx2:=hSw.x.cell (o:=2) rfl;clear hSw;go_simp;try with_reducible rfl)
  (try simp only[Act.put,lA,lB,lC])
  refine tA 8 (v:=?v8n41) ?y8n41 ?r8n41
  case y8n41=>(intro w _;go_simp;try with_reducible rfl)
  (try simp only[Act.put,lA,lB,lC])
  refine oA 2 (fun K hK=>?_)
  go_simp
  (go_at_call 184;refine(sortRef_any a _).mono ?_;rintro e w2 ⟨rfl,b2⟩)
  have C2:=Bd.out
  have B2:=hide (C2.trans (b2.mono C2.size))
  have X2:=Ed.out
  have E2:=hide (X2.below b2 X2.lt)
  have hl2:=E2.out.lt
  have HH:=hHeld.below b2
  have SL2:=hide HH
  clear b2 C2 X2
  refine hK.out _ _ HH (fun hHeld=>?_)
  clear hK K HH
  (try simp only[Act.put,lA,lB,lC])
  refine oA 3 (fun K hK=>?_)
  go_simp
  (go_at_call 181;refine(sortNum_any _).mono ?_;rintro e w3 ⟨rfl,b3⟩)
  have C3:=B2.out
  have B3:=hide (C3.trans (b3.mono C3.size))
  have X3:=E2.out
  have E3:=hide (X3.below b3 X3.lt)
  have hl3:=E3.out.lt
  have HH:=hHeld.below b3
  have SL3:=hide HH
  clear b3 C3 X3
  refine hK.out _ _ HH (fun hHeld=>?_)
  clear hK K HH
  (try simp only[Act.put,lA,lB,lC])
  refine oA 5 (fun K hK=>?_)
  go_simp
  (go_at_call 189;refine(sortOf_any fk fo fm _).mono ?_;rintro e w4 ⟨rfl,b4⟩)
  have C4:=B3.out
  have B4:=hide (C4.trans (b4.mono C4.size))
  have X4:=E3.out
  have E4:=hide (X4.below b4 X4.lt)
  have hl4:=E4.out.lt
  have HH:=hHeld.below b4
  have SL4:=hide HH
  clear b4 C4 X4
  refine hK.out _ _ HH (fun hHeld=>?_)
  clear hK K HH
  (try simp only[Act.put,lA,lB,lC])
  refine tA 9 (v:=?v9n42) ?y9n42 ?r9n42
  case y9n42=>(intro w _;go_simp;try with_reducible rfl)
  (try simp only[Act.put,lA,lB,lC])
  refine sA 10 ?_
  (try simp only[Act.put,lA,lB,lC])
  refine sA 11 ?_
  (try simp only[Act.put,lA,lB,lC])
  refine tA 12 (v:=?v12n43) ?y12n43 ?r12n43
  case y12n43=>(intro w _;go_simp;try with_reducible rfl)
  (try simp only[Act.put,lA,lB,lC])
  refine oA 6 (fun K hK=>?_)
  go_simp
  refine hK.out _ _ (hHeld.alloc (.cells #[.int .i64 2,.int .i64 a,.bool false,.int .i64 1,.int .i64 0,.bool false,.int .i64 fk,.int .i64 fo,.bool false] 68)) (fun hHeld=>?_)
  clear hK K
  (try simp only[Act.put,lA,lB,lC])
  refine tA 7 (v:=?v7n44) ?y7n44 ?r7n44
  case y7n44=>(intro w _;go_simp;try with_reducible rfl)
  (try simp only[Act.put,lA,lB,lC])
  refine oA 13 (fun K hK=>?_)
  have e0:=E4.out.cell (o:=0) rfl
  have e1:=E4.out.cell (o:=1) rfl
  have f0:=E4.out.frozen 0
  have f1:=E4.out.frozen 1
  have hlt:=E4.out.lt
  have sw:=B4.out.size
  go_simp
  refine hK.out _ _ ?_ (fun hHeld=>?_)
  ·first|exact((SL4.out.eff _ _).alloc _)|exact(((SL4.out.eff _ _).alloc _)).drew|exact(hHeld.eff _ _)
  clear hK K e0 e1 f0 f1
  (try simp only[Act.put,lA,lB,lC])
  refine eA 14 (fun K hK=>?_)
  go_simp
  refine hK.out _ _ ?_
  clear hK K
  (try simp only[Act.put,lA,lB,lC])
  refine doneA (by kernel_rfl) ?_ _
  obtain⟨W9,hW9⟩:∃x,x=(((w4.setCell ⟨w.heap.size+1+1+1,0,none⟩ (.slice (some ⟨w4.heap.size,0,none⟩) 3 3)).setCell ⟨w.heap.size+1+1+1,1,none⟩ (.slice none 0 0)).alloc (.cells #[.int .i64 2,.int .i64 a,.bool false,.int .i64 1,.int .i64 0,.bool false,.int .i64 fk,.int .i64 fo,.bool false] 68)):=⟨_,rfl⟩
  have NRt22:Hid (Rec W9 (w4.heap.size) 68 (fcells [⟨2,a,false⟩,⟨1,0,false⟩,⟨fk,fo,false⟩])):=by subst hW9;exact(show Rec _ (w4.heap.size) 68 (fcells [⟨2,a,false⟩,⟨1,0,false⟩,⟨fk,fo,false⟩]) by rw[fcells_l3];exact Rec.new' _ _ _ _ (by simp))
  have ER:Hid (Rec W9 (w.heap.size+1+1+1) 160 [.slice (some ⟨w4.heap.size,0,none⟩) 3 3,.slice none 0 0]):=by subst hW9;exact(((E4.out.set 0 _).set 1 _).alloc _)
  have BR:Hid (Below w.heap.size w W9):=by subst hW9;exact(((B4.out.setCell (by show w.heap.size≤w.heap.size+1+1+1;omega) _).setCell (by show w.heap.size≤w.heap.size+1+1+1;omega) _).alloc (by simp<;>omega) _)
  subst hW9
  go_wp2_with fail
  exact bodyPost_ret (results_ct rfl rfl ER.out Tryz.underlying160 rfl (by kernel_rfl)) rfl ⟨_,_,_,_,rfl,rec_fields NRt22.out (by omega) NRt22.out.lt,.inl rfl,BR.out⟩
 ·go_enter Tryz.func156,Tryz.ntmps156
  go_upto_region 1 with(fail)
  rw[←hw1]
  clear hw1
  go_wp2_with (refine wpList_load_rec rfl 94 _ rfl w.heap.size 94 vs _ rfl S1.out.v Tryz.underlying94 rfl hsz ?_)
  refine HC.out.mono ?_
  rintro e w2 ⟨rfl,b2⟩
  have c2:=b2.trans ((Below.refl w2.heap.size w2).alloc (Nat.le_refl _) (.cells #[.int .i64 fk,.int .i64 fo,.bool fm] 68) |>.mono b2.size)
  have hx:w.heap.size+1+1+1<w2.heap.size:=Nat.lt_of_lt_of_le E1.out.lt b2.size
  have S2:Hid (SBX w.heap.size w2.heap.size 68 vs [.int .i64 op,.int .i64 a,.int .i64 b] [.int .i64 tk,.int .i64 to,.bool tm] [.int .i64 fk,.int .i64 fo,.bool fm] (w2.alloc (.cells #[.int .i64 fk,.int .i64 fo,.bool fm] 68))):=⟨S1.out.v.below c2 S1.out.v.lt,S1.out.i.below c2 S1.out.i.lt,S1.out.t.below c2 S1.out.t.lt,Rec.new _ _ _,hx⟩
  have E2:=hide (E1.out.below c2 E1.out.lt)
  have B2:=hide (B1.out.trans (c2.mono B1.out.size))
  clear b2 c2 i0 i1 i2 S1 E1 B1 HC
  go_upto_region 2 with(fail)
  generalize w2.alloc (.cells #[.int .i64 fk,.int .i64 fo,.bool fm] 68)=w1 at *
  generalize w2.heap.size=bx at *
  have Bd:=hide B2.out.drew
  have Ed:=hide E2.out.drew'
  have SLd:=hide S2.out.drew
  have hld:=Ed.out.lt
  refine beginA (S:=SBX w.heap.size bx 68 vs [.int .i64 op,.int .i64 a,.int .i64 b] [.int .i64 tk,.int .i64 to,.bool tm] [.int .i64 fk,.int .i64 fo,.bool fm]) 14 (by kernel_rfl) SLd.out (fun hHeld=>?_)
  try simp only[Act.put,lA,lB,lC]
  refine tA 0 (v:=?v0n45) ?y0n45 ?r0n45
  case y0n45=>(intro w _;go_simp;try with_reducible rfl)
  (try simp only[Act.put,lA,lB,lC])
  refine tA 1 (v:=?v1n46) ?y1n46 ?r1n46
  case y1n46=>(intro w hSw;have si1:=hSw.i.cell (o:=1) rfl;have sx0:=hSw.x.cell (o:=0) rfl;have sx1:=hSw.x.cell (o:=1) rfl;have sx2:=hSw.x.cell (o:=2) rfl;clear hSw;go_simp;try with_reducible rfl)
  (try simp only[Act.put,lA,lB,lC])
  refine tA 4 (v:=?v4n47) ?y4n47 ?r4n47
  case y4n47=>(intro w hSw;have si1:=hSw.i.cell (o:=1) rfl;have sx0:=hSw.x.cell (o:=0) rfl;have sx1:=hSw.x.cell (o:=1) rfl;have sx2:=hSw.x.cell (o:=2) rfl;clear hSw;go_simp;try with_reducible rfl)
  (try simp only[Act.put,lA,lB,lC])
  refine tA 8 (v:=?v8n48) ?y8n48 ?r8n48
  case y8n48=>(intro w _;go_simp;try with_reducible rfl)
  (try simp only[Act.put,lA,lB,lC])
  refine oA 2 (fun K hK=>?_)
  go_simp
  (go_at_call 184;refine(sortRef_any a _).mono ?_;rintro e w2 ⟨rfl,b2⟩)
  have C2:=Bd.out
  have B2:=hide (C2.trans (b2.mono C2.size))
  have X2:=Ed.out
  have E2:=hide (X2.below b2 X2.lt)
  have hl2:=E2.out.lt
  have HH:=hHeld.below b2
  have SL2:=hide HH
  clear b2 C2 X2
  refine hK.out _ _ HH (fun hHeld=>?_)
  clear hK K HH
  (try simp only[Act.put,lA,lB,lC])
  refine oA 3 (fun K hK=>?_)
  go_simp
  (go_at_call 181;refine(sortNum_any _).mono ?_;rintro e w3 ⟨rfl,b3⟩)
  have C3:=B2.out
  have B3:=hide (C3.trans (b3.mono C3.size))
  have X3:=E2.out
  have E3:=hide (X3.below b3 X3.lt)
  have hl3:=E3.out.lt
  have HH:=hHeld.below b3
  have SL3:=hide HH
  clear b3 C3 X3
  refine hK.out _ _ HH (fun hHeld=>?_)
  clear hK K HH
  (try simp only[Act.put,lA,lB,lC])
  refine oA 5 (fun K hK=>?_)
  go_simp
  (go_at_call 189;refine(sortOf_any fk fo fm _).mono ?_;rintro e w4 ⟨rfl,b4⟩)
  have C4:=B3.out
  have B4:=hide (C4.trans (b4.mono C4.size))
  have X4:=E3.out
  have E4:=hide (X4.below b4 X4.lt)
  have hl4:=E4.out.lt
  have HH:=hHeld.below b4
  have SL4:=hide HH
  clear b4 C4 X4
  refine hK.out _ _ HH (fun hHeld=>?_)
  clear hK K HH
  (try simp only[Act.put,lA,lB,lC])
  refine tA 9 (v:=?v9n49) ?y9n49 ?r9n49
  case y9n49=>(intro w _;go_simp;try with_reducible rfl)
  (try simp only[Act.put,lA,lB,lC])
  refine tA 10 (v:=?v10n50) ?y10n50 ?r10n50
  case y10n50=>(intro w _;go_simp;try with_reducible rfl)
  (try simp only[Act.put,lA,lB,lC])
  refine tA 11 (v:=?v11n51) ?y11n51 ?r11n51
  case y11n51=>(intro w hSw;have si1:=hSw.i.cell (o:=1) rfl;have sx0:=hSw.x.cell (o:=0) rfl;have sx1:=hSw.x.cell (o:=1) rfl;have sx2:=hSw.x.cell (o:=2) rfl;clear hSw;go_simp;try with_reducible rfl)
  (try simp only[Act.put,lA,lB,lC])
  refine tA 12 (v:=?v12n52) ?y12n52 ?r12n52
  case y12n52=>(intro w _;go_simp;try with_reducible rfl)
  (try simp only[Act.put,lA,lB,lC])
  refine oA 6 (fun K hK=>?_)
  go_simp
  refine hK.out _ _ (hHeld.alloc (.cells #[.int .i64 2,.int .i64 a,.bool false,.int .i64 1,.int .i64 0,.bool false,.int .i64 fk,.int .i64 fo,.bool false] 68)) (fun hHeld=>?_)
  clear hK K
  (try simp only[Act.put,lA,lB,lC])
  refine tA 7 (v:=?v7n53) ?y7n53 ?r7n53
  case y7n53=>(intro w _;go_simp;try with_reducible rfl)
  (try simp only[Act.put,lA,lB,lC])
  refine oA 13 (fun K hK=>?_)
  have e0:=E4.out.cell (o:=0) rfl
  have e1:=E4.out.cell (o:=1) rfl
  have f0:=E4.out.frozen 0
  have f1:=E4.out.frozen 1
  have hlt:=E4.out.lt
  have sw:=B4.out.size
  go_simp
  refine hK.out _ _ ?_ (fun hHeld=>?_)
  ·first|exact((SL4.out.eff _ _).alloc _)|exact(((SL4.out.eff _ _).alloc _)).drew|exact(hHeld.eff _ _)
  clear hK K e0 e1 f0 f1
  (try simp only[Act.put,lA,lB,lC])
  refine eA 14 (fun K hK=>?_)
  go_simp
  refine hK.out _ _ ?_
  clear hK K
  (try simp only[Act.put,lA,lB,lC])
  refine doneA (by kernel_rfl) ?_ _
  obtain⟨W9,hW9⟩:∃x,x=(((w4.setCell ⟨w.heap.size+1+1+1,0,none⟩ (.slice (some ⟨w4.heap.size,0,none⟩) 3 3)).setCell ⟨w.heap.size+1+1+1,1,none⟩ (.slice none 0 0)).alloc (.cells #[.int .i64 2,.int .i64 a,.bool false,.int .i64 1,.int .i64 0,.bool false,.int .i64 fk,.int .i64 fo,.bool false] 68)):=⟨_,rfl⟩
  have NRt22:Hid (Rec W9 (w4.heap.size) 68 (fcells [⟨2,a,false⟩,⟨1,0,false⟩,⟨fk,fo,false⟩])):=by subst hW9;exact(show Rec _ (w4.heap.size) 68 (fcells [⟨2,a,false⟩,⟨1,0,false⟩,⟨fk,fo,false⟩]) by rw[fcells_l3];exact Rec.new' _ _ _ _ (by simp))
  have ER:Hid (Rec W9 (w.heap.size+1+1+1) 160 [.slice (some ⟨w4.heap.size,0,none⟩) 3 3,.slice none 0 0]):=by subst hW9;exact(((E4.out.set 0 _).set 1 _).alloc _)
  have BR:Hid (Below w.heap.size w W9):=by subst hW9;exact(((B4.out.setCell (by show w.heap.size≤w.heap.size+1+1+1;omega) _).setCell (by show w.heap.size≤w.heap.size+1+1+1;omega) _).alloc (by simp<;>omega) _)
  subst hW9
  go_wp2_with fail
  exact bodyPost_ret (results_ct rfl rfl ER.out Tryz.underlying160 rfl (by kernel_rfl)) rfl ⟨_,_,_,_,rfl,rec_fields NRt22.out (by omega) NRt22.out.lt,.inl rfl,BR.out⟩
end Go.Proofs.YtpaneomkphjpcaaGreatDoor
