/- What an instruction of a box takes and gives, as the model tells it. Written by tools/made/ckneed5.py. -/
import Derived.Test.YtpaneomkphjpcaaGreatDoorPcReg
import Derived.Test.YtpaneomkphjpcaaGreatDoorPcN3
import Derived.Test.YtpaneomkphjpcaaGreatDoorCkRule8
namespace Go.Proofs.YtpaneomkphjpcaaGreatDoor
open Go.ChangeShapes Go.WideShapes Go.ChangeAt Go.RowKit
set_option linter.unusedVariables false
set_option linter.unusedSimpArgs false
structure ST (b:Nat) (tv iv:List Value) (w':World):Prop where
 t:Rec w' b 143 tv
 i:Rec w' (b+1) 40 iv
theorem ST.below {b:Nat} {tv iv:List Value} {w w':World} (h:ST b tv iv w) (hb:Below w.heap.size w w'):ST b tv iv w':=⟨h.t.below hb h.t.lt,h.i.below hb h.i.lt⟩
theorem ST.drew {b:Nat} {tv iv:List Value} {w:World} (h:ST b tv iv w):ST b tv iv w.drew:=⟨h.t,h.i⟩
structure SU (b fb q:Nat) (tv iv:List Value) (f:Fd) (w':World):Prop where
 t:Rec w' b 143 tv
 i:Rec w' (b+1) 40 iv
 f0:w'.cell? ⟨fb,q,none⟩=some (.int .i64 f.kind)
 f1:w'.cell? ⟨fb,q+1,none⟩=some (.int .i64 f.of)
 f2:w'.cell? ⟨fb,q+2,none⟩=some (.bool f.mt)
 lt:fb<b
theorem SU.below {b fb q:Nat} {tv iv:List Value} {f:Fd} {w w':World} (h:SU b fb q tv iv f w) (hb:Below w.heap.size w w'):SU b fb q tv iv f w' :=
 have hl:=Nat.lt_trans h.lt h.t.lt
 ⟨h.t.below hb h.t.lt,h.i.below hb h.i.lt,(hb.cell (p:=⟨fb,q,none⟩) hl).trans h.f0,(hb.cell (p:=⟨fb,q+1,none⟩) hl).trans h.f1,(hb.cell (p:=⟨fb,q+2,none⟩) hl).trans h.f2,h.lt⟩
theorem SU.drew {b fb q:Nat} {tv iv:List Value} {f:Fd} {w:World} (h:SU b fb q tv iv f w):SU b fb q tv iv f w.drew:=⟨h.t,h.i,h.f0,h.f1,h.f2,h.lt⟩
set_option maxHeartbeats 40000000 in
set_option maxRecDepth 100000 in
theorem l4Box_new (tu:Int) (tl:Bool) (fa:Option Addr) (fc lo hi:Nat) (fs:List Fd) (a y:Int) (w:World) (hx:FieldsIn w lo hi fa fs) (hh:hi≤w.heap.size) (hn:fs.length≤1000) :
  Calls Tryz.prog 120 #[.agg #[.int .i64 1,.int .i64 tu,.bool tl,.slice fa fs.length fc],.agg #[.int .i64 13,.int .i64 a,.int .i64 y]] w fun e w'=>NeedPost w (fs.map sOf) [⟨3,a,false⟩] true e w':=by
 have HX:=hide hx
 clear hx
 obtain⟨w0,hw1⟩:∃w1,w1=(((w.alloc (.cells #[.int .i64 1,.int .i64 tu,.bool tl,.slice fa fs.length fc] 143)).alloc (.cells #[.int .i64 13,.int .i64 a,.int .i64 y] 40)).alloc (.cells #[.slice none 0 0,.slice none 0 0,.bool false] 115)):=⟨_,rfl⟩
 have B0:Hid (Below w.heap.size w w0):=by show Below _ _ _;rw[hw1];exact(((Below.refl _ _).alloc (Nat.le_refl _) _).alloc (by simp) _).alloc (by simp;omega) _
 have E0:Hid (Rec w0 (w.heap.size+1+1) 115 [.slice none 0 0,.slice none 0 0,.bool false]):=by show Rec _ _ _ _;rw[hw1];exact Rec.new' _ _ _ _ (by simp)
 have II:Hid (Rec w0 (w.heap.size+1) 40 [.int .i64 13,.int .i64 a,.int .i64 y]):=by show Rec _ _ _ _;rw[hw1];exact(Rec.new' _ _ _ _ (by simp)).alloc _
 have TT:Hid (Rec w0 w.heap.size 143 [.int .i64 1,.int .i64 tu,.bool tl,.slice fa fs.length fc]):=by show Rec _ _ _ _;rw[hw1];exact((Rec.new _ _ _).alloc _).alloc _
 have S0:Hid (ST w.heap.size [.int .i64 1,.int .i64 tu,.bool tl,.slice fa fs.length fc] [.int .i64 13,.int .i64 a,.int .i64 y] w0):=⟨TT.out,II.out⟩
 have t0:=TT.out.cell (o:=0) rfl
 have i0:=II.out.cell (o:=0) rfl
 clear II TT
 go_enter Tryz.func120,Tryz.ntmps120
 go_upto_region 1 with(fail)
 rw[←hw1]
 clear hw1
 go_upto_region 5 with(fail)
 clear t0 i0
 have Bd:=hide B0.out.drew
 have Ed:=hide (Rec.drew' E0.out)
 have SLd:=hide S0.out.drew
 refine beginA (S:=ST w.heap.size [.int .i64 1,.int .i64 tu,.bool tl,.slice fa fs.length fc] [.int .i64 13,.int .i64 a,.int .i64 y]) 7 (by kernel_rfl) SLd.out (fun hHeld=>?_)
 (try simp only[Act.put,lA,lB,lC])
 refine tA 0 (v:=?v0n1) ?y0n1 ?r0n1
 case y0n1=>(intro w hSw;have st0:=hSw.t.cell (o:=0) rfl;have st1:=hSw.t.cell (o:=1) rfl;have st2:=hSw.t.cell (o:=2) rfl;have st3:=hSw.t.cell (o:=3) rfl;have si0:=hSw.i.cell (o:=0) rfl;have si1:=hSw.i.cell (o:=1) rfl;have si2:=hSw.i.cell (o:=2) rfl;go_simp;try with_reducible rfl)
 (try simp only[Act.put,lA,lB,lC])
 refine tA 2 (v:=?v2n2) ?y2n2 ?r2n2
 case y2n2=>(intro w _;go_simp;try with_reducible rfl)
 (try simp only[Act.put,lA,lB,lC])
 refine tA 3 (v:=?v3n3) ?y3n3 ?r3n3
 case y3n3=>(intro w hSw;have st0:=hSw.t.cell (o:=0) rfl;have st1:=hSw.t.cell (o:=1) rfl;have st2:=hSw.t.cell (o:=2) rfl;have st3:=hSw.t.cell (o:=3) rfl;have si0:=hSw.i.cell (o:=0) rfl;have si1:=hSw.i.cell (o:=1) rfl;have si2:=hSw.i.cell (o:=2) rfl;go_simp;try with_reducible rfl)
 (try simp only[Act.put,lA,lB,lC])
 refine oA 1 (fun K hK=>?_)
 go_simp
 (go_at_call 172;refine(l4Fields_any 1 tu tl fa fc lo hi fs _ (HX.out.keepB (Bd.out.mono hh)) (Nat.le_trans hh Bd.out.size) hn).mono ?_;rintro e w1 ⟨A1,C1,rfl,R1,b1⟩)
 have B1:=hide (Bd.out.trans (b1.mono Bd.out.size))
 have E1:=hide (Ed.out.below b1 Ed.out.lt)
 have N1t27:=hide ((FdRow.ownN R1 (by simp)).1.wid Bd.out.size (Nat.le_refl _))
 have HH:=hHeld.below b1
 have SL1:=hide HH
 clear b1 R1
 refine hK.out _ _ HH (fun hHeld=>?_)
 clear hK K HH
 (try simp only[Act.put,lA,lB,lC])
 refine oA 4 (fun K hK=>?_)
 go_simp
 (go_at_call 92;refine(l4Sure_any a _).mono ?_;rintro e w2 ⟨rfl,b2⟩)
 have B2:=hide (B1.out.trans (b2.mono B1.out.size))
 have E2:=hide (E1.out.below b2 E1.out.lt)
 have N2t27:=hide ((N1t27.out.keepB b2).wid (Nat.le_refl _) b2.size)
 have HH:=hHeld.below b2
 have SL2:=hide HH
 clear b2
 refine hK.out _ _ HH (fun hHeld=>?_)
 clear hK K HH
 (try simp only[Act.put,lA,lB,lC])
 refine oA 5 (fun K hK=>?_)
 go_simp
 (go_at_call 90;refine(l4One_any 3 a false _).mono ?_;rintro e w3 ⟨r3,rfl,hr3,R3,b3⟩)
 have B3:=hide (B2.out.trans (b3.mono B2.out.size))
 have E3:=hide (E2.out.below b3 E2.out.lt)
 have N3t27:=hide ((N2t27.out.keepB b3).wid (Nat.le_refl _) b3.size)
 have N3t31:=hide R3
 have lr3:w.heap.size+1+1<r3:=by have h8:=E2.out.lt;have h9:=hr3;first|omega|(simp at h8 h9;omega)|(simp at h9;omega)|(simp at h8;omega)
 have HH:=hHeld.below b3
 have SL3:=hide HH
 clear b3 R3 hr3
 refine hK.out _ _ HH (fun hHeld=>?_)
 clear hK K HH
 (try simp only[Act.put,lA,lB,lC])
 refine tA 6 (v:=?v6n4) ?y6n4 ?r6n4
 case y6n4=>(intro w _;go_simp;try with_reducible rfl)
 (try simp only[Act.put,lA,lB,lC])
 refine eA 7 (fun K hK=>?_)
 have e0:=E3.out.cell (o:=0) rfl
 have e1:=E3.out.cell (o:=1) rfl
 have e2:=E3.out.cell (o:=2) rfl
 have f0:=E3.out.frozen 0
 have f1:=E3.out.frozen 1
 have f2:=E3.out.frozen 2
 have hlt:=E3.out.lt
 have sw:=B3.out.size
 go_simp
 refine hK.out _ _ ?_
 clear hK K
 (try simp only[Act.put,lA,lB,lC])
 refine doneA (by kernel_rfl) ?_ _
 go_wp2_with fail
 exact need_done E3.out B3.out (by show w.heap.size≤w.heap.size+1+1;omega) (need_lst N3t27.out E3.out) (need_row N3t31.out (by omega) (by omega)) rfl rfl rfl
set_option maxHeartbeats 40000000 in
set_option maxRecDepth 100000 in
theorem l4Box_look (tu:Int) (tl:Bool) (fb off fc z n:Nat) (f:Fd) (a:Int) (w:World) (hz:z<n) (hf:fb<w.heap.size) (hfd:FieldAt w fb (off+z*3) f) :
  Calls Tryz.prog 120 #[.agg #[.int .i64 1,.int .i64 tu,.bool tl,.slice (some ⟨fb,off,none⟩) n fc],.agg #[.int .i64 14,.int .i64 a,.int .i64 (z:Int)]] w fun e w'=>NeedPost w [⟨2,a,false⟩] [⟨f.kind,f.of,false⟩] true e w':=by
 obtain⟨f0,f1,f2⟩:=hfd
 obtain⟨w0,hw1⟩:∃w1,w1=(((w.alloc (.cells #[.int .i64 1,.int .i64 tu,.bool tl,.slice (some ⟨fb,off,none⟩) n fc] 143)).alloc (.cells #[.int .i64 14,.int .i64 a,.int .i64 (z:Int)] 40)).alloc (.cells #[.slice none 0 0,.slice none 0 0,.bool false] 115)):=⟨_,rfl⟩
 have B0:Hid (Below w.heap.size w w0):=by show Below _ _ _;rw[hw1];exact(((Below.refl _ _).alloc (Nat.le_refl _) _).alloc (by simp) _).alloc (by simp;omega) _
 have E0:Hid (Rec w0 (w.heap.size+1+1) 115 [.slice none 0 0,.slice none 0 0,.bool false]):=by show Rec _ _ _ _;rw[hw1];exact Rec.new' _ _ _ _ (by simp)
 have II:Hid (Rec w0 (w.heap.size+1) 40 [.int .i64 14,.int .i64 a,.int .i64 (z:Int)]):=by show Rec _ _ _ _;rw[hw1];exact(Rec.new' _ _ _ _ (by simp)).alloc _
 have TT:Hid (Rec w0 w.heap.size 143 [.int .i64 1,.int .i64 tu,.bool tl,.slice (some ⟨fb,off,none⟩) n fc]):=by show Rec _ _ _ _;rw[hw1];exact((Rec.new _ _ _).alloc _).alloc _
 have k0:=(B0.out.cell (p:=⟨fb,off+z*3,none⟩) hf).trans f0
 have k1:=(B0.out.cell (p:=⟨fb,off+z*3+1,none⟩) hf).trans f1
 have k2:=(B0.out.cell (p:=⟨fb,off+z*3+2,none⟩) hf).trans f2
 clear f0 f1 f2
 obtain⟨fk,fo,fm⟩:=f
 simp only at k0 k1 k2 ⊢
 have S0:Hid (SU w.heap.size fb (off+z*3) [.int .i64 1,.int .i64 tu,.bool tl,.slice (some ⟨fb,off,none⟩) n fc] [.int .i64 14,.int .i64 a,.int .i64 (z:Int)] ⟨fk,fo,fm⟩ w0):=⟨TT.out,II.out,k0,k1,k2,hf⟩
 have t0:=TT.out.cell (o:=0) rfl
 have t3:=TT.out.cell (o:=3) rfl
 have i0:=II.out.cell (o:=0) rfl
 have i2:=II.out.cell (o:=2) rfl
 have j1:(z:Int)<(n:Int):=by omega
 have j2:¬(n:Int)≤(z:Int):=by omega
 have j3:(0:Int)≤(z:Int):=by omega
 clear II TT k0 k1 k2
 go_enter Tryz.func120,Tryz.ntmps120
 go_upto_region 1 with(fail)
 rw[←hw1]
 clear hw1
 go_upto_region 7 with(fail)
 clear t0 t3 i0 i2
 have Bd:=hide B0.out.drew
 have Ed:=hide (Rec.drew' E0.out)
 have SLd:=hide S0.out.drew
 refine beginA (S:=SU w.heap.size fb (off+z*3) [.int .i64 1,.int .i64 tu,.bool tl,.slice (some ⟨fb,off,none⟩) n fc] [.int .i64 14,.int .i64 a,.int .i64 (z:Int)] ⟨fk,fo,fm⟩) 13 (by kernel_rfl) SLd.out (fun hHeld=>?_)
 (try simp only[Act.put,lA,lB,lC])
 refine tA 0 (v:=?v0n5) ?y0n5 ?r0n5
 case y0n5=>(intro w _;go_simp;try with_reducible rfl)
 (try simp only[Act.put,lA,lB,lC])
 refine tA 1 (v:=?v1n6) ?y1n6 ?r1n6
 case y1n6=>(intro w hSw;have st0:=hSw.t.cell (o:=0) rfl;have st1:=hSw.t.cell (o:=1) rfl;have st2:=hSw.t.cell (o:=2) rfl;have st3:=hSw.t.cell (o:=3) rfl;have si0:=hSw.i.cell (o:=0) rfl;have si1:=hSw.i.cell (o:=1) rfl;have si2:=hSw.i.cell (o:=2) rfl;have sf0:=hSw.f0;have sf1:=hSw.f1;have sf2:=hSw.f2;go_simp;try with_reducible rfl)
 (try simp only[Act.put,lA,lB,lC])
 refine tA 4 (v:=?v4n7) ?y4n7 ?r4n7
 case y4n7=>(intro w _;go_simp;try with_reducible rfl)
 (try simp only[Act.put,lA,lB,lC])
 refine tA 5 (v:=?v5n8) ?y5n8 ?r5n8
 case y5n8=>(intro w hSw;have st0:=hSw.t.cell (o:=0) rfl;have st1:=hSw.t.cell (o:=1) rfl;have st2:=hSw.t.cell (o:=2) rfl;have st3:=hSw.t.cell (o:=3) rfl;have si0:=hSw.i.cell (o:=0) rfl;have si1:=hSw.i.cell (o:=1) rfl;have si2:=hSw.i.cell (o:=2) rfl;have sf0:=hSw.f0;have sf1:=hSw.f1;have sf2:=hSw.f2;go_simp;try with_reducible rfl)
 (try simp only[Act.put,lA,lB,lC])
 refine tA 6 (v:=?v6n9) ?y6n9 ?r6n9
 case y6n9=>(intro w _;go_simp;try with_reducible rfl)
 (try simp only[Act.put,lA,lB,lC])
 refine tA 7 (v:=?v7n10) ?y7n10 ?r7n10
 case y7n10=>(intro w hSw;have st0:=hSw.t.cell (o:=0) rfl;have st1:=hSw.t.cell (o:=1) rfl;have st2:=hSw.t.cell (o:=2) rfl;have st3:=hSw.t.cell (o:=3) rfl;have si0:=hSw.i.cell (o:=0) rfl;have si1:=hSw.i.cell (o:=1) rfl;have si2:=hSw.i.cell (o:=2) rfl;have sf0:=hSw.f0;have sf1:=hSw.f1;have sf2:=hSw.f2;go_simp;try with_reducible rfl)
 (try simp only[Act.put,lA,lB,lC])
 refine tA 8 (v:=?v8n11) ?y8n11 ?r8n11
 case y8n11=>(intro w _;go_simp;try with_reducible rfl)
 (try simp only[Act.put,lA,lB,lC])
 refine tA 9 (v:=?v9n12) ?y9n12 ?r9n12
 case y9n12=>(intro w hSw;have st0:=hSw.t.cell (o:=0) rfl;have st1:=hSw.t.cell (o:=1) rfl;have st2:=hSw.t.cell (o:=2) rfl;have st3:=hSw.t.cell (o:=3) rfl;have si0:=hSw.i.cell (o:=0) rfl;have si1:=hSw.i.cell (o:=1) rfl;have si2:=hSw.i.cell (o:=2) rfl;have sf0:=hSw.f0;have sf1:=hSw.f1;have sf2:=hSw.f2;go_simp;try with_reducible rfl)
 (try simp only[Act.put,lA,lB,lC])
 refine oA 2 (fun K hK=>?_)
 go_simp
 (go_at_call 86;refine(l4Ref_any a _).mono ?_;rintro e w4 ⟨rfl,b4⟩)
 have B4:=hide (Bd.out.trans (b4.mono Bd.out.size))
 have E4:=hide (Ed.out.below b4 Ed.out.lt)
 have HH:=hHeld.below b4
 have SL4:=hide HH
 clear b4
 refine hK.out _ _ HH (fun hHeld=>?_)
 clear hK K HH
 (try simp only[Act.put,lA,lB,lC])
 refine oA 3 (fun K hK=>?_)
 go_simp
 (go_at_call 90;refine(l4One_any 2 a false _).mono ?_;rintro e w5 ⟨r5,rfl,hr5,R5,b5⟩)
 have B5:=hide (B4.out.trans (b5.mono B4.out.size))
 have E5:=hide (E4.out.below b5 E4.out.lt)
 have N5t38:=hide R5
 have lr5:w.heap.size+1+1<r5:=by have h8:=E4.out.lt;have h9:=hr5;first|omega|(simp at h8 h9;omega)|(simp at h9;omega)|(simp at h8;omega)
 have HH:=hHeld.below b5
 have SL5:=hide HH
 clear b5 R5 hr5
 refine hK.out _ _ HH (fun hHeld=>?_)
 clear hK K HH
 (try simp only[Act.put,lA,lB,lC])
 refine oA 10 (fun K hK=>?_)
 go_simp
 (go_at_call 173;refine(l4Of_any fk fo fm _).mono ?_;rintro e w6 ⟨rfl,b6⟩)
 have B6:=hide (B5.out.trans (b6.mono B5.out.size))
 have E6:=hide (E5.out.below b6 E5.out.lt)
 have N6t38:=hide (N5t38.out.below b6 N5t38.out.lt)
 have HH:=hHeld.below b6
 have SL6:=hide HH
 clear b6
 refine hK.out _ _ HH (fun hHeld=>?_)
 clear hK K HH
 (try simp only[Act.put,lA,lB,lC])
 refine oA 11 (fun K hK=>?_)
 go_simp
 (go_at_call 90;refine(l4One_any fk fo false _).mono ?_;rintro e w7 ⟨r7,rfl,hr7,R7,b7⟩)
 have B7:=hide (B6.out.trans (b7.mono B6.out.size))
 have E7:=hide (E6.out.below b7 E6.out.lt)
 have N7t38:=hide (N6t38.out.below b7 N6t38.out.lt)
 have N7t46:=hide R7
 have lr7:w.heap.size+1+1<r7:=by have h8:=E6.out.lt;have h9:=hr7;first|omega|(simp at h8 h9;omega)|(simp at h9;omega)|(simp at h8;omega)
 have HH:=hHeld.below b7
 have SL7:=hide HH
 clear b7 R7 hr7
 refine hK.out _ _ HH (fun hHeld=>?_)
 clear hK K HH
 (try simp only[Act.put,lA,lB,lC])
 refine tA 12 (v:=?v12n13) ?y12n13 ?r12n13
 case y12n13=>(intro w _;go_simp;try with_reducible rfl)
 (try simp only[Act.put,lA,lB,lC])
 refine eA 13 (fun K hK=>?_)
 have e0:=E7.out.cell (o:=0) rfl
 have e1:=E7.out.cell (o:=1) rfl
 have e2:=E7.out.cell (o:=2) rfl
 have f0:=E7.out.frozen 0
 have f1:=E7.out.frozen 1
 have f2:=E7.out.frozen 2
 have hlt:=E7.out.lt
 have sw:=B7.out.size
 go_simp
 refine hK.out _ _ ?_
 clear hK K
 (try simp only[Act.put,lA,lB,lC])
 refine doneA (by kernel_rfl) ?_ _
 go_wp2_with fail
 exact need_done E7.out B7.out (by show w.heap.size≤w.heap.size+1+1;omega) (need_row N7t38.out (by omega) (by omega)) (need_row N7t46.out (by omega) (by omega)) rfl rfl rfl
set_option maxHeartbeats 40000000 in
set_option maxRecDepth 100000 in
theorem l4Box_put (tu:Int) (tl:Bool) (fb off fc z n:Nat) (f:Fd) (a:Int) (w:World) (hz:z<n) (hf:fb<w.heap.size) (hfd:FieldAt w fb (off+z*3) f) :
  Calls Tryz.prog 120 #[.agg #[.int .i64 1,.int .i64 tu,.bool tl,.slice (some ⟨fb,off,none⟩) n fc],.agg #[.int .i64 15,.int .i64 a,.int .i64 (z:Int)]] w fun e w'=>NeedPost w [⟨2,a,false⟩,⟨f.kind,f.of,false⟩] [] f.mt e w':=by
 obtain⟨f0,f1,f2⟩:=hfd
 obtain⟨w0,hw1⟩:∃w1,w1=(((w.alloc (.cells #[.int .i64 1,.int .i64 tu,.bool tl,.slice (some ⟨fb,off,none⟩) n fc] 143)).alloc (.cells #[.int .i64 15,.int .i64 a,.int .i64 (z:Int)] 40)).alloc (.cells #[.slice none 0 0,.slice none 0 0,.bool false] 115)):=⟨_,rfl⟩
 have B0:Hid (Below w.heap.size w w0):=by show Below _ _ _;rw[hw1];exact(((Below.refl _ _).alloc (Nat.le_refl _) _).alloc (by simp) _).alloc (by simp;omega) _
 have E0:Hid (Rec w0 (w.heap.size+1+1) 115 [.slice none 0 0,.slice none 0 0,.bool false]):=by show Rec _ _ _ _;rw[hw1];exact Rec.new' _ _ _ _ (by simp)
 have II:Hid (Rec w0 (w.heap.size+1) 40 [.int .i64 15,.int .i64 a,.int .i64 (z:Int)]):=by show Rec _ _ _ _;rw[hw1];exact(Rec.new' _ _ _ _ (by simp)).alloc _
 have TT:Hid (Rec w0 w.heap.size 143 [.int .i64 1,.int .i64 tu,.bool tl,.slice (some ⟨fb,off,none⟩) n fc]):=by show Rec _ _ _ _;rw[hw1];exact((Rec.new _ _ _).alloc _).alloc _
 have k0:=(B0.out.cell (p:=⟨fb,off+z*3,none⟩) hf).trans f0
 have k1:=(B0.out.cell (p:=⟨fb,off+z*3+1,none⟩) hf).trans f1
 have k2:=(B0.out.cell (p:=⟨fb,off+z*3+2,none⟩) hf).trans f2
 clear f0 f1 f2
 obtain⟨fk,fo,fm⟩:=f
 simp only at k0 k1 k2 ⊢
 have S0:Hid (SU w.heap.size fb (off+z*3) [.int .i64 1,.int .i64 tu,.bool tl,.slice (some ⟨fb,off,none⟩) n fc] [.int .i64 15,.int .i64 a,.int .i64 (z:Int)] ⟨fk,fo,fm⟩ w0):=⟨TT.out,II.out,k0,k1,k2,hf⟩
 have t0:=TT.out.cell (o:=0) rfl
 have t3:=TT.out.cell (o:=3) rfl
 have i0:=II.out.cell (o:=0) rfl
 have i2:=II.out.cell (o:=2) rfl
 have j1:(z:Int)<(n:Int):=by omega
 have j2:¬(n:Int)≤(z:Int):=by omega
 have j3:(0:Int)≤(z:Int):=by omega
 clear II TT k0 k1 k2
 go_enter Tryz.func120,Tryz.ntmps120
 go_upto_region 1 with(fail)
 rw[←hw1]
 clear hw1
 go_upto_region 8 with(fail)
 clear t0 t3 i0 i2
 have Bd:=hide B0.out.drew
 have Ed:=hide (Rec.drew' E0.out)
 have SLd:=hide S0.out.drew
 refine beginA (S:=SU w.heap.size fb (off+z*3) [.int .i64 1,.int .i64 tu,.bool tl,.slice (some ⟨fb,off,none⟩) n fc] [.int .i64 15,.int .i64 a,.int .i64 (z:Int)] ⟨fk,fo,fm⟩) 19 (by kernel_rfl) SLd.out (fun hHeld=>?_)
 (try simp only[Act.put,lA,lB,lC])
 refine tA 0 (v:=?v0n14) ?y0n14 ?r0n14
 case y0n14=>(intro w _;go_simp;try with_reducible rfl)
 (try simp only[Act.put,lA,lB,lC])
 refine tA 1 (v:=?v1n15) ?y1n15 ?r1n15
 case y1n15=>(intro w hSw;have st0:=hSw.t.cell (o:=0) rfl;have st1:=hSw.t.cell (o:=1) rfl;have st2:=hSw.t.cell (o:=2) rfl;have st3:=hSw.t.cell (o:=3) rfl;have si0:=hSw.i.cell (o:=0) rfl;have si1:=hSw.i.cell (o:=1) rfl;have si2:=hSw.i.cell (o:=2) rfl;have sf0:=hSw.f0;have sf1:=hSw.f1;have sf2:=hSw.f2;go_simp;try with_reducible rfl)
 (try simp only[Act.put,lA,lB,lC])
 refine tA 3 (v:=?v3n16) ?y3n16 ?r3n16
 case y3n16=>(intro w _;go_simp;try with_reducible rfl)
 (try simp only[Act.put,lA,lB,lC])
 refine tA 4 (v:=?v4n17) ?y4n17 ?r4n17
 case y4n17=>(intro w hSw;have st0:=hSw.t.cell (o:=0) rfl;have st1:=hSw.t.cell (o:=1) rfl;have st2:=hSw.t.cell (o:=2) rfl;have st3:=hSw.t.cell (o:=3) rfl;have si0:=hSw.i.cell (o:=0) rfl;have si1:=hSw.i.cell (o:=1) rfl;have si2:=hSw.i.cell (o:=2) rfl;have sf0:=hSw.f0;have sf1:=hSw.f1;have sf2:=hSw.f2;go_simp;try with_reducible rfl)
 (try simp only[Act.put,lA,lB,lC])
 refine tA 5 (v:=?v5n18) ?y5n18 ?r5n18
 case y5n18=>(intro w _;go_simp;try with_reducible rfl)
 (try simp only[Act.put,lA,lB,lC])
 refine tA 6 (v:=?v6n19) ?y6n19 ?r6n19
 case y6n19=>(intro w hSw;have st0:=hSw.t.cell (o:=0) rfl;have st1:=hSw.t.cell (o:=1) rfl;have st2:=hSw.t.cell (o:=2) rfl;have st3:=hSw.t.cell (o:=3) rfl;have si0:=hSw.i.cell (o:=0) rfl;have si1:=hSw.i.cell (o:=1) rfl;have si2:=hSw.i.cell (o:=2) rfl;have sf0:=hSw.f0;have sf1:=hSw.f1;have sf2:=hSw.f2;go_simp;try with_reducible rfl)
 (try simp only[Act.put,lA,lB,lC])
 refine tA 7 (v:=?v7n20) ?y7n20 ?r7n20
 case y7n20=>(intro w _;go_simp;try with_reducible rfl)
 (try simp only[Act.put,lA,lB,lC])
 refine tA 8 (v:=?v8n21) ?y8n21 ?r8n21
 case y8n21=>(intro w hSw;have st0:=hSw.t.cell (o:=0) rfl;have st1:=hSw.t.cell (o:=1) rfl;have st2:=hSw.t.cell (o:=2) rfl;have st3:=hSw.t.cell (o:=3) rfl;have si0:=hSw.i.cell (o:=0) rfl;have si1:=hSw.i.cell (o:=1) rfl;have si2:=hSw.i.cell (o:=2) rfl;have sf0:=hSw.f0;have sf1:=hSw.f1;have sf2:=hSw.f2;go_simp;try with_reducible rfl)
 (try simp only[Act.put,lA,lB,lC])
 refine tA 11 (v:=?v11n22) ?y11n22 ?r11n22
 case y11n22=>(intro w _;go_simp;try with_reducible rfl)
 (try simp only[Act.put,lA,lB,lC])
 refine tA 12 (v:=?v12n23) ?y12n23 ?r12n23
 case y12n23=>(intro w hSw;have st0:=hSw.t.cell (o:=0) rfl;have st1:=hSw.t.cell (o:=1) rfl;have st2:=hSw.t.cell (o:=2) rfl;have st3:=hSw.t.cell (o:=3) rfl;have si0:=hSw.i.cell (o:=0) rfl;have si1:=hSw.i.cell (o:=1) rfl;have si2:=hSw.i.cell (o:=2) rfl;have sf0:=hSw.f0;have sf1:=hSw.f1;have sf2:=hSw.f2;go_simp;try with_reducible rfl)
 (try simp only[Act.put,lA,lB,lC])
 refine tA 13 (v:=?v13n24) ?y13n24 ?r13n24
 case y13n24=>(intro w _;go_simp;try with_reducible rfl)
 (try simp only[Act.put,lA,lB,lC])
 refine tA 14 (v:=?v14n25) ?y14n25 ?r14n25
 case y14n25=>(intro w hSw;have st0:=hSw.t.cell (o:=0) rfl;have st1:=hSw.t.cell (o:=1) rfl;have st2:=hSw.t.cell (o:=2) rfl;have st3:=hSw.t.cell (o:=3) rfl;have si0:=hSw.i.cell (o:=0) rfl;have si1:=hSw.i.cell (o:=1) rfl;have si2:=hSw.i.cell (o:=2) rfl;have sf0:=hSw.f0;have sf1:=hSw.f1;have sf2:=hSw.f2;go_simp;try with_reducible rfl)
 (try simp only[Act.put,lA,lB,lC])
 refine tA 15 (v:=?v15n26) ?y15n26 ?r15n26
 case y15n26=>(intro w _;go_simp;try with_reducible rfl)
 (try simp only[Act.put,lA,lB,lC])
 refine tA 16 (v:=?v16n27) ?y16n27 ?r16n27
 case y16n27=>(intro w _;go_simp;try with_reducible rfl)
 (try simp only[Act.put,lA,lB,lC])
 refine tA 17 (v:=?v17n28) ?y17n28 ?r17n28
 case y17n28=>(intro w hSw;have st0:=hSw.t.cell (o:=0) rfl;have st1:=hSw.t.cell (o:=1) rfl;have st2:=hSw.t.cell (o:=2) rfl;have st3:=hSw.t.cell (o:=3) rfl;have si0:=hSw.i.cell (o:=0) rfl;have si1:=hSw.i.cell (o:=1) rfl;have si2:=hSw.i.cell (o:=2) rfl;have sf0:=hSw.f0;have sf1:=hSw.f1;have sf2:=hSw.f2;go_simp;try with_reducible rfl)
 (try simp only[Act.put,lA,lB,lC])
 refine oA 2 (fun K hK=>?_)
 go_simp
 (go_at_call 86;refine(l4Ref_any a _).mono ?_;rintro e w8 ⟨rfl,b8⟩)
 have B8:=hide (Bd.out.trans (b8.mono Bd.out.size))
 have E8:=hide (Ed.out.below b8 Ed.out.lt)
 have HH:=hHeld.below b8
 have SL8:=hide HH
 clear b8
 refine hK.out _ _ HH (fun hHeld=>?_)
 clear hK K HH
 (try simp only[Act.put,lA,lB,lC])
 refine oA 9 (fun K hK=>?_)
 go_simp
 (go_at_call 173;refine(l4Of_any fk fo fm _).mono ?_;rintro e w9 ⟨rfl,b9⟩)
 have B9:=hide (B8.out.trans (b9.mono B8.out.size))
 have E9:=hide (E8.out.below b9 E8.out.lt)
 have HH:=hHeld.below b9
 have SL9:=hide HH
 clear b9
 refine hK.out _ _ HH (fun hHeld=>?_)
 clear hK K HH
 (try simp only[Act.put,lA,lB,lC])
 refine oA 10 (fun K hK=>?_)
 go_simp
 (go_at_call 122;refine(l4Two_any 2 a false fk fo false _).mono ?_;rintro e w10 ⟨r10,rfl,hr10,R10,b10⟩)
 have B10:=hide (B9.out.trans (b10.mono B9.out.size))
 have E10:=hide (E9.out.below b10 E9.out.lt)
 have N10t58:=hide R10
 have lr10:w.heap.size+1+1<r10:=by have h8:=E9.out.lt;have h9:=hr10;first|omega|(simp at h8 h9;omega)|(simp at h9;omega)|(simp at h8;omega)
 have HH:=hHeld.below b10
 have SL10:=hide HH
 clear b10 R10 hr10
 refine hK.out _ _ HH (fun hHeld=>?_)
 clear hK K HH
 (try simp only[Act.put,lA,lB,lC])
 refine tA 18 (v:=?v18n29) ?y18n29 ?r18n29
 case y18n29=>(intro w _;go_simp;try with_reducible rfl)
 (try simp only[Act.put,lA,lB,lC])
 refine eA 19 (fun K hK=>?_)
 have e0:=E10.out.cell (o:=0) rfl
 have e1:=E10.out.cell (o:=1) rfl
 have e2:=E10.out.cell (o:=2) rfl
 have f0:=E10.out.frozen 0
 have f1:=E10.out.frozen 1
 have f2:=E10.out.frozen 2
 have hlt:=E10.out.lt
 have sw:=B10.out.size
 go_simp
 refine hK.out _ _ ?_
 clear hK K
 (try simp only[Act.put,lA,lB,lC])
 refine doneA (by kernel_rfl) ?_ _
 go_wp2_with fail
 exact need_done E10.out B10.out (by show w.heap.size≤w.heap.size+1+1;omega) (need_row N10t58.out (by omega) (by omega)) (.inl rfl) rfl rfl rfl
end Go.Proofs.YtpaneomkphjpcaaGreatDoor
