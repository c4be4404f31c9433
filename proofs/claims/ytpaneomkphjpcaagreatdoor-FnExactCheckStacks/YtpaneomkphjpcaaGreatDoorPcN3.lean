/- PcN3: CkNeed3, CkNeed4. -/
import Derived.Test.YtpaneomkphjpcaaGreatDoorPcReg
import Derived.Test.YtpaneomkphjpcaaGreatDoorCkNeed2
import Derived.Test.YtpaneomkphjpcaaGreatDoorCkRule6
namespace Go.Proofs.YtpaneomkphjpcaaGreatDoor
open Go.ChangeShapes Go.WideShapes Go.ChangeAt Go.RowKit
set_option linter.unusedVariables false
set_option linter.unusedSimpArgs false
structure SR (b bn be fb off:Nat) (tv iv ev:List Value) (fm:Bool) (w':World):Prop where
 t:Rec w' b 143 tv
 i:Rec w' (b+1) 40 iv
 n:Rec w' bn 68 [.int .i64 1,.int .i64 0,.bool false]
 e:Rec w' be 68 ev
 f:w'.cell? ⟨fb,off+2,none⟩=some (.bool fm)
 lt:fb<b
theorem SR.below {b bn be fb off:Nat} {tv iv ev:List Value} {fm:Bool} {w w':World} (h:SR b bn be fb off tv iv ev fm w) (hb:Below w.heap.size w w'):SR b bn be fb off tv iv ev fm w' :=
 ⟨h.t.below hb h.t.lt,h.i.below hb h.i.lt,h.n.below hb h.n.lt,h.e.below hb h.e.lt,(hb.cell (p:=⟨fb,off+2,none⟩) (Nat.lt_trans h.lt h.t.lt)).trans h.f,h.lt⟩
theorem SR.drew {b bn be fb off:Nat} {tv iv ev:List Value} {fm:Bool} {w:World} (h:SR b bn be fb off tv iv ev fm w):SR b bn be fb off tv iv ev fm w.drew:=⟨h.t,h.i,h.n,h.e,h.f,h.lt⟩
def rowTm (f:Fd) (op a:Int):List Fd :=
 match op.toNat with
 | 16=>[⟨1,0,false⟩,⟨f.kind,f.of,false⟩]
 | 17=>[⟨2,a,false⟩,⟨1,0,false⟩]
 | 18=>[⟨2,a,false⟩,⟨1,0,false⟩,⟨f.kind,f.of,false⟩]
 | _=>[⟨2,a,false⟩]
def rowGm (f:Fd) (op a:Int):List Fd :=
 match op.toNat with
 | 16=>[⟨3,a,false⟩]
 | 17=>[⟨f.kind,f.of,false⟩]
 | 18=>[]
 | _=>[⟨1,0,false⟩]
def rowNm (f:Fd) (op:Int):Bool:=if op=18 then f.mt else true
set_option maxHeartbeats 40000000 in
set_option maxRecDepth 100000 in
theorem l4Row_any (tu:Int) (tl:Bool) (fb off n fc:Nat) (fk fo:Int) (fm:Bool) (op a y:Int) (w:World) (hn:0<n) (hf:fb<w.heap.size) (f0:w.cell? ⟨fb,off,none⟩=some (.int .i64 fk)) (f1:w.cell? ⟨fb,off+1,none⟩=some (.int .i64 fo)) (f2:w.cell? ⟨fb,off+2,none⟩=some (.bool fm))
  (hop:op=16∨op=17∨op=18∨op=19) :
  Calls Tryz.prog 121 #[.agg #[.int .i64 2,.int .i64 tu,.bool tl,.slice (some ⟨fb,off,none⟩) n fc],.agg #[.int .i64 op,.int .i64 a,.int .i64 y]] w fun e w'=>NeedPost w (rowTm ⟨fk,fo,fm⟩ op a) (rowGm ⟨fk,fo,fm⟩ op a) (rowNm ⟨fk,fo,fm⟩ op) e w':=by
 obtain⟨w1,hw1⟩:∃w1,w1=(((w.alloc (.cells #[.int .i64 2,.int .i64 tu,.bool tl,.slice (some ⟨fb,off,none⟩) n fc] 143)).alloc (.cells #[.int .i64 op,.int .i64 a,.int .i64 y] 40)).alloc (.cells #[.slice none 0 0,.slice none 0 0,.bool false] 115)):=⟨_,rfl⟩
 have BB:Hid (Below w.heap.size w w1):=by show Below _ _ _;rw[hw1];exact(((Below.refl _ _).alloc (Nat.le_refl _) _).alloc (by simp) _).alloc (by simp;omega) _
 have GG:Hid (Rec w1 (w.heap.size+1+1) 115 [.slice none 0 0,.slice none 0 0,.bool false]):=by show Rec _ _ _ _;rw[hw1];exact Rec.new' _ _ _ _ (by simp)
 have II:Hid (Rec w1 (w.heap.size+1) 40 [.int .i64 op,.int .i64 a,.int .i64 y]):=by show Rec _ _ _ _;rw[hw1];exact(Rec.new' _ _ _ _ (by simp)).alloc _
 have TT:Hid (Rec w1 w.heap.size 143 [.int .i64 2,.int .i64 tu,.bool tl,.slice (some ⟨fb,off,none⟩) n fc]):=by show Rec _ _ _ _;rw[hw1];exact((Rec.new _ _ _).alloc _).alloc _
 have k0:=(BB.out.cell (p:=⟨fb,off,none⟩) hf).trans f0
 have k1:=(BB.out.cell (p:=⟨fb,off+1,none⟩) hf).trans f1
 have k2:=(BB.out.cell (p:=⟨fb,off+2,none⟩) hf).trans f2
 have j1:(0:Int)<(n:Int):=by omega
 have t0:=TT.out.cell (o:=0) rfl
 have t3:=TT.out.cell (o:=3) rfl
 have hf1:fb<w1.heap.size:=Nat.lt_of_lt_of_le hf BB.out.size
 clear f0 f1 f2
 go_enter Tryz.func121,Tryz.ntmps121
 go_upto_region 1 with(fail)
 rw[←hw1]
 clear hw1
 go_wp2_with fail
 refine(l4Num_any _).mono ?_
 rintro e u2 ⟨rfl,b2⟩
 have BC:=hide (BB.out.trans (b2.mono BB.out.size))
 have GC:=hide (GG.out.below b2 GG.out.lt)
 have IC:=hide (II.out.below b2 II.out.lt)
 have TC:=hide (TT.out.below b2 TT.out.lt)
 have k0:=(b2.cell (p:=⟨fb,off,none⟩) hf1).trans k0
 have k1:=(b2.cell (p:=⟨fb,off+1,none⟩) hf1).trans k1
 have k2:=(b2.cell (p:=⟨fb,off+2,none⟩) hf1).trans k2
 have t3:=TC.out.cell (o:=3) rfl
 have lt2:=TC.out.lt
 have ltI:=IC.out.lt
 have hf2:fb<u2.heap.size:=Nat.lt_of_lt_of_le hf1 b2.size
 clear b2 BB GG II TT t0 hf1
 go_wp2_with fail
 refine(l4Of_any fk fo fm _).mono ?_
 rintro e u3 ⟨rfl,b3⟩
 have AC:Hid (Rec u3 u2.heap.size 68 [.int .i64 1,.int .i64 0,.bool false]):=(Rec.new u2 68 [.int .i64 1,.int .i64 0,.bool false]).below b3 (by simp)
 have B3:=BC.out.trans ((((Below.refl u2.heap.size u2).alloc (Nat.le_refl _) (.cells #[.int .i64 1,.int .i64 0,.bool false] 68)).trans (b3.mono (by simp))).mono BC.out.size)
 have h23:u2.heap.size<u3.heap.size:=Nat.lt_of_lt_of_le (by simp) b3.size
 have GD:=hide (((GC.out.alloc (.cells #[.int .i64 1,.int .i64 0,.bool false] 68))).below b3 (by have:=GC.out.lt;simp;omega))
 have ID:=hide (((IC.out.alloc (.cells #[.int .i64 1,.int .i64 0,.bool false] 68))).below b3 (by have:=IC.out.lt;simp;omega))
 have TD:=hide (((TC.out.alloc (.cells #[.int .i64 1,.int .i64 0,.bool false] 68))).below b3 (by have:=TC.out.lt;simp;omega))
 have k2:u3.cell? ⟨fb,off+2,none⟩=some (.bool fm):=((((Below.refl u2.heap.size u2).alloc (Nat.le_refl _) (.cells #[.int .i64 1,.int .i64 0,.bool false] 68)).trans (b3.mono (by simp))).cell (p:=⟨fb,off+2,none⟩) hf2).trans k2
 have K2:Hid ((u3.alloc (.cells #[.int .i64 fk,.int .i64 fo,.bool false] 68)).cell? ⟨fb,off+2,none⟩=some (.bool fm)):=(((Below.refl u3.heap.size u3).alloc (Nat.le_refl _) (.cells #[.int .i64 fk,.int .i64 fo,.bool false] 68)).cell (p:=⟨fb,off+2,none⟩) (by show fb<_;omega)).trans k2
 have BD:=hide B3
 clear b3 BC GC IC TC B3 t3 k0 k1 k2 lt2 ltI
 go_upto_region 5 with(fail)
 have B0:=hide (BD.out.alloc BD.out.size (.cells #[.int .i64 fk,.int .i64 fo,.bool false] 68))
 have E0:=hide (GD.out.alloc (.cells #[.int .i64 fk,.int .i64 fo,.bool false] 68))
 have S0:Hid (SR w.heap.size u2.heap.size u3.heap.size fb off [.int .i64 2,.int .i64 tu,.bool tl,.slice (some ⟨fb,off,none⟩) n fc] [.int .i64 op,.int .i64 a,.int .i64 y] [.int .i64 fk,.int .i64 fo,.bool false] fm (u3.alloc (.cells #[.int .i64 fk,.int .i64 fo,.bool false] 68))):=⟨TD.out.alloc _,ID.out.alloc _,AC.out.alloc _,Rec.new _ _ _,K2.out,hf⟩
 clear BD GD ID AC TD K2
 generalize (u3.alloc (.cells #[.int .i64 fk,.int .i64 fo,.bool false] 68))=w0 at *
 generalize u2.heap.size=bn at *
 generalize u3.heap.size=be at *
 have si0:=S0.out.i.cell (o:=0) rfl
 rcases hop with rfl|rfl|rfl|rfl
 ·go_upto_region 7 with(fail)
  clear si0
  have Bd:=hide B0.out.drew
  have Ed:=hide (Rec.drew' E0.out)
  have SLd:=hide S0.out.drew
  refine beginA (S:=SR w.heap.size bn be fb off [.int .i64 2,.int .i64 tu,.bool tl,.slice (some ⟨fb,off,none⟩) n fc] [.int .i64 16,.int .i64 a,.int .i64 y] [.int .i64 fk,.int .i64 fo,.bool false] fm) 8 (by kernel_rfl) SLd.out (fun hHeld=>?_)
  (try simp only[Act.put,lA,lB,lC])
  refine tA 0 (v:=?v0n1) ?y0n1 ?r0n1
  case y0n1=>(intro w hSw;have st0:=hSw.t.cell (o:=0) rfl;have st1:=hSw.t.cell (o:=1) rfl;have st2:=hSw.t.cell (o:=2) rfl;have st3:=hSw.t.cell (o:=3) rfl;have si0:=hSw.i.cell (o:=0) rfl;have si1:=hSw.i.cell (o:=1) rfl;have si2:=hSw.i.cell (o:=2) rfl;have sn0:=hSw.n.cell (o:=0) rfl;have sn1:=hSw.n.cell (o:=1) rfl;have sn2:=hSw.n.cell (o:=2) rfl;have se0:=hSw.e.cell (o:=0) rfl;have se1:=hSw.e.cell (o:=1) rfl;have se2:=hSw.e.cell (o:=2) rfl;have sf2:=hSw.f;go_simp;try with_reducible rfl)
  (try simp only[Act.put,lA,lB,lC])
  refine tA 1 (v:=?v1n2) ?y1n2 ?r1n2
  case y1n2=>(intro w hSw;have st0:=hSw.t.cell (o:=0) rfl;have st1:=hSw.t.cell (o:=1) rfl;have st2:=hSw.t.cell (o:=2) rfl;have st3:=hSw.t.cell (o:=3) rfl;have si0:=hSw.i.cell (o:=0) rfl;have si1:=hSw.i.cell (o:=1) rfl;have si2:=hSw.i.cell (o:=2) rfl;have sn0:=hSw.n.cell (o:=0) rfl;have sn1:=hSw.n.cell (o:=1) rfl;have sn2:=hSw.n.cell (o:=2) rfl;have se0:=hSw.e.cell (o:=0) rfl;have se1:=hSw.e.cell (o:=1) rfl;have se2:=hSw.e.cell (o:=2) rfl;have sf2:=hSw.f;go_simp;try with_reducible rfl)
  (try simp only[Act.put,lA,lB,lC])
  refine tA 3 (v:=?v3n3) ?y3n3 ?r3n3
  case y3n3=>(intro w _;go_simp;try with_reducible rfl)
  (try simp only[Act.put,lA,lB,lC])
  refine tA 4 (v:=?v4n4) ?y4n4 ?r4n4
  case y4n4=>(intro w hSw;have st0:=hSw.t.cell (o:=0) rfl;have st1:=hSw.t.cell (o:=1) rfl;have st2:=hSw.t.cell (o:=2) rfl;have st3:=hSw.t.cell (o:=3) rfl;have si0:=hSw.i.cell (o:=0) rfl;have si1:=hSw.i.cell (o:=1) rfl;have si2:=hSw.i.cell (o:=2) rfl;have sn0:=hSw.n.cell (o:=0) rfl;have sn1:=hSw.n.cell (o:=1) rfl;have sn2:=hSw.n.cell (o:=2) rfl;have se0:=hSw.e.cell (o:=0) rfl;have se1:=hSw.e.cell (o:=1) rfl;have se2:=hSw.e.cell (o:=2) rfl;have sf2:=hSw.f;go_simp;try with_reducible rfl)
  (try simp only[Act.put,lA,lB,lC])
  refine oA 2 (fun K hK=>?_)
  go_simp
  (go_at_call 122;refine(l4Two_any 1 0 false fk fo false _).mono ?_;rintro e w1 ⟨r1,rfl,hr1,R1,b1⟩)
  have B1:=hide (Bd.out.trans (b1.mono Bd.out.size))
  have E1:=hide (Ed.out.below b1 Ed.out.lt)
  have N1t23:=hide R1
  have lr1:w.heap.size+1+1<r1:=by have h8:=Ed.out.lt;have h9:=hr1;first|omega|(simp at h8 h9;omega)|(simp at h9;omega)|(simp at h8;omega)
  have HH:=hHeld.below b1
  have SL1:=hide HH
  clear b1 R1 hr1
  refine hK.out _ _ HH (fun hHeld=>?_)
  clear hK K HH
  (try simp only[Act.put,lA,lB,lC])
  refine oA 5 (fun K hK=>?_)
  go_simp
  (go_at_call 92;refine(l4Sure_any a _).mono ?_;rintro e w2 ⟨rfl,b2⟩)
  have B2:=hide (B1.out.trans (b2.mono B1.out.size))
  have E2:=hide (E1.out.below b2 E1.out.lt)
  have N2t23:=hide (N1t23.out.below b2 N1t23.out.lt)
  have HH:=hHeld.below b2
  have SL2:=hide HH
  clear b2
  refine hK.out _ _ HH (fun hHeld=>?_)
  clear hK K HH
  (try simp only[Act.put,lA,lB,lC])
  refine oA 6 (fun K hK=>?_)
  go_simp
  (go_at_call 90;refine(l4One_any 3 a false _).mono ?_;rintro e w3 ⟨r3,rfl,hr3,R3,b3⟩)
  have B3:=hide (B2.out.trans (b3.mono B2.out.size))
  have E3:=hide (E2.out.below b3 E2.out.lt)
  have N3t23:=hide (N2t23.out.below b3 N2t23.out.lt)
  have N3t27:=hide R3
  have lr3:w.heap.size+1+1<r3:=by have h8:=E2.out.lt;have h9:=hr3;first|omega|(simp at h8 h9;omega)|(simp at h9;omega)|(simp at h8;omega)
  have HH:=hHeld.below b3
  have SL3:=hide HH
  clear b3 R3 hr3
  refine hK.out _ _ HH (fun hHeld=>?_)
  clear hK K HH
  (try simp only[Act.put,lA,lB,lC])
  refine tA 7 (v:=?v7n5) ?y7n5 ?r7n5
  case y7n5=>(intro w _;go_simp;try with_reducible rfl)
  (try simp only[Act.put,lA,lB,lC])
  refine eA 8 (fun K hK=>?_)
  have e0:=E3.out.cell (o:=0) rfl
  have e1:=E3.out.cell (o:=1) rfl
  have e2:=E3.out.cell (o:=2) rfl
  have f0:=E3.out.frozen 0
  have f1:=E3.out.frozen 1
  have f2:=E3.out.frozen 2
  have hlt:=E3.out.lt
  have sw:=B3.out.size
  go_simp
  refine hK.out _ _ ?_
  clear hK K
  (try simp only[Act.put,lA,lB,lC])
  refine doneA (by kernel_rfl) ?_ _
  go_wp2_with fail
  exact need_done E3.out B3.out (by show w.heap.size≤w.heap.size+1+1;omega) (need_row N3t23.out (by omega) (by omega)) (need_row N3t27.out (by omega) (by omega)) rfl rfl rfl
 ·go_upto_region 9 with(fail)
  clear si0
  have Bd:=hide B0.out.drew
  have Ed:=hide (Rec.drew' E0.out)
  have SLd:=hide S0.out.drew
  refine beginA (S:=SR w.heap.size bn be fb off [.int .i64 2,.int .i64 tu,.bool tl,.slice (some ⟨fb,off,none⟩) n fc] [.int .i64 17,.int .i64 a,.int .i64 y] [.int .i64 fk,.int .i64 fo,.bool false] fm) 8 (by kernel_rfl) SLd.out (fun hHeld=>?_)
  (try simp only[Act.put,lA,lB,lC])
  refine tA 0 (v:=?v0n6) ?y0n6 ?r0n6
  case y0n6=>(intro w _;go_simp;try with_reducible rfl)
  (try simp only[Act.put,lA,lB,lC])
  refine tA 1 (v:=?v1n7) ?y1n7 ?r1n7
  case y1n7=>(intro w hSw;have st0:=hSw.t.cell (o:=0) rfl;have st1:=hSw.t.cell (o:=1) rfl;have st2:=hSw.t.cell (o:=2) rfl;have st3:=hSw.t.cell (o:=3) rfl;have si0:=hSw.i.cell (o:=0) rfl;have si1:=hSw.i.cell (o:=1) rfl;have si2:=hSw.i.cell (o:=2) rfl;have sn0:=hSw.n.cell (o:=0) rfl;have sn1:=hSw.n.cell (o:=1) rfl;have sn2:=hSw.n.cell (o:=2) rfl;have se0:=hSw.e.cell (o:=0) rfl;have se1:=hSw.e.cell (o:=1) rfl;have se2:=hSw.e.cell (o:=2) rfl;have sf2:=hSw.f;go_simp;try with_reducible rfl)
  (try simp only[Act.put,lA,lB,lC])
  refine tA 3 (v:=?v3n8) ?y3n8 ?r3n8
  case y3n8=>(intro w hSw;have st0:=hSw.t.cell (o:=0) rfl;have st1:=hSw.t.cell (o:=1) rfl;have st2:=hSw.t.cell (o:=2) rfl;have st3:=hSw.t.cell (o:=3) rfl;have si0:=hSw.i.cell (o:=0) rfl;have si1:=hSw.i.cell (o:=1) rfl;have si2:=hSw.i.cell (o:=2) rfl;have sn0:=hSw.n.cell (o:=0) rfl;have sn1:=hSw.n.cell (o:=1) rfl;have sn2:=hSw.n.cell (o:=2) rfl;have se0:=hSw.e.cell (o:=0) rfl;have se1:=hSw.e.cell (o:=1) rfl;have se2:=hSw.e.cell (o:=2) rfl;have sf2:=hSw.f;go_simp;try with_reducible rfl)
  (try simp only[Act.put,lA,lB,lC])
  refine tA 5 (v:=?v5n9) ?y5n9 ?r5n9
  case y5n9=>(intro w hSw;have st0:=hSw.t.cell (o:=0) rfl;have st1:=hSw.t.cell (o:=1) rfl;have st2:=hSw.t.cell (o:=2) rfl;have st3:=hSw.t.cell (o:=3) rfl;have si0:=hSw.i.cell (o:=0) rfl;have si1:=hSw.i.cell (o:=1) rfl;have si2:=hSw.i.cell (o:=2) rfl;have sn0:=hSw.n.cell (o:=0) rfl;have sn1:=hSw.n.cell (o:=1) rfl;have sn2:=hSw.n.cell (o:=2) rfl;have se0:=hSw.e.cell (o:=0) rfl;have se1:=hSw.e.cell (o:=1) rfl;have se2:=hSw.e.cell (o:=2) rfl;have sf2:=hSw.f;go_simp;try with_reducible rfl)
  (try simp only[Act.put,lA,lB,lC])
  refine oA 2 (fun K hK=>?_)
  go_simp
  (go_at_call 86;refine(l4Ref_any a _).mono ?_;rintro e w4 ⟨rfl,b4⟩)
  have B4:=hide (Bd.out.trans (b4.mono Bd.out.size))
  have E4:=hide (Ed.out.below b4 Ed.out.lt)
  have HH:=hHeld.below b4
  have SL4:=hide HH
  clear b4
  refine hK.out _ _ HH (fun hHeld=>?_)
  clear hK K HH
  (try simp only[Act.put,lA,lB,lC])
  refine oA 4 (fun K hK=>?_)
  go_simp
  (go_at_call 122;refine(l4Two_any 2 a false 1 0 false _).mono ?_;rintro e w5 ⟨r5,rfl,hr5,R5,b5⟩)
  have B5:=hide (B4.out.trans (b5.mono B4.out.size))
  have E5:=hide (E4.out.below b5 E4.out.lt)
  have N5t35:=hide R5
  have lr5:w.heap.size+1+1<r5:=by have h8:=E4.out.lt;have h9:=hr5;first|omega|(simp at h8 h9;omega)|(simp at h9;omega)|(simp at h8;omega)
  have HH:=hHeld.below b5
  have SL5:=hide HH
  clear b5 R5 hr5
  refine hK.out _ _ HH (fun hHeld=>?_)
  clear hK K HH
  (try simp only[Act.put,lA,lB,lC])
  refine oA 6 (fun K hK=>?_)
  go_simp
  (go_at_call 90;refine(l4One_any fk fo false _).mono ?_;rintro e w6 ⟨r6,rfl,hr6,R6,b6⟩)
  have B6:=hide (B5.out.trans (b6.mono B5.out.size))
  have E6:=hide (E5.out.below b6 E5.out.lt)
  have N6t35:=hide (N5t35.out.below b6 N5t35.out.lt)
  have N6t37:=hide R6
  have lr6:w.heap.size+1+1<r6:=by have h8:=E5.out.lt;have h9:=hr6;first|omega|(simp at h8 h9;omega)|(simp at h9;omega)|(simp at h8;omega)
  have HH:=hHeld.below b6
  have SL6:=hide HH
  clear b6 R6 hr6
  refine hK.out _ _ HH (fun hHeld=>?_)
  clear hK K HH
  (try simp only[Act.put,lA,lB,lC])
  refine tA 7 (v:=?v7n10) ?y7n10 ?r7n10
  case y7n10=>(intro w _;go_simp;try with_reducible rfl)
  (try simp only[Act.put,lA,lB,lC])
  refine eA 8 (fun K hK=>?_)
  have e0:=E6.out.cell (o:=0) rfl
  have e1:=E6.out.cell (o:=1) rfl
  have e2:=E6.out.cell (o:=2) rfl
  have f0:=E6.out.frozen 0
  have f1:=E6.out.frozen 1
  have f2:=E6.out.frozen 2
  have hlt:=E6.out.lt
  have sw:=B6.out.size
  go_simp
  refine hK.out _ _ ?_
  clear hK K
  (try simp only[Act.put,lA,lB,lC])
  refine doneA (by kernel_rfl) ?_ _
  go_wp2_with fail
  exact need_done E6.out B6.out (by show w.heap.size≤w.heap.size+1+1;omega) (need_row N6t35.out (by omega) (by omega)) (need_row N6t37.out (by omega) (by omega)) rfl rfl rfl
 ·go_upto_region 11 with(fail)
  clear si0
  have Bd:=hide B0.out.drew
  have Ed:=hide (Rec.drew' E0.out)
  have SLd:=hide S0.out.drew
  refine beginA (S:=SR w.heap.size bn be fb off [.int .i64 2,.int .i64 tu,.bool tl,.slice (some ⟨fb,off,none⟩) n fc] [.int .i64 18,.int .i64 a,.int .i64 y] [.int .i64 fk,.int .i64 fo,.bool false] fm) 12 (by kernel_rfl) SLd.out (fun hHeld=>?_)
  (try simp only[Act.put,lA,lB,lC])
  refine tA 0 (v:=?v0n11) ?y0n11 ?r0n11
  case y0n11=>(intro w _;go_simp;try with_reducible rfl)
  (try simp only[Act.put,lA,lB,lC])
  refine tA 1 (v:=?v1n12) ?y1n12 ?r1n12
  case y1n12=>(intro w hSw;have st0:=hSw.t.cell (o:=0) rfl;have st1:=hSw.t.cell (o:=1) rfl;have st2:=hSw.t.cell (o:=2) rfl;have st3:=hSw.t.cell (o:=3) rfl;have si0:=hSw.i.cell (o:=0) rfl;have si1:=hSw.i.cell (o:=1) rfl;have si2:=hSw.i.cell (o:=2) rfl;have sn0:=hSw.n.cell (o:=0) rfl;have sn1:=hSw.n.cell (o:=1) rfl;have sn2:=hSw.n.cell (o:=2) rfl;have se0:=hSw.e.cell (o:=0) rfl;have se1:=hSw.e.cell (o:=1) rfl;have se2:=hSw.e.cell (o:=2) rfl;have sf2:=hSw.f;go_simp;try with_reducible rfl)
  (try simp only[Act.put,lA,lB,lC])
  refine tA 3 (v:=?v3n13) ?y3n13 ?r3n13
  case y3n13=>(intro w hSw;have st0:=hSw.t.cell (o:=0) rfl;have st1:=hSw.t.cell (o:=1) rfl;have st2:=hSw.t.cell (o:=2) rfl;have st3:=hSw.t.cell (o:=3) rfl;have si0:=hSw.i.cell (o:=0) rfl;have si1:=hSw.i.cell (o:=1) rfl;have si2:=hSw.i.cell (o:=2) rfl;have sn0:=hSw.n.cell (o:=0) rfl;have sn1:=hSw.n.cell (o:=1) rfl;have sn2:=hSw.n.cell (o:=2) rfl;have se0:=hSw.e.cell (o:=0) rfl;have se1:=hSw.e.cell (o:=1) rfl;have se2:=hSw.e.cell (o:=2) rfl;have sf2:=hSw.f;go_simp;try with_reducible rfl)
  (try simp only[Act.put,lA,lB,lC])
  refine tA 4 (v:=?v4n14) ?y4n14 ?r4n14
  case y4n14=>(intro w hSw;have st0:=hSw.t.cell (o:=0) rfl;have st1:=hSw.t.cell (o:=1) rfl;have st2:=hSw.t.cell (o:=2) rfl;have st3:=hSw.t.cell (o:=3) rfl;have si0:=hSw.i.cell (o:=0) rfl;have si1:=hSw.i.cell (o:=1) rfl;have si2:=hSw.i.cell (o:=2) rfl;have sn0:=hSw.n.cell (o:=0) rfl;have sn1:=hSw.n.cell (o:=1) rfl;have sn2:=hSw.n.cell (o:=2) rfl;have se0:=hSw.e.cell (o:=0) rfl;have se1:=hSw.e.cell (o:=1) rfl;have se2:=hSw.e.cell (o:=2) rfl;have sf2:=hSw.f;go_simp;try with_reducible rfl)
  (try simp only[Act.put,lA,lB,lC])
  refine tA 6 (v:=?v6n15) ?y6n15 ?r6n15
  case y6n15=>(intro w _;go_simp;try with_reducible rfl)
  (try simp only[Act.put,lA,lB,lC])
  refine tA 7 (v:=?v7n16) ?y7n16 ?r7n16
  case y7n16=>(intro w hSw;have st0:=hSw.t.cell (o:=0) rfl;have st1:=hSw.t.cell (o:=1) rfl;have st2:=hSw.t.cell (o:=2) rfl;have st3:=hSw.t.cell (o:=3) rfl;have si0:=hSw.i.cell (o:=0) rfl;have si1:=hSw.i.cell (o:=1) rfl;have si2:=hSw.i.cell (o:=2) rfl;have sn0:=hSw.n.cell (o:=0) rfl;have sn1:=hSw.n.cell (o:=1) rfl;have sn2:=hSw.n.cell (o:=2) rfl;have se0:=hSw.e.cell (o:=0) rfl;have se1:=hSw.e.cell (o:=1) rfl;have se2:=hSw.e.cell (o:=2) rfl;have sf2:=hSw.f;go_simp;try with_reducible rfl)
  (try simp only[Act.put,lA,lB,lC])
  refine tA 8 (v:=?v8n17) ?y8n17 ?r8n17
  case y8n17=>(intro w _;go_simp;try with_reducible rfl)
  (try simp only[Act.put,lA,lB,lC])
  refine tA 9 (v:=?v9n18) ?y9n18 ?r9n18
  case y9n18=>(intro w _;go_simp;try with_reducible rfl)
  (try simp only[Act.put,lA,lB,lC])
  refine tA 10 (v:=?v10n19) ?y10n19 ?r10n19
  case y10n19=>(intro w hSw;have st0:=hSw.t.cell (o:=0) rfl;have st1:=hSw.t.cell (o:=1) rfl;have st2:=hSw.t.cell (o:=2) rfl;have st3:=hSw.t.cell (o:=3) rfl;have si0:=hSw.i.cell (o:=0) rfl;have si1:=hSw.i.cell (o:=1) rfl;have si2:=hSw.i.cell (o:=2) rfl;have sn0:=hSw.n.cell (o:=0) rfl;have sn1:=hSw.n.cell (o:=1) rfl;have sn2:=hSw.n.cell (o:=2) rfl;have se0:=hSw.e.cell (o:=0) rfl;have se1:=hSw.e.cell (o:=1) rfl;have se2:=hSw.e.cell (o:=2) rfl;have sf2:=hSw.f;go_simp;try with_reducible rfl)
  (try simp only[Act.put,lA,lB,lC])
  refine oA 2 (fun K hK=>?_)
  go_simp
  (go_at_call 86;refine(l4Ref_any a _).mono ?_;rintro e w7 ⟨rfl,b7⟩)
  have B7:=hide (Bd.out.trans (b7.mono Bd.out.size))
  have E7:=hide (Ed.out.below b7 Ed.out.lt)
  have HH:=hHeld.below b7
  have SL7:=hide HH
  clear b7
  refine hK.out _ _ HH (fun hHeld=>?_)
  clear hK K HH
  (try simp only[Act.put,lA,lB,lC])
  refine oA 5 (fun K hK=>?_)
  go_simp
  (go_at_call 174;refine(l4Three_any 2 a false 1 0 false fk fo false _).mono ?_;rintro e w8 ⟨r8,rfl,hr8,R8,b8⟩)
  have B8:=hide (B7.out.trans (b8.mono B7.out.size))
  have E8:=hide (E7.out.below b8 E7.out.lt)
  have N8t46:=hide R8
  have lr8:w.heap.size+1+1<r8:=by have h8:=E7.out.lt;have h9:=hr8;first|omega|(simp at h8 h9;omega)|(simp at h9;omega)|(simp at h8;omega)
  have HH:=hHeld.below b8
  have SL8:=hide HH
  clear b8 R8 hr8
  refine hK.out _ _ HH (fun hHeld=>?_)
  clear hK K HH
  (try simp only[Act.put,lA,lB,lC])
  refine tA 11 (v:=?v11n20) ?y11n20 ?r11n20
  case y11n20=>(intro w _;go_simp;try with_reducible rfl)
  (try simp only[Act.put,lA,lB,lC])
  refine eA 12 (fun K hK=>?_)
  have e0:=E8.out.cell (o:=0) rfl
  have e1:=E8.out.cell (o:=1) rfl
  have e2:=E8.out.cell (o:=2) rfl
  have f0:=E8.out.frozen 0
  have f1:=E8.out.frozen 1
  have f2:=E8.out.frozen 2
  have hlt:=E8.out.lt
  have sw:=B8.out.size
  go_simp
  refine hK.out _ _ ?_
  clear hK K
  (try simp only[Act.put,lA,lB,lC])
  refine doneA (by kernel_rfl) ?_ _
  go_wp2_with fail
  exact need_done E8.out B8.out (by show w.heap.size≤w.heap.size+1+1;omega) (need_row N8t46.out (by omega) (by omega)) (.inl rfl) rfl rfl rfl
 ·go_upto_region 12 with(fail)
  clear si0
  have Bd:=hide B0.out.drew
  have Ed:=hide (Rec.drew' E0.out)
  have SLd:=hide S0.out.drew
  refine beginA (S:=SR w.heap.size bn be fb off [.int .i64 2,.int .i64 tu,.bool tl,.slice (some ⟨fb,off,none⟩) n fc] [.int .i64 19,.int .i64 a,.int .i64 y] [.int .i64 fk,.int .i64 fo,.bool false] fm) 7 (by kernel_rfl) SLd.out (fun hHeld=>?_)
  (try simp only[Act.put,lA,lB,lC])
  refine tA 0 (v:=?v0n21) ?y0n21 ?r0n21
  case y0n21=>(intro w _;go_simp;try with_reducible rfl)
  (try simp only[Act.put,lA,lB,lC])
  refine tA 1 (v:=?v1n22) ?y1n22 ?r1n22
  case y1n22=>(intro w hSw;have st0:=hSw.t.cell (o:=0) rfl;have st1:=hSw.t.cell (o:=1) rfl;have st2:=hSw.t.cell (o:=2) rfl;have st3:=hSw.t.cell (o:=3) rfl;have si0:=hSw.i.cell (o:=0) rfl;have si1:=hSw.i.cell (o:=1) rfl;have si2:=hSw.i.cell (o:=2) rfl;have sn0:=hSw.n.cell (o:=0) rfl;have sn1:=hSw.n.cell (o:=1) rfl;have sn2:=hSw.n.cell (o:=2) rfl;have se0:=hSw.e.cell (o:=0) rfl;have se1:=hSw.e.cell (o:=1) rfl;have se2:=hSw.e.cell (o:=2) rfl;have sf2:=hSw.f;go_simp;try with_reducible rfl)
  (try simp only[Act.put,lA,lB,lC])
  refine tA 4 (v:=?v4n23) ?y4n23 ?r4n23
  case y4n23=>(intro w hSw;have st0:=hSw.t.cell (o:=0) rfl;have st1:=hSw.t.cell (o:=1) rfl;have st2:=hSw.t.cell (o:=2) rfl;have st3:=hSw.t.cell (o:=3) rfl;have si0:=hSw.i.cell (o:=0) rfl;have si1:=hSw.i.cell (o:=1) rfl;have si2:=hSw.i.cell (o:=2) rfl;have sn0:=hSw.n.cell (o:=0) rfl;have sn1:=hSw.n.cell (o:=1) rfl;have sn2:=hSw.n.cell (o:=2) rfl;have se0:=hSw.e.cell (o:=0) rfl;have se1:=hSw.e.cell (o:=1) rfl;have se2:=hSw.e.cell (o:=2) rfl;have sf2:=hSw.f;go_simp;try with_reducible rfl)
  (try simp only[Act.put,lA,lB,lC])
  refine oA 2 (fun K hK=>?_)
  go_simp
  (go_at_call 86;refine(l4Ref_any a _).mono ?_;rintro e w9 ⟨rfl,b9⟩)
  have B9:=hide (Bd.out.trans (b9.mono Bd.out.size))
  have E9:=hide (Ed.out.below b9 Ed.out.lt)
  have HH:=hHeld.below b9
  have SL9:=hide HH
  clear b9
  refine hK.out _ _ HH (fun hHeld=>?_)
  clear hK K HH
  (try simp only[Act.put,lA,lB,lC])
  refine oA 3 (fun K hK=>?_)
  go_simp
  (go_at_call 90;refine(l4One_any 2 a false _).mono ?_;rintro e w10 ⟨r10,rfl,hr10,R10,b10⟩)
  have B10:=hide (B9.out.trans (b10.mono B9.out.size))
  have E10:=hide (E9.out.below b10 E9.out.lt)
  have N10t56:=hide R10
  have lr10:w.heap.size+1+1<r10:=by have h8:=E9.out.lt;have h9:=hr10;first|omega|(simp at h8 h9;omega)|(simp at h9;omega)|(simp at h8;omega)
  have HH:=hHeld.below b10
  have SL10:=hide HH
  clear b10 R10 hr10
  refine hK.out _ _ HH (fun hHeld=>?_)
  clear hK K HH
  (try simp only[Act.put,lA,lB,lC])
  refine oA 5 (fun K hK=>?_)
  go_simp
  (go_at_call 90;refine(l4One_any 1 0 false _).mono ?_;rintro e w11 ⟨r11,rfl,hr11,R11,b11⟩)
  have B11:=hide (B10.out.trans (b11.mono B10.out.size))
  have E11:=hide (E10.out.below b11 E10.out.lt)
  have N11t56:=hide (N10t56.out.below b11 N10t56.out.lt)
  have N11t58:=hide R11
  have lr11:w.heap.size+1+1<r11:=by have h8:=E10.out.lt;have h9:=hr11;first|omega|(simp at h8 h9;omega)|(simp at h9;omega)|(simp at h8;omega)
  have HH:=hHeld.below b11
  have SL11:=hide HH
  clear b11 R11 hr11
  refine hK.out _ _ HH (fun hHeld=>?_)
  clear hK K HH
  (try simp only[Act.put,lA,lB,lC])
  refine tA 6 (v:=?v6n24) ?y6n24 ?r6n24
  case y6n24=>(intro w _;go_simp;try with_reducible rfl)
  (try simp only[Act.put,lA,lB,lC])
  refine eA 7 (fun K hK=>?_)
  have e0:=E11.out.cell (o:=0) rfl
  have e1:=E11.out.cell (o:=1) rfl
  have e2:=E11.out.cell (o:=2) rfl
  have f0:=E11.out.frozen 0
  have f1:=E11.out.frozen 1
  have f2:=E11.out.frozen 2
  have hlt:=E11.out.lt
  have sw:=B11.out.size
  go_simp
  refine hK.out _ _ ?_
  clear hK K
  (try simp only[Act.put,lA,lB,lC])
  refine doneA (by kernel_rfl) ?_ _
  go_wp2_with fail
  exact need_done E11.out B11.out (by show w.heap.size≤w.heap.size+1+1;omega) (need_row N11t56.out (by omega) (by omega)) (need_row N11t58.out (by omega) (by omega)) rfl rfl rfl
set_option maxHeartbeats 4000000 in
set_option maxRecDepth 100000 in
theorem l4Fields_any (tk tu:Int) (tl:Bool) (fa:Option Addr) (fc lo hi:Nat) (fs:List Fd) (w:World) (hx:FieldsIn w lo hi fa fs) (hh:hi≤w.heap.size) (hn:fs.length≤1000) :
  Calls Tryz.prog 172 #[.agg #[.int .i64 tk,.int .i64 tu,.bool tl,.slice fa fs.length fc]] w fun e w'=>∃a c,e=.returned (.slice a fs.length c)∧FdRow w' w.heap.size (.slice a fs.length c) (fs.map sOf)∧Below w.heap.size w w':=by
 have HX:=hide hx
 clear hx
 obtain⟨w1,hw1⟩:∃w1,w1=(w.alloc (.cells #[.int .i64 tk,.int .i64 tu,.bool tl,.slice fa fs.length fc] 143)):=⟨_,rfl⟩
 have BB:Hid (Below w.heap.size w w1):=by show Below _ _ _;rw[hw1];exact(Below.refl _ _).alloc (Nat.le_refl _) _
 have TT:Hid (Rec w1 w.heap.size 143 [.int .i64 tk,.int .i64 tu,.bool tl,.slice fa fs.length fc]):=by show Rec _ _ _ _;rw[hw1];exact Rec.new _ _ _
 have h1:w1.heap.size=w.heap.size+1:=by rw[hw1];simp
 have S1:Hid (FdRow (w1.alloc (.cells #[] 68)) (w.heap.size+1) (.slice (some ⟨w.heap.size+1,0,none⟩) 0 0) []):=⟨rfl,.inr ⟨w.heap.size+1,0,#[],rfl,Nat.le_refl _,by have:=Deep.blk_alloc_new w1 (.cells #[] 68);rw[h1] at this;exact this,Nat.le_refl _,Nat.zero_le _,rfl,rfl⟩⟩
 go_enter Tryz.func172,Tryz.ntmps172
 go_upto_region 1 with(fail)
 rw[←hw1]
 clear hw1
 go_wp2_with fail
 go_loopw [3,4] (fun o i wr=>∃(v:Value) (j:Nat) (xs:List Fd),v=o∧i=.int .i64 j∧j≤fs.length∧Hid (xs=(fs.take j).map sOf)∧Hid (FdRow wr (w.heap.size+1) v xs)∧Hid (Below w.heap.size w wr)∧Hid (Rec wr w.heap.size 143 [.int .i64 tk,.int .i64 tu,.bool tl,.slice fa fs.length fc])) (fun o i wr=>fs.length-(intOf i).toNat)
 case atStart=>exact⟨_,0,[],rfl,rfl,Nat.zero_le _,rfl,S1,BB.out.alloc BB.out.size _,TT.out.alloc _⟩
 case round =>
  obtain⟨v,j,xs,rfl,rfl,hj,HE,HF,HB,HT3⟩:=hrel
  have HL:Hid (xs.length=j):=by show _=_;rw[HE.out,List.length_map,List.length_take];omega
  have t3:=HT3.out.cell (o:=3) rfl
  by_cases hjk:j<fs.length
  ·have hjk':(j:Int)<(fs.length:Int):=by omega
   rcases HX.out with hnil|⟨b,off,rfl,g1,g2,g3⟩
   ·rw[hnil] at hjk;exact absurd hjk (Nat.not_lt_zero _)
   have hbw:b<w.heap.size:=by omega
   obtain⟨f0,f1,f2⟩:=g3 j hjk
   have y0:=(HB.out.cell (p:=⟨b,off+j*3,none⟩) hbw).trans f0
   have y1:=(HB.out.cell (p:=⟨b,off+j*3+1,none⟩) hbw).trans f1
   have y2:=(HB.out.cell (p:=⟨b,off+j*3+2,none⟩) hbw).trans f2
   have HT:=hide (take_sOf hjk)
   clear g3 f0 f1 f2
   generalize fdAt fs j=f at y0 y1 y2 HT
   obtain⟨fk,fo,fm⟩:=f
   simp only[sOf] at y0 y1 y2 HT
   have hbr:b<wr.heap.size:=Nat.lt_of_lt_of_le hbw HB.out.size
   go_wp2_with fail
   refine(l4Of_any fk fo fm _).mono ?_
   rintro e w2 ⟨rfl,b2⟩
   have s0:=HB.out.size
   have F1:=hide ((HF.out.below b2).alloc (.cells #[.int .i64 fk,.int .i64 fo,.bool false] 68))
   have B1:=hide ((HB.out.trans (b2.mono s0)).alloc (Nat.le_trans s0 b2.size) (.cells #[.int .i64 fk,.int .i64 fo,.bool false] 68))
   have T1:=hide ((HT3.out.below b2 HT3.out.lt).alloc (.cells #[.int .i64 fk,.int .i64 fo,.bool false] 68))
   have NR:Rec (w2.alloc (.cells #[.int .i64 fk,.int .i64 fo,.bool false] 68)) w2.heap.size 68 (fcells [(⟨fk,fo,false⟩:Fd)]):=by rw[fcells_l1];exact Rec.new' _ _ _ _ rfl
   have X1:=hide (rec_fieldsN NR (Nat.le_refl _) (show w2.heap.size<w2.heap.size+1 by omega))
   have hl:xs.length≤1000:=by have:=HL.out;omega
   have HB9:=T1.out.lt
   clear b2 NR HF HB t3 HT3
   go_wp2_with (first|(at_builtin;(refine wpList_app_fields rfl _ _ rfl (w.heap.size+1) v xs (some ⟨w2.heap.size,0,none⟩) 1 w2.heap.size (w2.heap.size+1) [⟨fk,fo,false⟩] rfl F1.out rfl (by omega) (by simp) X1.out (by have:=HB9;simp at this ⊢;omega) ?_)))
   intro a2 cap2 w3 hF2 hb2
   have F2:=hide hF2
   have B2:=hide (B1.out.trans (hb2.mono (Nat.le_succ _)))
   have T2:=hide (T1.out.below hb2 (Nat.lt_succ_self _))
   clear hF2 hb2
   go_wp2_with fail
   exact⟨⟨_,j+1,xs++[⟨fk,fo,false⟩],rfl,by go_num,by omega,by show _=_;rw[HE.out];exact HT.out,F2,B2,T2⟩,by simp[intOf];omega⟩
  ·obtain⟨a,cap,rfl⟩:=HF.out.val
   have hje:Hid (j=fs.length):=Nat.le_antisymm hj (Nat.le_of_not_lt hjk)
   have HL2:Hid (xs.length=fs.length):=HL.out.trans hje.out
   have HE2:Hid (xs=fs.map sOf):=by show _=_;rw[HE.out,hje.out,List.take_length]
   have hq:¬(j:Int)<(fs.length:Int):=by omega
   go_wp2_with fail
   go_ret
   exact⟨a,cap,by rw[←HL2.out];rfl,by have:=HF.out.lower (Nat.le_succ _);rw[←HE2.out,←HL2.out];exact this,HB.out⟩
set_option maxHeartbeats 1600000 in
set_option maxRecDepth 100000 in
theorem l4Row_none (tk tu:Int) (tl:Bool) (fa:Option Addr) (n fc:Nat) (op a y:Int) (w:World) (hk:tk≠2) :
  Calls Tryz.prog 121 #[.agg #[.int .i64 tk,.int .i64 tu,.bool tl,.slice fa n fc],.agg #[.int .i64 op,.int .i64 a,.int .i64 y]] w fun e w'=>NeedPost w [] [] false e w':=by
 have hkb:(tk==2)=false:=by simp[hk]
 go_enter Tryz.func121,Tryz.ntmps121
 go_wp2_with fail
 exact bodyPost_ret (rec_res rfl rfl (Rec.new' _ 115 [.slice none 0 0,.slice none 0 0,.bool false] _ (by simp)) Tryz.underlying115 rfl (by kernel_rfl)) rfl ⟨none,0,none,0,rfl,.inl rfl,.inl rfl,(((Below.refl _ _).alloc (Nat.le_refl _) _).alloc (by simp) _).alloc (by simp;omega) _⟩
set_option maxHeartbeats 4000000 in
set_option maxRecDepth 100000 in
theorem l4Box_none (tk tu:Int) (tl:Bool) (fa:Option Addr) (n fc:Nat) (op a y:Int) (w:World) (hk:tk≠1∨(op≠13∧(n:Int)≤y)) :
  Calls Tryz.prog 120 #[.agg #[.int .i64 tk,.int .i64 tu,.bool tl,.slice fa n fc],.agg #[.int .i64 op,.int .i64 a,.int .i64 y]] w fun e w'=>NeedPost w [] [] false e w':=by
 by_cases h1:tk=1
 ·subst h1
  obtain⟨h2,h3⟩:=hk.resolve_left (fun h=>h rfl)
  have h2b:(op==13)=false:=by simp[h2]
  clear hk
  go_enter Tryz.func120,Tryz.ntmps120
  go_wp2_with fail
  exact bodyPost_ret (rec_res rfl rfl (Rec.new' _ 115 [.slice none 0 0,.slice none 0 0,.bool false] _ (by simp)) Tryz.underlying115 rfl (by kernel_rfl)) rfl ⟨none,0,none,0,rfl,.inl rfl,.inl rfl,(((Below.refl _ _).alloc (Nat.le_refl _) _).alloc (by simp) _).alloc (by simp;omega) _⟩
 ·have hkb:(tk==1)=false:=by simp[h1]
  clear hk
  go_enter Tryz.func120,Tryz.ntmps120
  go_wp2_with fail
  exact bodyPost_ret (rec_res rfl rfl (Rec.new' _ 115 [.slice none 0 0,.slice none 0 0,.bool false] _ (by simp)) Tryz.underlying115 rfl (by kernel_rfl)) rfl ⟨none,0,none,0,rfl,.inl rfl,.inl rfl,(((Below.refl _ _).alloc (Nat.le_refl _) _).alloc (by simp) _).alloc (by simp;omega) _⟩
end Go.Proofs.YtpaneomkphjpcaaGreatDoor
