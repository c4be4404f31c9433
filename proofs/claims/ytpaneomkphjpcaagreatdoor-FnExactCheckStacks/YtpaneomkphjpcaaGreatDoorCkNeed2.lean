/- What an instruction that names nothing takes and gives, as the model tells it. Written by tools/made/ckneed2.py. -/
import Derived.Test.YtpaneomkphjpcaaGreatDoorPcReg
import Derived.Test.YtpaneomkphjpcaaGreatDoorPcR1
import Derived.Test.YtpaneomkphjpcaaGreatDoorPcNd
namespace Go.Proofs.YtpaneomkphjpcaaGreatDoor
open Go.ChangeShapes Go.WideShapes Go.ChangeAt Go.RowKit
set_option linter.unusedVariables false
set_option linter.unusedSimpArgs false
structure SN (b ba bn bx:Nat) (iv:List Value) (w':World):Prop where
 i:Rec w' b 40 iv
 a:Rec w' ba 68 [.int .i64 2,.int .i64 (-1),.bool false]
 n:Rec w' bn 68 [.int .i64 1,.int .i64 0,.bool false]
 x:Rec w' bx 68 [.int .i64 (-1),.int .i64 0,.bool false]
theorem SN.below {b ba bn bx:Nat} {iv:List Value} {w w':World} (h:SN b ba bn bx iv w) (hb:Below w.heap.size w w'):SN b ba bn bx iv w':=⟨h.i.below hb h.i.lt,h.a.below hb h.a.lt,h.n.below hb h.n.lt,h.x.below hb h.x.lt⟩
theorem SN.drew {b ba bn bx:Nat} {iv:List Value} {w:World} (h:SN b ba bn bx iv w):SN b ba bn bx iv w.drew:=⟨h.i,h.a,h.n,h.x⟩
def plainT (op:Int):List Fd :=
 match op.toNat with
 | 6=>[⟨-1,0,false⟩]
 | 7=>[⟨1,0,false⟩,⟨1,0,false⟩]
 | 8=>[⟨1,0,false⟩,⟨1,0,false⟩]
 | 9=>[⟨1,0,false⟩,⟨1,0,false⟩]
 | 10=>[⟨1,0,false⟩]
 | 11=>[⟨2,-2,false⟩]
 | 20=>[⟨2,-1,false⟩,⟨2,-1,false⟩]
 | 21=>[⟨2,-1,false⟩]
 | 30=>[⟨1,0,false⟩]
 | 31=>[⟨2,-1,false⟩]
 | 32=>[⟨1,0,false⟩]
 | _=>[]
def plainG (op:Int):List Fd :=
 match op.toNat with
 | 1=>[⟨1,0,false⟩]
 | 7=>[⟨1,0,false⟩]
 | 8=>[⟨1,0,false⟩]
 | 9=>[⟨1,0,false⟩]
 | 10=>[⟨3,-2,false⟩]
 | 11=>[⟨1,0,false⟩]
 | 20=>[⟨1,0,false⟩]
 | 21=>[⟨1,0,false⟩]
 | 32=>[⟨1,0,false⟩]
 | _=>[]
set_option maxHeartbeats 40000000 in
set_option maxRecDepth 100000 in
theorem l4Plain_any (op a y:Int) (w:World) (hop:op=1∨op=6∨op=7∨op=8∨op=9∨op=10∨op=11∨op=20∨op=21∨op=30∨op=31∨op=32∨op=33) :
  Calls Tryz.prog 94 #[.agg #[.int .i64 op,.int .i64 a,.int .i64 y]] w fun e w'=>NeedPost w (plainT op) (plainG op) true e w':=by
 have BB:Hid (Below w.heap.size w ((w.alloc (.cells #[.int .i64 op,.int .i64 a,.int .i64 y] 40)).alloc (.cells #[.slice none 0 0,.slice none 0 0,.bool false] 115))):=((Below.refl _ _).alloc (Nat.le_refl _) _).alloc (by simp) _
 have GG:Hid (Rec ((w.alloc (.cells #[.int .i64 op,.int .i64 a,.int .i64 y] 40)).alloc (.cells #[.slice none 0 0,.slice none 0 0,.bool false] 115)) (w.heap.size+1) 115 [.slice none 0 0,.slice none 0 0,.bool false]):=Rec.new' _ _ _ _ (by simp)
 have II:Hid (Rec ((w.alloc (.cells #[.int .i64 op,.int .i64 a,.int .i64 y] 40)).alloc (.cells #[.slice none 0 0,.slice none 0 0,.bool false] 115)) w.heap.size 40 [.int .i64 op,.int .i64 a,.int .i64 y]):=(Rec.new _ _ _).alloc _
 go_enter Tryz.func94,Tryz.ntmps94
 go_wp2_with fail
 refine(l4Ref_any (-1) _).mono ?_
 rintro e u2 ⟨rfl,b2⟩
 have BC:=hide (BB.out.trans (b2.mono BB.out.size))
 have GC:=hide (GG.out.below b2 GG.out.lt)
 have IC:=hide (II.out.below b2 II.out.lt)
 clear b2 BB GG II
 go_wp2_with fail
 refine(l4Num_any _).mono ?_
 rintro e u3 ⟨rfl,b3⟩
 have AC:Hid (Rec u3 u2.heap.size 68 [.int .i64 2,.int .i64 (-1),.bool false]):=(Rec.new u2 68 [.int .i64 2,.int .i64 (-1),.bool false]).below b3 (by simp)
 have B3:=BC.out.trans ((((Below.refl u2.heap.size u2).alloc (Nat.le_refl _) (.cells #[.int .i64 2,.int .i64 (-1),.bool false] 68)).trans (b3.mono (by simp))).mono BC.out.size)
 have h23:u2.heap.size≤u3.heap.size:=Nat.le_trans (by simp) b3.size
 have GD:=hide (((GC.out.alloc (.cells #[.int .i64 2,.int .i64 (-1),.bool false] 68))).below b3 (by have:=GC.out.lt;simp;omega))
 have ID:=hide (((IC.out.alloc (.cells #[.int .i64 2,.int .i64 (-1),.bool false] 68))).below b3 (by have:=IC.out.lt;simp;omega))
 have BD:=hide B3
 clear b3 BC GC IC B3
 go_upto_region 4 with(fail)
 have B0:=hide ((BD.out.alloc BD.out.size (.cells #[.int .i64 1,.int .i64 0,.bool false] 68)).alloc (by have:=BD.out.size;simp;omega) (.cells #[.int .i64 (-1),.int .i64 0,.bool false] 68))
 have E0:=hide ((GD.out.alloc (.cells #[.int .i64 1,.int .i64 0,.bool false] 68)).alloc (.cells #[.int .i64 (-1),.int .i64 0,.bool false] 68))
 have S0:Hid (SN w.heap.size u2.heap.size u3.heap.size (u3.heap.size+1) [.int .i64 op,.int .i64 a,.int .i64 y] ((u3.alloc (.cells #[.int .i64 1,.int .i64 0,.bool false] 68)).alloc (.cells #[.int .i64 (-1),.int .i64 0,.bool false] 68))):=⟨(ID.out.alloc _).alloc _,(AC.out.alloc _).alloc _,(Rec.new _ _ _).alloc _,Rec.new' _ _ _ _ (by simp)⟩
 clear BD GD ID AC
 generalize ((u3.alloc (.cells #[.int .i64 1,.int .i64 0,.bool false] 68)).alloc (.cells #[.int .i64 (-1),.int .i64 0,.bool false] 68))=w0 at *
 generalize u2.heap.size=ba at *
 generalize u3.heap.size+1=bx at *
 generalize u3.heap.size=bn at *
 have si0:=S0.out.i.cell (o:=0) rfl
 rcases hop with rfl|rfl|rfl|rfl|rfl|rfl|rfl|rfl|rfl|rfl|rfl|rfl|rfl
 ·go_upto_region 6 with(fail)
  clear si0
  have si0:=S0.out.i.cell (o:=0) rfl
  have sa0:=S0.out.a.cell (o:=0) rfl
  have sa1:=S0.out.a.cell (o:=1) rfl
  have sa2:=S0.out.a.cell (o:=2) rfl
  have sn0:=S0.out.n.cell (o:=0) rfl
  have sn1:=S0.out.n.cell (o:=1) rfl
  have sn2:=S0.out.n.cell (o:=2) rfl
  have sx0:=S0.out.x.cell (o:=0) rfl
  have sx1:=S0.out.x.cell (o:=1) rfl
  have sx2:=S0.out.x.cell (o:=2) rfl
  go_wp2_with fail
  (go_at_call 90;refine(l4One_any 1 0 false _).mono ?_;rintro e w1 ⟨r1,rfl,hr1,R1,b1⟩)
  have B1:=hide (B0.out.trans (b1.mono B0.out.size))
  have E1:=hide (E0.out.below b1 E0.out.lt)
  have N1t14:=hide R1
  have lr1:w.heap.size+1<r1:=by have h8:=E0.out.lt;have h9:=hr1;first|omega|(simp at h8 h9;omega)|(simp at h9;omega)|(simp at h8;omega)
  have SL1:=hide (S0.out.below b1)
  clear b1 R1 hr1
  clear si0 sa0 sa1 sa2 sn0 sn1 sn2 sx0 sx1 sx2
  have si0:=SL1.out.i.cell (o:=0) rfl
  have sa0:=SL1.out.a.cell (o:=0) rfl
  have sa1:=SL1.out.a.cell (o:=1) rfl
  have sa2:=SL1.out.a.cell (o:=2) rfl
  have sn0:=SL1.out.n.cell (o:=0) rfl
  have sn1:=SL1.out.n.cell (o:=1) rfl
  have sn2:=SL1.out.n.cell (o:=2) rfl
  have sx0:=SL1.out.x.cell (o:=0) rfl
  have sx1:=SL1.out.x.cell (o:=1) rfl
  have sx2:=SL1.out.x.cell (o:=2) rfl
  have e0:=E1.out.cell (o:=0) rfl
  have e1:=E1.out.cell (o:=1) rfl
  have e2:=E1.out.cell (o:=2) rfl
  have f0:=E1.out.frozen 0
  have f1:=E1.out.frozen 1
  have f2:=E1.out.frozen 2
  have hlt:=E1.out.lt
  have sw:=B1.out.size
  go_wp2_with fail
  exact need_done E1.out B1.out (by show w.heap.size≤w.heap.size+1;omega) (.inl rfl) (need_row N1t14.out (by omega) (by omega)) rfl rfl rfl
 ·go_upto_region 8 with(fail)
  clear si0
  have si0:=S0.out.i.cell (o:=0) rfl
  have sa0:=S0.out.a.cell (o:=0) rfl
  have sa1:=S0.out.a.cell (o:=1) rfl
  have sa2:=S0.out.a.cell (o:=2) rfl
  have sn0:=S0.out.n.cell (o:=0) rfl
  have sn1:=S0.out.n.cell (o:=1) rfl
  have sn2:=S0.out.n.cell (o:=2) rfl
  have sx0:=S0.out.x.cell (o:=0) rfl
  have sx1:=S0.out.x.cell (o:=1) rfl
  have sx2:=S0.out.x.cell (o:=2) rfl
  go_wp2_with fail
  (go_at_call 90;refine(l4One_any (-1) 0 false _).mono ?_;rintro e w2 ⟨r2,rfl,hr2,R2,b2⟩)
  have B2:=hide (B0.out.trans (b2.mono B0.out.size))
  have E2:=hide (E0.out.below b2 E0.out.lt)
  have N2t19:=hide R2
  have lr2:w.heap.size+1<r2:=by have h8:=E0.out.lt;have h9:=hr2;first|omega|(simp at h8 h9;omega)|(simp at h9;omega)|(simp at h8;omega)
  have SL2:=hide (S0.out.below b2)
  clear b2 R2 hr2
  clear si0 sa0 sa1 sa2 sn0 sn1 sn2 sx0 sx1 sx2
  have si0:=SL2.out.i.cell (o:=0) rfl
  have sa0:=SL2.out.a.cell (o:=0) rfl
  have sa1:=SL2.out.a.cell (o:=1) rfl
  have sa2:=SL2.out.a.cell (o:=2) rfl
  have sn0:=SL2.out.n.cell (o:=0) rfl
  have sn1:=SL2.out.n.cell (o:=1) rfl
  have sn2:=SL2.out.n.cell (o:=2) rfl
  have sx0:=SL2.out.x.cell (o:=0) rfl
  have sx1:=SL2.out.x.cell (o:=1) rfl
  have sx2:=SL2.out.x.cell (o:=2) rfl
  have e0:=E2.out.cell (o:=0) rfl
  have e1:=E2.out.cell (o:=1) rfl
  have e2:=E2.out.cell (o:=2) rfl
  have f0:=E2.out.frozen 0
  have f1:=E2.out.frozen 1
  have f2:=E2.out.frozen 2
  have hlt:=E2.out.lt
  have sw:=B2.out.size
  go_wp2_with fail
  exact need_done E2.out B2.out (by show w.heap.size≤w.heap.size+1;omega) (need_row N2t19.out (by omega) (by omega)) (.inl rfl) rfl rfl rfl
 ·go_upto_region 12 with(fail)
  clear si0
  have Bd:=hide B0.out.drew
  have Ed:=hide (Rec.drew' E0.out)
  have SLd:=hide S0.out.drew
  refine beginA (S:=SN w.heap.size ba bn bx [.int .i64 7,.int .i64 a,.int .i64 y]) 6 (by kernel_rfl) SLd.out (fun hHeld=>?_)
  (try simp only[Act.put,lA,lB,lC])
  refine tA 0 (v:=?v0n1) ?y0n1 ?r0n1
  case y0n1=>(intro w hSw;have si0:=hSw.i.cell (o:=0) rfl;have sa0:=hSw.a.cell (o:=0) rfl;have sa1:=hSw.a.cell (o:=1) rfl;have sa2:=hSw.a.cell (o:=2) rfl;have sn0:=hSw.n.cell (o:=0) rfl;have sn1:=hSw.n.cell (o:=1) rfl;have sn2:=hSw.n.cell (o:=2) rfl;have sx0:=hSw.x.cell (o:=0) rfl;have sx1:=hSw.x.cell (o:=1) rfl;have sx2:=hSw.x.cell (o:=2) rfl;go_simp;try with_reducible rfl)
  (try simp only[Act.put,lA,lB,lC])
  refine tA 1 (v:=?v1n2) ?y1n2 ?r1n2
  case y1n2=>(intro w hSw;have si0:=hSw.i.cell (o:=0) rfl;have sa0:=hSw.a.cell (o:=0) rfl;have sa1:=hSw.a.cell (o:=1) rfl;have sa2:=hSw.a.cell (o:=2) rfl;have sn0:=hSw.n.cell (o:=0) rfl;have sn1:=hSw.n.cell (o:=1) rfl;have sn2:=hSw.n.cell (o:=2) rfl;have sx0:=hSw.x.cell (o:=0) rfl;have sx1:=hSw.x.cell (o:=1) rfl;have sx2:=hSw.x.cell (o:=2) rfl;go_simp;try with_reducible rfl)
  (try simp only[Act.put,lA,lB,lC])
  refine tA 3 (v:=?v3n3) ?y3n3 ?r3n3
  case y3n3=>(intro w hSw;have si0:=hSw.i.cell (o:=0) rfl;have sa0:=hSw.a.cell (o:=0) rfl;have sa1:=hSw.a.cell (o:=1) rfl;have sa2:=hSw.a.cell (o:=2) rfl;have sn0:=hSw.n.cell (o:=0) rfl;have sn1:=hSw.n.cell (o:=1) rfl;have sn2:=hSw.n.cell (o:=2) rfl;have sx0:=hSw.x.cell (o:=0) rfl;have sx1:=hSw.x.cell (o:=1) rfl;have sx2:=hSw.x.cell (o:=2) rfl;go_simp;try with_reducible rfl)
  (try simp only[Act.put,lA,lB,lC])
  refine oA 2 (fun K hK=>?_)
  go_simp
  (go_at_call 122;refine(l4Two_any 1 0 false 1 0 false _).mono ?_;rintro e w3 ⟨r3,rfl,hr3,R3,b3⟩)
  have B3:=hide (Bd.out.trans (b3.mono Bd.out.size))
  have E3:=hide (Ed.out.below b3 Ed.out.lt)
  have N3t27:=hide R3
  have lr3:w.heap.size+1<r3:=by have h8:=Ed.out.lt;have h9:=hr3;first|omega|(simp at h8 h9;omega)|(simp at h9;omega)|(simp at h8;omega)
  have HH:=hHeld.below b3
  have SL3:=hide HH
  clear b3 R3 hr3
  refine hK.out _ _ HH (fun hHeld=>?_)
  clear hK K HH
  (try simp only[Act.put,lA,lB,lC])
  refine oA 4 (fun K hK=>?_)
  go_simp
  (go_at_call 90;refine(l4One_any 1 0 false _).mono ?_;rintro e w4 ⟨r4,rfl,hr4,R4,b4⟩)
  have B4:=hide (B3.out.trans (b4.mono B3.out.size))
  have E4:=hide (E3.out.below b4 E3.out.lt)
  have N4t27:=hide (N3t27.out.below b4 N3t27.out.lt)
  have N4t29:=hide R4
  have lr4:w.heap.size+1<r4:=by have h8:=E3.out.lt;have h9:=hr4;first|omega|(simp at h8 h9;omega)|(simp at h9;omega)|(simp at h8;omega)
  have HH:=hHeld.below b4
  have SL4:=hide HH
  clear b4 R4 hr4
  refine hK.out _ _ HH (fun hHeld=>?_)
  clear hK K HH
  (try simp only[Act.put,lA,lB,lC])
  refine tA 5 (v:=?v5n4) ?y5n4 ?r5n4
  case y5n4=>(intro w _;go_simp;try with_reducible rfl)
  (try simp only[Act.put,lA,lB,lC])
  refine eA 6 (fun K hK=>?_)
  have e0:=E4.out.cell (o:=0) rfl
  have e1:=E4.out.cell (o:=1) rfl
  have e2:=E4.out.cell (o:=2) rfl
  have f0:=E4.out.frozen 0
  have f1:=E4.out.frozen 1
  have f2:=E4.out.frozen 2
  have hlt:=E4.out.lt
  have sw:=B4.out.size
  go_simp
  refine hK.out _ _ ?_
  clear hK K
  (try simp only[Act.put,lA,lB,lC])
  refine doneA (by kernel_rfl) ?_ _
  go_wp2_with fail
  exact need_done E4.out B4.out (by show w.heap.size≤w.heap.size+1;omega) (need_row N4t27.out (by omega) (by omega)) (need_row N4t29.out (by omega) (by omega)) rfl rfl rfl
 ·go_upto_region 12 with(fail)
  clear si0
  have Bd:=hide B0.out.drew
  have Ed:=hide (Rec.drew' E0.out)
  have SLd:=hide S0.out.drew
  refine beginA (S:=SN w.heap.size ba bn bx [.int .i64 8,.int .i64 a,.int .i64 y]) 6 (by kernel_rfl) SLd.out (fun hHeld=>?_)
  (try simp only[Act.put,lA,lB,lC])
  refine tA 0 (v:=?v0n5) ?y0n5 ?r0n5
  case y0n5=>(intro w hSw;have si0:=hSw.i.cell (o:=0) rfl;have sa0:=hSw.a.cell (o:=0) rfl;have sa1:=hSw.a.cell (o:=1) rfl;have sa2:=hSw.a.cell (o:=2) rfl;have sn0:=hSw.n.cell (o:=0) rfl;have sn1:=hSw.n.cell (o:=1) rfl;have sn2:=hSw.n.cell (o:=2) rfl;have sx0:=hSw.x.cell (o:=0) rfl;have sx1:=hSw.x.cell (o:=1) rfl;have sx2:=hSw.x.cell (o:=2) rfl;go_simp;try with_reducible rfl)
  (try simp only[Act.put,lA,lB,lC])
  refine tA 1 (v:=?v1n6) ?y1n6 ?r1n6
  case y1n6=>(intro w hSw;have si0:=hSw.i.cell (o:=0) rfl;have sa0:=hSw.a.cell (o:=0) rfl;have sa1:=hSw.a.cell (o:=1) rfl;have sa2:=hSw.a.cell (o:=2) rfl;have sn0:=hSw.n.cell (o:=0) rfl;have sn1:=hSw.n.cell (o:=1) rfl;have sn2:=hSw.n.cell (o:=2) rfl;have sx0:=hSw.x.cell (o:=0) rfl;have sx1:=hSw.x.cell (o:=1) rfl;have sx2:=hSw.x.cell (o:=2) rfl;go_simp;try with_reducible rfl)
  (try simp only[Act.put,lA,lB,lC])
  refine tA 3 (v:=?v3n7) ?y3n7 ?r3n7
  case y3n7=>(intro w hSw;have si0:=hSw.i.cell (o:=0) rfl;have sa0:=hSw.a.cell (o:=0) rfl;have sa1:=hSw.a.cell (o:=1) rfl;have sa2:=hSw.a.cell (o:=2) rfl;have sn0:=hSw.n.cell (o:=0) rfl;have sn1:=hSw.n.cell (o:=1) rfl;have sn2:=hSw.n.cell (o:=2) rfl;have sx0:=hSw.x.cell (o:=0) rfl;have sx1:=hSw.x.cell (o:=1) rfl;have sx2:=hSw.x.cell (o:=2) rfl;go_simp;try with_reducible rfl)
  (try simp only[Act.put,lA,lB,lC])
  refine oA 2 (fun K hK=>?_)
  go_simp
  (go_at_call 122;refine(l4Two_any 1 0 false 1 0 false _).mono ?_;rintro e w5 ⟨r5,rfl,hr5,R5,b5⟩)
  have B5:=hide (Bd.out.trans (b5.mono Bd.out.size))
  have E5:=hide (Ed.out.below b5 Ed.out.lt)
  have N5t27:=hide R5
  have lr5:w.heap.size+1<r5:=by have h8:=Ed.out.lt;have h9:=hr5;first|omega|(simp at h8 h9;omega)|(simp at h9;omega)|(simp at h8;omega)
  have HH:=hHeld.below b5
  have SL5:=hide HH
  clear b5 R5 hr5
  refine hK.out _ _ HH (fun hHeld=>?_)
  clear hK K HH
  (try simp only[Act.put,lA,lB,lC])
  refine oA 4 (fun K hK=>?_)
  go_simp
  (go_at_call 90;refine(l4One_any 1 0 false _).mono ?_;rintro e w6 ⟨r6,rfl,hr6,R6,b6⟩)
  have B6:=hide (B5.out.trans (b6.mono B5.out.size))
  have E6:=hide (E5.out.below b6 E5.out.lt)
  have N6t27:=hide (N5t27.out.below b6 N5t27.out.lt)
  have N6t29:=hide R6
  have lr6:w.heap.size+1<r6:=by have h8:=E5.out.lt;have h9:=hr6;first|omega|(simp at h8 h9;omega)|(simp at h9;omega)|(simp at h8;omega)
  have HH:=hHeld.below b6
  have SL6:=hide HH
  clear b6 R6 hr6
  refine hK.out _ _ HH (fun hHeld=>?_)
  clear hK K HH
  (try simp only[Act.put,lA,lB,lC])
  refine tA 5 (v:=?v5n8) ?y5n8 ?r5n8
  case y5n8=>(intro w _;go_simp;try with_reducible rfl)
  (try simp only[Act.put,lA,lB,lC])
  refine eA 6 (fun K hK=>?_)
  have e0:=E6.out.cell (o:=0) rfl
  have e1:=E6.out.cell (o:=1) rfl
  have e2:=E6.out.cell (o:=2) rfl
  have f0:=E6.out.frozen 0
  have f1:=E6.out.frozen 1
  have f2:=E6.out.frozen 2
  have hlt:=E6.out.lt
  have sw:=B6.out.size
  go_simp
  refine hK.out _ _ ?_
  clear hK K
  (try simp only[Act.put,lA,lB,lC])
  refine doneA (by kernel_rfl) ?_ _
  go_wp2_with fail
  exact need_done E6.out B6.out (by show w.heap.size≤w.heap.size+1;omega) (need_row N6t27.out (by omega) (by omega)) (need_row N6t29.out (by omega) (by omega)) rfl rfl rfl
 ·go_upto_region 12 with(fail)
  clear si0
  have Bd:=hide B0.out.drew
  have Ed:=hide (Rec.drew' E0.out)
  have SLd:=hide S0.out.drew
  refine beginA (S:=SN w.heap.size ba bn bx [.int .i64 9,.int .i64 a,.int .i64 y]) 6 (by kernel_rfl) SLd.out (fun hHeld=>?_)
  (try simp only[Act.put,lA,lB,lC])
  refine tA 0 (v:=?v0n9) ?y0n9 ?r0n9
  case y0n9=>(intro w hSw;have si0:=hSw.i.cell (o:=0) rfl;have sa0:=hSw.a.cell (o:=0) rfl;have sa1:=hSw.a.cell (o:=1) rfl;have sa2:=hSw.a.cell (o:=2) rfl;have sn0:=hSw.n.cell (o:=0) rfl;have sn1:=hSw.n.cell (o:=1) rfl;have sn2:=hSw.n.cell (o:=2) rfl;have sx0:=hSw.x.cell (o:=0) rfl;have sx1:=hSw.x.cell (o:=1) rfl;have sx2:=hSw.x.cell (o:=2) rfl;go_simp;try with_reducible rfl)
  (try simp only[Act.put,lA,lB,lC])
  refine tA 1 (v:=?v1n10) ?y1n10 ?r1n10
  case y1n10=>(intro w hSw;have si0:=hSw.i.cell (o:=0) rfl;have sa0:=hSw.a.cell (o:=0) rfl;have sa1:=hSw.a.cell (o:=1) rfl;have sa2:=hSw.a.cell (o:=2) rfl;have sn0:=hSw.n.cell (o:=0) rfl;have sn1:=hSw.n.cell (o:=1) rfl;have sn2:=hSw.n.cell (o:=2) rfl;have sx0:=hSw.x.cell (o:=0) rfl;have sx1:=hSw.x.cell (o:=1) rfl;have sx2:=hSw.x.cell (o:=2) rfl;go_simp;try with_reducible rfl)
  (try simp only[Act.put,lA,lB,lC])
  refine tA 3 (v:=?v3n11) ?y3n11 ?r3n11
  case y3n11=>(intro w hSw;have si0:=hSw.i.cell (o:=0) rfl;have sa0:=hSw.a.cell (o:=0) rfl;have sa1:=hSw.a.cell (o:=1) rfl;have sa2:=hSw.a.cell (o:=2) rfl;have sn0:=hSw.n.cell (o:=0) rfl;have sn1:=hSw.n.cell (o:=1) rfl;have sn2:=hSw.n.cell (o:=2) rfl;have sx0:=hSw.x.cell (o:=0) rfl;have sx1:=hSw.x.cell (o:=1) rfl;have sx2:=hSw.x.cell (o:=2) rfl;go_simp;try with_reducible rfl)
  (try simp only[Act.put,lA,lB,lC])
  refine oA 2 (fun K hK=>?_)
  go_simp
  (go_at_call 122;refine(l4Two_any 1 0 false 1 0 false _).mono ?_;rintro e w7 ⟨r7,rfl,hr7,R7,b7⟩)
  have B7:=hide (Bd.out.trans (b7.mono Bd.out.size))
  have E7:=hide (Ed.out.below b7 Ed.out.lt)
  have N7t27:=hide R7
  have lr7:w.heap.size+1<r7:=by have h8:=Ed.out.lt;have h9:=hr7;first|omega|(simp at h8 h9;omega)|(simp at h9;omega)|(simp at h8;omega)
  have HH:=hHeld.below b7
  have SL7:=hide HH
  clear b7 R7 hr7
  refine hK.out _ _ HH (fun hHeld=>?_)
  clear hK K HH
  (try simp only[Act.put,lA,lB,lC])
  refine oA 4 (fun K hK=>?_)
  go_simp
  (go_at_call 90;refine(l4One_any 1 0 false _).mono ?_;rintro e w8 ⟨r8,rfl,hr8,R8,b8⟩)
  have B8:=hide (B7.out.trans (b8.mono B7.out.size))
  have E8:=hide (E7.out.below b8 E7.out.lt)
  have N8t27:=hide (N7t27.out.below b8 N7t27.out.lt)
  have N8t29:=hide R8
  have lr8:w.heap.size+1<r8:=by have h8:=E7.out.lt;have h9:=hr8;first|omega|(simp at h8 h9;omega)|(simp at h9;omega)|(simp at h8;omega)
  have HH:=hHeld.below b8
  have SL8:=hide HH
  clear b8 R8 hr8
  refine hK.out _ _ HH (fun hHeld=>?_)
  clear hK K HH
  (try simp only[Act.put,lA,lB,lC])
  refine tA 5 (v:=?v5n12) ?y5n12 ?r5n12
  case y5n12=>(intro w _;go_simp;try with_reducible rfl)
  (try simp only[Act.put,lA,lB,lC])
  refine eA 6 (fun K hK=>?_)
  have e0:=E8.out.cell (o:=0) rfl
  have e1:=E8.out.cell (o:=1) rfl
  have e2:=E8.out.cell (o:=2) rfl
  have f0:=E8.out.frozen 0
  have f1:=E8.out.frozen 1
  have f2:=E8.out.frozen 2
  have hlt:=E8.out.lt
  have sw:=B8.out.size
  go_simp
  refine hK.out _ _ ?_
  clear hK K
  (try simp only[Act.put,lA,lB,lC])
  refine doneA (by kernel_rfl) ?_ _
  go_wp2_with fail
  exact need_done E8.out B8.out (by show w.heap.size≤w.heap.size+1;omega) (need_row N8t27.out (by omega) (by omega)) (need_row N8t29.out (by omega) (by omega)) rfl rfl rfl
 ·go_upto_region 14 with(fail)
  clear si0
  have si0:=S0.out.i.cell (o:=0) rfl
  have sa0:=S0.out.a.cell (o:=0) rfl
  have sa1:=S0.out.a.cell (o:=1) rfl
  have sa2:=S0.out.a.cell (o:=2) rfl
  have sn0:=S0.out.n.cell (o:=0) rfl
  have sn1:=S0.out.n.cell (o:=1) rfl
  have sn2:=S0.out.n.cell (o:=2) rfl
  have sx0:=S0.out.x.cell (o:=0) rfl
  have sx1:=S0.out.x.cell (o:=1) rfl
  have sx2:=S0.out.x.cell (o:=2) rfl
  go_wp2_with fail
  (go_at_call 90;refine(l4One_any 1 0 false _).mono ?_;rintro e w9 ⟨r9,rfl,hr9,R9,b9⟩)
  have B9:=hide (B0.out.trans (b9.mono B0.out.size))
  have E9:=hide (E0.out.below b9 E0.out.lt)
  have N9t34:=hide R9
  have lr9:w.heap.size+1<r9:=by have h8:=E0.out.lt;have h9:=hr9;first|omega|(simp at h8 h9;omega)|(simp at h9;omega)|(simp at h8;omega)
  have SL9:=hide (S0.out.below b9)
  clear b9 R9 hr9
  clear si0 sa0 sa1 sa2 sn0 sn1 sn2 sx0 sx1 sx2
  have si0:=SL9.out.i.cell (o:=0) rfl
  have sa0:=SL9.out.a.cell (o:=0) rfl
  have sa1:=SL9.out.a.cell (o:=1) rfl
  have sa2:=SL9.out.a.cell (o:=2) rfl
  have sn0:=SL9.out.n.cell (o:=0) rfl
  have sn1:=SL9.out.n.cell (o:=1) rfl
  have sn2:=SL9.out.n.cell (o:=2) rfl
  have sx0:=SL9.out.x.cell (o:=0) rfl
  have sx1:=SL9.out.x.cell (o:=1) rfl
  have sx2:=SL9.out.x.cell (o:=2) rfl
  go_wp2_with fail
  (go_at_call 92;refine(l4Sure_any (-2) _).mono ?_;rintro e w10 ⟨rfl,b10⟩)
  have B10:=hide (B9.out.trans (b10.mono B9.out.size))
  have E10:=hide (E9.out.below b10 E9.out.lt)
  have N10t34:=hide (N9t34.out.below b10 N9t34.out.lt)
  have SL10:=hide (SL9.out.below b10)
  clear b10
  clear si0 sa0 sa1 sa2 sn0 sn1 sn2 sx0 sx1 sx2
  have si0:=SL10.out.i.cell (o:=0) rfl
  have sa0:=SL10.out.a.cell (o:=0) rfl
  have sa1:=SL10.out.a.cell (o:=1) rfl
  have sa2:=SL10.out.a.cell (o:=2) rfl
  have sn0:=SL10.out.n.cell (o:=0) rfl
  have sn1:=SL10.out.n.cell (o:=1) rfl
  have sn2:=SL10.out.n.cell (o:=2) rfl
  have sx0:=SL10.out.x.cell (o:=0) rfl
  have sx1:=SL10.out.x.cell (o:=1) rfl
  have sx2:=SL10.out.x.cell (o:=2) rfl
  go_wp2_with fail
  (go_at_call 90;refine(l4One_any 3 (-2) false _).mono ?_;rintro e w11 ⟨r11,rfl,hr11,R11,b11⟩)
  have B11:=hide (B10.out.trans (b11.mono B10.out.size))
  have E11:=hide (E10.out.below b11 E10.out.lt)
  have N11t34:=hide (N10t34.out.below b11 N10t34.out.lt)
  have N11t36:=hide R11
  have lr11:w.heap.size+1<r11:=by have h8:=E10.out.lt;have h9:=hr11;first|omega|(simp at h8 h9;omega)|(simp at h9;omega)|(simp at h8;omega)
  have SL11:=hide (SL10.out.below b11)
  clear b11 R11 hr11
  clear si0 sa0 sa1 sa2 sn0 sn1 sn2 sx0 sx1 sx2
  have si0:=SL11.out.i.cell (o:=0) rfl
  have sa0:=SL11.out.a.cell (o:=0) rfl
  have sa1:=SL11.out.a.cell (o:=1) rfl
  have sa2:=SL11.out.a.cell (o:=2) rfl
  have sn0:=SL11.out.n.cell (o:=0) rfl
  have sn1:=SL11.out.n.cell (o:=1) rfl
  have sn2:=SL11.out.n.cell (o:=2) rfl
  have sx0:=SL11.out.x.cell (o:=0) rfl
  have sx1:=SL11.out.x.cell (o:=1) rfl
  have sx2:=SL11.out.x.cell (o:=2) rfl
  have e0:=E11.out.cell (o:=0) rfl
  have e1:=E11.out.cell (o:=1) rfl
  have e2:=E11.out.cell (o:=2) rfl
  have f0:=E11.out.frozen 0
  have f1:=E11.out.frozen 1
  have f2:=E11.out.frozen 2
  have hlt:=E11.out.lt
  have sw:=B11.out.size
  go_wp2_with fail
  exact need_done E11.out B11.out (by show w.heap.size≤w.heap.size+1;omega) (need_row N11t34.out (by omega) (by omega)) (need_row N11t36.out (by omega) (by omega)) rfl rfl rfl
 ·go_upto_region 16 with(fail)
  clear si0
  have Bd:=hide B0.out.drew
  have Ed:=hide (Rec.drew' E0.out)
  have SLd:=hide S0.out.drew
  refine beginA (S:=SN w.heap.size ba bn bx [.int .i64 11,.int .i64 a,.int .i64 y]) 5 (by kernel_rfl) SLd.out (fun hHeld=>?_)
  (try simp only[Act.put,lA,lB,lC])
  refine tA 2 (v:=?v2n13) ?y2n13 ?r2n13
  case y2n13=>(intro w hSw;have si0:=hSw.i.cell (o:=0) rfl;have sa0:=hSw.a.cell (o:=0) rfl;have sa1:=hSw.a.cell (o:=1) rfl;have sa2:=hSw.a.cell (o:=2) rfl;have sn0:=hSw.n.cell (o:=0) rfl;have sn1:=hSw.n.cell (o:=1) rfl;have sn2:=hSw.n.cell (o:=2) rfl;have sx0:=hSw.x.cell (o:=0) rfl;have sx1:=hSw.x.cell (o:=1) rfl;have sx2:=hSw.x.cell (o:=2) rfl;go_simp;try with_reducible rfl)
  (try simp only[Act.put,lA,lB,lC])
  refine oA 0 (fun K hK=>?_)
  go_simp
  (go_at_call 86;refine(l4Ref_any (-2) _).mono ?_;rintro e w12 ⟨rfl,b12⟩)
  have B12:=hide (Bd.out.trans (b12.mono Bd.out.size))
  have E12:=hide (Ed.out.below b12 Ed.out.lt)
  have HH:=hHeld.below b12
  have SL12:=hide HH
  clear b12
  refine hK.out _ _ HH (fun hHeld=>?_)
  clear hK K HH
  (try simp only[Act.put,lA,lB,lC])
  refine oA 1 (fun K hK=>?_)
  go_simp
  (go_at_call 90;refine(l4One_any 2 (-2) false _).mono ?_;rintro e w13 ⟨r13,rfl,hr13,R13,b13⟩)
  have B13:=hide (B12.out.trans (b13.mono B12.out.size))
  have E13:=hide (E12.out.below b13 E12.out.lt)
  have N13t41:=hide R13
  have lr13:w.heap.size+1<r13:=by have h8:=E12.out.lt;have h9:=hr13;first|omega|(simp at h8 h9;omega)|(simp at h9;omega)|(simp at h8;omega)
  have HH:=hHeld.below b13
  have SL13:=hide HH
  clear b13 R13 hr13
  refine hK.out _ _ HH (fun hHeld=>?_)
  clear hK K HH
  (try simp only[Act.put,lA,lB,lC])
  refine oA 3 (fun K hK=>?_)
  go_simp
  (go_at_call 90;refine(l4One_any 1 0 false _).mono ?_;rintro e w14 ⟨r14,rfl,hr14,R14,b14⟩)
  have B14:=hide (B13.out.trans (b14.mono B13.out.size))
  have E14:=hide (E13.out.below b14 E13.out.lt)
  have N14t41:=hide (N13t41.out.below b14 N13t41.out.lt)
  have N14t43:=hide R14
  have lr14:w.heap.size+1<r14:=by have h8:=E13.out.lt;have h9:=hr14;first|omega|(simp at h8 h9;omega)|(simp at h9;omega)|(simp at h8;omega)
  have HH:=hHeld.below b14
  have SL14:=hide HH
  clear b14 R14 hr14
  refine hK.out _ _ HH (fun hHeld=>?_)
  clear hK K HH
  (try simp only[Act.put,lA,lB,lC])
  refine tA 4 (v:=?v4n14) ?y4n14 ?r4n14
  case y4n14=>(intro w _;go_simp;try with_reducible rfl)
  (try simp only[Act.put,lA,lB,lC])
  refine eA 5 (fun K hK=>?_)
  have e0:=E14.out.cell (o:=0) rfl
  have e1:=E14.out.cell (o:=1) rfl
  have e2:=E14.out.cell (o:=2) rfl
  have f0:=E14.out.frozen 0
  have f1:=E14.out.frozen 1
  have f2:=E14.out.frozen 2
  have hlt:=E14.out.lt
  have sw:=B14.out.size
  go_simp
  refine hK.out _ _ ?_
  clear hK K
  (try simp only[Act.put,lA,lB,lC])
  refine doneA (by kernel_rfl) ?_ _
  go_wp2_with fail
  exact need_done E14.out B14.out (by show w.heap.size≤w.heap.size+1;omega) (need_row N14t41.out (by omega) (by omega)) (need_row N14t43.out (by omega) (by omega)) rfl rfl rfl
 ·go_upto_region 18 with(fail)
  clear si0
  have Bd:=hide B0.out.drew
  have Ed:=hide (Rec.drew' E0.out)
  have SLd:=hide S0.out.drew
  refine beginA (S:=SN w.heap.size ba bn bx [.int .i64 20,.int .i64 a,.int .i64 y]) 6 (by kernel_rfl) SLd.out (fun hHeld=>?_)
  (try simp only[Act.put,lA,lB,lC])
  refine tA 0 (v:=?v0n15) ?y0n15 ?r0n15
  case y0n15=>(intro w hSw;have si0:=hSw.i.cell (o:=0) rfl;have sa0:=hSw.a.cell (o:=0) rfl;have sa1:=hSw.a.cell (o:=1) rfl;have sa2:=hSw.a.cell (o:=2) rfl;have sn0:=hSw.n.cell (o:=0) rfl;have sn1:=hSw.n.cell (o:=1) rfl;have sn2:=hSw.n.cell (o:=2) rfl;have sx0:=hSw.x.cell (o:=0) rfl;have sx1:=hSw.x.cell (o:=1) rfl;have sx2:=hSw.x.cell (o:=2) rfl;go_simp;try with_reducible rfl)
  (try simp only[Act.put,lA,lB,lC])
  refine tA 1 (v:=?v1n16) ?y1n16 ?r1n16
  case y1n16=>(intro w hSw;have si0:=hSw.i.cell (o:=0) rfl;have sa0:=hSw.a.cell (o:=0) rfl;have sa1:=hSw.a.cell (o:=1) rfl;have sa2:=hSw.a.cell (o:=2) rfl;have sn0:=hSw.n.cell (o:=0) rfl;have sn1:=hSw.n.cell (o:=1) rfl;have sn2:=hSw.n.cell (o:=2) rfl;have sx0:=hSw.x.cell (o:=0) rfl;have sx1:=hSw.x.cell (o:=1) rfl;have sx2:=hSw.x.cell (o:=2) rfl;go_simp;try with_reducible rfl)
  (try simp only[Act.put,lA,lB,lC])
  refine tA 3 (v:=?v3n17) ?y3n17 ?r3n17
  case y3n17=>(intro w hSw;have si0:=hSw.i.cell (o:=0) rfl;have sa0:=hSw.a.cell (o:=0) rfl;have sa1:=hSw.a.cell (o:=1) rfl;have sa2:=hSw.a.cell (o:=2) rfl;have sn0:=hSw.n.cell (o:=0) rfl;have sn1:=hSw.n.cell (o:=1) rfl;have sn2:=hSw.n.cell (o:=2) rfl;have sx0:=hSw.x.cell (o:=0) rfl;have sx1:=hSw.x.cell (o:=1) rfl;have sx2:=hSw.x.cell (o:=2) rfl;go_simp;try with_reducible rfl)
  (try simp only[Act.put,lA,lB,lC])
  refine oA 2 (fun K hK=>?_)
  go_simp
  (go_at_call 122;refine(l4Two_any 2 (-1) false 2 (-1) false _).mono ?_;rintro e w15 ⟨r15,rfl,hr15,R15,b15⟩)
  have B15:=hide (Bd.out.trans (b15.mono Bd.out.size))
  have E15:=hide (Ed.out.below b15 Ed.out.lt)
  have N15t49:=hide R15
  have lr15:w.heap.size+1<r15:=by have h8:=Ed.out.lt;have h9:=hr15;first|omega|(simp at h8 h9;omega)|(simp at h9;omega)|(simp at h8;omega)
  have HH:=hHeld.below b15
  have SL15:=hide HH
  clear b15 R15 hr15
  refine hK.out _ _ HH (fun hHeld=>?_)
  clear hK K HH
  (try simp only[Act.put,lA,lB,lC])
  refine oA 4 (fun K hK=>?_)
  go_simp
  (go_at_call 90;refine(l4One_any 1 0 false _).mono ?_;rintro e w16 ⟨r16,rfl,hr16,R16,b16⟩)
  have B16:=hide (B15.out.trans (b16.mono B15.out.size))
  have E16:=hide (E15.out.below b16 E15.out.lt)
  have N16t49:=hide (N15t49.out.below b16 N15t49.out.lt)
  have N16t51:=hide R16
  have lr16:w.heap.size+1<r16:=by have h8:=E15.out.lt;have h9:=hr16;first|omega|(simp at h8 h9;omega)|(simp at h9;omega)|(simp at h8;omega)
  have HH:=hHeld.below b16
  have SL16:=hide HH
  clear b16 R16 hr16
  refine hK.out _ _ HH (fun hHeld=>?_)
  clear hK K HH
  (try simp only[Act.put,lA,lB,lC])
  refine tA 5 (v:=?v5n18) ?y5n18 ?r5n18
  case y5n18=>(intro w _;go_simp;try with_reducible rfl)
  (try simp only[Act.put,lA,lB,lC])
  refine eA 6 (fun K hK=>?_)
  have e0:=E16.out.cell (o:=0) rfl
  have e1:=E16.out.cell (o:=1) rfl
  have e2:=E16.out.cell (o:=2) rfl
  have f0:=E16.out.frozen 0
  have f1:=E16.out.frozen 1
  have f2:=E16.out.frozen 2
  have hlt:=E16.out.lt
  have sw:=B16.out.size
  go_simp
  refine hK.out _ _ ?_
  clear hK K
  (try simp only[Act.put,lA,lB,lC])
  refine doneA (by kernel_rfl) ?_ _
  go_wp2_with fail
  exact need_done E16.out B16.out (by show w.heap.size≤w.heap.size+1;omega) (need_row N16t49.out (by omega) (by omega)) (need_row N16t51.out (by omega) (by omega)) rfl rfl rfl
 ·go_upto_region 20 with(fail)
  clear si0
  have Bd:=hide B0.out.drew
  have Ed:=hide (Rec.drew' E0.out)
  have SLd:=hide S0.out.drew
  refine beginA (S:=SN w.heap.size ba bn bx [.int .i64 21,.int .i64 a,.int .i64 y]) 5 (by kernel_rfl) SLd.out (fun hHeld=>?_)
  (try simp only[Act.put,lA,lB,lC])
  refine tA 0 (v:=?v0n19) ?y0n19 ?r0n19
  case y0n19=>(intro w hSw;have si0:=hSw.i.cell (o:=0) rfl;have sa0:=hSw.a.cell (o:=0) rfl;have sa1:=hSw.a.cell (o:=1) rfl;have sa2:=hSw.a.cell (o:=2) rfl;have sn0:=hSw.n.cell (o:=0) rfl;have sn1:=hSw.n.cell (o:=1) rfl;have sn2:=hSw.n.cell (o:=2) rfl;have sx0:=hSw.x.cell (o:=0) rfl;have sx1:=hSw.x.cell (o:=1) rfl;have sx2:=hSw.x.cell (o:=2) rfl;go_simp;try with_reducible rfl)
  (try simp only[Act.put,lA,lB,lC])
  refine tA 2 (v:=?v2n20) ?y2n20 ?r2n20
  case y2n20=>(intro w hSw;have si0:=hSw.i.cell (o:=0) rfl;have sa0:=hSw.a.cell (o:=0) rfl;have sa1:=hSw.a.cell (o:=1) rfl;have sa2:=hSw.a.cell (o:=2) rfl;have sn0:=hSw.n.cell (o:=0) rfl;have sn1:=hSw.n.cell (o:=1) rfl;have sn2:=hSw.n.cell (o:=2) rfl;have sx0:=hSw.x.cell (o:=0) rfl;have sx1:=hSw.x.cell (o:=1) rfl;have sx2:=hSw.x.cell (o:=2) rfl;go_simp;try with_reducible rfl)
  (try simp only[Act.put,lA,lB,lC])
  refine oA 1 (fun K hK=>?_)
  go_simp
  (go_at_call 90;refine(l4One_any 2 (-1) false _).mono ?_;rintro e w17 ⟨r17,rfl,hr17,R17,b17⟩)
  have B17:=hide (Bd.out.trans (b17.mono Bd.out.size))
  have E17:=hide (Ed.out.below b17 Ed.out.lt)
  have N17t56:=hide R17
  have lr17:w.heap.size+1<r17:=by have h8:=Ed.out.lt;have h9:=hr17;first|omega|(simp at h8 h9;omega)|(simp at h9;omega)|(simp at h8;omega)
  have HH:=hHeld.below b17
  have SL17:=hide HH
  clear b17 R17 hr17
  refine hK.out _ _ HH (fun hHeld=>?_)
  clear hK K HH
  (try simp only[Act.put,lA,lB,lC])
  refine oA 3 (fun K hK=>?_)
  go_simp
  (go_at_call 90;refine(l4One_any 1 0 false _).mono ?_;rintro e w18 ⟨r18,rfl,hr18,R18,b18⟩)
  have B18:=hide (B17.out.trans (b18.mono B17.out.size))
  have E18:=hide (E17.out.below b18 E17.out.lt)
  have N18t56:=hide (N17t56.out.below b18 N17t56.out.lt)
  have N18t58:=hide R18
  have lr18:w.heap.size+1<r18:=by have h8:=E17.out.lt;have h9:=hr18;first|omega|(simp at h8 h9;omega)|(simp at h9;omega)|(simp at h8;omega)
  have HH:=hHeld.below b18
  have SL18:=hide HH
  clear b18 R18 hr18
  refine hK.out _ _ HH (fun hHeld=>?_)
  clear hK K HH
  (try simp only[Act.put,lA,lB,lC])
  refine tA 4 (v:=?v4n21) ?y4n21 ?r4n21
  case y4n21=>(intro w _;go_simp;try with_reducible rfl)
  (try simp only[Act.put,lA,lB,lC])
  refine eA 5 (fun K hK=>?_)
  have e0:=E18.out.cell (o:=0) rfl
  have e1:=E18.out.cell (o:=1) rfl
  have e2:=E18.out.cell (o:=2) rfl
  have f0:=E18.out.frozen 0
  have f1:=E18.out.frozen 1
  have f2:=E18.out.frozen 2
  have hlt:=E18.out.lt
  have sw:=B18.out.size
  go_simp
  refine hK.out _ _ ?_
  clear hK K
  (try simp only[Act.put,lA,lB,lC])
  refine doneA (by kernel_rfl) ?_ _
  go_wp2_with fail
  exact need_done E18.out B18.out (by show w.heap.size≤w.heap.size+1;omega) (need_row N18t56.out (by omega) (by omega)) (need_row N18t58.out (by omega) (by omega)) rfl rfl rfl
 ·go_upto_region 22 with(fail)
  clear si0
  have si0:=S0.out.i.cell (o:=0) rfl
  have sa0:=S0.out.a.cell (o:=0) rfl
  have sa1:=S0.out.a.cell (o:=1) rfl
  have sa2:=S0.out.a.cell (o:=2) rfl
  have sn0:=S0.out.n.cell (o:=0) rfl
  have sn1:=S0.out.n.cell (o:=1) rfl
  have sn2:=S0.out.n.cell (o:=2) rfl
  have sx0:=S0.out.x.cell (o:=0) rfl
  have sx1:=S0.out.x.cell (o:=1) rfl
  have sx2:=S0.out.x.cell (o:=2) rfl
  go_wp2_with fail
  (go_at_call 90;refine(l4One_any 1 0 false _).mono ?_;rintro e w19 ⟨r19,rfl,hr19,R19,b19⟩)
  have B19:=hide (B0.out.trans (b19.mono B0.out.size))
  have E19:=hide (E0.out.below b19 E0.out.lt)
  have N19t63:=hide R19
  have lr19:w.heap.size+1<r19:=by have h8:=E0.out.lt;have h9:=hr19;first|omega|(simp at h8 h9;omega)|(simp at h9;omega)|(simp at h8;omega)
  have SL19:=hide (S0.out.below b19)
  clear b19 R19 hr19
  clear si0 sa0 sa1 sa2 sn0 sn1 sn2 sx0 sx1 sx2
  have si0:=SL19.out.i.cell (o:=0) rfl
  have sa0:=SL19.out.a.cell (o:=0) rfl
  have sa1:=SL19.out.a.cell (o:=1) rfl
  have sa2:=SL19.out.a.cell (o:=2) rfl
  have sn0:=SL19.out.n.cell (o:=0) rfl
  have sn1:=SL19.out.n.cell (o:=1) rfl
  have sn2:=SL19.out.n.cell (o:=2) rfl
  have sx0:=SL19.out.x.cell (o:=0) rfl
  have sx1:=SL19.out.x.cell (o:=1) rfl
  have sx2:=SL19.out.x.cell (o:=2) rfl
  have e0:=E19.out.cell (o:=0) rfl
  have e1:=E19.out.cell (o:=1) rfl
  have e2:=E19.out.cell (o:=2) rfl
  have f0:=E19.out.frozen 0
  have f1:=E19.out.frozen 1
  have f2:=E19.out.frozen 2
  have hlt:=E19.out.lt
  have sw:=B19.out.size
  go_wp2_with fail
  exact need_done E19.out B19.out (by show w.heap.size≤w.heap.size+1;omega) (need_row N19t63.out (by omega) (by omega)) (.inl rfl) rfl rfl rfl
 ·go_upto_region 24 with(fail)
  clear si0
  have si0:=S0.out.i.cell (o:=0) rfl
  have sa0:=S0.out.a.cell (o:=0) rfl
  have sa1:=S0.out.a.cell (o:=1) rfl
  have sa2:=S0.out.a.cell (o:=2) rfl
  have sn0:=S0.out.n.cell (o:=0) rfl
  have sn1:=S0.out.n.cell (o:=1) rfl
  have sn2:=S0.out.n.cell (o:=2) rfl
  have sx0:=S0.out.x.cell (o:=0) rfl
  have sx1:=S0.out.x.cell (o:=1) rfl
  have sx2:=S0.out.x.cell (o:=2) rfl
  go_wp2_with fail
  (go_at_call 90;refine(l4One_any 2 (-1) false _).mono ?_;rintro e w20 ⟨r20,rfl,hr20,R20,b20⟩)
  have B20:=hide (B0.out.trans (b20.mono B0.out.size))
  have E20:=hide (E0.out.below b20 E0.out.lt)
  have N20t68:=hide R20
  have lr20:w.heap.size+1<r20:=by have h8:=E0.out.lt;have h9:=hr20;first|omega|(simp at h8 h9;omega)|(simp at h9;omega)|(simp at h8;omega)
  have SL20:=hide (S0.out.below b20)
  clear b20 R20 hr20
  clear si0 sa0 sa1 sa2 sn0 sn1 sn2 sx0 sx1 sx2
  have si0:=SL20.out.i.cell (o:=0) rfl
  have sa0:=SL20.out.a.cell (o:=0) rfl
  have sa1:=SL20.out.a.cell (o:=1) rfl
  have sa2:=SL20.out.a.cell (o:=2) rfl
  have sn0:=SL20.out.n.cell (o:=0) rfl
  have sn1:=SL20.out.n.cell (o:=1) rfl
  have sn2:=SL20.out.n.cell (o:=2) rfl
  have sx0:=SL20.out.x.cell (o:=0) rfl
  have sx1:=SL20.out.x.cell (o:=1) rfl
  have sx2:=SL20.out.x.cell (o:=2) rfl
  have e0:=E20.out.cell (o:=0) rfl
  have e1:=E20.out.cell (o:=1) rfl
  have e2:=E20.out.cell (o:=2) rfl
  have f0:=E20.out.frozen 0
  have f1:=E20.out.frozen 1
  have f2:=E20.out.frozen 2
  have hlt:=E20.out.lt
  have sw:=B20.out.size
  go_wp2_with fail
  exact need_done E20.out B20.out (by show w.heap.size≤w.heap.size+1;omega) (need_row N20t68.out (by omega) (by omega)) (.inl rfl) rfl rfl rfl
 ·go_upto_region 26 with(fail)
  clear si0
  have Bd:=hide B0.out.drew
  have Ed:=hide (Rec.drew' E0.out)
  have SLd:=hide S0.out.drew
  refine beginA (S:=SN w.heap.size ba bn bx [.int .i64 32,.int .i64 a,.int .i64 y]) 5 (by kernel_rfl) SLd.out (fun hHeld=>?_)
  (try simp only[Act.put,lA,lB,lC])
  refine tA 0 (v:=?v0n22) ?y0n22 ?r0n22
  case y0n22=>(intro w hSw;have si0:=hSw.i.cell (o:=0) rfl;have sa0:=hSw.a.cell (o:=0) rfl;have sa1:=hSw.a.cell (o:=1) rfl;have sa2:=hSw.a.cell (o:=2) rfl;have sn0:=hSw.n.cell (o:=0) rfl;have sn1:=hSw.n.cell (o:=1) rfl;have sn2:=hSw.n.cell (o:=2) rfl;have sx0:=hSw.x.cell (o:=0) rfl;have sx1:=hSw.x.cell (o:=1) rfl;have sx2:=hSw.x.cell (o:=2) rfl;go_simp;try with_reducible rfl)
  (try simp only[Act.put,lA,lB,lC])
  refine tA 2 (v:=?v2n23) ?y2n23 ?r2n23
  case y2n23=>(intro w hSw;have si0:=hSw.i.cell (o:=0) rfl;have sa0:=hSw.a.cell (o:=0) rfl;have sa1:=hSw.a.cell (o:=1) rfl;have sa2:=hSw.a.cell (o:=2) rfl;have sn0:=hSw.n.cell (o:=0) rfl;have sn1:=hSw.n.cell (o:=1) rfl;have sn2:=hSw.n.cell (o:=2) rfl;have sx0:=hSw.x.cell (o:=0) rfl;have sx1:=hSw.x.cell (o:=1) rfl;have sx2:=hSw.x.cell (o:=2) rfl;go_simp;try with_reducible rfl)
  (try simp only[Act.put,lA,lB,lC])
  refine oA 1 (fun K hK=>?_)
  go_simp
  (go_at_call 90;refine(l4One_any 1 0 false _).mono ?_;rintro e w21 ⟨r21,rfl,hr21,R21,b21⟩)
  have B21:=hide (Bd.out.trans (b21.mono Bd.out.size))
  have E21:=hide (Ed.out.below b21 Ed.out.lt)
  have N21t73:=hide R21
  have lr21:w.heap.size+1<r21:=by have h8:=Ed.out.lt;have h9:=hr21;first|omega|(simp at h8 h9;omega)|(simp at h9;omega)|(simp at h8;omega)
  have HH:=hHeld.below b21
  have SL21:=hide HH
  clear b21 R21 hr21
  refine hK.out _ _ HH (fun hHeld=>?_)
  clear hK K HH
  (try simp only[Act.put,lA,lB,lC])
  refine oA 3 (fun K hK=>?_)
  go_simp
  (go_at_call 90;refine(l4One_any 1 0 false _).mono ?_;rintro e w22 ⟨r22,rfl,hr22,R22,b22⟩)
  have B22:=hide (B21.out.trans (b22.mono B21.out.size))
  have E22:=hide (E21.out.below b22 E21.out.lt)
  have N22t73:=hide (N21t73.out.below b22 N21t73.out.lt)
  have N22t75:=hide R22
  have lr22:w.heap.size+1<r22:=by have h8:=E21.out.lt;have h9:=hr22;first|omega|(simp at h8 h9;omega)|(simp at h9;omega)|(simp at h8;omega)
  have HH:=hHeld.below b22
  have SL22:=hide HH
  clear b22 R22 hr22
  refine hK.out _ _ HH (fun hHeld=>?_)
  clear hK K HH
  (try simp only[Act.put,lA,lB,lC])
  refine tA 4 (v:=?v4n24) ?y4n24 ?r4n24
  case y4n24=>(intro w _;go_simp;try with_reducible rfl)
  (try simp only[Act.put,lA,lB,lC])
  refine eA 5 (fun K hK=>?_)
  have e0:=E22.out.cell (o:=0) rfl
  have e1:=E22.out.cell (o:=1) rfl
  have e2:=E22.out.cell (o:=2) rfl
  have f0:=E22.out.frozen 0
  have f1:=E22.out.frozen 1
  have f2:=E22.out.frozen 2
  have hlt:=E22.out.lt
  have sw:=B22.out.size
  go_simp
  refine hK.out _ _ ?_
  clear hK K
  (try simp only[Act.put,lA,lB,lC])
  refine doneA (by kernel_rfl) ?_ _
  go_wp2_with fail
  exact need_done E22.out B22.out (by show w.heap.size≤w.heap.size+1;omega) (need_row N22t73.out (by omega) (by omega)) (need_row N22t75.out (by omega) (by omega)) rfl rfl rfl
 ·go_upto_region 27 with(fail)
  clear si0
  have si0:=S0.out.i.cell (o:=0) rfl
  have sa0:=S0.out.a.cell (o:=0) rfl
  have sa1:=S0.out.a.cell (o:=1) rfl
  have sa2:=S0.out.a.cell (o:=2) rfl
  have sn0:=S0.out.n.cell (o:=0) rfl
  have sn1:=S0.out.n.cell (o:=1) rfl
  have sn2:=S0.out.n.cell (o:=2) rfl
  have sx0:=S0.out.x.cell (o:=0) rfl
  have sx1:=S0.out.x.cell (o:=1) rfl
  have sx2:=S0.out.x.cell (o:=2) rfl
  have e0:=E0.out.cell (o:=0) rfl
  have e1:=E0.out.cell (o:=1) rfl
  have e2:=E0.out.cell (o:=2) rfl
  have f0:=E0.out.frozen 0
  have f1:=E0.out.frozen 1
  have f2:=E0.out.frozen 2
  have hlt:=E0.out.lt
  have sw:=B0.out.size
  go_wp2_with fail
  exact need_done E0.out B0.out (by show w.heap.size≤w.heap.size+1;omega) (.inl rfl) (.inl rfl) rfl rfl rfl
end Go.Proofs.YtpaneomkphjpcaaGreatDoor
