/- What a call takes and gives, as the model tells it. Written by tools/made/ckneed6.py. -/
import Derived.Test.YtpaneomkphjpcaaGreatDoorPcReg
import Derived.Test.YtpaneomkphjpcaaGreatDoorCkNeed5
import Derived.Test.YtpaneomkphjpcaaGreatDoorCkSlots0
namespace Go.Proofs.YtpaneomkphjpcaaGreatDoor
open Go.ChangeShapes Go.WideShapes Go.ChangeAt Go.RowKit
set_option linter.unusedVariables false
set_option linter.unusedSimpArgs false
set_option maxHeartbeats 4000000 in
set_option maxRecDepth 100000 in
theorem l4Call_none (ta ga fa:Option Addr) (nt ct ng cg nf cf:Nat) (op a y:Int) (w:World) (h:(nf:Int)≤a) :
  Calls Tryz.prog 93 #[.agg #[.slice ta nt ct,.slice ga ng cg,.slice fa nf cf],.agg #[.int .i64 op,.int .i64 a,.int .i64 y]] w fun e w'=>NeedPost w [] [] false e w':=by
 go_enter Tryz.func93,Tryz.ntmps93
 go_wp2_with fail
 exact bodyPost_ret (rec_res rfl rfl (Rec.new' _ 115 [.slice none 0 0,.slice none 0 0,.bool false] _ (by simp)) Tryz.underlying115 rfl (by kernel_rfl)) rfl ⟨none,0,none,0,rfl,.inl rfl,.inl rfl,(((Below.refl _ _).alloc (Nat.le_refl _) _).alloc (by simp) _).alloc (by simp;omega) _⟩
structure SCf (b:Nat) (pv iv fv:List Value) (w':World):Prop where
 p:Rec w' b 37 pv
 i:Rec w' (b+1) 40 iv
 f:Rec w' (b+1+1+1) 92 fv
theorem SCf.below {b:Nat} {pv iv fv:List Value} {w w':World} (h:SCf b pv iv fv w) (hb:Below w.heap.size w w'):SCf b pv iv fv w':=⟨h.p.below hb h.p.lt,h.i.below hb h.i.lt,h.f.below hb h.f.lt⟩
theorem SCf.drew {b:Nat} {pv iv fv:List Value} {w:World} (h:SCf b pv iv fv w):SCf b pv iv fv w.drew:=⟨h.p,h.i,h.f⟩
theorem SCf.alloc {b:Nat} {pv iv fv:List Value} {w:World} (h:SCf b pv iv fv w) (o:Obj):SCf b pv iv fv (w.alloc o):=⟨h.p.alloc o,h.i.alloc o,h.f.alloc o⟩
set_option maxHeartbeats 40000000 in
set_option maxRecDepth 100000 in
theorem l4Call_pass (ta ga a0 a4 a5:Option Addr) (nt ct ng cg nf cf fb off k c0 no c4 nb c5 lo hi:Nat) (ts:List Fd) (gk go:Int) (gm:Bool) (y:Int) (w:World) (hk:k<nf) (hf:fb<w.heap.size)
  (y0:w.cell? ⟨fb,off+k*6,none⟩=some (.slice a0 ts.length c0)) (y1:w.cell? ⟨fb,off+k*6+1,none⟩=some (.int .i64 gk)) (y2:w.cell? ⟨fb,off+k*6+2,none⟩=some (.int .i64 go)) (y3:w.cell? ⟨fb,off+k*6+3,none⟩=some (.bool gm))
  (y4:w.cell? ⟨fb,off+k*6+4,none⟩=some (.slice a4 no c4)) (y5:w.cell? ⟨fb,off+k*6+5,none⟩=some (.slice a5 nb c5)) (hx:FieldsIn w lo hi a0 ts) (hh:hi≤w.heap.size) (l0:ts.length≤1048576) :
  Calls Tryz.prog 93 #[.agg #[.slice ta nt ct,.slice ga ng cg,.slice (some ⟨fb,off,none⟩) nf cf],.agg #[.int .i64 28,.int .i64 (k:Int),.int .i64 y]] w fun e w'=>NeedPost w ts [] true e w':=by
 have HX:=hide hx
 clear hx
 obtain⟨w1,hw1⟩:∃w1,w1=(((w.alloc (.cells #[.slice ta nt ct,.slice ga ng cg,.slice (some ⟨fb,off,none⟩) nf cf] 37)).alloc (.cells #[.int .i64 28,.int .i64 (k:Int),.int .i64 y] 40)).alloc (.cells #[.slice none 0 0,.slice none 0 0,.bool false] 115)):=⟨_,rfl⟩
 have BB:Hid (Below w.heap.size w w1):=by show Below _ _ _;rw[hw1];exact(((Below.refl _ _).alloc (Nat.le_refl _) _).alloc (by simp) _).alloc (by simp;omega) _
 have EE:Hid (Rec w1 (w.heap.size+1+1) 115 [.slice none 0 0,.slice none 0 0,.bool false]):=by show Rec _ _ _ _;rw[hw1];exact Rec.new' _ _ _ _ (by simp)
 have II:Hid (Rec w1 (w.heap.size+1) 40 [.int .i64 28,.int .i64 (k:Int),.int .i64 y]):=by show Rec _ _ _ _;rw[hw1];exact(Rec.new' _ _ _ _ (by simp)).alloc _
 have PP:Hid (Rec w1 w.heap.size 37 [.slice ta nt ct,.slice ga ng cg,.slice (some ⟨fb,off,none⟩) nf cf]):=by show Rec _ _ _ _;rw[hw1];exact((Rec.new _ _ _).alloc _).alloc _
 have hs1:w1.heap.size=w.heap.size+1+1+1:=by rw[hw1];simp
 have y0:=(BB.out.cell (p:=⟨fb,off+k*6,none⟩) hf).trans y0
 have y1:=(BB.out.cell (p:=⟨fb,off+k*6+1,none⟩) hf).trans y1
 have y2:=(BB.out.cell (p:=⟨fb,off+k*6+2,none⟩) hf).trans y2
 have y3:=(BB.out.cell (p:=⟨fb,off+k*6+3,none⟩) hf).trans y3
 have y4:=(BB.out.cell (p:=⟨fb,off+k*6+4,none⟩) hf).trans y4
 have y5:=(BB.out.cell (p:=⟨fb,off+k*6+5,none⟩) hf).trans y5
 have p2:=PP.out.cell (o:=2) rfl
 have i0:=II.out.cell (o:=0) rfl
 have i1:=II.out.cell (o:=1) rfl
 have j1:(k:Int)<(nf:Int):=by omega
 have j2:¬(nf:Int)≤(k:Int):=by omega
 have j3:(0:Int)≤(k:Int):=by omega
 have hfl:fb<w1.heap.size:=by omega
 have ltI:=II.out.lt
 go_enter Tryz.func93,Tryz.ntmps93
 go_upto_region 1 with(fail)
 rw[←hw1]
 clear hw1
 go_upto_region 5 with(fail)
 have B0:=hide (BB.out.alloc BB.out.size (.cells #[.slice a0 ts.length c0,.int .i64 gk,.int .i64 go,.bool gm,.slice a4 no c4,.slice a5 nb c5] 92))
 have E0:=hide (EE.out.alloc (.cells #[.slice a0 ts.length c0,.int .i64 gk,.int .i64 go,.bool gm,.slice a4 no c4,.slice a5 nb c5] 92))
 have S0:Hid (SCf w.heap.size [.slice ta nt ct,.slice ga ng cg,.slice (some ⟨fb,off,none⟩) nf cf] [.int .i64 28,.int .i64 (k:Int),.int .i64 y] [.slice a0 ts.length c0,.int .i64 gk,.int .i64 go,.bool gm,.slice a4 no c4,.slice a5 nb c5] (w1.alloc (.cells #[.slice a0 ts.length c0,.int .i64 gk,.int .i64 go,.bool gm,.slice a4 no c4,.slice a5 nb c5] 92))):=⟨PP.out.alloc _,II.out.alloc _,Rec.new' _ _ _ _ hs1.symm⟩
 clear BB EE II PP y0 y1 y2 y3 y4 y5 p2 i0 i1 hfl ltI
 have hz0:(w1.alloc (.cells #[.slice a0 ts.length c0,.int .i64 gk,.int .i64 go,.bool gm,.slice a4 no c4,.slice a5 nb c5] 92)).heap.size=w.heap.size+1+1+1+1:=by simp[hs1]
 replace hz0:=hide hz0
 clear hs1
 have hls:=B0.out.size
 generalize (w1.alloc (.cells #[.slice a0 ts.length c0,.int .i64 gk,.int .i64 go,.bool gm,.slice a4 no c4,.slice a5 nb c5] 92))=w0 at *
 have sf0:=S0.out.f.cell (o:=0) rfl
 have ltf:=S0.out.f.lt
 have lte:=E0.out.lt
 have F1:Hid (FdRow (w0.alloc (.cells #[] 68)) w0.heap.size (.slice (some ⟨w0.heap.size,0,none⟩) 0 0) []):=⟨rfl,.inr ⟨w0.heap.size,0,#[],rfl,Nat.le_refl _,Deep.blk_alloc_new w0 (.cells #[] 68),Nat.le_refl _,Nat.zero_le _,rfl,rfl⟩⟩
 have B1:=hide (B0.out.alloc B0.out.size (.cells #[] 68))
 have E1:=hide (E0.out.alloc (.cells #[] 68))
 have X1:=hide (HX.out.keepB (B1.out.mono hh))
 go_wp2_with (first|(at_builtin;(refine wpList_app_fields rfl _ _ rfl w0.heap.size (.slice (some ⟨w0.heap.size,0,none⟩) 0 0) [] a0 c0 lo hi ts rfl F1.out rfl (by simp) l0 X1.out (by simp) ?_)))
 intro a2 cap2 w2 hF2 hb2
 have F2:=hide hF2
 have B2:=hide (B1.out.trans (hb2.mono (by have:=B0.out.size;omega)))
 have E2:=hide (E1.out.below hb2 lte)
 have X2:=hide ((FdRow.ownN (n:=([]++ts).length) F2.out rfl).1.wid (show w.heap.size≤w0.heap.size by omega) (Nat.le_refl _))
 clear hF2 hb2 F1 B1 E1 X1 sf0
 have e0:=E2.out.cell (o:=0) rfl
 have e1:=E2.out.cell (o:=1) rfl
 have e2:=E2.out.cell (o:=2) rfl
 have f0:=E2.out.frozen 0
 have f1:=E2.out.frozen 1
 have f2:=E2.out.frozen 2
 have hlt:=E2.out.lt
 have sw:=B2.out.size
 go_wp2_with fail
 exact need_done E2.out B2.out (by show w.heap.size≤w.heap.size+1+1;omega) (need_lst X2.out E2.out) (.inl rfl) rfl rfl rfl
set_option maxHeartbeats 40000000 in
set_option maxRecDepth 100000 in
theorem l4Call_call (ta ga a0 a4 a5:Option Addr) (nt ct ng cg nf cf fb off k c0 no c4 nb c5 lo hi:Nat) (ts:List Fd) (gk go:Int) (gm:Bool) (y:Int) (w:World) (hk:k<nf) (hf:fb<w.heap.size)
  (y0:w.cell? ⟨fb,off+k*6,none⟩=some (.slice a0 ts.length c0)) (y1:w.cell? ⟨fb,off+k*6+1,none⟩=some (.int .i64 gk)) (y2:w.cell? ⟨fb,off+k*6+2,none⟩=some (.int .i64 go)) (y3:w.cell? ⟨fb,off+k*6+3,none⟩=some (.bool gm))
  (y4:w.cell? ⟨fb,off+k*6+4,none⟩=some (.slice a4 no c4)) (y5:w.cell? ⟨fb,off+k*6+5,none⟩=some (.slice a5 nb c5)) (hx:FieldsIn w lo hi a0 ts) (hh:hi≤w.heap.size) (l0:ts.length≤1048576) :
  Calls Tryz.prog 93 #[.agg #[.slice ta nt ct,.slice ga ng cg,.slice (some ⟨fb,off,none⟩) nf cf],.agg #[.int .i64 27,.int .i64 (k:Int),.int .i64 y]] w fun e w'=>NeedPost w ts [⟨gk,go,gm⟩] true e w':=by
 have HX:=hide hx
 clear hx
 obtain⟨w1,hw1⟩:∃w1,w1=(((w.alloc (.cells #[.slice ta nt ct,.slice ga ng cg,.slice (some ⟨fb,off,none⟩) nf cf] 37)).alloc (.cells #[.int .i64 27,.int .i64 (k:Int),.int .i64 y] 40)).alloc (.cells #[.slice none 0 0,.slice none 0 0,.bool false] 115)):=⟨_,rfl⟩
 have BB:Hid (Below w.heap.size w w1):=by show Below _ _ _;rw[hw1];exact(((Below.refl _ _).alloc (Nat.le_refl _) _).alloc (by simp) _).alloc (by simp;omega) _
 have EE:Hid (Rec w1 (w.heap.size+1+1) 115 [.slice none 0 0,.slice none 0 0,.bool false]):=by show Rec _ _ _ _;rw[hw1];exact Rec.new' _ _ _ _ (by simp)
 have II:Hid (Rec w1 (w.heap.size+1) 40 [.int .i64 27,.int .i64 (k:Int),.int .i64 y]):=by show Rec _ _ _ _;rw[hw1];exact(Rec.new' _ _ _ _ (by simp)).alloc _
 have PP:Hid (Rec w1 w.heap.size 37 [.slice ta nt ct,.slice ga ng cg,.slice (some ⟨fb,off,none⟩) nf cf]):=by show Rec _ _ _ _;rw[hw1];exact((Rec.new _ _ _).alloc _).alloc _
 have hs1:w1.heap.size=w.heap.size+1+1+1:=by rw[hw1];simp
 have y0:=(BB.out.cell (p:=⟨fb,off+k*6,none⟩) hf).trans y0
 have y1:=(BB.out.cell (p:=⟨fb,off+k*6+1,none⟩) hf).trans y1
 have y2:=(BB.out.cell (p:=⟨fb,off+k*6+2,none⟩) hf).trans y2
 have y3:=(BB.out.cell (p:=⟨fb,off+k*6+3,none⟩) hf).trans y3
 have y4:=(BB.out.cell (p:=⟨fb,off+k*6+4,none⟩) hf).trans y4
 have y5:=(BB.out.cell (p:=⟨fb,off+k*6+5,none⟩) hf).trans y5
 have p2:=PP.out.cell (o:=2) rfl
 have i0:=II.out.cell (o:=0) rfl
 have i1:=II.out.cell (o:=1) rfl
 have j1:(k:Int)<(nf:Int):=by omega
 have j2:¬(nf:Int)≤(k:Int):=by omega
 have j3:(0:Int)≤(k:Int):=by omega
 have hfl:fb<w1.heap.size:=by omega
 have ltI:=II.out.lt
 go_enter Tryz.func93,Tryz.ntmps93
 go_upto_region 1 with(fail)
 rw[←hw1]
 clear hw1
 go_upto_region 6 with(fail)
 have B0:=hide (BB.out.alloc BB.out.size (.cells #[.slice a0 ts.length c0,.int .i64 gk,.int .i64 go,.bool gm,.slice a4 no c4,.slice a5 nb c5] 92))
 have E0:=hide (EE.out.alloc (.cells #[.slice a0 ts.length c0,.int .i64 gk,.int .i64 go,.bool gm,.slice a4 no c4,.slice a5 nb c5] 92))
 have S0:Hid (SCf w.heap.size [.slice ta nt ct,.slice ga ng cg,.slice (some ⟨fb,off,none⟩) nf cf] [.int .i64 27,.int .i64 (k:Int),.int .i64 y] [.slice a0 ts.length c0,.int .i64 gk,.int .i64 go,.bool gm,.slice a4 no c4,.slice a5 nb c5] (w1.alloc (.cells #[.slice a0 ts.length c0,.int .i64 gk,.int .i64 go,.bool gm,.slice a4 no c4,.slice a5 nb c5] 92))):=⟨PP.out.alloc _,II.out.alloc _,Rec.new' _ _ _ _ hs1.symm⟩
 clear BB EE II PP y0 y1 y2 y3 y4 y5 p2 i0 i1 hfl ltI
 have hz0:(w1.alloc (.cells #[.slice a0 ts.length c0,.int .i64 gk,.int .i64 go,.bool gm,.slice a4 no c4,.slice a5 nb c5] 92)).heap.size=w.heap.size+1+1+1+1:=by simp[hs1]
 replace hz0:=hide hz0
 clear hs1
 have hls:=B0.out.size
 generalize (w1.alloc (.cells #[.slice a0 ts.length c0,.int .i64 gk,.int .i64 go,.bool gm,.slice a4 no c4,.slice a5 nb c5] 92))=w0 at *
 have Bd:=hide B0.out.drew
 have Ed:=hide (Rec.drew' E0.out)
 have SLd:=hide S0.out.drew
 refine beginA (S:=SCf w.heap.size [.slice ta nt ct,.slice ga ng cg,.slice (some ⟨fb,off,none⟩) nf cf] [.int .i64 27,.int .i64 (k:Int),.int .i64 y] [.slice a0 ts.length c0,.int .i64 gk,.int .i64 go,.bool gm,.slice a4 no c4,.slice a5 nb c5]) 8 (by kernel_rfl) SLd.out (fun hHeld=>?_)
 (try simp only[Act.put,lA,lB,lC])
 refine tA 1 (v:=?v1n1) ?y1n1 ?r1n1
 case y1n1=>(intro w _;go_simp;try with_reducible rfl)
 (try simp only[Act.put,lA,lB,lC])
 refine tA 2 (v:=?v2n2) ?y2n2 ?r2n2
 case y2n2=>(intro w hSw;have sf0:=hSw.f.cell (o:=0) rfl;have sf1:=hSw.f.cell (o:=1) rfl;have sf2:=hSw.f.cell (o:=2) rfl;have sf3:=hSw.f.cell (o:=3) rfl;go_simp;try with_reducible rfl)
 (try simp only[Act.put,lA,lB,lC])
 refine tA 4 (v:=?v4n3) ?y4n3 ?r4n3
 case y4n3=>(intro w _;go_simp;try with_reducible rfl)
 (try simp only[Act.put,lA,lB,lC])
 refine tA 5 (v:=?v5n4) ?y5n4 ?r5n4
 case y5n4=>(intro w hSw;have sf0:=hSw.f.cell (o:=0) rfl;have sf1:=hSw.f.cell (o:=1) rfl;have sf2:=hSw.f.cell (o:=2) rfl;have sf3:=hSw.f.cell (o:=3) rfl;go_simp;try with_reducible rfl)
 (try simp only[Act.put,lA,lB,lC])
 refine oA 0 (fun K hK=>?_)
 go_simp
 have G1:Hid (FdRow (w0.alloc (.cells #[] 68)).drew w0.heap.size (.slice (some ⟨w0.heap.size,0,none⟩) 0 0) []):=⟨rfl,.inr ⟨w0.heap.size,0,#[],rfl,Nat.le_refl _,Deep.blk_alloc_new w0 (.cells #[] 68),Nat.le_refl _,Nat.zero_le _,rfl,rfl⟩⟩
 have B1:=hide (B0.out.alloc B0.out.size (.cells #[] 68))
 have E1:=hide (E0.out.alloc (.cells #[] 68))
 have SL1:=hide (S0.out.alloc (.cells #[] 68))
 have lt1:w.heap.size+1+1<w0.heap.size:=E0.out.lt
 have ls1:w.heap.size≤w0.heap.size:=B0.out.size
 replace B1:=hide B1.out.drew
 replace E1:=hide (Rec.drew' E1.out)
 replace SL1:=hide SL1.out.drew
 refine hK.out _ _ SL1.out (fun hHeld=>?_)
 clear hK K
 (try simp only[Act.put,lA,lB,lC])
 refine oA 3 (fun K hK=>?_)
 refine step_app_fields (by rfl) _ _ (by rfl) w0.heap.size (.slice (some ⟨w0.heap.size,0,none⟩) 0 0) [] a0 c0 lo hi ts (by rfl) G1.out (by rfl) (by simp) l0 (HX.out.keepB (B1.out.mono hh)) (by have:=B1.out.size;have:=E1.out.lt;first|omega|(simp<;>omega)) ?_
 intro a102 q2 w2 hF2 b2
 have B2:=hide (B1.out.trans (b2.mono ls1))
 have E2:=hide (E1.out.below b2 lt1)
 have SL2:=hide (show SCf w.heap.size [.slice ta nt ct,.slice ga ng cg,.slice (some ⟨fb,off,none⟩) nf cf] [.int .i64 27,.int .i64 (k:Int),.int .i64 y] [.slice a0 ts.length c0,.int .i64 gk,.int .i64 go,.bool gm,.slice a4 no c4,.slice a5 nb c5] w2 from⟨SL1.out.p.below b2 (by have:=lt1;omega),SL1.out.i.below b2 (by have:=lt1;omega),SL1.out.f.below b2 (by have:=hz0.out;omega)⟩)
 have N2t30:=hide ((FdRow.ownN (n:=([]++ts).length) hF2 rfl).1.wid ls1 (Nat.le_refl _))
 refine hK.out _ _ SL2.out (fun hHeld=>?_)
 clear hK K hF2 b2
 (try simp only[Act.put,lA,lB,lC])
 refine oA 6 (fun K hK=>?_)
 go_simp
 (go_at_call 90;refine(l4One_any gk go gm _).mono ?_;rintro e w3 ⟨r3,rfl,hr3,R3,b3⟩)
 have B3:=hide (B2.out.trans (b3.mono B2.out.size))
 have E3:=hide (E2.out.below b3 E2.out.lt)
 have N3t30:=hide ((N2t30.out.keepB b3).wid (Nat.le_refl _) b3.size)
 have N3t33:=hide R3
 have lr3:w.heap.size+1+1<r3:=by have h8:=E2.out.lt;have h9:=hr3;first|omega|(simp at h8 h9;omega)|(simp at h9;omega)|(simp at h8;omega)
 have HH:=hHeld.below b3
 have SL3:=hide HH
 clear b3 R3 hr3
 refine hK.out _ _ HH (fun hHeld=>?_)
 clear hK K HH
 (try simp only[Act.put,lA,lB,lC])
 refine tA 7 (v:=?v7n5) ?y7n5 ?r7n5
 case y7n5=>(intro w _;go_simp;try with_reducible rfl)
 (try simp only[Act.put,lA,lB,lC])
 refine eA 8 (fun K hK=>?_)
 have e0:=E3.out.cell (o:=0) rfl
 have e1:=E3.out.cell (o:=1) rfl
 have e2:=E3.out.cell (o:=2) rfl
 have f0:=E3.out.frozen 0
 have f1:=E3.out.frozen 1
 have f2:=E3.out.frozen 2
 have hlt:=E3.out.lt
 have sw:=B3.out.size
 go_simp
 refine hK.out _ _ ?_
 clear hK K
 (try simp only[Act.put,lA,lB,lC])
 refine doneA (by kernel_rfl) ?_ _
 go_wp2_with fail
 exact need_done E3.out B3.out (by show w.heap.size≤w.heap.size+1+1;omega) (need_lst N3t30.out E3.out) (need_row N3t33.out (by omega) (by omega)) rfl rfl rfl
end Go.Proofs.YtpaneomkphjpcaaGreatDoor
