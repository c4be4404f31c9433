/- What an instruction takes and gives, as the model tells it: each arm. Written by tools/made/ckneed8.py. -/
import Derived.Test.YtpaneomkphjpcaaGreatDoorPcReg
import Derived.Test.YtpaneomkphjpcaaGreatDoorCkNeed7
import Derived.Test.YtpaneomkphjpcaaGreatDoorPaSpecB
namespace Go.Proofs.YtpaneomkphjpcaaGreatDoor
open Go.ChangeShapes Go.WideShapes Go.ChangeAt Go.RowKit
set_option linter.unusedVariables false
set_option linter.unusedSimpArgs false
theorem wrapI8 {x:Int} (h1:-9223372036854775808≤x) (h2:x≤9223372036854775807):IntKind.i64.wrap x=x:=by
 have e:IntKind.i64.wrap x=if 9223372036854775808≤x%18446744073709551616 then x%18446744073709551616-18446744073709551616 else x%18446744073709551616:=by simp[IntKind.wrap,IntKind.bits,IntKind.signed]
 rw[e]
 split<;>omega
structure SD (b ba xb xo:Nat) (pv iv fv:List Value) (xv:Value) (w':World):Prop where
 p:Rec w' b 37 pv
 i:Rec w' (b+1) 40 iv
 f:Rec w' (b+1+1+1) 92 fv
 a:Rec w' ba 68 [.int .i64 2,.int .i64 (-1),.bool false]
 c:w'.cell? ⟨xb,xo,none⟩=some xv
 lt:xb<w'.heap.size
theorem SD.below {b ba xb xo:Nat} {pv iv fv:List Value} {xv:Value} {w w':World} (h:SD b ba xb xo pv iv fv xv w) (hb:Below w.heap.size w w'):SD b ba xb xo pv iv fv xv w' :=
 ⟨h.p.below hb h.p.lt,h.i.below hb h.i.lt,h.f.below hb h.f.lt,h.a.below hb h.a.lt,(hb.cell (p:=⟨xb,xo,none⟩) h.lt).trans h.c,Nat.lt_of_lt_of_le h.lt hb.size⟩
theorem SD.drew {b ba xb xo:Nat} {pv iv fv:List Value} {xv:Value} {w:World} (h:SD b ba xb xo pv iv fv xv w):SD b ba xb xo pv iv fv xv w.drew:=⟨h.p,h.i,h.f,h.a,h.c,h.lt⟩
def FC6 (w:World) (fb o:Nat) (a0:Option Addr) (c0:Nat) (F:GFun) (a4:Option Addr) (c4:Nat) (a5:Option Addr) (c5:Nat):Prop :=
 w.cell? ⟨fb,o,none⟩=some (.slice a0 F.takes.length c0)∧w.cell? ⟨fb,o+1,none⟩=some (.int .i64 F.gives.kind)∧w.cell? ⟨fb,o+2,none⟩=some (.int .i64 F.gives.of)∧w.cell? ⟨fb,o+3,none⟩=some (.bool F.gives.mt)∧w.cell? ⟨fb,o+4,none⟩=some (.slice a4 F.own.length c4)∧w.cell? ⟨fb,o+5,none⟩=some (.slice a5 F.body.length c5)
theorem FC6.keep {w w':World} {fb o c0 c4 c5:Nat} {a0 a4 a5:Option Addr} {F:GFun} (h:FC6 w fb o a0 c0 F a4 c4 a5 c5) (hb:Below w.heap.size w w') (hf:fb<w.heap.size):FC6 w' fb o a0 c0 F a4 c4 a5 c5 :=
 ⟨(hb.cell (p:=⟨fb,o,none⟩) hf).trans h.1,(hb.cell (p:=⟨fb,o+1,none⟩) hf).trans h.2.1,(hb.cell (p:=⟨fb,o+2,none⟩) hf).trans h.2.2.1,(hb.cell (p:=⟨fb,o+3,none⟩) hf).trans h.2.2.2.1,(hb.cell (p:=⟨fb,o+4,none⟩) hf).trans h.2.2.2.2.1,(hb.cell (p:=⟨fb,o+5,none⟩) hf).trans h.2.2.2.2.2⟩
theorem nw1 {w w1:World} {pv iv:List Value} (h:w1=((w.alloc (.cells pv.toArray 37)).alloc (.cells iv.toArray 40)).alloc (.cells #[.slice none 0 0,.slice none 0 0,.bool false] 115)) :
  Hid (Below w.heap.size w w1)∧Hid (Rec w1 (w.heap.size+1+1) 115 [.slice none 0 0,.slice none 0 0,.bool false])∧Hid (Rec w1 (w.heap.size+1) 40 iv)∧Hid (Rec w1 w.heap.size 37 pv)∧w1.heap.size=w.heap.size+1+1+1:=by
 subst h
 exact⟨(((Below.refl _ _).alloc (Nat.le_refl _) _).alloc (by simp) _).alloc (by simp;omega) _,Rec.new' _ _ _ _ (by simp),(Rec.new' _ _ _ _ (by simp)).alloc _,((Rec.new _ _ _).alloc _).alloc _,by simp⟩
theorem nw2 {w w1 u:World} {pv iv fv:List Value} {xb xo:Nat} {xv:Value} (B:Below w.heap.size w w1) (E:Rec w1 (w.heap.size+1+1) 115 [.slice none 0 0,.slice none 0 0,.bool false]) (I:Rec w1 (w.heap.size+1) 40 iv) (P:Rec w1 w.heap.size 37 pv) (hs:w1.heap.size=w.heap.size+1+1+1)
  (b2:Below (w1.alloc (.cells fv.toArray 92)).heap.size (w1.alloc (.cells fv.toArray 92)) u) (hl:xb<w1.heap.size) (hc:w1.cell? ⟨xb,xo,none⟩=some xv) :
  Hid (Below w.heap.size w (u.alloc (.cells #[.int .i64 2,.int .i64 (-1),.bool false] 68)))∧Hid (Rec (u.alloc (.cells #[.int .i64 2,.int .i64 (-1),.bool false] 68)) (w.heap.size+1+1) 115 [.slice none 0 0,.slice none 0 0,.bool false]) ∧
   Hid (SD w.heap.size u.heap.size xb xo pv iv fv xv (u.alloc (.cells #[.int .i64 2,.int .i64 (-1),.bool false] 68))):=by
 have ba2:=(Below.refl w1.heap.size w1).alloc (Nat.le_refl _) (.cells fv.toArray 92)
 have b3:=ba2.trans (b2.mono (by simp))
 have F:Rec u (w.heap.size+1+1+1) 92 fv:=(Rec.new' w1 92 fv _ hs.symm).below b2 (by simp;omega)
 have BX:=(Below.refl u.heap.size u).alloc (Nat.le_refl _) (.cells #[.int .i64 2,.int .i64 (-1),.bool false] 68)
 have hl2:xb<u.heap.size:=Nat.lt_of_lt_of_le hl b3.size
 have BC:=B.trans (b3.mono B.size)
 exact⟨BC.alloc BC.size _,(E.below b3 E.lt).alloc _,(P.below b3 P.lt).alloc _,(I.below b3 I.lt).alloc _,F.alloc _,Rec.new _ _ _,(BX.cell (p:=⟨xb,xo,none⟩) hl2).trans ((b3.cell (p:=⟨xb,xo,none⟩) hl).trans hc),Nat.lt_of_lt_of_le hl2 BX.size⟩
set_option maxHeartbeats 40000000 in
set_option maxRecDepth 100000 in
theorem l4Needs_null (ra ga a0 a4 a5 sa:Option Addr) (rc cg nf cf fb off k c0 c4 c5 lo hi sc lo1 hi1:Nat) (gs:List (List Ty)) (gl:List Fd) (F:GFun) (st:List Fd) (a y:Int) (w:World) (hk:k<nf) (hf:fb<w.heap.size) (hh:hi≤w.heap.size) (hn:st.length≤1000)
  (hy6:FC6 w fb (off+k*6) a0 c0 F a4 c4 a5 c5) (hN:Few gs) (hx:GroupsIn w lo hi ra gs) :
  Calls Tryz.prog 61 #[.agg #[.slice ra gs.length rc,.slice ga gl.length cg,.slice (some ⟨fb,off,none⟩) nf cf],.int .i64 (k:Int),.slice sa st.length sc,.agg #[.int .i64 12,.int .i64 a,.int .i64 y]] w fun e w'=>NeedPost w [] [⟨2,a,false⟩] (decide (a<(kinCount gs:Int))) e w':=by
 have HX:=hide hx
 clear hx
 obtain⟨w1,hw1⟩:∃w1,w1=(((w.alloc (.cells #[.slice ra gs.length rc,.slice ga gl.length cg,.slice (some ⟨fb,off,none⟩) nf cf] 37)).alloc (.cells #[.int .i64 12,.int .i64 a,.int .i64 y] 40)).alloc (.cells #[.slice none 0 0,.slice none 0 0,.bool false] 115)):=⟨_,rfl⟩
 obtain⟨BB,EE,II,PP,hs1⟩:=nw1 hw1
 obtain⟨y0,y1,y2,y3,y4,y5⟩:=hy6.keep BB.out hf
 clear hy6
 have hxc:=II.out.cell (o:=0) rfl
 have p2:=PP.out.cell (o:=2) rfl
 have j1:(k:Int)<(nf:Int):=by omega
 have j2:¬(nf:Int)≤(k:Int):=by omega
 have j3:(0:Int)≤(k:Int):=by omega
 have hfl:fb<w1.heap.size:=by omega
 have hxl:(w.heap.size+1)<w1.heap.size:=by omega
 have HXL:=hide hxl
 have HXC:=hide hxc
 clear hxl hxc
 go_enter Tryz.func61,Tryz.ntmps61
 go_upto_region 1 with(fail)
 rw[←hw1]
 clear hw1
 go_wp2_with fail
 refine(l4Ref_any (-1) _).mono ?_
 rintro e u2 ⟨rfl,b2⟩
 obtain⟨B0,E0,S0⟩:=nw2 BB.out EE.out II.out PP.out hs1 b2 HXL.out HXC.out
 clear b2 BB EE II PP y0 y1 y2 y3 y4 y5 p2 hfl hs1 HXL HXC
 go_upto_region 4 with(fail)
 generalize (u2.alloc (.cells #[.int .i64 2,.int .i64 (-1),.bool false] 68))=w0 at *
 generalize u2.heap.size=ba at *
 have si0:=S0.out.i.cell (o:=0) rfl
 go_upto_region 20 with(fail)
 clear si0
 have Bd:=hide B0.out.drew
 have Ed:=hide (Rec.drew' E0.out)
 have SLd:=hide S0.out.drew
 refine beginA (S:=SD w.heap.size ba (w.heap.size+1) 0 [.slice ra gs.length rc,.slice ga gl.length cg,.slice (some ⟨fb,off,none⟩) nf cf] [.int .i64 12,.int .i64 a,.int .i64 y] [.slice a0 F.takes.length c0,.int .i64 F.gives.kind,.int .i64 F.gives.of,.bool F.gives.mt,.slice a4 F.own.length c4,.slice a5 F.body.length c5] (.int .i64 12)) 11 (by kernel_rfl) SLd.out (fun hHeld=>?_)
 (try simp only[Act.put,lA,lB,lC])
 refine tA 0 (v:=?v0n1) ?y0n1 ?r0n1
 case y0n1=>(intro w _;go_simp;try with_reducible rfl)
 (try simp only[Act.put,lA,lB,lC])
 refine tA 1 (v:=?v1n2) ?y1n2 ?r1n2
 case y1n2=>(intro w hSw;have sp0:=hSw.p.cell (o:=0) rfl;have sp1:=hSw.p.cell (o:=1) rfl;have sp2:=hSw.p.cell (o:=2) rfl;have si0:=hSw.i.cell (o:=0) rfl;have si1:=hSw.i.cell (o:=1) rfl;have si2:=hSw.i.cell (o:=2) rfl;have sf0:=hSw.f.cell (o:=0) rfl;have sf1:=hSw.f.cell (o:=1) rfl;have sf2:=hSw.f.cell (o:=2) rfl;have sf3:=hSw.f.cell (o:=3) rfl;have sf4:=hSw.f.cell (o:=4) rfl;have sf5:=hSw.f.cell (o:=5) rfl;have sa0:=hSw.a.cell (o:=0) rfl;have sa1:=hSw.a.cell (o:=1) rfl;have sa2:=hSw.a.cell (o:=2) rfl;go_simp;try with_reducible rfl)
 (try simp only[Act.put,lA,lB,lC])
 refine tA 4 (v:=?v4n3) ?y4n3 ?r4n3
 case y4n3=>(intro w _;go_simp;try with_reducible rfl)
 (try simp only[Act.put,lA,lB,lC])
 refine tA 5 (v:=?v5n4) ?y5n4 ?r5n4
 case y5n4=>(intro w hSw;have sp0:=hSw.p.cell (o:=0) rfl;have sp1:=hSw.p.cell (o:=1) rfl;have sp2:=hSw.p.cell (o:=2) rfl;have si0:=hSw.i.cell (o:=0) rfl;have si1:=hSw.i.cell (o:=1) rfl;have si2:=hSw.i.cell (o:=2) rfl;have sf0:=hSw.f.cell (o:=0) rfl;have sf1:=hSw.f.cell (o:=1) rfl;have sf2:=hSw.f.cell (o:=2) rfl;have sf3:=hSw.f.cell (o:=3) rfl;have sf4:=hSw.f.cell (o:=4) rfl;have sf5:=hSw.f.cell (o:=5) rfl;have sa0:=hSw.a.cell (o:=0) rfl;have sa1:=hSw.a.cell (o:=1) rfl;have sa2:=hSw.a.cell (o:=2) rfl;go_simp;try with_reducible rfl)
 (try simp only[Act.put,lA,lB,lC])
 refine tA 6 (v:=?v6n5) ?y6n5 ?r6n5
 case y6n5=>(intro w _;go_simp;try with_reducible rfl)
 (try simp only[Act.put,lA,lB,lC])
 refine tA 7 (v:=?v7n6) ?y7n6 ?r7n6
 case y7n6=>(intro w hSw;have sp0:=hSw.p.cell (o:=0) rfl;have sp1:=hSw.p.cell (o:=1) rfl;have sp2:=hSw.p.cell (o:=2) rfl;have si0:=hSw.i.cell (o:=0) rfl;have si1:=hSw.i.cell (o:=1) rfl;have si2:=hSw.i.cell (o:=2) rfl;have sf0:=hSw.f.cell (o:=0) rfl;have sf1:=hSw.f.cell (o:=1) rfl;have sf2:=hSw.f.cell (o:=2) rfl;have sf3:=hSw.f.cell (o:=3) rfl;have sf4:=hSw.f.cell (o:=4) rfl;have sf5:=hSw.f.cell (o:=5) rfl;have sa0:=hSw.a.cell (o:=0) rfl;have sa1:=hSw.a.cell (o:=1) rfl;have sa2:=hSw.a.cell (o:=2) rfl;go_simp;try with_reducible rfl)
 (try simp only[Act.put,lA,lB,lC])
 refine oA 2 (fun K hK=>?_)
 go_simp
 (go_at_call 86;refine(l4Ref_any a _).mono ?_;rintro e w1 ⟨rfl,b1⟩)
 have B1:=hide (Bd.out.trans (b1.mono Bd.out.size))
 have E1:=hide (Ed.out.below b1 Ed.out.lt)
 have HH:=hHeld.below b1
 have SL1:=hide HH
 clear b1
 refine hK.out _ _ HH (fun hHeld=>?_)
 clear hK K HH
 (try simp only[Act.put,lA,lB,lC])
 refine oA 3 (fun K hK=>?_)
 go_simp
 (go_at_call 90;refine(l4One_any 2 a false _).mono ?_;rintro e w2 ⟨r2,rfl,hr2,R2,b2⟩)
 have B2:=hide (B1.out.trans (b2.mono B1.out.size))
 have E2:=hide (E1.out.below b2 E1.out.lt)
 have N2t58:=hide R2
 have lr2:w.heap.size+1+1<r2:=by have h8:=E1.out.lt;have h9:=hr2;first|omega|(simp at h8 h9;omega)|(simp at h9;omega)|(simp at h8;omega)
 have HH:=hHeld.below b2
 have SL2:=hide HH
 clear b2 R2 hr2
 refine hK.out _ _ HH (fun hHeld=>?_)
 clear hK K HH
 (try simp only[Act.put,lA,lB,lC])
 refine oA 8 (fun K hK=>?_)
 go_simp
 (go_at_call 33;refine(specKinCount_any ra rc lo hi gs _ hN (HX.out.keep (B2.out.mono hh))).mono ?_;rintro e w3 ⟨rfl,rfl⟩)
 refine hK.out _ _ hHeld (fun hHeld=>?_)
 clear hK K
 (try simp only[Act.put,lA,lB,lC])
 refine tA 9 (v:=?v9n7) ?y9n7 ?r9n7
 case y9n7=>(intro w _;go_simp;try with_reducible rfl)
 (try simp only[Act.put,lA,lB,lC])
 refine tA 10 (v:=?v10n8) ?y10n8 ?r10n8
 case y10n8=>(intro w _;go_simp;try with_reducible rfl)
 (try simp only[Act.put,lA,lB,lC])
 refine eA 11 (fun K hK=>?_)
 have e0:=E2.out.cell (o:=0) rfl
 have e1:=E2.out.cell (o:=1) rfl
 have e2:=E2.out.cell (o:=2) rfl
 have f0:=E2.out.frozen 0
 have f1:=E2.out.frozen 1
 have f2:=E2.out.frozen 2
 have hlt:=E2.out.lt
 have sw:=B2.out.size
 go_simp
 refine hK.out _ _ ?_
 clear hK K
 (try simp only[Act.put,lA,lB,lC])
 refine doneA (by kernel_rfl) ?_ _
 go_wp2_with fail
 exact need_done E2.out B2.out (by show w.heap.size≤w.heap.size+1+1;omega) (.inl rfl) (need_row N2t58.out (by omega) (by omega)) rfl rfl rfl
set_option maxHeartbeats 40000000 in
set_option maxRecDepth 100000 in
theorem l4Needs_test (ra ga a0 a4 a5 sa:Option Addr) (rc cg nf cf fb off k c0 c4 c5 lo hi sc lo1 hi1:Nat) (gs:List (List Ty)) (gl:List Fd) (F:GFun) (st:List Fd) (a y:Int) (w:World) (hk:k<nf) (hf:fb<w.heap.size) (hh:hi≤w.heap.size) (hn:st.length≤1000)
  (hy6:FC6 w fb (off+k*6) a0 c0 F a4 c4 a5 c5) (hN:Few gs) (hx:GroupsIn w lo hi ra gs) :
  Calls Tryz.prog 61 #[.agg #[.slice ra gs.length rc,.slice ga gl.length cg,.slice (some ⟨fb,off,none⟩) nf cf],.int .i64 (k:Int),.slice sa st.length sc,.agg #[.int .i64 22,.int .i64 a,.int .i64 y]] w fun e w'=>NeedPost w [⟨2,-1,false⟩] [⟨1,0,false⟩] (decide (a<(kinCount gs:Int))) e w':=by
 have HX:=hide hx
 clear hx
 obtain⟨w1,hw1⟩:∃w1,w1=(((w.alloc (.cells #[.slice ra gs.length rc,.slice ga gl.length cg,.slice (some ⟨fb,off,none⟩) nf cf] 37)).alloc (.cells #[.int .i64 22,.int .i64 a,.int .i64 y] 40)).alloc (.cells #[.slice none 0 0,.slice none 0 0,.bool false] 115)):=⟨_,rfl⟩
 obtain⟨BB,EE,II,PP,hs1⟩:=nw1 hw1
 obtain⟨y0,y1,y2,y3,y4,y5⟩:=hy6.keep BB.out hf
 clear hy6
 have hxc:=II.out.cell (o:=0) rfl
 have p2:=PP.out.cell (o:=2) rfl
 have j1:(k:Int)<(nf:Int):=by omega
 have j2:¬(nf:Int)≤(k:Int):=by omega
 have j3:(0:Int)≤(k:Int):=by omega
 have hfl:fb<w1.heap.size:=by omega
 have hxl:(w.heap.size+1)<w1.heap.size:=by omega
 have HXL:=hide hxl
 have HXC:=hide hxc
 clear hxl hxc
 go_enter Tryz.func61,Tryz.ntmps61
 go_upto_region 1 with(fail)
 rw[←hw1]
 clear hw1
 go_wp2_with fail
 refine(l4Ref_any (-1) _).mono ?_
 rintro e u2 ⟨rfl,b2⟩
 obtain⟨B0,E0,S0⟩:=nw2 BB.out EE.out II.out PP.out hs1 b2 HXL.out HXC.out
 clear b2 BB EE II PP y0 y1 y2 y3 y4 y5 p2 hfl hs1 HXL HXC
 go_upto_region 4 with(fail)
 generalize (u2.alloc (.cells #[.int .i64 2,.int .i64 (-1),.bool false] 68))=w0 at *
 generalize u2.heap.size=ba at *
 have si0:=S0.out.i.cell (o:=0) rfl
 go_upto_region 22 with(fail)
 clear si0
 have Bd:=hide B0.out.drew
 have Ed:=hide (Rec.drew' E0.out)
 have SLd:=hide S0.out.drew
 refine beginA (S:=SD w.heap.size ba (w.heap.size+1) 0 [.slice ra gs.length rc,.slice ga gl.length cg,.slice (some ⟨fb,off,none⟩) nf cf] [.int .i64 22,.int .i64 a,.int .i64 y] [.slice a0 F.takes.length c0,.int .i64 F.gives.kind,.int .i64 F.gives.of,.bool F.gives.mt,.slice a4 F.own.length c4,.slice a5 F.body.length c5] (.int .i64 22)) 11 (by kernel_rfl) SLd.out (fun hHeld=>?_)
 (try simp only[Act.put,lA,lB,lC])
 refine tA 0 (v:=?v0n9) ?y0n9 ?r0n9
 case y0n9=>(intro w hSw;have sp0:=hSw.p.cell (o:=0) rfl;have sp1:=hSw.p.cell (o:=1) rfl;have sp2:=hSw.p.cell (o:=2) rfl;have si0:=hSw.i.cell (o:=0) rfl;have si1:=hSw.i.cell (o:=1) rfl;have si2:=hSw.i.cell (o:=2) rfl;have sf0:=hSw.f.cell (o:=0) rfl;have sf1:=hSw.f.cell (o:=1) rfl;have sf2:=hSw.f.cell (o:=2) rfl;have sf3:=hSw.f.cell (o:=3) rfl;have sf4:=hSw.f.cell (o:=4) rfl;have sf5:=hSw.f.cell (o:=5) rfl;have sa0:=hSw.a.cell (o:=0) rfl;have sa1:=hSw.a.cell (o:=1) rfl;have sa2:=hSw.a.cell (o:=2) rfl;go_simp;try with_reducible rfl)
 (try simp only[Act.put,lA,lB,lC])
 refine tA 4 (v:=?v4n10) ?y4n10 ?r4n10
 case y4n10=>(intro w _;go_simp;try with_reducible rfl)
 (try simp only[Act.put,lA,lB,lC])
 refine tA 5 (v:=?v5n11) ?y5n11 ?r5n11
 case y5n11=>(intro w hSw;have sp0:=hSw.p.cell (o:=0) rfl;have sp1:=hSw.p.cell (o:=1) rfl;have sp2:=hSw.p.cell (o:=2) rfl;have si0:=hSw.i.cell (o:=0) rfl;have si1:=hSw.i.cell (o:=1) rfl;have si2:=hSw.i.cell (o:=2) rfl;have sf0:=hSw.f.cell (o:=0) rfl;have sf1:=hSw.f.cell (o:=1) rfl;have sf2:=hSw.f.cell (o:=2) rfl;have sf3:=hSw.f.cell (o:=3) rfl;have sf4:=hSw.f.cell (o:=4) rfl;have sf5:=hSw.f.cell (o:=5) rfl;have sa0:=hSw.a.cell (o:=0) rfl;have sa1:=hSw.a.cell (o:=1) rfl;have sa2:=hSw.a.cell (o:=2) rfl;go_simp;try with_reducible rfl)
 (try simp only[Act.put,lA,lB,lC])
 refine tA 6 (v:=?v6n12) ?y6n12 ?r6n12
 case y6n12=>(intro w _;go_simp;try with_reducible rfl)
 (try simp only[Act.put,lA,lB,lC])
 refine tA 7 (v:=?v7n13) ?y7n13 ?r7n13
 case y7n13=>(intro w hSw;have sp0:=hSw.p.cell (o:=0) rfl;have sp1:=hSw.p.cell (o:=1) rfl;have sp2:=hSw.p.cell (o:=2) rfl;have si0:=hSw.i.cell (o:=0) rfl;have si1:=hSw.i.cell (o:=1) rfl;have si2:=hSw.i.cell (o:=2) rfl;have sf0:=hSw.f.cell (o:=0) rfl;have sf1:=hSw.f.cell (o:=1) rfl;have sf2:=hSw.f.cell (o:=2) rfl;have sf3:=hSw.f.cell (o:=3) rfl;have sf4:=hSw.f.cell (o:=4) rfl;have sf5:=hSw.f.cell (o:=5) rfl;have sa0:=hSw.a.cell (o:=0) rfl;have sa1:=hSw.a.cell (o:=1) rfl;have sa2:=hSw.a.cell (o:=2) rfl;go_simp;try with_reducible rfl)
 (try simp only[Act.put,lA,lB,lC])
 refine oA 1 (fun K hK=>?_)
 go_simp
 (go_at_call 90;refine(l4One_any 2 (-1) false _).mono ?_;rintro e w4 ⟨r4,rfl,hr4,R4,b4⟩)
 have B4:=hide (Bd.out.trans (b4.mono Bd.out.size))
 have E4:=hide (Ed.out.below b4 Ed.out.lt)
 have N4t69:=hide R4
 have lr4:w.heap.size+1+1<r4:=by have h8:=Ed.out.lt;have h9:=hr4;first|omega|(simp at h8 h9;omega)|(simp at h9;omega)|(simp at h8;omega)
 have HH:=hHeld.below b4
 have SL4:=hide HH
 clear b4 R4 hr4
 refine hK.out _ _ HH (fun hHeld=>?_)
 clear hK K HH
 (try simp only[Act.put,lA,lB,lC])
 refine oA 2 (fun K hK=>?_)
 go_simp
 (go_at_call 91;refine(l4Num_any _).mono ?_;rintro e w5 ⟨rfl,b5⟩)
 have B5:=hide (B4.out.trans (b5.mono B4.out.size))
 have E5:=hide (E4.out.below b5 E4.out.lt)
 have N5t69:=hide (N4t69.out.below b5 N4t69.out.lt)
 have HH:=hHeld.below b5
 have SL5:=hide HH
 clear b5
 refine hK.out _ _ HH (fun hHeld=>?_)
 clear hK K HH
 (try simp only[Act.put,lA,lB,lC])
 refine oA 3 (fun K hK=>?_)
 go_simp
 (go_at_call 90;refine(l4One_any 1 0 false _).mono ?_;rintro e w6 ⟨r6,rfl,hr6,R6,b6⟩)
 have B6:=hide (B5.out.trans (b6.mono B5.out.size))
 have E6:=hide (E5.out.below b6 E5.out.lt)
 have N6t69:=hide (N5t69.out.below b6 N5t69.out.lt)
 have N6t71:=hide R6
 have lr6:w.heap.size+1+1<r6:=by have h8:=E5.out.lt;have h9:=hr6;first|omega|(simp at h8 h9;omega)|(simp at h9;omega)|(simp at h8;omega)
 have HH:=hHeld.below b6
 have SL6:=hide HH
 clear b6 R6 hr6
 refine hK.out _ _ HH (fun hHeld=>?_)
 clear hK K HH
 (try simp only[Act.put,lA,lB,lC])
 refine oA 8 (fun K hK=>?_)
 go_simp
 (go_at_call 33;refine(specKinCount_any ra rc lo hi gs _ hN (HX.out.keep (B6.out.mono hh))).mono ?_;rintro e w7 ⟨rfl,rfl⟩)
 refine hK.out _ _ hHeld (fun hHeld=>?_)
 clear hK K
 (try simp only[Act.put,lA,lB,lC])
 refine tA 9 (v:=?v9n14) ?y9n14 ?r9n14
 case y9n14=>(intro w _;go_simp;try with_reducible rfl)
 (try simp only[Act.put,lA,lB,lC])
 refine tA 10 (v:=?v10n15) ?y10n15 ?r10n15
 case y10n15=>(intro w _;go_simp;try with_reducible rfl)
 (try simp only[Act.put,lA,lB,lC])
 refine eA 11 (fun K hK=>?_)
 have e0:=E6.out.cell (o:=0) rfl
 have e1:=E6.out.cell (o:=1) rfl
 have e2:=E6.out.cell (o:=2) rfl
 have f0:=E6.out.frozen 0
 have f1:=E6.out.frozen 1
 have f2:=E6.out.frozen 2
 have hlt:=E6.out.lt
 have sw:=B6.out.size
 go_simp
 refine hK.out _ _ ?_
 clear hK K
 (try simp only[Act.put,lA,lB,lC])
 refine doneA (by kernel_rfl) ?_ _
 go_wp2_with fail
 exact need_done E6.out B6.out (by show w.heap.size≤w.heap.size+1+1;omega) (need_row N6t69.out (by omega) (by omega)) (need_row N6t71.out (by omega) (by omega)) rfl rfl rfl
set_option maxHeartbeats 40000000 in
set_option maxRecDepth 100000 in
theorem l4Needs_cast (ra ga a0 a4 a5 sa:Option Addr) (rc cg nf cf fb off k c0 c4 c5 lo hi sc lo1 hi1:Nat) (gs:List (List Ty)) (gl:List Fd) (F:GFun) (st:List Fd) (a y:Int) (w:World) (hk:k<nf) (hf:fb<w.heap.size) (hh:hi≤w.heap.size) (hn:st.length≤1000)
  (hy6:FC6 w fb (off+k*6) a0 c0 F a4 c4 a5 c5) (hN:Few gs) (hx:GroupsIn w lo hi ra gs) :
  Calls Tryz.prog 61 #[.agg #[.slice ra gs.length rc,.slice ga gl.length cg,.slice (some ⟨fb,off,none⟩) nf cf],.int .i64 (k:Int),.slice sa st.length sc,.agg #[.int .i64 23,.int .i64 a,.int .i64 y]] w fun e w'=>NeedPost w [⟨2,-1,false⟩] [⟨3,a,false⟩] (decide (a<(kinCount gs:Int))) e w':=by
 have HX:=hide hx
 clear hx
 obtain⟨w1,hw1⟩:∃w1,w1=(((w.alloc (.cells #[.slice ra gs.length rc,.slice ga gl.length cg,.slice (some ⟨fb,off,none⟩) nf cf] 37)).alloc (.cells #[.int .i64 23,.int .i64 a,.int .i64 y] 40)).alloc (.cells #[.slice none 0 0,.slice none 0 0,.bool false] 115)):=⟨_,rfl⟩
 obtain⟨BB,EE,II,PP,hs1⟩:=nw1 hw1
 obtain⟨y0,y1,y2,y3,y4,y5⟩:=hy6.keep BB.out hf
 clear hy6
 have hxc:=II.out.cell (o:=0) rfl
 have p2:=PP.out.cell (o:=2) rfl
 have j1:(k:Int)<(nf:Int):=by omega
 have j2:¬(nf:Int)≤(k:Int):=by omega
 have j3:(0:Int)≤(k:Int):=by omega
 have hfl:fb<w1.heap.size:=by omega
 have hxl:(w.heap.size+1)<w1.heap.size:=by omega
 have HXL:=hide hxl
 have HXC:=hide hxc
 clear hxl hxc
 go_enter Tryz.func61,Tryz.ntmps61
 go_upto_region 1 with(fail)
 rw[←hw1]
 clear hw1
 go_wp2_with fail
 refine(l4Ref_any (-1) _).mono ?_
 rintro e u2 ⟨rfl,b2⟩
 obtain⟨B0,E0,S0⟩:=nw2 BB.out EE.out II.out PP.out hs1 b2 HXL.out HXC.out
 clear b2 BB EE II PP y0 y1 y2 y3 y4 y5 p2 hfl hs1 HXL HXC
 go_upto_region 4 with(fail)
 generalize (u2.alloc (.cells #[.int .i64 2,.int .i64 (-1),.bool false] 68))=w0 at *
 generalize u2.heap.size=ba at *
 have si0:=S0.out.i.cell (o:=0) rfl
 go_upto_region 24 with(fail)
 clear si0
 have Bd:=hide B0.out.drew
 have Ed:=hide (Rec.drew' E0.out)
 have SLd:=hide S0.out.drew
 refine beginA (S:=SD w.heap.size ba (w.heap.size+1) 0 [.slice ra gs.length rc,.slice ga gl.length cg,.slice (some ⟨fb,off,none⟩) nf cf] [.int .i64 23,.int .i64 a,.int .i64 y] [.slice a0 F.takes.length c0,.int .i64 F.gives.kind,.int .i64 F.gives.of,.bool F.gives.mt,.slice a4 F.own.length c4,.slice a5 F.body.length c5] (.int .i64 23)) 13 (by kernel_rfl) SLd.out (fun hHeld=>?_)
 (try simp only[Act.put,lA,lB,lC])
 refine tA 0 (v:=?v0n16) ?y0n16 ?r0n16
 case y0n16=>(intro w hSw;have sp0:=hSw.p.cell (o:=0) rfl;have sp1:=hSw.p.cell (o:=1) rfl;have sp2:=hSw.p.cell (o:=2) rfl;have si0:=hSw.i.cell (o:=0) rfl;have si1:=hSw.i.cell (o:=1) rfl;have si2:=hSw.i.cell (o:=2) rfl;have sf0:=hSw.f.cell (o:=0) rfl;have sf1:=hSw.f.cell (o:=1) rfl;have sf2:=hSw.f.cell (o:=2) rfl;have sf3:=hSw.f.cell (o:=3) rfl;have sf4:=hSw.f.cell (o:=4) rfl;have sf5:=hSw.f.cell (o:=5) rfl;have sa0:=hSw.a.cell (o:=0) rfl;have sa1:=hSw.a.cell (o:=1) rfl;have sa2:=hSw.a.cell (o:=2) rfl;go_simp;try with_reducible rfl)
 (try simp only[Act.put,lA,lB,lC])
 refine tA 2 (v:=?v2n17) ?y2n17 ?r2n17
 case y2n17=>(intro w _;go_simp;try with_reducible rfl)
 (try simp only[Act.put,lA,lB,lC])
 refine tA 3 (v:=?v3n18) ?y3n18 ?r3n18
 case y3n18=>(intro w hSw;have sp0:=hSw.p.cell (o:=0) rfl;have sp1:=hSw.p.cell (o:=1) rfl;have sp2:=hSw.p.cell (o:=2) rfl;have si0:=hSw.i.cell (o:=0) rfl;have si1:=hSw.i.cell (o:=1) rfl;have si2:=hSw.i.cell (o:=2) rfl;have sf0:=hSw.f.cell (o:=0) rfl;have sf1:=hSw.f.cell (o:=1) rfl;have sf2:=hSw.f.cell (o:=2) rfl;have sf3:=hSw.f.cell (o:=3) rfl;have sf4:=hSw.f.cell (o:=4) rfl;have sf5:=hSw.f.cell (o:=5) rfl;have sa0:=hSw.a.cell (o:=0) rfl;have sa1:=hSw.a.cell (o:=1) rfl;have sa2:=hSw.a.cell (o:=2) rfl;go_simp;try with_reducible rfl)
 (try simp only[Act.put,lA,lB,lC])
 refine tA 6 (v:=?v6n19) ?y6n19 ?r6n19
 case y6n19=>(intro w _;go_simp;try with_reducible rfl)
 (try simp only[Act.put,lA,lB,lC])
 refine tA 7 (v:=?v7n20) ?y7n20 ?r7n20
 case y7n20=>(intro w hSw;have sp0:=hSw.p.cell (o:=0) rfl;have sp1:=hSw.p.cell (o:=1) rfl;have sp2:=hSw.p.cell (o:=2) rfl;have si0:=hSw.i.cell (o:=0) rfl;have si1:=hSw.i.cell (o:=1) rfl;have si2:=hSw.i.cell (o:=2) rfl;have sf0:=hSw.f.cell (o:=0) rfl;have sf1:=hSw.f.cell (o:=1) rfl;have sf2:=hSw.f.cell (o:=2) rfl;have sf3:=hSw.f.cell (o:=3) rfl;have sf4:=hSw.f.cell (o:=4) rfl;have sf5:=hSw.f.cell (o:=5) rfl;have sa0:=hSw.a.cell (o:=0) rfl;have sa1:=hSw.a.cell (o:=1) rfl;have sa2:=hSw.a.cell (o:=2) rfl;go_simp;try with_reducible rfl)
 (try simp only[Act.put,lA,lB,lC])
 refine tA 8 (v:=?v8n21) ?y8n21 ?r8n21
 case y8n21=>(intro w _;go_simp;try with_reducible rfl)
 (try simp only[Act.put,lA,lB,lC])
 refine tA 9 (v:=?v9n22) ?y9n22 ?r9n22
 case y9n22=>(intro w hSw;have sp0:=hSw.p.cell (o:=0) rfl;have sp1:=hSw.p.cell (o:=1) rfl;have sp2:=hSw.p.cell (o:=2) rfl;have si0:=hSw.i.cell (o:=0) rfl;have si1:=hSw.i.cell (o:=1) rfl;have si2:=hSw.i.cell (o:=2) rfl;have sf0:=hSw.f.cell (o:=0) rfl;have sf1:=hSw.f.cell (o:=1) rfl;have sf2:=hSw.f.cell (o:=2) rfl;have sf3:=hSw.f.cell (o:=3) rfl;have sf4:=hSw.f.cell (o:=4) rfl;have sf5:=hSw.f.cell (o:=5) rfl;have sa0:=hSw.a.cell (o:=0) rfl;have sa1:=hSw.a.cell (o:=1) rfl;have sa2:=hSw.a.cell (o:=2) rfl;go_simp;try with_reducible rfl)
 (try simp only[Act.put,lA,lB,lC])
 refine oA 1 (fun K hK=>?_)
 go_simp
 (go_at_call 90;refine(l4One_any 2 (-1) false _).mono ?_;rintro e w8 ⟨r8,rfl,hr8,R8,b8⟩)
 have B8:=hide (Bd.out.trans (b8.mono Bd.out.size))
 have E8:=hide (Ed.out.below b8 Ed.out.lt)
 have N8t82:=hide R8
 have lr8:w.heap.size+1+1<r8:=by have h8:=Ed.out.lt;have h9:=hr8;first|omega|(simp at h8 h9;omega)|(simp at h9;omega)|(simp at h8;omega)
 have HH:=hHeld.below b8
 have SL8:=hide HH
 clear b8 R8 hr8
 refine hK.out _ _ HH (fun hHeld=>?_)
 clear hK K HH
 (try simp only[Act.put,lA,lB,lC])
 refine oA 4 (fun K hK=>?_)
 go_simp
 (go_at_call 92;refine(l4Sure_any a _).mono ?_;rintro e w9 ⟨rfl,b9⟩)
 have B9:=hide (B8.out.trans (b9.mono B8.out.size))
 have E9:=hide (E8.out.below b9 E8.out.lt)
 have N9t82:=hide (N8t82.out.below b9 N8t82.out.lt)
 have HH:=hHeld.below b9
 have SL9:=hide HH
 clear b9
 refine hK.out _ _ HH (fun hHeld=>?_)
 clear hK K HH
 (try simp only[Act.put,lA,lB,lC])
 refine oA 5 (fun K hK=>?_)
 go_simp
 (go_at_call 90;refine(l4One_any 3 a false _).mono ?_;rintro e w10 ⟨r10,rfl,hr10,R10,b10⟩)
 have B10:=hide (B9.out.trans (b10.mono B9.out.size))
 have E10:=hide (E9.out.below b10 E9.out.lt)
 have N10t82:=hide (N9t82.out.below b10 N9t82.out.lt)
 have N10t86:=hide R10
 have lr10:w.heap.size+1+1<r10:=by have h8:=E9.out.lt;have h9:=hr10;first|omega|(simp at h8 h9;omega)|(simp at h9;omega)|(simp at h8;omega)
 have HH:=hHeld.below b10
 have SL10:=hide HH
 clear b10 R10 hr10
 refine hK.out _ _ HH (fun hHeld=>?_)
 clear hK K HH
 (try simp only[Act.put,lA,lB,lC])
 refine oA 10 (fun K hK=>?_)
 go_simp
 (go_at_call 33;refine(specKinCount_any ra rc lo hi gs _ hN (HX.out.keep (B10.out.mono hh))).mono ?_;rintro e w11 ⟨rfl,rfl⟩)
 refine hK.out _ _ hHeld (fun hHeld=>?_)
 clear hK K
 (try simp only[Act.put,lA,lB,lC])
 refine tA 11 (v:=?v11n23) ?y11n23 ?r11n23
 case y11n23=>(intro w _;go_simp;try with_reducible rfl)
 (try simp only[Act.put,lA,lB,lC])
 refine tA 12 (v:=?v12n24) ?y12n24 ?r12n24
 case y12n24=>(intro w _;go_simp;try with_reducible rfl)
 (try simp only[Act.put,lA,lB,lC])
 refine eA 13 (fun K hK=>?_)
 have e0:=E10.out.cell (o:=0) rfl
 have e1:=E10.out.cell (o:=1) rfl
 have e2:=E10.out.cell (o:=2) rfl
 have f0:=E10.out.frozen 0
 have f1:=E10.out.frozen 1
 have f2:=E10.out.frozen 2
 have hlt:=E10.out.lt
 have sw:=B10.out.size
 go_simp
 refine hK.out _ _ ?_
 clear hK K
 (try simp only[Act.put,lA,lB,lC])
 refine doneA (by kernel_rfl) ?_ _
 go_wp2_with fail
 exact need_done E10.out B10.out (by show w.heap.size≤w.heap.size+1+1;omega) (need_row N10t82.out (by omega) (by omega)) (need_row N10t86.out (by omega) (by omega)) rfl rfl rfl
set_option maxHeartbeats 40000000 in
set_option maxRecDepth 100000 in
theorem l4Needs_sure0 (ra ga a0 a4 a5 sa:Option Addr) (rc cg nf cf fb off k c0 c4 c5 lo hi sc lo1 hi1:Nat) (gs:List (List Ty)) (gl:List Fd) (F:GFun) (st:List Fd) (a y:Int) (w:World) (hk:k<nf) (hf:fb<w.heap.size) (hh:hi≤w.heap.size) (hn:st.length≤1000)
  (hy6:FC6 w fb (off+k*6) a0 c0 F a4 c4 a5 c5) (h0:st.length=0) :
  Calls Tryz.prog 61 #[.agg #[.slice ra gs.length rc,.slice ga gl.length cg,.slice (some ⟨fb,off,none⟩) nf cf],.int .i64 (k:Int),.slice sa st.length sc,.agg #[.int .i64 24,.int .i64 a,.int .i64 y]] w fun e w'=>NeedPost w [⟨2,-1,false⟩] [] true e w':=by
 obtain⟨w1,hw1⟩:∃w1,w1=(((w.alloc (.cells #[.slice ra gs.length rc,.slice ga gl.length cg,.slice (some ⟨fb,off,none⟩) nf cf] 37)).alloc (.cells #[.int .i64 24,.int .i64 a,.int .i64 y] 40)).alloc (.cells #[.slice none 0 0,.slice none 0 0,.bool false] 115)):=⟨_,rfl⟩
 obtain⟨BB,EE,II,PP,hs1⟩:=nw1 hw1
 obtain⟨y0,y1,y2,y3,y4,y5⟩:=hy6.keep BB.out hf
 clear hy6
 have hxc:=II.out.cell (o:=0) rfl
 have p2:=PP.out.cell (o:=2) rfl
 have j1:(k:Int)<(nf:Int):=by omega
 have j2:¬(nf:Int)≤(k:Int):=by omega
 have j3:(0:Int)≤(k:Int):=by omega
 have hfl:fb<w1.heap.size:=by omega
 have hxl:(w.heap.size+1)<w1.heap.size:=by omega
 have HXL:=hide hxl
 have HXC:=hide hxc
 clear hxl hxc
 go_enter Tryz.func61,Tryz.ntmps61
 go_upto_region 1 with(fail)
 rw[←hw1]
 clear hw1
 go_wp2_with fail
 refine(l4Ref_any (-1) _).mono ?_
 rintro e u2 ⟨rfl,b2⟩
 obtain⟨B0,E0,S0⟩:=nw2 BB.out EE.out II.out PP.out hs1 b2 HXL.out HXC.out
 clear b2 BB EE II PP y0 y1 y2 y3 y4 y5 p2 hfl hs1 HXL HXC
 go_upto_region 4 with(fail)
 generalize (u2.alloc (.cells #[.int .i64 2,.int .i64 (-1),.bool false] 68))=w0 at *
 generalize u2.heap.size=ba at *
 have si0:=S0.out.i.cell (o:=0) rfl
 go_upto_region 27 with(fail)
 clear si0
 have sp0:=S0.out.p.cell (o:=0) rfl
 have sp1:=S0.out.p.cell (o:=1) rfl
 have sp2:=S0.out.p.cell (o:=2) rfl
 have si0:=S0.out.i.cell (o:=0) rfl
 have si1:=S0.out.i.cell (o:=1) rfl
 have si2:=S0.out.i.cell (o:=2) rfl
 have sf0:=S0.out.f.cell (o:=0) rfl
 have sf1:=S0.out.f.cell (o:=1) rfl
 have sf2:=S0.out.f.cell (o:=2) rfl
 have sf3:=S0.out.f.cell (o:=3) rfl
 have sf4:=S0.out.f.cell (o:=4) rfl
 have sf5:=S0.out.f.cell (o:=5) rfl
 have sa0:=S0.out.a.cell (o:=0) rfl
 have sa1:=S0.out.a.cell (o:=1) rfl
 have sa2:=S0.out.a.cell (o:=2) rfl
 go_wp2_with fail
 (go_at_call 90;refine(l4One_any 2 (-1) false _).mono ?_;rintro e w12 ⟨r12,rfl,hr12,R12,b12⟩)
 have B12:=hide (B0.out.trans (b12.mono B0.out.size))
 have E12:=hide (E0.out.below b12 E0.out.lt)
 have N12t99:=hide R12
 have lr12:w.heap.size+1+1<r12:=by have h8:=E0.out.lt;have h9:=hr12;first|omega|(simp at h8 h9;omega)|(simp at h9;omega)|(simp at h8;omega)
 have SL12:=hide (S0.out.below b12)
 clear b12 R12 hr12
 clear sp0 sp1 sp2 si0 si1 si2 sf0 sf1 sf2 sf3 sf4 sf5 sa0 sa1 sa2
 have sp0:=SL12.out.p.cell (o:=0) rfl
 have sp1:=SL12.out.p.cell (o:=1) rfl
 have sp2:=SL12.out.p.cell (o:=2) rfl
 have si0:=SL12.out.i.cell (o:=0) rfl
 have si1:=SL12.out.i.cell (o:=1) rfl
 have si2:=SL12.out.i.cell (o:=2) rfl
 have sf0:=SL12.out.f.cell (o:=0) rfl
 have sf1:=SL12.out.f.cell (o:=1) rfl
 have sf2:=SL12.out.f.cell (o:=2) rfl
 have sf3:=SL12.out.f.cell (o:=3) rfl
 have sf4:=SL12.out.f.cell (o:=4) rfl
 have sf5:=SL12.out.f.cell (o:=5) rfl
 have sa0:=SL12.out.a.cell (o:=0) rfl
 have sa1:=SL12.out.a.cell (o:=1) rfl
 have sa2:=SL12.out.a.cell (o:=2) rfl
 have e0:=E12.out.cell (o:=0) rfl
 have e1:=E12.out.cell (o:=1) rfl
 have e2:=E12.out.cell (o:=2) rfl
 have f0:=E12.out.frozen 0
 have f1:=E12.out.frozen 1
 have f2:=E12.out.frozen 2
 have hlt:=E12.out.lt
 have sw:=B12.out.size
 go_wp2_with fail
 exact need_done E12.out B12.out (by show w.heap.size≤w.heap.size+1+1;omega) (need_row N12t99.out (by omega) (by omega)) (.inl rfl) rfl rfl rfl
set_option maxHeartbeats 40000000 in
set_option maxRecDepth 100000 in
theorem l4Needs_sure (ra ga a0 a4 a5 sa:Option Addr) (rc cg nf cf fb off k c0 c4 c5 lo hi sc lo1 hi1:Nat) (gs:List (List Ty)) (gl:List Fd) (F:GFun) (st:List Fd) (a y:Int) (w:World) (hk:k<nf) (hf:fb<w.heap.size) (hh:hi≤w.heap.size) (hn:st.length≤1000)
  (hy6:FC6 w fb (off+k*6) a0 c0 F a4 c4 a5 c5) (sb so m:Nat) (tof:Int) (hsa:sa=some ⟨sb,so,none⟩) (hm:st.length=m+1) (hsb:sb<w.heap.size) (hc:w.cell? ⟨sb,so+m*3+1,none⟩=some (.int .i64 tof)) :
  Calls Tryz.prog 61 #[.agg #[.slice ra gs.length rc,.slice ga gl.length cg,.slice (some ⟨fb,off,none⟩) nf cf],.int .i64 (k:Int),.slice sa st.length sc,.agg #[.int .i64 24,.int .i64 a,.int .i64 y]] w fun e w'=>NeedPost w [⟨2,-1,false⟩] [⟨3,tof,false⟩] true e w':=by
 subst hsa
 have i1:(st.length:Int)-1=(m:Int):=by omega
 have i2:(m:Int)<(st.length:Int):=by omega
 have i3:(0:Int)≤(m:Int):=by omega
 have i4:¬(st.length=0):=by omega
 have i5:((st.length:Int)==0)=false:=beq_false_of_ne (by omega)
 have i6:IntKind.i64.wrap (m:Int)=(m:Int):=wrapI8 (by omega) (by omega)
 generalize st.length=nst at *
 clear hm
 obtain⟨w1,hw1⟩:∃w1,w1=(((w.alloc (.cells #[.slice ra gs.length rc,.slice ga gl.length cg,.slice (some ⟨fb,off,none⟩) nf cf] 37)).alloc (.cells #[.int .i64 24,.int .i64 a,.int .i64 y] 40)).alloc (.cells #[.slice none 0 0,.slice none 0 0,.bool false] 115)):=⟨_,rfl⟩
 obtain⟨BB,EE,II,PP,hs1⟩:=nw1 hw1
 obtain⟨y0,y1,y2,y3,y4,y5⟩:=hy6.keep BB.out hf
 clear hy6
 have hxc:=(BB.out.cell (p:=⟨sb,(so+m*3+1),none⟩) (by omega)).trans hc
 have p2:=PP.out.cell (o:=2) rfl
 have j1:(k:Int)<(nf:Int):=by omega
 have j2:¬(nf:Int)≤(k:Int):=by omega
 have j3:(0:Int)≤(k:Int):=by omega
 have hfl:fb<w1.heap.size:=by omega
 have hxl:sb<w1.heap.size:=by omega
 have HXL:=hide hxl
 have HXC:=hide hxc
 clear hxl hxc
 go_enter Tryz.func61,Tryz.ntmps61
 go_upto_region 1 with(fail)
 rw[←hw1]
 clear hw1
 go_wp2_with fail
 refine(l4Ref_any (-1) _).mono ?_
 rintro e u2 ⟨rfl,b2⟩
 obtain⟨B0,E0,S0⟩:=nw2 BB.out EE.out II.out PP.out hs1 b2 HXL.out HXC.out
 clear b2 BB EE II PP y0 y1 y2 y3 y4 y5 p2 hfl hs1 HXL HXC
 go_upto_region 4 with(fail)
 generalize (u2.alloc (.cells #[.int .i64 2,.int .i64 (-1),.bool false] 68))=w0 at *
 generalize u2.heap.size=ba at *
 have si0:=S0.out.i.cell (o:=0) rfl
 go_upto_region 28 with(fail)
 clear si0
 have Bd:=hide B0.out.drew
 have Ed:=hide (Rec.drew' E0.out)
 have SLd:=hide S0.out.drew
 refine beginA (S:=SD w.heap.size ba sb (so+m*3+1) [.slice ra gs.length rc,.slice ga gl.length cg,.slice (some ⟨fb,off,none⟩) nf cf] [.int .i64 24,.int .i64 a,.int .i64 y] [.slice a0 F.takes.length c0,.int .i64 F.gives.kind,.int .i64 F.gives.of,.bool F.gives.mt,.slice a4 F.own.length c4,.slice a5 F.body.length c5] (.int .i64 tof)) 11 (by kernel_rfl) SLd.out (fun hHeld=>?_)
 (try simp only[Act.put,lA,lB,lC])
 refine tA 0 (v:=?v0n25) ?y0n25 ?r0n25
 case y0n25=>(intro w hSw;have sp0:=hSw.p.cell (o:=0) rfl;have sp1:=hSw.p.cell (o:=1) rfl;have sp2:=hSw.p.cell (o:=2) rfl;have si0:=hSw.i.cell (o:=0) rfl;have si1:=hSw.i.cell (o:=1) rfl;have si2:=hSw.i.cell (o:=2) rfl;have sf0:=hSw.f.cell (o:=0) rfl;have sf1:=hSw.f.cell (o:=1) rfl;have sf2:=hSw.f.cell (o:=2) rfl;have sf3:=hSw.f.cell (o:=3) rfl;have sf4:=hSw.f.cell (o:=4) rfl;have sf5:=hSw.f.cell (o:=5) rfl;have sa0:=hSw.a.cell (o:=0) rfl;have sa1:=hSw.a.cell (o:=1) rfl;have sa2:=hSw.a.cell (o:=2) rfl;have sx:=hSw.c;go_simp;try with_reducible rfl)
 (try simp only[Act.put,lA,lB,lC])
 refine tA 2 (v:=?v2n26) ?y2n26 ?r2n26
 case y2n26=>(intro w _;go_simp;try with_reducible rfl)
 (try simp only[Act.put,lA,lB,lC])
 refine tA 3 (v:=?v3n27) ?y3n27 ?r3n27
 case y3n27=>(intro w _;go_simp;try with_reducible rfl)
 (try simp only[Act.put,lA,lB,lC])
 refine tA 4 (v:=?v4n28) ?y4n28 ?r4n28
 case y4n28=>(intro w _;go_simp;try with_reducible rfl)
 (try simp only[Act.put,lA,lB,lC])
 refine tA 5 (v:=?v5n29) ?y5n29 ?r5n29
 case y5n29=>(intro w _;go_simp;try with_reducible rfl)
 (try simp only[Act.put,lA,lB,lC])
 refine tA 6 (v:=?v6n30) ?y6n30 ?r6n30
 case y6n30=>(intro w _;go_simp;try with_reducible rfl)
 (try simp only[Act.put,lA,lB,lC])
 refine tA 7 (v:=?v7n31) ?y7n31 ?r7n31
 case y7n31=>(intro w hSw;have sp0:=hSw.p.cell (o:=0) rfl;have sp1:=hSw.p.cell (o:=1) rfl;have sp2:=hSw.p.cell (o:=2) rfl;have si0:=hSw.i.cell (o:=0) rfl;have si1:=hSw.i.cell (o:=1) rfl;have si2:=hSw.i.cell (o:=2) rfl;have sf0:=hSw.f.cell (o:=0) rfl;have sf1:=hSw.f.cell (o:=1) rfl;have sf2:=hSw.f.cell (o:=2) rfl;have sf3:=hSw.f.cell (o:=3) rfl;have sf4:=hSw.f.cell (o:=4) rfl;have sf5:=hSw.f.cell (o:=5) rfl;have sa0:=hSw.a.cell (o:=0) rfl;have sa1:=hSw.a.cell (o:=1) rfl;have sa2:=hSw.a.cell (o:=2) rfl;have sx:=hSw.c;go_simp;try with_reducible rfl)
 (try simp only[Act.put,lA,lB,lC])
 refine oA 1 (fun K hK=>?_)
 go_simp
 (go_at_call 90;refine(l4One_any 2 (-1) false _).mono ?_;rintro e w13 ⟨r13,rfl,hr13,R13,b13⟩)
 have B13:=hide (Bd.out.trans (b13.mono Bd.out.size))
 have E13:=hide (Ed.out.below b13 Ed.out.lt)
 have N13t102:=hide R13
 have lr13:w.heap.size+1+1<r13:=by have h8:=Ed.out.lt;have h9:=hr13;first|omega|(simp at h8 h9;omega)|(simp at h9;omega)|(simp at h8;omega)
 have HH:=hHeld.below b13
 have SL13:=hide HH
 clear b13 R13 hr13
 refine hK.out _ _ HH (fun hHeld=>?_)
 clear hK K HH
 (try simp only[Act.put,lA,lB,lC])
 refine oA 8 (fun K hK=>?_)
 go_simp
 (go_at_call 92;refine(l4Sure_any tof _).mono ?_;rintro e w14 ⟨rfl,b14⟩)
 have B14:=hide (B13.out.trans (b14.mono B13.out.size))
 have E14:=hide (E13.out.below b14 E13.out.lt)
 have N14t102:=hide (N13t102.out.below b14 N13t102.out.lt)
 have HH:=hHeld.below b14
 have SL14:=hide HH
 clear b14
 refine hK.out _ _ HH (fun hHeld=>?_)
 clear hK K HH
 (try simp only[Act.put,lA,lB,lC])
 refine oA 9 (fun K hK=>?_)
 go_simp
 (go_at_call 90;refine(l4One_any 3 tof false _).mono ?_;rintro e w15 ⟨r15,rfl,hr15,R15,b15⟩)
 have B15:=hide (B14.out.trans (b15.mono B14.out.size))
 have E15:=hide (E14.out.below b15 E14.out.lt)
 have N15t102:=hide (N14t102.out.below b15 N14t102.out.lt)
 have N15t110:=hide R15
 have lr15:w.heap.size+1+1<r15:=by have h8:=E14.out.lt;have h9:=hr15;first|omega|(simp at h8 h9;omega)|(simp at h9;omega)|(simp at h8;omega)
 have HH:=hHeld.below b15
 have SL15:=hide HH
 clear b15 R15 hr15
 refine hK.out _ _ HH (fun hHeld=>?_)
 clear hK K HH
 (try simp only[Act.put,lA,lB,lC])
 refine tA 10 (v:=?v10n32) ?y10n32 ?r10n32
 case y10n32=>(intro w _;go_simp;try with_reducible rfl)
 (try simp only[Act.put,lA,lB,lC])
 refine eA 11 (fun K hK=>?_)
 have e0:=E15.out.cell (o:=0) rfl
 have e1:=E15.out.cell (o:=1) rfl
 have e2:=E15.out.cell (o:=2) rfl
 have f0:=E15.out.frozen 0
 have f1:=E15.out.frozen 1
 have f2:=E15.out.frozen 2
 have hlt:=E15.out.lt
 have sw:=B15.out.size
 go_simp
 refine hK.out _ _ ?_
 clear hK K
 (try simp only[Act.put,lA,lB,lC])
 refine doneA (by kernel_rfl) ?_ _
 go_wp2_with fail
 exact need_done E15.out B15.out (by show w.heap.size≤w.heap.size+1+1;omega) (need_row N15t102.out (by omega) (by omega)) (need_row N15t110.out (by omega) (by omega)) rfl rfl rfl
set_option maxHeartbeats 40000000 in
set_option maxRecDepth 100000 in
theorem l4Needs_jump (ra ga a0 a4 a5 sa:Option Addr) (rc cg nf cf fb off k c0 c4 c5 lo hi sc lo1 hi1:Nat) (gs:List (List Ty)) (gl:List Fd) (F:GFun) (st:List Fd) (a y:Int) (w:World) (hk:k<nf) (hf:fb<w.heap.size) (hh:hi≤w.heap.size) (hn:st.length≤1000)
  (hy6:FC6 w fb (off+k*6) a0 c0 F a4 c4 a5 c5) :
  Calls Tryz.prog 61 #[.agg #[.slice ra gs.length rc,.slice ga gl.length cg,.slice (some ⟨fb,off,none⟩) nf cf],.int .i64 (k:Int),.slice sa st.length sc,.agg #[.int .i64 25,.int .i64 a,.int .i64 y]] w fun e w'=>NeedPost w [] [] (decide (a<(F.body.length:Int))) e w':=by
 obtain⟨w1,hw1⟩:∃w1,w1=(((w.alloc (.cells #[.slice ra gs.length rc,.slice ga gl.length cg,.slice (some ⟨fb,off,none⟩) nf cf] 37)).alloc (.cells #[.int .i64 25,.int .i64 a,.int .i64 y] 40)).alloc (.cells #[.slice none 0 0,.slice none 0 0,.bool false] 115)):=⟨_,rfl⟩
 obtain⟨BB,EE,II,PP,hs1⟩:=nw1 hw1
 obtain⟨y0,y1,y2,y3,y4,y5⟩:=hy6.keep BB.out hf
 clear hy6
 have hxc:=II.out.cell (o:=0) rfl
 have p2:=PP.out.cell (o:=2) rfl
 have j1:(k:Int)<(nf:Int):=by omega
 have j2:¬(nf:Int)≤(k:Int):=by omega
 have j3:(0:Int)≤(k:Int):=by omega
 have hfl:fb<w1.heap.size:=by omega
 have hxl:(w.heap.size+1)<w1.heap.size:=by omega
 have HXL:=hide hxl
 have HXC:=hide hxc
 clear hxl hxc
 go_enter Tryz.func61,Tryz.ntmps61
 go_upto_region 1 with(fail)
 rw[←hw1]
 clear hw1
 go_wp2_with fail
 refine(l4Ref_any (-1) _).mono ?_
 rintro e u2 ⟨rfl,b2⟩
 obtain⟨B0,E0,S0⟩:=nw2 BB.out EE.out II.out PP.out hs1 b2 HXL.out HXC.out
 clear b2 BB EE II PP y0 y1 y2 y3 y4 y5 p2 hfl hs1 HXL HXC
 go_upto_region 4 with(fail)
 generalize (u2.alloc (.cells #[.int .i64 2,.int .i64 (-1),.bool false] 68))=w0 at *
 generalize u2.heap.size=ba at *
 have si0:=S0.out.i.cell (o:=0) rfl
 go_upto_region 30 with(fail)
 clear si0
 have sp0:=S0.out.p.cell (o:=0) rfl
 have sp1:=S0.out.p.cell (o:=1) rfl
 have sp2:=S0.out.p.cell (o:=2) rfl
 have si0:=S0.out.i.cell (o:=0) rfl
 have si1:=S0.out.i.cell (o:=1) rfl
 have si2:=S0.out.i.cell (o:=2) rfl
 have sf0:=S0.out.f.cell (o:=0) rfl
 have sf1:=S0.out.f.cell (o:=1) rfl
 have sf2:=S0.out.f.cell (o:=2) rfl
 have sf3:=S0.out.f.cell (o:=3) rfl
 have sf4:=S0.out.f.cell (o:=4) rfl
 have sf5:=S0.out.f.cell (o:=5) rfl
 have sa0:=S0.out.a.cell (o:=0) rfl
 have sa1:=S0.out.a.cell (o:=1) rfl
 have sa2:=S0.out.a.cell (o:=2) rfl
 have e0:=E0.out.cell (o:=0) rfl
 have e1:=E0.out.cell (o:=1) rfl
 have e2:=E0.out.cell (o:=2) rfl
 have f0:=E0.out.frozen 0
 have f1:=E0.out.frozen 1
 have f2:=E0.out.frozen 2
 have hlt:=E0.out.lt
 have sw:=B0.out.size
 go_wp2_with fail
 exact need_done E0.out B0.out (by show w.heap.size≤w.heap.size+1+1;omega) (.inl rfl) (.inl rfl) rfl rfl rfl
set_option maxHeartbeats 40000000 in
set_option maxRecDepth 100000 in
theorem l4Needs_if (ra ga a0 a4 a5 sa:Option Addr) (rc cg nf cf fb off k c0 c4 c5 lo hi sc lo1 hi1:Nat) (gs:List (List Ty)) (gl:List Fd) (F:GFun) (st:List Fd) (a y:Int) (w:World) (hk:k<nf) (hf:fb<w.heap.size) (hh:hi≤w.heap.size) (hn:st.length≤1000)
  (hy6:FC6 w fb (off+k*6) a0 c0 F a4 c4 a5 c5) :
  Calls Tryz.prog 61 #[.agg #[.slice ra gs.length rc,.slice ga gl.length cg,.slice (some ⟨fb,off,none⟩) nf cf],.int .i64 (k:Int),.slice sa st.length sc,.agg #[.int .i64 26,.int .i64 a,.int .i64 y]] w fun e w'=>NeedPost w [⟨1,0,false⟩] [] (decide (a<(F.body.length:Int))) e w':=by
 obtain⟨w1,hw1⟩:∃w1,w1=(((w.alloc (.cells #[.slice ra gs.length rc,.slice ga gl.length cg,.slice (some ⟨fb,off,none⟩) nf cf] 37)).alloc (.cells #[.int .i64 26,.int .i64 a,.int .i64 y] 40)).alloc (.cells #[.slice none 0 0,.slice none 0 0,.bool false] 115)):=⟨_,rfl⟩
 obtain⟨BB,EE,II,PP,hs1⟩:=nw1 hw1
 obtain⟨y0,y1,y2,y3,y4,y5⟩:=hy6.keep BB.out hf
 clear hy6
 have hxc:=II.out.cell (o:=0) rfl
 have p2:=PP.out.cell (o:=2) rfl
 have j1:(k:Int)<(nf:Int):=by omega
 have j2:¬(nf:Int)≤(k:Int):=by omega
 have j3:(0:Int)≤(k:Int):=by omega
 have hfl:fb<w1.heap.size:=by omega
 have hxl:(w.heap.size+1)<w1.heap.size:=by omega
 have HXL:=hide hxl
 have HXC:=hide hxc
 clear hxl hxc
 go_enter Tryz.func61,Tryz.ntmps61
 go_upto_region 1 with(fail)
 rw[←hw1]
 clear hw1
 go_wp2_with fail
 refine(l4Ref_any (-1) _).mono ?_
 rintro e u2 ⟨rfl,b2⟩
 obtain⟨B0,E0,S0⟩:=nw2 BB.out EE.out II.out PP.out hs1 b2 HXL.out HXC.out
 clear b2 BB EE II PP y0 y1 y2 y3 y4 y5 p2 hfl hs1 HXL HXC
 go_upto_region 4 with(fail)
 generalize (u2.alloc (.cells #[.int .i64 2,.int .i64 (-1),.bool false] 68))=w0 at *
 generalize u2.heap.size=ba at *
 have si0:=S0.out.i.cell (o:=0) rfl
 go_upto_region 32 with(fail)
 clear si0
 have Bd:=hide B0.out.drew
 have Ed:=hide (Rec.drew' E0.out)
 have SLd:=hide S0.out.drew
 refine beginA (S:=SD w.heap.size ba (w.heap.size+1) 0 [.slice ra gs.length rc,.slice ga gl.length cg,.slice (some ⟨fb,off,none⟩) nf cf] [.int .i64 26,.int .i64 a,.int .i64 y] [.slice a0 F.takes.length c0,.int .i64 F.gives.kind,.int .i64 F.gives.of,.bool F.gives.mt,.slice a4 F.own.length c4,.slice a5 F.body.length c5] (.int .i64 26)) 9 (by kernel_rfl) SLd.out (fun hHeld=>?_)
 (try simp only[Act.put,lA,lB,lC])
 refine tA 2 (v:=?v2n33) ?y2n33 ?r2n33
 case y2n33=>(intro w _;go_simp;try with_reducible rfl)
 (try simp only[Act.put,lA,lB,lC])
 refine tA 3 (v:=?v3n34) ?y3n34 ?r3n34
 case y3n34=>(intro w hSw;have sp0:=hSw.p.cell (o:=0) rfl;have sp1:=hSw.p.cell (o:=1) rfl;have sp2:=hSw.p.cell (o:=2) rfl;have si0:=hSw.i.cell (o:=0) rfl;have si1:=hSw.i.cell (o:=1) rfl;have si2:=hSw.i.cell (o:=2) rfl;have sf0:=hSw.f.cell (o:=0) rfl;have sf1:=hSw.f.cell (o:=1) rfl;have sf2:=hSw.f.cell (o:=2) rfl;have sf3:=hSw.f.cell (o:=3) rfl;have sf4:=hSw.f.cell (o:=4) rfl;have sf5:=hSw.f.cell (o:=5) rfl;have sa0:=hSw.a.cell (o:=0) rfl;have sa1:=hSw.a.cell (o:=1) rfl;have sa2:=hSw.a.cell (o:=2) rfl;go_simp;try with_reducible rfl)
 (try simp only[Act.put,lA,lB,lC])
 refine tA 4 (v:=?v4n35) ?y4n35 ?r4n35
 case y4n35=>(intro w _;go_simp;try with_reducible rfl)
 (try simp only[Act.put,lA,lB,lC])
 refine tA 5 (v:=?v5n36) ?y5n36 ?r5n36
 case y5n36=>(intro w hSw;have sp0:=hSw.p.cell (o:=0) rfl;have sp1:=hSw.p.cell (o:=1) rfl;have sp2:=hSw.p.cell (o:=2) rfl;have si0:=hSw.i.cell (o:=0) rfl;have si1:=hSw.i.cell (o:=1) rfl;have si2:=hSw.i.cell (o:=2) rfl;have sf0:=hSw.f.cell (o:=0) rfl;have sf1:=hSw.f.cell (o:=1) rfl;have sf2:=hSw.f.cell (o:=2) rfl;have sf3:=hSw.f.cell (o:=3) rfl;have sf4:=hSw.f.cell (o:=4) rfl;have sf5:=hSw.f.cell (o:=5) rfl;have sa0:=hSw.a.cell (o:=0) rfl;have sa1:=hSw.a.cell (o:=1) rfl;have sa2:=hSw.a.cell (o:=2) rfl;go_simp;try with_reducible rfl)
 (try simp only[Act.put,lA,lB,lC])
 refine tA 6 (v:=?v6n37) ?y6n37 ?r6n37
 case y6n37=>(intro w _;go_simp;try with_reducible rfl)
 (try simp only[Act.put,lA,lB,lC])
 refine tA 7 (v:=?v7n38) ?y7n38 ?r7n38
 case y7n38=>(intro w _;go_simp;try with_reducible rfl)
 (try simp only[Act.put,lA,lB,lC])
 refine oA 0 (fun K hK=>?_)
 go_simp
 (go_at_call 91;refine(l4Num_any _).mono ?_;rintro e w16 ⟨rfl,b16⟩)
 have B16:=hide (Bd.out.trans (b16.mono Bd.out.size))
 have E16:=hide (Ed.out.below b16 Ed.out.lt)
 have HH:=hHeld.below b16
 have SL16:=hide HH
 clear b16
 refine hK.out _ _ HH (fun hHeld=>?_)
 clear hK K HH
 (try simp only[Act.put,lA,lB,lC])
 refine oA 1 (fun K hK=>?_)
 go_simp
 (go_at_call 90;refine(l4One_any 1 0 false _).mono ?_;rintro e w17 ⟨r17,rfl,hr17,R17,b17⟩)
 have B17:=hide (B16.out.trans (b17.mono B16.out.size))
 have E17:=hide (E16.out.below b17 E16.out.lt)
 have N17t124:=hide R17
 have lr17:w.heap.size+1+1<r17:=by have h8:=E16.out.lt;have h9:=hr17;first|omega|(simp at h8 h9;omega)|(simp at h9;omega)|(simp at h8;omega)
 have HH:=hHeld.below b17
 have SL17:=hide HH
 clear b17 R17 hr17
 refine hK.out _ _ HH (fun hHeld=>?_)
 clear hK K HH
 (try simp only[Act.put,lA,lB,lC])
 refine tA 8 (v:=?v8n39) ?y8n39 ?r8n39
 case y8n39=>(intro w _;go_simp;try with_reducible rfl)
 (try simp only[Act.put,lA,lB,lC])
 refine eA 9 (fun K hK=>?_)
 have e0:=E17.out.cell (o:=0) rfl
 have e1:=E17.out.cell (o:=1) rfl
 have e2:=E17.out.cell (o:=2) rfl
 have f0:=E17.out.frozen 0
 have f1:=E17.out.frozen 1
 have f2:=E17.out.frozen 2
 have hlt:=E17.out.lt
 have sw:=B17.out.size
 go_simp
 refine hK.out _ _ ?_
 clear hK K
 (try simp only[Act.put,lA,lB,lC])
 refine doneA (by kernel_rfl) ?_ _
 go_wp2_with fail
 exact need_done E17.out B17.out (by show w.heap.size≤w.heap.size+1+1;omega) (need_row N17t124.out (by omega) (by omega)) (.inl rfl) rfl rfl rfl
set_option maxHeartbeats 40000000 in
set_option maxRecDepth 100000 in
theorem l4Needs_ret (ra ga a0 a4 a5 sa:Option Addr) (rc cg nf cf fb off k c0 c4 c5 lo hi sc lo1 hi1:Nat) (gs:List (List Ty)) (gl:List Fd) (F:GFun) (st:List Fd) (a y:Int) (w:World) (hk:k<nf) (hf:fb<w.heap.size) (hh:hi≤w.heap.size) (hn:st.length≤1000)
  (hy6:FC6 w fb (off+k*6) a0 c0 F a4 c4 a5 c5) :
  Calls Tryz.prog 61 #[.agg #[.slice ra gs.length rc,.slice ga gl.length cg,.slice (some ⟨fb,off,none⟩) nf cf],.int .i64 (k:Int),.slice sa st.length sc,.agg #[.int .i64 29,.int .i64 a,.int .i64 y]] w fun e w'=>NeedPost w [F.gives] [] true e w':=by
 obtain⟨w1,hw1⟩:∃w1,w1=(((w.alloc (.cells #[.slice ra gs.length rc,.slice ga gl.length cg,.slice (some ⟨fb,off,none⟩) nf cf] 37)).alloc (.cells #[.int .i64 29,.int .i64 a,.int .i64 y] 40)).alloc (.cells #[.slice none 0 0,.slice none 0 0,.bool false] 115)):=⟨_,rfl⟩
 obtain⟨BB,EE,II,PP,hs1⟩:=nw1 hw1
 obtain⟨y0,y1,y2,y3,y4,y5⟩:=hy6.keep BB.out hf
 clear hy6
 have hxc:=II.out.cell (o:=0) rfl
 have p2:=PP.out.cell (o:=2) rfl
 have j1:(k:Int)<(nf:Int):=by omega
 have j2:¬(nf:Int)≤(k:Int):=by omega
 have j3:(0:Int)≤(k:Int):=by omega
 have hfl:fb<w1.heap.size:=by omega
 have hxl:(w.heap.size+1)<w1.heap.size:=by omega
 have HXL:=hide hxl
 have HXC:=hide hxc
 clear hxl hxc
 go_enter Tryz.func61,Tryz.ntmps61
 go_upto_region 1 with(fail)
 rw[←hw1]
 clear hw1
 go_wp2_with fail
 refine(l4Ref_any (-1) _).mono ?_
 rintro e u2 ⟨rfl,b2⟩
 obtain⟨B0,E0,S0⟩:=nw2 BB.out EE.out II.out PP.out hs1 b2 HXL.out HXC.out
 clear b2 BB EE II PP y0 y1 y2 y3 y4 y5 p2 hfl hs1 HXL HXC
 go_upto_region 4 with(fail)
 generalize (u2.alloc (.cells #[.int .i64 2,.int .i64 (-1),.bool false] 68))=w0 at *
 generalize u2.heap.size=ba at *
 have si0:=S0.out.i.cell (o:=0) rfl
 go_upto_region 37 with(fail)
 clear si0
 have sp0:=S0.out.p.cell (o:=0) rfl
 have sp1:=S0.out.p.cell (o:=1) rfl
 have sp2:=S0.out.p.cell (o:=2) rfl
 have si0:=S0.out.i.cell (o:=0) rfl
 have si1:=S0.out.i.cell (o:=1) rfl
 have si2:=S0.out.i.cell (o:=2) rfl
 have sf0:=S0.out.f.cell (o:=0) rfl
 have sf1:=S0.out.f.cell (o:=1) rfl
 have sf2:=S0.out.f.cell (o:=2) rfl
 have sf3:=S0.out.f.cell (o:=3) rfl
 have sf4:=S0.out.f.cell (o:=4) rfl
 have sf5:=S0.out.f.cell (o:=5) rfl
 have sa0:=S0.out.a.cell (o:=0) rfl
 have sa1:=S0.out.a.cell (o:=1) rfl
 have sa2:=S0.out.a.cell (o:=2) rfl
 go_wp2_with fail
 (go_at_call 90;refine(l4One_any F.gives.kind F.gives.of F.gives.mt _).mono ?_;rintro e w18 ⟨r18,rfl,hr18,R18,b18⟩)
 have B18:=hide (B0.out.trans (b18.mono B0.out.size))
 have E18:=hide (E0.out.below b18 E0.out.lt)
 have N18t142:=hide R18
 have lr18:w.heap.size+1+1<r18:=by have h8:=E0.out.lt;have h9:=hr18;first|omega|(simp at h8 h9;omega)|(simp at h9;omega)|(simp at h8;omega)
 have SL18:=hide (S0.out.below b18)
 clear b18 R18 hr18
 clear sp0 sp1 sp2 si0 si1 si2 sf0 sf1 sf2 sf3 sf4 sf5 sa0 sa1 sa2
 have sp0:=SL18.out.p.cell (o:=0) rfl
 have sp1:=SL18.out.p.cell (o:=1) rfl
 have sp2:=SL18.out.p.cell (o:=2) rfl
 have si0:=SL18.out.i.cell (o:=0) rfl
 have si1:=SL18.out.i.cell (o:=1) rfl
 have si2:=SL18.out.i.cell (o:=2) rfl
 have sf0:=SL18.out.f.cell (o:=0) rfl
 have sf1:=SL18.out.f.cell (o:=1) rfl
 have sf2:=SL18.out.f.cell (o:=2) rfl
 have sf3:=SL18.out.f.cell (o:=3) rfl
 have sf4:=SL18.out.f.cell (o:=4) rfl
 have sf5:=SL18.out.f.cell (o:=5) rfl
 have sa0:=SL18.out.a.cell (o:=0) rfl
 have sa1:=SL18.out.a.cell (o:=1) rfl
 have sa2:=SL18.out.a.cell (o:=2) rfl
 have e0:=E18.out.cell (o:=0) rfl
 have e1:=E18.out.cell (o:=1) rfl
 have e2:=E18.out.cell (o:=2) rfl
 have f0:=E18.out.frozen 0
 have f1:=E18.out.frozen 1
 have f2:=E18.out.frozen 2
 have hlt:=E18.out.lt
 have sw:=B18.out.size
 go_wp2_with fail
 exact need_done E18.out B18.out (by show w.heap.size≤w.heap.size+1+1;omega) (need_row N18t142.out (by omega) (by omega)) (.inl rfl) rfl rfl rfl
set_option maxHeartbeats 40000000 in
set_option maxRecDepth 100000 in
theorem l4Needs_slot (ra ga a0 a4 a5 sa:Option Addr) (rc cg nf cf fb off k c0 c4 c5 lo hi sc lo1 hi1:Nat) (gs:List (List Ty)) (gl:List Fd) (F:GFun) (st:List Fd) (a y:Int) (w:World) (op:Int) (hop:op=2∨op=3) (hk:k<nf) (hf:fb<w.heap.size) (hh:hi≤w.heap.size) (hn:st.length≤1000)
  (hy6:FC6 w fb (off+k*6) a0 c0 F a4 c4 a5 c5) (sl:List Fd) (hsl:F.takes++F.own=sl) (hB:FunB 1048576 F) (h0:FieldsM false w lo hi a0 F.takes) (h4:FieldsM false w lo hi a4 F.own) (ha:0≤a) :
  Calls Tryz.prog 61 #[.agg #[.slice ra gs.length rc,.slice ga gl.length cg,.slice (some ⟨fb,off,none⟩) nf cf],.int .i64 (k:Int),.slice sa st.length sc,.agg #[.int .i64 op,.int .i64 a,.int .i64 y]] w fun e w'=>NeedPost w (plT sl a (op==2)) (plT sl a (!(op==2))) (decide (a<(sl.length:Int))) e w':=by
 have HS:=hide (fun W (hb:Below w.heap.size w W)=>hsl▸l4Slots_any a0 a4 a5 c0 c4 c5 lo hi F W hB (h0.keep (hb.mono hh)) (h4.keep (hb.mono hh)) (Nat.le_trans hh hb.size))
 clear h0 h4 hB hsl
 obtain⟨w1,hw1⟩:∃w1,w1=(((w.alloc (.cells #[.slice ra gs.length rc,.slice ga gl.length cg,.slice (some ⟨fb,off,none⟩) nf cf] 37)).alloc (.cells #[.int .i64 op,.int .i64 a,.int .i64 y] 40)).alloc (.cells #[.slice none 0 0,.slice none 0 0,.bool false] 115)):=⟨_,rfl⟩
 obtain⟨BB,EE,II,PP,hs1⟩:=nw1 hw1
 obtain⟨y0,y1,y2,y3,y4,y5⟩:=hy6.keep BB.out hf
 clear hy6
 have hxc:=II.out.cell (o:=0) rfl
 have p2:=PP.out.cell (o:=2) rfl
 have j1:(k:Int)<(nf:Int):=by omega
 have j2:¬(nf:Int)≤(k:Int):=by omega
 have j3:(0:Int)≤(k:Int):=by omega
 have hfl:fb<w1.heap.size:=by omega
 have hxl:(w.heap.size+1)<w1.heap.size:=by omega
 have HXL:=hide hxl
 have HXC:=hide hxc
 clear hxl hxc
 go_enter Tryz.func61,Tryz.ntmps61
 go_upto_region 1 with(fail)
 rw[←hw1]
 clear hw1
 go_wp2_with fail
 refine(l4Ref_any (-1) _).mono ?_
 rintro e u2 ⟨rfl,b2⟩
 obtain⟨B0,E0,S0⟩:=nw2 BB.out EE.out II.out PP.out hs1 b2 HXL.out HXC.out
 clear b2 BB EE II PP y0 y1 y2 y3 y4 y5 p2 hfl hs1 HXL HXC
 go_upto_region 4 with(fail)
 generalize (u2.alloc (.cells #[.int .i64 2,.int .i64 (-1),.bool false] 68))=w0 at *
 generalize u2.heap.size=ba at *
 have si0:=S0.out.i.cell (o:=0) rfl
 rcases hop with rfl|rfl
 ·go_upto_region 7 with(fail)
  clear si0
  have Bd:=hide B0.out.drew
  have Ed:=hide (Rec.drew' E0.out)
  have SLd:=hide S0.out.drew
  refine beginA (S:=SD w.heap.size ba (w.heap.size+1) 0 [.slice ra gs.length rc,.slice ga gl.length cg,.slice (some ⟨fb,off,none⟩) nf cf] [.int .i64 2,.int .i64 a,.int .i64 y] [.slice a0 F.takes.length c0,.int .i64 F.gives.kind,.int .i64 F.gives.of,.bool F.gives.mt,.slice a4 F.own.length c4,.slice a5 F.body.length c5] (.int .i64 2)) 7 (by kernel_rfl) SLd.out (fun hHeld=>?_)
  (try simp only[Act.put,lA,lB,lC])
  refine tA 0 (v:=?v0n40) ?y0n40 ?r0n40
  case y0n40=>(intro w hSw;have sp0:=hSw.p.cell (o:=0) rfl;have sp1:=hSw.p.cell (o:=1) rfl;have sp2:=hSw.p.cell (o:=2) rfl;have si0:=hSw.i.cell (o:=0) rfl;have si1:=hSw.i.cell (o:=1) rfl;have si2:=hSw.i.cell (o:=2) rfl;have sf0:=hSw.f.cell (o:=0) rfl;have sf1:=hSw.f.cell (o:=1) rfl;have sf2:=hSw.f.cell (o:=2) rfl;have sf3:=hSw.f.cell (o:=3) rfl;have sf4:=hSw.f.cell (o:=4) rfl;have sf5:=hSw.f.cell (o:=5) rfl;have sa0:=hSw.a.cell (o:=0) rfl;have sa1:=hSw.a.cell (o:=1) rfl;have sa2:=hSw.a.cell (o:=2) rfl;go_simp;try with_reducible rfl)
  (try simp only[Act.put,lA,lB,lC])
  refine tA 2 (v:=?v2n41) ?y2n41 ?r2n41
  case y2n41=>(intro w hSw;have sp0:=hSw.p.cell (o:=0) rfl;have sp1:=hSw.p.cell (o:=1) rfl;have sp2:=hSw.p.cell (o:=2) rfl;have si0:=hSw.i.cell (o:=0) rfl;have si1:=hSw.i.cell (o:=1) rfl;have si2:=hSw.i.cell (o:=2) rfl;have sf0:=hSw.f.cell (o:=0) rfl;have sf1:=hSw.f.cell (o:=1) rfl;have sf2:=hSw.f.cell (o:=2) rfl;have sf3:=hSw.f.cell (o:=3) rfl;have sf4:=hSw.f.cell (o:=4) rfl;have sf5:=hSw.f.cell (o:=5) rfl;have sa0:=hSw.a.cell (o:=0) rfl;have sa1:=hSw.a.cell (o:=1) rfl;have sa2:=hSw.a.cell (o:=2) rfl;go_simp;try with_reducible rfl)
  (try simp only[Act.put,lA,lB,lC])
  refine tA 3 (v:=?v3n42) ?y3n42 ?r3n42
  case y3n42=>(intro w _;go_simp;try with_reducible rfl)
  (try simp only[Act.put,lA,lB,lC])
  refine tA 4 (v:=?v4n43) ?y4n43 ?r4n43
  case y4n43=>(intro w hSw;have sp0:=hSw.p.cell (o:=0) rfl;have sp1:=hSw.p.cell (o:=1) rfl;have sp2:=hSw.p.cell (o:=2) rfl;have si0:=hSw.i.cell (o:=0) rfl;have si1:=hSw.i.cell (o:=1) rfl;have si2:=hSw.i.cell (o:=2) rfl;have sf0:=hSw.f.cell (o:=0) rfl;have sf1:=hSw.f.cell (o:=1) rfl;have sf2:=hSw.f.cell (o:=2) rfl;have sf3:=hSw.f.cell (o:=3) rfl;have sf4:=hSw.f.cell (o:=4) rfl;have sf5:=hSw.f.cell (o:=5) rfl;have sa0:=hSw.a.cell (o:=0) rfl;have sa1:=hSw.a.cell (o:=1) rfl;have sa2:=hSw.a.cell (o:=2) rfl;go_simp;try with_reducible rfl)
  (try simp only[Act.put,lA,lB,lC])
  refine tA 5 (v:=?v5n44) ?y5n44 ?r5n44
  case y5n44=>(intro w _;go_simp;try with_reducible rfl)
  (try simp only[Act.put,lA,lB,lC])
  refine oA 1 (fun K hK=>?_)
  go_simp
  (go_at_call 88;refine(HS.out _ Bd.out).mono ?_;rintro e w19 ⟨A19,C19,rfl,R19,b19⟩)
  have B19:=hide (Bd.out.trans (b19.mono Bd.out.size))
  have E19:=hide (Ed.out.below b19 Ed.out.lt)
  have N19S:=hide (R19.1.wid Bd.out.size (Nat.le_refl _))
  have HH:=hHeld.below b19
  have SL19:=hide HH
  clear b19 R19
  refine hK.out _ _ HH (fun hHeld=>?_)
  clear hK K HH
  (try simp only[Act.put,lA,lB,lC])
  refine oA 6 (fun K hK=>?_)
  go_simp
  (go_at_call 87;refine(l4Place_any A19 C19 w.heap.size _ sl 2 a y true _ ha N19S.out (Nat.le_refl _)).mono ?_;rintro e w20 ⟨tA,tC,gA,gC,rfl,R20,Q20,b20⟩)
  have B20:=hide (B19.out.trans (b20.mono B19.out.size))
  have E20:=hide (E19.out.below b20 E19.out.lt)
  have N20tS:=hide ((N19S.out.keepB b20).wid (Nat.le_refl _) b20.size)
  have N20T:=hide (R20.wid B19.out.size (Nat.le_refl _))
  have N20G:=hide (Q20.wid B19.out.size (Nat.le_refl _))
  have HH:=hHeld.below b20
  have SL20:=hide HH
  clear b20 R20 Q20
  refine hK.out _ _ HH (fun hHeld=>?_)
  clear hK K HH
  (try simp only[Act.put,lA,lB,lC])
  refine eA 7 (fun K hK=>?_)
  have e0:=E20.out.cell (o:=0) rfl
  have e1:=E20.out.cell (o:=1) rfl
  have e2:=E20.out.cell (o:=2) rfl
  have f0:=E20.out.frozen 0
  have f1:=E20.out.frozen 1
  have f2:=E20.out.frozen 2
  have hlt:=E20.out.lt
  have sw:=B20.out.size
  go_simp
  refine hK.out _ _ ?_
  clear hK K
  (try simp only[Act.put,lA,lB,lC])
  refine doneA (by kernel_rfl) ?_ _
  go_wp2_with fail
  exact need_done E20.out B20.out (by show w.heap.size≤w.heap.size+1+1;omega) (need_lst N20T.out E20.out) (need_lst N20G.out E20.out) rfl rfl rfl
 ·go_upto_region 7 with(fail)
  clear si0
  have Bd:=hide B0.out.drew
  have Ed:=hide (Rec.drew' E0.out)
  have SLd:=hide S0.out.drew
  refine beginA (S:=SD w.heap.size ba (w.heap.size+1) 0 [.slice ra gs.length rc,.slice ga gl.length cg,.slice (some ⟨fb,off,none⟩) nf cf] [.int .i64 3,.int .i64 a,.int .i64 y] [.slice a0 F.takes.length c0,.int .i64 F.gives.kind,.int .i64 F.gives.of,.bool F.gives.mt,.slice a4 F.own.length c4,.slice a5 F.body.length c5] (.int .i64 3)) 7 (by kernel_rfl) SLd.out (fun hHeld=>?_)
  (try simp only[Act.put,lA,lB,lC])
  refine tA 0 (v:=?v0n45) ?y0n45 ?r0n45
  case y0n45=>(intro w hSw;have sp0:=hSw.p.cell (o:=0) rfl;have sp1:=hSw.p.cell (o:=1) rfl;have sp2:=hSw.p.cell (o:=2) rfl;have si0:=hSw.i.cell (o:=0) rfl;have si1:=hSw.i.cell (o:=1) rfl;have si2:=hSw.i.cell (o:=2) rfl;have sf0:=hSw.f.cell (o:=0) rfl;have sf1:=hSw.f.cell (o:=1) rfl;have sf2:=hSw.f.cell (o:=2) rfl;have sf3:=hSw.f.cell (o:=3) rfl;have sf4:=hSw.f.cell (o:=4) rfl;have sf5:=hSw.f.cell (o:=5) rfl;have sa0:=hSw.a.cell (o:=0) rfl;have sa1:=hSw.a.cell (o:=1) rfl;have sa2:=hSw.a.cell (o:=2) rfl;go_simp;try with_reducible rfl)
  (try simp only[Act.put,lA,lB,lC])
  refine tA 2 (v:=?v2n46) ?y2n46 ?r2n46
  case y2n46=>(intro w hSw;have sp0:=hSw.p.cell (o:=0) rfl;have sp1:=hSw.p.cell (o:=1) rfl;have sp2:=hSw.p.cell (o:=2) rfl;have si0:=hSw.i.cell (o:=0) rfl;have si1:=hSw.i.cell (o:=1) rfl;have si2:=hSw.i.cell (o:=2) rfl;have sf0:=hSw.f.cell (o:=0) rfl;have sf1:=hSw.f.cell (o:=1) rfl;have sf2:=hSw.f.cell (o:=2) rfl;have sf3:=hSw.f.cell (o:=3) rfl;have sf4:=hSw.f.cell (o:=4) rfl;have sf5:=hSw.f.cell (o:=5) rfl;have sa0:=hSw.a.cell (o:=0) rfl;have sa1:=hSw.a.cell (o:=1) rfl;have sa2:=hSw.a.cell (o:=2) rfl;go_simp;try with_reducible rfl)
  (try simp only[Act.put,lA,lB,lC])
  refine tA 3 (v:=?v3n47) ?y3n47 ?r3n47
  case y3n47=>(intro w _;go_simp;try with_reducible rfl)
  (try simp only[Act.put,lA,lB,lC])
  refine tA 4 (v:=?v4n48) ?y4n48 ?r4n48
  case y4n48=>(intro w hSw;have sp0:=hSw.p.cell (o:=0) rfl;have sp1:=hSw.p.cell (o:=1) rfl;have sp2:=hSw.p.cell (o:=2) rfl;have si0:=hSw.i.cell (o:=0) rfl;have si1:=hSw.i.cell (o:=1) rfl;have si2:=hSw.i.cell (o:=2) rfl;have sf0:=hSw.f.cell (o:=0) rfl;have sf1:=hSw.f.cell (o:=1) rfl;have sf2:=hSw.f.cell (o:=2) rfl;have sf3:=hSw.f.cell (o:=3) rfl;have sf4:=hSw.f.cell (o:=4) rfl;have sf5:=hSw.f.cell (o:=5) rfl;have sa0:=hSw.a.cell (o:=0) rfl;have sa1:=hSw.a.cell (o:=1) rfl;have sa2:=hSw.a.cell (o:=2) rfl;go_simp;try with_reducible rfl)
  (try simp only[Act.put,lA,lB,lC])
  refine tA 5 (v:=?v5n49) ?y5n49 ?r5n49
  case y5n49=>(intro w _;go_simp;try with_reducible rfl)
  (try simp only[Act.put,lA,lB,lC])
  refine oA 1 (fun K hK=>?_)
  go_simp
  (go_at_call 88;refine(HS.out _ Bd.out).mono ?_;rintro e w21 ⟨A21,C21,rfl,R21,b21⟩)
  have B21:=hide (Bd.out.trans (b21.mono Bd.out.size))
  have E21:=hide (Ed.out.below b21 Ed.out.lt)
  have N21S:=hide (R21.1.wid Bd.out.size (Nat.le_refl _))
  have HH:=hHeld.below b21
  have SL21:=hide HH
  clear b21 R21
  refine hK.out _ _ HH (fun hHeld=>?_)
  clear hK K HH
  (try simp only[Act.put,lA,lB,lC])
  refine oA 6 (fun K hK=>?_)
  go_simp
  (go_at_call 87;refine(l4Place_any A21 C21 w.heap.size _ sl 3 a y false _ ha N21S.out (Nat.le_refl _)).mono ?_;rintro e w22 ⟨tA,tC,gA,gC,rfl,R22,Q22,b22⟩)
  have B22:=hide (B21.out.trans (b22.mono B21.out.size))
  have E22:=hide (E21.out.below b22 E21.out.lt)
  have N22tS:=hide ((N21S.out.keepB b22).wid (Nat.le_refl _) b22.size)
  have N22T:=hide (R22.wid B21.out.size (Nat.le_refl _))
  have N22G:=hide (Q22.wid B21.out.size (Nat.le_refl _))
  have HH:=hHeld.below b22
  have SL22:=hide HH
  clear b22 R22 Q22
  refine hK.out _ _ HH (fun hHeld=>?_)
  clear hK K HH
  (try simp only[Act.put,lA,lB,lC])
  refine eA 7 (fun K hK=>?_)
  have e0:=E22.out.cell (o:=0) rfl
  have e1:=E22.out.cell (o:=1) rfl
  have e2:=E22.out.cell (o:=2) rfl
  have f0:=E22.out.frozen 0
  have f1:=E22.out.frozen 1
  have f2:=E22.out.frozen 2
  have hlt:=E22.out.lt
  have sw:=B22.out.size
  go_simp
  refine hK.out _ _ ?_
  clear hK K
  (try simp only[Act.put,lA,lB,lC])
  refine doneA (by kernel_rfl) ?_ _
  go_wp2_with fail
  exact need_done E22.out B22.out (by show w.heap.size≤w.heap.size+1+1;omega) (need_lst N22T.out E22.out) (need_lst N22G.out E22.out) rfl rfl rfl
set_option maxHeartbeats 40000000 in
set_option maxRecDepth 100000 in
theorem l4Needs_glob (ra ga a0 a4 a5 sa:Option Addr) (rc cg nf cf fb off k c0 c4 c5 lo hi sc lo1 hi1:Nat) (gs:List (List Ty)) (gl:List Fd) (F:GFun) (st:List Fd) (a y:Int) (w:World) (op:Int) (hop:op=4∨op=5) (hk:k<nf) (hf:fb<w.heap.size) (hh:hi≤w.heap.size) (hn:st.length≤1000)
  (hy6:FC6 w fb (off+k*6) a0 c0 F a4 c4 a5 c5) (hg:FieldsIn w lo hi ga gl) (ha:0≤a) :
  Calls Tryz.prog 61 #[.agg #[.slice ra gs.length rc,.slice ga gl.length cg,.slice (some ⟨fb,off,none⟩) nf cf],.int .i64 (k:Int),.slice sa st.length sc,.agg #[.int .i64 op,.int .i64 a,.int .i64 y]] w fun e w'=>NeedPost w (plT gl a (op==4)) (plT gl a (!(op==4))) (decide (a<(gl.length:Int))) e w':=by
 have HG:=hide hg
 clear hg
 obtain⟨w1,hw1⟩:∃w1,w1=(((w.alloc (.cells #[.slice ra gs.length rc,.slice ga gl.length cg,.slice (some ⟨fb,off,none⟩) nf cf] 37)).alloc (.cells #[.int .i64 op,.int .i64 a,.int .i64 y] 40)).alloc (.cells #[.slice none 0 0,.slice none 0 0,.bool false] 115)):=⟨_,rfl⟩
 obtain⟨BB,EE,II,PP,hs1⟩:=nw1 hw1
 obtain⟨y0,y1,y2,y3,y4,y5⟩:=hy6.keep BB.out hf
 clear hy6
 have hxc:=II.out.cell (o:=0) rfl
 have p2:=PP.out.cell (o:=2) rfl
 have j1:(k:Int)<(nf:Int):=by omega
 have j2:¬(nf:Int)≤(k:Int):=by omega
 have j3:(0:Int)≤(k:Int):=by omega
 have hfl:fb<w1.heap.size:=by omega
 have hxl:(w.heap.size+1)<w1.heap.size:=by omega
 have HXL:=hide hxl
 have HXC:=hide hxc
 clear hxl hxc
 go_enter Tryz.func61,Tryz.ntmps61
 go_upto_region 1 with(fail)
 rw[←hw1]
 clear hw1
 go_wp2_with fail
 refine(l4Ref_any (-1) _).mono ?_
 rintro e u2 ⟨rfl,b2⟩
 obtain⟨B0,E0,S0⟩:=nw2 BB.out EE.out II.out PP.out hs1 b2 HXL.out HXC.out
 clear b2 BB EE II PP y0 y1 y2 y3 y4 y5 p2 hfl hs1 HXL HXC
 go_upto_region 4 with(fail)
 generalize (u2.alloc (.cells #[.int .i64 2,.int .i64 (-1),.bool false] 68))=w0 at *
 generalize u2.heap.size=ba at *
 have si0:=S0.out.i.cell (o:=0) rfl
 rcases hop with rfl|rfl
 ·go_upto_region 10 with(fail)
  clear si0
  have sp0:=S0.out.p.cell (o:=0) rfl
  have sp1:=S0.out.p.cell (o:=1) rfl
  have sp2:=S0.out.p.cell (o:=2) rfl
  have si0:=S0.out.i.cell (o:=0) rfl
  have si1:=S0.out.i.cell (o:=1) rfl
  have si2:=S0.out.i.cell (o:=2) rfl
  have sf0:=S0.out.f.cell (o:=0) rfl
  have sf1:=S0.out.f.cell (o:=1) rfl
  have sf2:=S0.out.f.cell (o:=2) rfl
  have sf3:=S0.out.f.cell (o:=3) rfl
  have sf4:=S0.out.f.cell (o:=4) rfl
  have sf5:=S0.out.f.cell (o:=5) rfl
  have sa0:=S0.out.a.cell (o:=0) rfl
  have sa1:=S0.out.a.cell (o:=1) rfl
  have sa2:=S0.out.a.cell (o:=2) rfl
  go_wp2_with fail
  (go_at_call 87;refine(l4Place_any ga cg lo hi gl 4 a y true _ ha (HG.out.keepB (B0.out.mono hh)) (Nat.le_trans hh B0.out.size)).mono ?_;rintro e w23 ⟨tA,tC,gA,gC,rfl,R23,Q23,b23⟩)
  have B23:=hide (B0.out.trans (b23.mono B0.out.size))
  have E23:=hide (E0.out.below b23 E0.out.lt)
  have N23T:=hide (R23.wid B0.out.size (Nat.le_refl _))
  have N23G:=hide (Q23.wid B0.out.size (Nat.le_refl _))
  have SL23:=hide (S0.out.below b23)
  clear b23 R23 Q23
  clear sp0 sp1 sp2 si0 si1 si2 sf0 sf1 sf2 sf3 sf4 sf5 sa0 sa1 sa2
  have sp0:=SL23.out.p.cell (o:=0) rfl
  have sp1:=SL23.out.p.cell (o:=1) rfl
  have sp2:=SL23.out.p.cell (o:=2) rfl
  have si0:=SL23.out.i.cell (o:=0) rfl
  have si1:=SL23.out.i.cell (o:=1) rfl
  have si2:=SL23.out.i.cell (o:=2) rfl
  have sf0:=SL23.out.f.cell (o:=0) rfl
  have sf1:=SL23.out.f.cell (o:=1) rfl
  have sf2:=SL23.out.f.cell (o:=2) rfl
  have sf3:=SL23.out.f.cell (o:=3) rfl
  have sf4:=SL23.out.f.cell (o:=4) rfl
  have sf5:=SL23.out.f.cell (o:=5) rfl
  have sa0:=SL23.out.a.cell (o:=0) rfl
  have sa1:=SL23.out.a.cell (o:=1) rfl
  have sa2:=SL23.out.a.cell (o:=2) rfl
  have e0:=E23.out.cell (o:=0) rfl
  have e1:=E23.out.cell (o:=1) rfl
  have e2:=E23.out.cell (o:=2) rfl
  have f0:=E23.out.frozen 0
  have f1:=E23.out.frozen 1
  have f2:=E23.out.frozen 2
  have hlt:=E23.out.lt
  have sw:=B23.out.size
  go_wp2_with fail
  exact need_done E23.out B23.out (by show w.heap.size≤w.heap.size+1+1;omega) (need_lst N23T.out E23.out) (need_lst N23G.out E23.out) rfl rfl rfl
 ·go_upto_region 10 with(fail)
  clear si0
  have sp0:=S0.out.p.cell (o:=0) rfl
  have sp1:=S0.out.p.cell (o:=1) rfl
  have sp2:=S0.out.p.cell (o:=2) rfl
  have si0:=S0.out.i.cell (o:=0) rfl
  have si1:=S0.out.i.cell (o:=1) rfl
  have si2:=S0.out.i.cell (o:=2) rfl
  have sf0:=S0.out.f.cell (o:=0) rfl
  have sf1:=S0.out.f.cell (o:=1) rfl
  have sf2:=S0.out.f.cell (o:=2) rfl
  have sf3:=S0.out.f.cell (o:=3) rfl
  have sf4:=S0.out.f.cell (o:=4) rfl
  have sf5:=S0.out.f.cell (o:=5) rfl
  have sa0:=S0.out.a.cell (o:=0) rfl
  have sa1:=S0.out.a.cell (o:=1) rfl
  have sa2:=S0.out.a.cell (o:=2) rfl
  go_wp2_with fail
  (go_at_call 87;refine(l4Place_any ga cg lo hi gl 5 a y false _ ha (HG.out.keepB (B0.out.mono hh)) (Nat.le_trans hh B0.out.size)).mono ?_;rintro e w24 ⟨tA,tC,gA,gC,rfl,R24,Q24,b24⟩)
  have B24:=hide (B0.out.trans (b24.mono B0.out.size))
  have E24:=hide (E0.out.below b24 E0.out.lt)
  have N24T:=hide (R24.wid B0.out.size (Nat.le_refl _))
  have N24G:=hide (Q24.wid B0.out.size (Nat.le_refl _))
  have SL24:=hide (S0.out.below b24)
  clear b24 R24 Q24
  clear sp0 sp1 sp2 si0 si1 si2 sf0 sf1 sf2 sf3 sf4 sf5 sa0 sa1 sa2
  have sp0:=SL24.out.p.cell (o:=0) rfl
  have sp1:=SL24.out.p.cell (o:=1) rfl
  have sp2:=SL24.out.p.cell (o:=2) rfl
  have si0:=SL24.out.i.cell (o:=0) rfl
  have si1:=SL24.out.i.cell (o:=1) rfl
  have si2:=SL24.out.i.cell (o:=2) rfl
  have sf0:=SL24.out.f.cell (o:=0) rfl
  have sf1:=SL24.out.f.cell (o:=1) rfl
  have sf2:=SL24.out.f.cell (o:=2) rfl
  have sf3:=SL24.out.f.cell (o:=3) rfl
  have sf4:=SL24.out.f.cell (o:=4) rfl
  have sf5:=SL24.out.f.cell (o:=5) rfl
  have sa0:=SL24.out.a.cell (o:=0) rfl
  have sa1:=SL24.out.a.cell (o:=1) rfl
  have sa2:=SL24.out.a.cell (o:=2) rfl
  have e0:=E24.out.cell (o:=0) rfl
  have e1:=E24.out.cell (o:=1) rfl
  have e2:=E24.out.cell (o:=2) rfl
  have f0:=E24.out.frozen 0
  have f1:=E24.out.frozen 1
  have f2:=E24.out.frozen 2
  have hlt:=E24.out.lt
  have sw:=B24.out.size
  go_wp2_with fail
  exact need_done E24.out B24.out (by show w.heap.size≤w.heap.size+1+1;omega) (need_lst N24T.out E24.out) (need_lst N24G.out E24.out) rfl rfl rfl
set_option maxHeartbeats 40000000 in
set_option maxRecDepth 100000 in
theorem l4Needs_thing (ra ga a0 a4 a5 sa:Option Addr) (rc cg nf cf fb off k c0 c4 c5 lo hi sc lo1 hi1:Nat) (gs:List (List Ty)) (gl:List Fd) (F:GFun) (st:List Fd) (a y:Int) (w:World) (op:Int) (hop:op=13∨op=14∨op=15∨op=16∨op=17∨op=18∨op=19) (hk:k<nf) (hf:fb<w.heap.size) (hh:hi≤w.heap.size) (hn:st.length≤1000)
  (hy6:FC6 w fb (off+k*6) a0 c0 F a4 c4 a5 c5) (T G:List Fd) (nm:Bool) (HC:Hid (∀W,Below w.heap.size w W→Calls Tryz.prog 89 #[.agg #[.slice ra gs.length rc,.slice ga gl.length cg,.slice (some ⟨fb,off,none⟩) nf cf],.agg #[.int .i64 op,.int .i64 a,.int .i64 y]] W fun e w'=>NeedPost W T G nm e w')) :
  Calls Tryz.prog 61 #[.agg #[.slice ra gs.length rc,.slice ga gl.length cg,.slice (some ⟨fb,off,none⟩) nf cf],.int .i64 (k:Int),.slice sa st.length sc,.agg #[.int .i64 op,.int .i64 a,.int .i64 y]] w fun e w'=>NeedPost w T G nm e w':=by
 obtain⟨w1,hw1⟩:∃w1,w1=(((w.alloc (.cells #[.slice ra gs.length rc,.slice ga gl.length cg,.slice (some ⟨fb,off,none⟩) nf cf] 37)).alloc (.cells #[.int .i64 op,.int .i64 a,.int .i64 y] 40)).alloc (.cells #[.slice none 0 0,.slice none 0 0,.bool false] 115)):=⟨_,rfl⟩
 obtain⟨BB,EE,II,PP,hs1⟩:=nw1 hw1
 obtain⟨y0,y1,y2,y3,y4,y5⟩:=hy6.keep BB.out hf
 clear hy6
 have hxc:=II.out.cell (o:=0) rfl
 have p2:=PP.out.cell (o:=2) rfl
 have j1:(k:Int)<(nf:Int):=by omega
 have j2:¬(nf:Int)≤(k:Int):=by omega
 have j3:(0:Int)≤(k:Int):=by omega
 have hfl:fb<w1.heap.size:=by omega
 have hxl:(w.heap.size+1)<w1.heap.size:=by omega
 have HXL:=hide hxl
 have HXC:=hide hxc
 clear hxl hxc
 go_enter Tryz.func61,Tryz.ntmps61
 go_upto_region 1 with(fail)
 rw[←hw1]
 clear hw1
 go_wp2_with fail
 refine(l4Ref_any (-1) _).mono ?_
 rintro e u2 ⟨rfl,b2⟩
 obtain⟨B0,E0,S0⟩:=nw2 BB.out EE.out II.out PP.out hs1 b2 HXL.out HXC.out
 clear b2 BB EE II PP y0 y1 y2 y3 y4 y5 p2 hfl hs1 HXL HXC
 go_upto_region 4 with(fail)
 generalize (u2.alloc (.cells #[.int .i64 2,.int .i64 (-1),.bool false] 68))=w0 at *
 generalize u2.heap.size=ba at *
 have si0:=S0.out.i.cell (o:=0) rfl
 rcases hop with rfl|rfl|rfl|rfl|rfl|rfl|rfl
 all_goals
  go_upto_region 18 with(fail)
  clear si0
  have sp0:=S0.out.p.cell (o:=0) rfl
  have sp1:=S0.out.p.cell (o:=1) rfl
  have sp2:=S0.out.p.cell (o:=2) rfl
  have si0:=S0.out.i.cell (o:=0) rfl
  have si1:=S0.out.i.cell (o:=1) rfl
  have si2:=S0.out.i.cell (o:=2) rfl
  have sf0:=S0.out.f.cell (o:=0) rfl
  have sf1:=S0.out.f.cell (o:=1) rfl
  have sf2:=S0.out.f.cell (o:=2) rfl
  have sf3:=S0.out.f.cell (o:=3) rfl
  have sf4:=S0.out.f.cell (o:=4) rfl
  have sf5:=S0.out.f.cell (o:=5) rfl
  have sa0:=S0.out.a.cell (o:=0) rfl
  have sa1:=S0.out.a.cell (o:=1) rfl
  have sa2:=S0.out.a.cell (o:=2) rfl
  go_wp2_with fail
  (go_at_call 89;refine(HC.out _ B0.out).mono ?_;rintro e w25 ⟨tA,tC,gA,gC,rfl,R25,Q25,b25⟩)
  have B25:=hide (B0.out.trans (b25.mono B0.out.size))
  have E25:=hide (E0.out.below b25 E0.out.lt)
  have N25T:=hide (R25.wid B0.out.size (Nat.le_refl _))
  have N25G:=hide (Q25.wid B0.out.size (Nat.le_refl _))
  have SL25:=hide (S0.out.below b25)
  clear b25 R25 Q25
  clear sp0 sp1 sp2 si0 si1 si2 sf0 sf1 sf2 sf3 sf4 sf5 sa0 sa1 sa2
  have sp0:=SL25.out.p.cell (o:=0) rfl
  have sp1:=SL25.out.p.cell (o:=1) rfl
  have sp2:=SL25.out.p.cell (o:=2) rfl
  have si0:=SL25.out.i.cell (o:=0) rfl
  have si1:=SL25.out.i.cell (o:=1) rfl
  have si2:=SL25.out.i.cell (o:=2) rfl
  have sf0:=SL25.out.f.cell (o:=0) rfl
  have sf1:=SL25.out.f.cell (o:=1) rfl
  have sf2:=SL25.out.f.cell (o:=2) rfl
  have sf3:=SL25.out.f.cell (o:=3) rfl
  have sf4:=SL25.out.f.cell (o:=4) rfl
  have sf5:=SL25.out.f.cell (o:=5) rfl
  have sa0:=SL25.out.a.cell (o:=0) rfl
  have sa1:=SL25.out.a.cell (o:=1) rfl
  have sa2:=SL25.out.a.cell (o:=2) rfl
  have e0:=E25.out.cell (o:=0) rfl
  have e1:=E25.out.cell (o:=1) rfl
  have e2:=E25.out.cell (o:=2) rfl
  have f0:=E25.out.frozen 0
  have f1:=E25.out.frozen 1
  have f2:=E25.out.frozen 2
  have hlt:=E25.out.lt
  have sw:=B25.out.size
  go_wp2_with fail
  exact need_done E25.out B25.out (by show w.heap.size≤w.heap.size+1+1;omega) (need_lst N25T.out E25.out) (need_lst N25G.out E25.out) rfl rfl rfl
set_option maxHeartbeats 40000000 in
set_option maxRecDepth 100000 in
theorem l4Needs_call (ra ga a0 a4 a5 sa:Option Addr) (rc cg nf cf fb off k c0 c4 c5 lo hi sc lo1 hi1:Nat) (gs:List (List Ty)) (gl:List Fd) (F:GFun) (st:List Fd) (a y:Int) (w:World) (op:Int) (hop:op=27∨op=28) (hk:k<nf) (hf:fb<w.heap.size) (hh:hi≤w.heap.size) (hn:st.length≤1000)
  (hy6:FC6 w fb (off+k*6) a0 c0 F a4 c4 a5 c5) (T G:List Fd) (nm:Bool) (HC:Hid (∀W,Below w.heap.size w W→Calls Tryz.prog 93 #[.agg #[.slice ra gs.length rc,.slice ga gl.length cg,.slice (some ⟨fb,off,none⟩) nf cf],.agg #[.int .i64 op,.int .i64 a,.int .i64 y]] W fun e w'=>NeedPost W T G nm e w')) :
  Calls Tryz.prog 61 #[.agg #[.slice ra gs.length rc,.slice ga gl.length cg,.slice (some ⟨fb,off,none⟩) nf cf],.int .i64 (k:Int),.slice sa st.length sc,.agg #[.int .i64 op,.int .i64 a,.int .i64 y]] w fun e w'=>NeedPost w T G nm e w':=by
 obtain⟨w1,hw1⟩:∃w1,w1=(((w.alloc (.cells #[.slice ra gs.length rc,.slice ga gl.length cg,.slice (some ⟨fb,off,none⟩) nf cf] 37)).alloc (.cells #[.int .i64 op,.int .i64 a,.int .i64 y] 40)).alloc (.cells #[.slice none 0 0,.slice none 0 0,.bool false] 115)):=⟨_,rfl⟩
 obtain⟨BB,EE,II,PP,hs1⟩:=nw1 hw1
 obtain⟨y0,y1,y2,y3,y4,y5⟩:=hy6.keep BB.out hf
 clear hy6
 have hxc:=II.out.cell (o:=0) rfl
 have p2:=PP.out.cell (o:=2) rfl
 have j1:(k:Int)<(nf:Int):=by omega
 have j2:¬(nf:Int)≤(k:Int):=by omega
 have j3:(0:Int)≤(k:Int):=by omega
 have hfl:fb<w1.heap.size:=by omega
 have hxl:(w.heap.size+1)<w1.heap.size:=by omega
 have HXL:=hide hxl
 have HXC:=hide hxc
 clear hxl hxc
 go_enter Tryz.func61,Tryz.ntmps61
 go_upto_region 1 with(fail)
 rw[←hw1]
 clear hw1
 go_wp2_with fail
 refine(l4Ref_any (-1) _).mono ?_
 rintro e u2 ⟨rfl,b2⟩
 obtain⟨B0,E0,S0⟩:=nw2 BB.out EE.out II.out PP.out hs1 b2 HXL.out HXC.out
 clear b2 BB EE II PP y0 y1 y2 y3 y4 y5 p2 hfl hs1 HXL HXC
 go_upto_region 4 with(fail)
 generalize (u2.alloc (.cells #[.int .i64 2,.int .i64 (-1),.bool false] 68))=w0 at *
 generalize u2.heap.size=ba at *
 have si0:=S0.out.i.cell (o:=0) rfl
 rcases hop with rfl|rfl
 all_goals
  go_upto_region 35 with(fail)
  clear si0
  have sp0:=S0.out.p.cell (o:=0) rfl
  have sp1:=S0.out.p.cell (o:=1) rfl
  have sp2:=S0.out.p.cell (o:=2) rfl
  have si0:=S0.out.i.cell (o:=0) rfl
  have si1:=S0.out.i.cell (o:=1) rfl
  have si2:=S0.out.i.cell (o:=2) rfl
  have sf0:=S0.out.f.cell (o:=0) rfl
  have sf1:=S0.out.f.cell (o:=1) rfl
  have sf2:=S0.out.f.cell (o:=2) rfl
  have sf3:=S0.out.f.cell (o:=3) rfl
  have sf4:=S0.out.f.cell (o:=4) rfl
  have sf5:=S0.out.f.cell (o:=5) rfl
  have sa0:=S0.out.a.cell (o:=0) rfl
  have sa1:=S0.out.a.cell (o:=1) rfl
  have sa2:=S0.out.a.cell (o:=2) rfl
  go_wp2_with fail
  (go_at_call 93;refine(HC.out _ B0.out).mono ?_;rintro e w26 ⟨tA,tC,gA,gC,rfl,R26,Q26,b26⟩)
  have B26:=hide (B0.out.trans (b26.mono B0.out.size))
  have E26:=hide (E0.out.below b26 E0.out.lt)
  have N26T:=hide (R26.wid B0.out.size (Nat.le_refl _))
  have N26G:=hide (Q26.wid B0.out.size (Nat.le_refl _))
  have SL26:=hide (S0.out.below b26)
  clear b26 R26 Q26
  clear sp0 sp1 sp2 si0 si1 si2 sf0 sf1 sf2 sf3 sf4 sf5 sa0 sa1 sa2
  have sp0:=SL26.out.p.cell (o:=0) rfl
  have sp1:=SL26.out.p.cell (o:=1) rfl
  have sp2:=SL26.out.p.cell (o:=2) rfl
  have si0:=SL26.out.i.cell (o:=0) rfl
  have si1:=SL26.out.i.cell (o:=1) rfl
  have si2:=SL26.out.i.cell (o:=2) rfl
  have sf0:=SL26.out.f.cell (o:=0) rfl
  have sf1:=SL26.out.f.cell (o:=1) rfl
  have sf2:=SL26.out.f.cell (o:=2) rfl
  have sf3:=SL26.out.f.cell (o:=3) rfl
  have sf4:=SL26.out.f.cell (o:=4) rfl
  have sf5:=SL26.out.f.cell (o:=5) rfl
  have sa0:=SL26.out.a.cell (o:=0) rfl
  have sa1:=SL26.out.a.cell (o:=1) rfl
  have sa2:=SL26.out.a.cell (o:=2) rfl
  have e0:=E26.out.cell (o:=0) rfl
  have e1:=E26.out.cell (o:=1) rfl
  have e2:=E26.out.cell (o:=2) rfl
  have f0:=E26.out.frozen 0
  have f1:=E26.out.frozen 1
  have f2:=E26.out.frozen 2
  have hlt:=E26.out.lt
  have sw:=B26.out.size
  go_wp2_with fail
  exact need_done E26.out B26.out (by show w.heap.size≤w.heap.size+1+1;omega) (need_lst N26T.out E26.out) (need_lst N26G.out E26.out) rfl rfl rfl
set_option maxHeartbeats 40000000 in
set_option maxRecDepth 100000 in
theorem l4Needs_plain (ra ga a0 a4 a5 sa:Option Addr) (rc cg nf cf fb off k c0 c4 c5 lo hi sc lo1 hi1:Nat) (gs:List (List Ty)) (gl:List Fd) (F:GFun) (st:List Fd) (a y:Int) (w:World) (op:Int) (hop:op=1∨op=6∨op=7∨op=8∨op=9∨op=10∨op=11∨op=20∨op=21∨op=30∨op=31∨op=32∨op=33) (hk:k<nf) (hf:fb<w.heap.size) (hh:hi≤w.heap.size) (hn:st.length≤1000)
  (hy6:FC6 w fb (off+k*6) a0 c0 F a4 c4 a5 c5) (T G:List Fd) (nm:Bool) (HC:Hid (∀W,Below w.heap.size w W→Calls Tryz.prog 94 #[.agg #[.int .i64 op,.int .i64 a,.int .i64 y]] W fun e w'=>NeedPost W T G nm e w')) :
  Calls Tryz.prog 61 #[.agg #[.slice ra gs.length rc,.slice ga gl.length cg,.slice (some ⟨fb,off,none⟩) nf cf],.int .i64 (k:Int),.slice sa st.length sc,.agg #[.int .i64 op,.int .i64 a,.int .i64 y]] w fun e w'=>NeedPost w T G nm e w':=by
 obtain⟨w1,hw1⟩:∃w1,w1=(((w.alloc (.cells #[.slice ra gs.length rc,.slice ga gl.length cg,.slice (some ⟨fb,off,none⟩) nf cf] 37)).alloc (.cells #[.int .i64 op,.int .i64 a,.int .i64 y] 40)).alloc (.cells #[.slice none 0 0,.slice none 0 0,.bool false] 115)):=⟨_,rfl⟩
 obtain⟨BB,EE,II,PP,hs1⟩:=nw1 hw1
 obtain⟨y0,y1,y2,y3,y4,y5⟩:=hy6.keep BB.out hf
 clear hy6
 have hxc:=II.out.cell (o:=0) rfl
 have p2:=PP.out.cell (o:=2) rfl
 have j1:(k:Int)<(nf:Int):=by omega
 have j2:¬(nf:Int)≤(k:Int):=by omega
 have j3:(0:Int)≤(k:Int):=by omega
 have hfl:fb<w1.heap.size:=by omega
 have hxl:(w.heap.size+1)<w1.heap.size:=by omega
 have HXL:=hide hxl
 have HXC:=hide hxc
 clear hxl hxc
 go_enter Tryz.func61,Tryz.ntmps61
 go_upto_region 1 with(fail)
 rw[←hw1]
 clear hw1
 go_wp2_with fail
 refine(l4Ref_any (-1) _).mono ?_
 rintro e u2 ⟨rfl,b2⟩
 obtain⟨B0,E0,S0⟩:=nw2 BB.out EE.out II.out PP.out hs1 b2 HXL.out HXC.out
 clear b2 BB EE II PP y0 y1 y2 y3 y4 y5 p2 hfl hs1 HXL HXC
 go_upto_region 4 with(fail)
 generalize (u2.alloc (.cells #[.int .i64 2,.int .i64 (-1),.bool false] 68))=w0 at *
 generalize u2.heap.size=ba at *
 have si0:=S0.out.i.cell (o:=0) rfl
 rcases hop with rfl|rfl|rfl|rfl|rfl|rfl|rfl|rfl|rfl|rfl|rfl|rfl|rfl
 all_goals
  go_upto_region 38 with(fail)
  clear si0
  have sp0:=S0.out.p.cell (o:=0) rfl
  have sp1:=S0.out.p.cell (o:=1) rfl
  have sp2:=S0.out.p.cell (o:=2) rfl
  have si0:=S0.out.i.cell (o:=0) rfl
  have si1:=S0.out.i.cell (o:=1) rfl
  have si2:=S0.out.i.cell (o:=2) rfl
  have sf0:=S0.out.f.cell (o:=0) rfl
  have sf1:=S0.out.f.cell (o:=1) rfl
  have sf2:=S0.out.f.cell (o:=2) rfl
  have sf3:=S0.out.f.cell (o:=3) rfl
  have sf4:=S0.out.f.cell (o:=4) rfl
  have sf5:=S0.out.f.cell (o:=5) rfl
  have sa0:=S0.out.a.cell (o:=0) rfl
  have sa1:=S0.out.a.cell (o:=1) rfl
  have sa2:=S0.out.a.cell (o:=2) rfl
  go_wp2_with fail
  (go_at_call 94;refine(HC.out _ B0.out).mono ?_;rintro e w27 ⟨tA,tC,gA,gC,rfl,R27,Q27,b27⟩)
  have B27:=hide (B0.out.trans (b27.mono B0.out.size))
  have E27:=hide (E0.out.below b27 E0.out.lt)
  have N27T:=hide (R27.wid B0.out.size (Nat.le_refl _))
  have N27G:=hide (Q27.wid B0.out.size (Nat.le_refl _))
  have SL27:=hide (S0.out.below b27)
  clear b27 R27 Q27
  clear sp0 sp1 sp2 si0 si1 si2 sf0 sf1 sf2 sf3 sf4 sf5 sa0 sa1 sa2
  have sp0:=SL27.out.p.cell (o:=0) rfl
  have sp1:=SL27.out.p.cell (o:=1) rfl
  have sp2:=SL27.out.p.cell (o:=2) rfl
  have si0:=SL27.out.i.cell (o:=0) rfl
  have si1:=SL27.out.i.cell (o:=1) rfl
  have si2:=SL27.out.i.cell (o:=2) rfl
  have sf0:=SL27.out.f.cell (o:=0) rfl
  have sf1:=SL27.out.f.cell (o:=1) rfl
  have sf2:=SL27.out.f.cell (o:=2) rfl
  have sf3:=SL27.out.f.cell (o:=3) rfl
  have sf4:=SL27.out.f.cell (o:=4) rfl
  have sf5:=SL27.out.f.cell (o:=5) rfl
  have sa0:=SL27.out.a.cell (o:=0) rfl
  have sa1:=SL27.out.a.cell (o:=1) rfl
  have sa2:=SL27.out.a.cell (o:=2) rfl
  have e0:=E27.out.cell (o:=0) rfl
  have e1:=E27.out.cell (o:=1) rfl
  have e2:=E27.out.cell (o:=2) rfl
  have f0:=E27.out.frozen 0
  have f1:=E27.out.frozen 1
  have f2:=E27.out.frozen 2
  have hlt:=E27.out.lt
  have sw:=B27.out.size
  go_wp2_with fail
  exact need_done E27.out B27.out (by show w.heap.size≤w.heap.size+1+1;omega) (need_lst N27T.out E27.out) (need_lst N27G.out E27.out) rfl rfl rfl
end Go.Proofs.YtpaneomkphjpcaaGreatDoor
