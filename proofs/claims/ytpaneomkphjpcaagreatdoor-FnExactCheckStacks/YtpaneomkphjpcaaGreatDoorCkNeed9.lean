/- Whether what is held fits, as the model tells it. Written by tools/made/ckneed9.py. -/
import Derived.Test.YtpaneomkphjpcaaGreatDoorPcReg
import Derived.Test.YtpaneomkphjpcaaGreatDoorPaSpecB
import Derived.Test.YtpaneomkphjpcaaGreatDoorGenProg0
import Derived.Deep.RegionHeld3
import Derived.Deep.CutRange
import Derived.Test.YtpaneomkphjpcaaGreatDoorPcUp
namespace Go.Proofs.YtpaneomkphjpcaaGreatDoor
open Go.ChangeShapes Go.WideShapes Go.ChangeAt Go.RowKit
set_option linter.unusedVariables false
set_option linter.unusedSimpArgs false
theorem wrapI9 {x:Int} (h1:-9223372036854775808≤x) (h2:x≤9223372036854775807):IntKind.i64.wrap x=x:=by
 have e:IntKind.i64.wrap x=if 9223372036854775808≤x%18446744073709551616 then x%18446744073709551616-18446744073709551616 else x%18446744073709551616:=by simp[IntKind.wrap,IntKind.bits,IntKind.signed]
 rw[e]
 split<;>omega
structure S6 (pb po sb so m j:Nat) (f g:Fd) (w:World):Prop where
 p0:w.cell? ⟨pb,po+j*3,none⟩=some (.int .i64 f.kind)
 p1:w.cell? ⟨pb,po+j*3+1,none⟩=some (.int .i64 f.of)
 p2:w.cell? ⟨pb,po+j*3+2,none⟩=some (.bool f.mt)
 s0:w.cell? ⟨sb,so+(m+j)*3,none⟩=some (.int .i64 g.kind)
 s1:w.cell? ⟨sb,so+(m+j)*3+1,none⟩=some (.int .i64 g.of)
 s2:w.cell? ⟨sb,so+(m+j)*3+2,none⟩=some (.bool g.mt)
 lp:pb<w.heap.size
 ls:sb<w.heap.size
theorem S6.drew {pb po sb so m j:Nat} {f g:Fd} {w:World} (h:S6 pb po sb so m j f g w):S6 pb po sb so m j f g w.drew:=⟨h.p0,h.p1,h.p2,h.s0,h.s1,h.s2,h.lp,h.ls⟩
theorem S6.below {pb po sb so m j:Nat} {f g:Fd} {w w':World} (h:S6 pb po sb so m j f g w) (hb:Below w.heap.size w w'):S6 pb po sb so m j f g w' :=
 ⟨(hb.cell (p:=⟨pb,po+j*3,none⟩) h.lp).trans h.p0,(hb.cell (p:=⟨pb,po+j*3+1,none⟩) h.lp).trans h.p1,(hb.cell (p:=⟨pb,po+j*3+2,none⟩) h.lp).trans h.p2,(hb.cell (p:=⟨sb,so+(m+j)*3,none⟩) h.ls).trans h.s0,(hb.cell (p:=⟨sb,so+(m+j)*3+1,none⟩) h.ls).trans h.s1,(hb.cell (p:=⟨sb,so+(m+j)*3+2,none⟩) h.ls).trans h.s2,Nat.lt_of_lt_of_le h.lp hb.size,Nat.lt_of_lt_of_le h.ls hb.size⟩
def fit1 (gs:List (List Ty)) (s f:Fd):Bool:=decide (f.kind<0)||sortF gs s f
def SortR (gs:List (List Ty)) (f:Fd):Prop:=-2≤f.of∧(f.of<(kinCount gs:Int)∨f.kind=1)
set_option maxHeartbeats 40000000 in
set_option maxRecDepth 100000 in
theorem l4Fit_any (ga sa pa:Option Addr) (gc sc pc lo hi lo1 hi1 lo2 hi2 m:Nat) (gs:List (List Ty)) (st ps:List Fd) (w:World) (hP:Parts gs) (hN:Few gs) (hc:gs.length≤gc) (hl:lo≤hi) (hh:hi≤w.heap.size) (hx:GroupsIn w lo hi ga gs)
  (hs:FieldsIn w lo1 hi1 sa st) (h1:hi1≤w.heap.size) (hp:FieldsIn w lo2 hi2 pa ps) (h2:hi2≤w.heap.size) (hm:st.length=m+ps.length) (hn:st.length≤1000) (hrs:∀i,i<st.length→SortR gs (fdAt st i)) (hrp:∀i,i<ps.length→(fdAt ps i).kind<0∨SortR gs (fdAt ps i)) :
  Calls Tryz.prog 62 #[.slice ga gs.length gc,.slice sa st.length sc,.slice pa ps.length pc] w fun e w'=>e=.returned (.bool (upTo (fun i=>fit1 gs (fdAt st (m+i)) (fdAt ps i)) ps.length))∧Below w.heap.size w w':=by
 have HX:=hide hx
 have HRS:=hide hrs
 have HRP:=hide hrp
 have HC:=hide (fun W f g (hb:Below w.heap.size w W) (a:SortR gs f) (b:SortR gs g)=>l1Sort_any ga gc lo hi gs f g W hP hN hc hl (Nat.le_trans hh hb.size) (hx.keep (hb.mono hh)) a.1 a.2 b.1 b.2)
 have q1:(st.length:Int)-(ps.length:Int)=(m:Int):=by omega
 have HS:=hide hs
 have HPP:=hide hp
 have HM:=hide hm
 have hm1:m≤1000:=by omega
 have hn1:ps.length≤1000:=by omega
 clear hx hrs hrp hs hp hP hm
 go_enter Tryz.func62,Tryz.ntmps62
 go_wp2_with fail
 go_loopw [8] (fun i wr=>∃j:Nat,j≤ps.length∧i=.int .i64 j∧upTo (fun i=>fit1 gs (fdAt st (m+i)) (fdAt ps i)) j=true∧Below w.heap.size w wr) (fun i wr=>ps.length-(intOf i).toNat)
 case atStart=>exact⟨0,Nat.zero_le _,rfl,rfl,Below.refl _ _⟩
 case round =>
  obtain⟨j,hj,rfl,hu,hb⟩:=hrel
  have HU:=hide hu
  have HB:=hide hb
  have sbz:=hb.size
  clear hu hb
  by_cases hlt:j<ps.length
  ·have g1:(0:Int)≤(j:Int):=by omega
   have g2:(j:Int)<(ps.length:Int):=by omega
   have g3:(0:Int)≤(m:Int)+(j:Int):=by omega
   have g4:(m:Int)+(j:Int)<(st.length:Int):=by have:=HM.out;omega
   have g5:IntKind.i64.wrap ((m:Int)+(j:Int))=(m:Int)+(j:Int):=wrapI9 (by omega) (by omega)
   have g6:((m:Int)+(j:Int)).toNat=m+j:=by omega
   have hlt2:m+j<st.length:=by have:=HM.out;omega
   rcases HS.out with e|⟨sb,so,rfl,x1,x2,x3⟩
   ·rw[e] at hlt2;exact absurd hlt2 (Nat.not_lt_zero _)
   rcases HPP.out with e|⟨pb,po,rfl,x4,x5,x6⟩
   ·rw[e] at hlt;exact absurd hlt (Nat.not_lt_zero _)
   obtain⟨s0,s1,s2⟩:=x3 (m+j) hlt2
   obtain⟨p0,p1,p2⟩:=x6 j hlt
   have hr1:=HRS.out (m+j) hlt2
   have hr2:=HRP.out j hlt
   have HS1:Hid (upTo (fun i=>fit1 gs (fdAt st (m+i)) (fdAt ps i)) (j+1)=fit1 gs (fdAt st (m+j)) (fdAt ps j)):=by show _=_;rw[upTo,HU.out,Bool.true_and]
   have HS2:Hid (fit1 gs (fdAt st (m+j)) (fdAt ps j)=false→upTo (fun i=>fit1 gs (fdAt st (m+i)) (fdAt ps i)) ps.length=false):=fun h=>upTo_false hlt h
   have hsb:sb<w.heap.size:=by omega
   have hpb:pb<w.heap.size:=by omega
   generalize fdAt st (m+j)=g at *
   generalize fdAt ps j=f at *
   have HSS:Hid (S6 pb po sb so m j f g wr):=⟨(HB.out.cell (p:=⟨pb,po+j*3,none⟩) hpb).trans p0,(HB.out.cell (p:=⟨pb,po+j*3+1,none⟩) hpb).trans p1,(HB.out.cell (p:=⟨pb,po+j*3+2,none⟩) hpb).trans p2,(HB.out.cell (p:=⟨sb,so+(m+j)*3,none⟩) hsb).trans s0,(HB.out.cell (p:=⟨sb,so+(m+j)*3+1,none⟩) hsb).trans s1,(HB.out.cell (p:=⟨sb,so+(m+j)*3+2,none⟩) hsb).trans s2,by omega,by omega⟩
   clear s0 s1 s2 p0 p1 p2 x1 x2 x3 x4 x5 x6 hsb hpb
   obtain⟨fk,fo,fm⟩:=f
   obtain⟨gk,go,gm⟩:=g
   simp only at hr2
   by_cases hw:fk<0
   ·have HF:Hid (upTo (fun i=>fit1 gs (fdAt st (m+i)) (fdAt ps i)) (j+1)=true):=by show _=_;rw[HS1.out];simp[fit1,hw]
    have hw2:¬(0:Int)≤fk:=by omega
    clear HS1 HS2 hr1 hr2
    go_upto_region 5 with(fail)
    refine wp_region_noPanic ?_
    refine wp_region_held_drew (S:=S6 pb po sb so m j ⟨fk,fo,fm⟩ ⟨gk,go,gm⟩) (by kernel_rfl) HSS.out.drew (fun hHeld=>?_)
    (try simp only[Act.put,lA,lB,lC])
    refine tL 0 (v:=?v0f1) hHeld ?y0f1 ?r0f1
    case y0f1=>(intro w _;go_simp;try with_reducible rfl)
    (try simp only[Act.put,lA,lB,lC])
    refine tL 1 (v:=?v1f2) hHeld ?y1f2 ?r1f2
    case y1f2=>(intro w _;go_simp;try with_reducible rfl)
    (try simp only[Act.put,lA,lB,lC])
    refine tL 2 (v:=?v2f3) hHeld ?y2f3 ?r2f3
    case y2f3=>(intro w _;go_simp;try with_reducible rfl)
    (try simp only[Act.put,lA,lB,lC])
    refine tL 3 (v:=?v3f4) hHeld ?y3f4 ?r3f4
    case y3f4=>(intro w _;go_simp;try with_reducible rfl)
    (try simp only[Act.put,lA,lB,lC])
    refine tL 4 (v:=?v4f5) hHeld ?y4f5 ?r4f5
    case y4f5=>(intro w hSw;have sp0:=hSw.p0;have sp1:=hSw.p1;have sp2:=hSw.p2;have ss0:=hSw.s0;have ss1:=hSw.s1;have ss2:=hSw.s2;go_simp;try with_reducible rfl)
    (try simp only[Act.put,lA,lB,lC])
    refine tL 5 (v:=?v5f6) hHeld ?y5f6 ?r5f6
    case y5f6=>(intro w _;go_simp;try with_reducible rfl)
    (try simp only[Act.put,lA,lB,lC])
    refine tL 6 (v:=?v6f7) hHeld ?y6f7 ?r6f7
    case y6f7=>(intro w _;go_simp;try with_reducible rfl)
    (try simp only[Act.put,lA,lB,lC])
    refine sL 7 hHeld ?_
    (try simp only[Act.put,lA,lB,lC])
    refine sL 8 hHeld ?_
    (try simp only[Act.put,lA,lB,lC])
    refine sL 9 hHeld ?_
    (try simp only[Act.put,lA,lB,lC])
    refine sL 10 hHeld ?_
    (try simp only[Act.put,lA,lB,lC])
    refine sL 11 hHeld ?_
    (try simp only[Act.put,lA,lB,lC])
    refine sL 12 hHeld ?_
    (try simp only[Act.put,lA,lB,lC])
    refine sL 13 hHeld ?_
    (try simp only[Act.put,lA,lB,lC])
    refine sL 14 hHeld ?_
    (try simp only[Act.put,lA,lB,lC])
    refine sL 15 hHeld ?_
    (try simp only[Act.put,lA,lB,lC])
    refine sL 16 hHeld ?_
    (try simp only[Act.put,lA,lB,lC])
    refine sL 17 hHeld ?_
    (try simp only[Act.put,lA,lB,lC])
    refine sL 18 hHeld ?_
    (try simp only[Act.put,lA,lB,lC])
    refine sL 19 hHeld ?_
    (try simp only[Act.put,lA,lB,lC])
    refine tL 20 (v:=?v20f8) hHeld ?y20f8 ?r20f8
    case y20f8=>(intro w _;go_simp;try with_reducible rfl)
    (try simp only[Act.put,lA,lB,lC])
    refine wpAnyH_done (by kernel_rfl) ?_ _
    refine NoPanic.normal ?_
    clear hHeld
    go_wp2_with fail
    exact⟨⟨j+1,by omega,by go_num,HF.out,HB.out.drew⟩,by simp[intOf];omega⟩
   ·have hw2:(0:Int)≤fk:=by omega
    have HCC:=hide (fun W hb=>HC.out W ⟨gk,go,gm⟩ ⟨fk,fo,fm⟩ hb hr1 (hr2.resolve_left hw))
    have HE:Hid (fit1 gs ⟨gk,go,gm⟩ ⟨fk,fo,fm⟩=sortF gs ⟨gk,go,gm⟩ ⟨fk,fo,fm⟩):=by show _=_;simp[fit1,hw]
    clear hr1 hr2
    cases hv:sortF gs ⟨gk,go,gm⟩ ⟨fk,fo,fm⟩
    ·rw[hv] at HCC
     have HF:=hide (HS2.out (HE.out.trans hv))
     clear HS1 HS2 HE hv
     go_upto_region 5 with(fail)
     refine wp_region_noPanic ?_
     refine wp_region_held_drew (S:=S6 pb po sb so m j ⟨fk,fo,fm⟩ ⟨gk,go,gm⟩) (by kernel_rfl) HSS.out.drew (fun hHeld=>?_)
     (try simp only[Act.put,lA,lB,lC])
     refine tL 0 (v:=?v0f9) hHeld ?y0f9 ?r0f9
     case y0f9=>(intro w _;go_simp;try with_reducible rfl)
     (try simp only[Act.put,lA,lB,lC])
     refine tL 1 (v:=?v1f10) hHeld ?y1f10 ?r1f10
     case y1f10=>(intro w _;go_simp;try with_reducible rfl)
     (try simp only[Act.put,lA,lB,lC])
     refine tL 2 (v:=?v2f11) hHeld ?y2f11 ?r2f11
     case y2f11=>(intro w _;go_simp;try with_reducible rfl)
     (try simp only[Act.put,lA,lB,lC])
     refine tL 3 (v:=?v3f12) hHeld ?y3f12 ?r3f12
     case y3f12=>(intro w _;go_simp;try with_reducible rfl)
     (try simp only[Act.put,lA,lB,lC])
     refine tL 4 (v:=?v4f13) hHeld ?y4f13 ?r4f13
     case y4f13=>(intro w hSw;have sp0:=hSw.p0;have sp1:=hSw.p1;have sp2:=hSw.p2;have ss0:=hSw.s0;have ss1:=hSw.s1;have ss2:=hSw.s2;go_simp;try with_reducible rfl)
     (try simp only[Act.put,lA,lB,lC])
     refine tL 5 (v:=?v5f14) hHeld ?y5f14 ?r5f14
     case y5f14=>(intro w _;go_simp;try with_reducible rfl)
     (try simp only[Act.put,lA,lB,lC])
     refine tL 6 (v:=?v6f15) hHeld ?y6f15 ?r6f15
     case y6f15=>(intro w _;go_simp;try with_reducible rfl)
     (try simp only[Act.put,lA,lB,lC])
     refine tL 7 (v:=?v7f16) hHeld ?y7f16 ?r7f16
     case y7f16=>(intro w _;go_simp;try with_reducible rfl)
     (try simp only[Act.put,lA,lB,lC])
     refine tL 8 (v:=?v8f17) hHeld ?y8f17 ?r8f17
     case y8f17=>(intro w _;go_simp;try with_reducible rfl)
     (try simp only[Act.put,lA,lB,lC])
     refine tL 9 (v:=?v9f18) hHeld ?y9f18 ?r9f18
     case y9f18=>(intro w _;go_simp;try with_reducible rfl)
     (try simp only[Act.put,lA,lB,lC])
     refine tL 10 (v:=?v10f19) hHeld ?y10f19 ?r10f19
     case y10f19=>(intro w _;go_simp;try with_reducible rfl)
     (try simp only[Act.put,lA,lB,lC])
     refine tL 11 (v:=?v11f20) hHeld ?y11f20 ?r11f20
     case y11f20=>(intro w _;go_simp;try with_reducible rfl)
     (try simp only[Act.put,lA,lB,lC])
     refine tL 12 (v:=?v12f21) hHeld ?y12f21 ?r12f21
     case y12f21=>(intro w _;go_simp;try with_reducible rfl)
     (try simp only[Act.put,lA,lB,lC])
     refine tL 13 (v:=?v13f22) hHeld ?y13f22 ?r13f22
     case y13f22=>(intro w hSw;have sp0:=hSw.p0;have sp1:=hSw.p1;have sp2:=hSw.p2;have ss0:=hSw.s0;have ss1:=hSw.s1;have ss2:=hSw.s2;go_simp;try with_reducible rfl)
     (try simp only[Act.put,lA,lB,lC])
     refine tL 14 (v:=?v14f23) hHeld ?y14f23 ?r14f23
     case y14f23=>(intro w _;go_simp;try with_reducible rfl)
     (try simp only[Act.put,lA,lB,lC])
     refine tL 15 (v:=?v15f24) hHeld ?y15f24 ?r15f24
     case y15f24=>(intro w _;go_simp;try with_reducible rfl)
     (try simp only[Act.put,lA,lB,lC])
     refine tL 16 (v:=?v16f25) hHeld ?y16f25 ?r16f25
     case y16f25=>(intro w _;go_simp;try with_reducible rfl)
     (try simp only[Act.put,lA,lB,lC])
     refine tL 17 (v:=?v17f26) hHeld ?y17f26 ?r17f26
     case y17f26=>(intro w hSw;have sp0:=hSw.p0;have sp1:=hSw.p1;have sp2:=hSw.p2;have ss0:=hSw.s0;have ss1:=hSw.s1;have ss2:=hSw.s2;go_simp;try with_reducible rfl)
     (try simp only[Act.put,lA,lB,lC])
     refine dL 18 (fun K hK=>?_)
     go_simp
     (go_at_call 63;refine(HCC.out _ HB.out.drew).mono ?_;rintro e w2 ⟨rfl,b2⟩)
     have HD:=hide (HB.out.drew.trans (b2.mono HB.out.drew.size))
     refine hK.out _ _ (hHeld.below b2) (fun hHeld=>?_)
     clear hK K b2
     (try simp only[Act.put,lA,lB,lC])
     refine tL 19 (v:=?v19f27) hHeld ?y19f27 ?r19f27
     case y19f27=>(intro w _;go_simp;try with_reducible rfl)
     (try simp only[Act.put,lA,lB,lC])
     refine tL 20 (v:=?v20f28) hHeld ?y20f28 ?r20f28
     case y20f28=>(intro w _;go_simp;try with_reducible rfl)
     (try simp only[Act.put,lA,lB,lC])
     refine wpAnyH_done (by kernel_rfl) ?_ _
     refine NoPanic.normal ?_
     clear hHeld
     go_wp2_with fail
     go_ret
     exact⟨ret_bool HF.out.symm,HD.out⟩
    ·rw[hv] at HCC
     have HF:=hide (HS1.out.trans (HE.out.trans hv))
     clear HS1 HS2 HE hv
     go_upto_region 5 with(fail)
     refine wp_region_noPanic ?_
     refine wp_region_held_drew (S:=S6 pb po sb so m j ⟨fk,fo,fm⟩ ⟨gk,go,gm⟩) (by kernel_rfl) HSS.out.drew (fun hHeld=>?_)
     (try simp only[Act.put,lA,lB,lC])
     refine tL 0 (v:=?v0f29) hHeld ?y0f29 ?r0f29
     case y0f29=>(intro w _;go_simp;try with_reducible rfl)
     (try simp only[Act.put,lA,lB,lC])
     refine tL 1 (v:=?v1f30) hHeld ?y1f30 ?r1f30
     case y1f30=>(intro w _;go_simp;try with_reducible rfl)
     (try simp only[Act.put,lA,lB,lC])
     refine tL 2 (v:=?v2f31) hHeld ?y2f31 ?r2f31
     case y2f31=>(intro w _;go_simp;try with_reducible rfl)
     (try simp only[Act.put,lA,lB,lC])
     refine tL 3 (v:=?v3f32) hHeld ?y3f32 ?r3f32
     case y3f32=>(intro w _;go_simp;try with_reducible rfl)
     (try simp only[Act.put,lA,lB,lC])
     refine tL 4 (v:=?v4f33) hHeld ?y4f33 ?r4f33
     case y4f33=>(intro w hSw;have sp0:=hSw.p0;have sp1:=hSw.p1;have sp2:=hSw.p2;have ss0:=hSw.s0;have ss1:=hSw.s1;have ss2:=hSw.s2;go_simp;try with_reducible rfl)
     (try simp only[Act.put,lA,lB,lC])
     refine tL 5 (v:=?v5f34) hHeld ?y5f34 ?r5f34
     case y5f34=>(intro w _;go_simp;try with_reducible rfl)
     (try simp only[Act.put,lA,lB,lC])
     refine tL 6 (v:=?v6f35) hHeld ?y6f35 ?r6f35
     case y6f35=>(intro w _;go_simp;try with_reducible rfl)
     (try simp only[Act.put,lA,lB,lC])
     refine tL 7 (v:=?v7f36) hHeld ?y7f36 ?r7f36
     case y7f36=>(intro w _;go_simp;try with_reducible rfl)
     (try simp only[Act.put,lA,lB,lC])
     refine tL 8 (v:=?v8f37) hHeld ?y8f37 ?r8f37
     case y8f37=>(intro w _;go_simp;try with_reducible rfl)
     (try simp only[Act.put,lA,lB,lC])
     refine tL 9 (v:=?v9f38) hHeld ?y9f38 ?r9f38
     case y9f38=>(intro w _;go_simp;try with_reducible rfl)
     (try simp only[Act.put,lA,lB,lC])
     refine tL 10 (v:=?v10f39) hHeld ?y10f39 ?r10f39
     case y10f39=>(intro w _;go_simp;try with_reducible rfl)
     (try simp only[Act.put,lA,lB,lC])
     refine tL 11 (v:=?v11f40) hHeld ?y11f40 ?r11f40
     case y11f40=>(intro w _;go_simp;try with_reducible rfl)
     (try simp only[Act.put,lA,lB,lC])
     refine tL 12 (v:=?v12f41) hHeld ?y12f41 ?r12f41
     case y12f41=>(intro w _;go_simp;try with_reducible rfl)
     (try simp only[Act.put,lA,lB,lC])
     refine tL 13 (v:=?v13f42) hHeld ?y13f42 ?r13f42
     case y13f42=>(intro w hSw;have sp0:=hSw.p0;have sp1:=hSw.p1;have sp2:=hSw.p2;have ss0:=hSw.s0;have ss1:=hSw.s1;have ss2:=hSw.s2;go_simp;try with_reducible rfl)
     (try simp only[Act.put,lA,lB,lC])
     refine tL 14 (v:=?v14f43) hHeld ?y14f43 ?r14f43
     case y14f43=>(intro w _;go_simp;try with_reducible rfl)
     (try simp only[Act.put,lA,lB,lC])
     refine tL 15 (v:=?v15f44) hHeld ?y15f44 ?r15f44
     case y15f44=>(intro w _;go_simp;try with_reducible rfl)
     (try simp only[Act.put,lA,lB,lC])
     refine tL 16 (v:=?v16f45) hHeld ?y16f45 ?r16f45
     case y16f45=>(intro w _;go_simp;try with_reducible rfl)
     (try simp only[Act.put,lA,lB,lC])
     refine tL 17 (v:=?v17f46) hHeld ?y17f46 ?r17f46
     case y17f46=>(intro w hSw;have sp0:=hSw.p0;have sp1:=hSw.p1;have sp2:=hSw.p2;have ss0:=hSw.s0;have ss1:=hSw.s1;have ss2:=hSw.s2;go_simp;try with_reducible rfl)
     (try simp only[Act.put,lA,lB,lC])
     refine dL 18 (fun K hK=>?_)
     go_simp
     (go_at_call 63;refine(HCC.out _ HB.out.drew).mono ?_;rintro e w2 ⟨rfl,b2⟩)
     have HD:=hide (HB.out.drew.trans (b2.mono HB.out.drew.size))
     refine hK.out _ _ (hHeld.below b2) (fun hHeld=>?_)
     clear hK K b2
     (try simp only[Act.put,lA,lB,lC])
     refine tL 19 (v:=?v19f47) hHeld ?y19f47 ?r19f47
     case y19f47=>(intro w _;go_simp;try with_reducible rfl)
     (try simp only[Act.put,lA,lB,lC])
     refine tL 20 (v:=?v20f48) hHeld ?y20f48 ?r20f48
     case y20f48=>(intro w _;go_simp;try with_reducible rfl)
     (try simp only[Act.put,lA,lB,lC])
     refine wpAnyH_done (by kernel_rfl) ?_ _
     refine NoPanic.normal ?_
     clear hHeld
     go_wp2_with fail
     exact⟨⟨j+1,by omega,by go_num,HF.out,HD.out⟩,by simp[intOf];omega⟩
  ·have hkn:Hid (j=ps.length):=Nat.le_antisymm hj (Nat.le_of_not_lt hlt)
   have g2:¬(j:Int)<(ps.length:Int):=by omega
   go_wp2_with fail
   go_ret
   exact⟨ret_bool (hkn.out▸HU.out).symm,HB.out⟩
end Go.Proofs.YtpaneomkphjpcaaGreatDoor
