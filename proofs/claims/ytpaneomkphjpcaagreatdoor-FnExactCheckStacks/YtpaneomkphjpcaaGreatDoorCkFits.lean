/- fits, passes and fault of the program's scope. -/
import Derived.Test.YtpaneomkphjpcaaGreatDoorPcReg
import Derived.Test.YtpaneomkphjpcaaGreatDoorCkRule8
import Derived.Test.YtpaneomkphjpcaaGreatDoorPcUp
namespace Go.Proofs.YtpaneomkphjpcaaGreatDoor
open Go.ChangeShapes Go.WideShapes Go.ChangeAt Go.RowKit
set_option linter.unusedVariables false
set_option linter.unusedSimpArgs false
def fitsL (gs:List (List Ty)) (xs ys:List Fd):Bool:=decide (xs.length=ys.length)&&upTo (fun i=>fieldUnderF gs (fdAt xs i) (fdAt ys i)) xs.length
set_option maxHeartbeats 1600000 in
theorem eqFuncFd_core (a a':Option Addr) (cap cap' n lo hi lo' hi' tlo thi rc cb cc:Nat) (ra:Option Addr) (gs:List (List Ty)) (F G:Nat→Fd) (w:World) (hn:n≤1048576) (hP:Parts gs) (hT:TabIn w tlo thi ra cb 0 gs) (hth:thi≤w.heap.size) (hh:hi≤w.heap.size) (hh':hi'≤w.heap.size)
    (hx:n≤0∨∃b off b' off',a=some ⟨b,off,none⟩∧a'=some ⟨b',off',none⟩∧(lo≤b∧b<hi)∧(lo'≤b'∧b'<hi')∧(∀i,i<n→FieldAt w b (off+i*3) (F i))∧(∀i,i<n→FieldAt w b' (off'+i*3) (G i))) :
    Calls Tryz.prog 125 #[.slice a n cap,.slice a' n cap',.func (.func 126) #[.agg #[.slice ra (kinCount gs) rc,.slice (some ⟨cb,0,none⟩) (kinCount gs) cc]] #[]] w fun e w'=>e=.returned (.bool (upTo (fun i=>fieldUnderF gs (F i) (G i)) n))∧Below w.heap.size w w':=by
  have HC:=hide (fun W f g (hb:Below w.heap.size w W)=>fieldUnder_any ra rc cb 0 cc tlo thi gs f g W hP (hT.keep (hb.mono hth)) (Nat.le_trans hth hb.size))
  clear hP hT
  generalize kinCount gs=nk at HC ⊢
  generalize fieldUnderF gs=U at HC ⊢
  rcases hx with h0|⟨b,off,b',off',rfl,rfl,t1,t2,h3,h4⟩
  all_goals
    go_enter Tryz.func125,Tryz.ntmps125
    go_wp2_with fail
    go_loopw [17] (fun i wr=>∃k:Nat,k≤n∧i=.int .i64 k∧upTo (fun i=>U (F i) (G i)) k=true∧Below w.heap.size w wr) (fun i wr=>n-(intOf i).toNat)
    case atStart=>exact⟨0,Nat.zero_le _,rfl,rfl,Below.refl _ _⟩
    case round =>
      obtain⟨k,hk,rfl,hu,hb⟩:=hrel
      have HU:=hide hu
      have HB:=hide hb
      have sb:=hb.size
      clear hu
      by_cases hlt:k<n
      · first
        | (exfalso;omega)
        | (have g1:(0:Int)≤(k:Int):=by omega
           have g2:(k:Int)<(n:Int):=by omega
           have hb1:b<w.heap.size:=by omega
           have hb2:b'<w.heap.size:=by omega
           obtain⟨c0,c1,c2⟩:=h3 k hlt
           obtain⟨d0,d1,d2⟩:=h4 k hlt
           have c0:=(hb.cell (p:=⟨b,off+k*3,none⟩) hb1).trans c0
           have c1:=(hb.cell (p:=⟨b,off+k*3+1,none⟩) hb1).trans c1
           have c2:=(hb.cell (p:=⟨b,off+k*3+2,none⟩) hb1).trans c2
           have d0:=(hb.cell (p:=⟨b',off'+k*3,none⟩) hb2).trans d0
           have d1:=(hb.cell (p:=⟨b',off'+k*3+1,none⟩) hb2).trans d1
           have d2:=(hb.cell (p:=⟨b',off'+k*3+2,none⟩) hb2).trans d2
           have z1:b<wr.heap.size:=by omega
           have z2:b'<wr.heap.size:=by omega
           have z3:b<wr.heap.size+1:=by omega
           have z4:b'<wr.heap.size+1:=by omega
           have HS1:Hid (upTo (fun i=>U (F i) (G i)) (k+1)=U (F k) (G k)):=by show _=_;rw[upTo,HU.out,Bool.true_and]
           have HS2:Hid (U (F k) (G k)=false→upTo (fun i=>U (F i) (G i)) n=false):=fun h=>upTo_false hlt h
           clear h3 h4 hb
           generalize F k=f at c0 c1 c2 HS1 HS2
           generalize G k=g at d0 d1 d2 HS1 HS2
           have HCC:=hide (fun W hb=>HC.out W f g hb)
           obtain⟨fk,fo,fm⟩:=f
           obtain⟨gk,go,gm⟩:=g
           simp only at c0 c1 c2 d0 d1 d2 HCC
           cases hv:U ⟨fk,fo,fm⟩ ⟨gk,go,gm⟩
           · rw[hv] at HS1 HCC
             have HF:=hide (HS2.out hv)
             clear HS1 HS2 hv
             go_wp2_with fail
             refine(HCC.out _ ((HB.out.alloc sb _).alloc (by simp;omega) _)).mono ?_
             rintro e v ⟨rfl,hb1⟩
             have HD:=hide (((HB.out.alloc sb _).alloc (by simp;omega) _).trans (hb1.mono (by simp;omega)))
             clear hb1
             go_wp2_with fail
             go_ret
             exact⟨ret_bool HF.out.symm,HD.out⟩
           · rw[hv] at HS1 HCC
             have HF:=hide HS1.out
             clear HS1 HS2 hv
             go_wp2_with fail
             refine(HCC.out _ ((HB.out.alloc sb _).alloc (by simp;omega) _)).mono ?_
             rintro e v ⟨rfl,hb1⟩
             have HD:=hide (((HB.out.alloc sb _).alloc (by simp;omega) _).trans (hb1.mono (by simp;omega)))
             clear hb1
             go_wp2_with fail
             exact⟨⟨k+1,by omega,by go_num,HF.out,HD.out⟩,by simp[intOf];omega⟩)
      · have hkn:Hid (k=n):=Nat.le_antisymm hk (Nat.le_of_not_lt hlt)
        clear hb
        go_wp2_with fail
        go_ret
        exact⟨ret_bool (hkn.out▸HU.out).symm,HB.out⟩
set_option maxHeartbeats 400000 in
theorem eqFuncFd_short (a a':Option Addr) (cap cap' n m:Nat) (g:Value) (w:World) (hn:n≤1048576) (hm:m≤1048576) (hne:¬n=m) :
    Calls Tryz.prog 125 #[.slice a n cap,.slice a' m cap',g] w fun e w'=>e=.returned (.bool false)∧Below w.heap.size w w':=by
  have hb:((n:Int)==(m:Int))=false:=by simp;omega
  have hd:¬((n:Int)=(m:Int)):=by omega
  clear hne
  go_enter Tryz.func125,Tryz.ntmps125
  go_wp2_with fail
  go_ret
  exact⟨rfl,Below.refl _ _⟩
theorem eqFuncFd_any (a a':Option Addr) (cap cap' lo hi lo' hi' tlo thi rc cb cc:Nat) (ra:Option Addr) (gs:List (List Ty)) (xs ys:List Fd) (w:World) (hn:xs.length≤1048576) (hm:ys.length≤1048576) (hP:Parts gs) (hT:TabIn w tlo thi ra cb 0 gs) (hth:thi≤w.heap.size) (hh:hi≤w.heap.size) (hh':hi'≤w.heap.size) (hx:FieldsIn w lo hi a xs) (hy:FieldsIn w lo' hi' a' ys) :
    Calls Tryz.prog 125 #[.slice a xs.length cap,.slice a' ys.length cap',.func (.func 126) #[.agg #[.slice ra (kinCount gs) rc,.slice (some ⟨cb,0,none⟩) (kinCount gs) cc]] #[]] w fun e w'=>e=.returned (.bool (fitsL gs xs ys))∧Below w.heap.size w w':=by
  by_cases hl:xs.length=ys.length
  · have e:fitsL gs xs ys=upTo (fun i=>fieldUnderF gs (fdAt xs i) (fdAt ys i)) xs.length:=by simp[fitsL,hl]
    rw[e,←hl]
    refine eqFuncFd_core a a' cap cap' xs.length lo hi lo' hi' tlo thi rc cb cc ra gs (fdAt xs) (fdAt ys) w hn hP hT hth hh hh' ?_
    rcases hx with rfl|⟨b,off,rfl,h1,h2,h3⟩
    · exact .inl (Nat.le_refl _)
    · rcases hy with rfl|⟨b',off',rfl,h1',h2',h3'⟩
      · exact .inl (by rw[hl];exact Nat.le_refl _)
      · exact .inr ⟨b,off,b',off',rfl,rfl,⟨h1,h2⟩,⟨h1',h2'⟩,h3,fun i hi=>h3' i (by omega)⟩
  · have e:fitsL gs xs ys=false:=by simp[fitsL,hl]
    rw[e]
    exact eqFuncFd_short a a' cap cap' _ _ _ w hn hm hl
set_option maxHeartbeats 1000000 in
theorem scopeFits_any (vs:List Value) (lo hi k:Nat) (p:GProg) (a a':Option Addr) (cap cap' lo1 hi1 lo2 hi2:Nat) (xs ys:List Fd) (w:World) (h:Scp w lo hi p k vs) (hP:Parts p.types) (hn:xs.length≤1048576) (hm:ys.length≤1048576) (hh:hi1≤w.heap.size) (hh':hi2≤w.heap.size) (hx:FieldsIn w lo1 hi1 a xs) (hy:FieldsIn w lo2 hi2 a' ys) :
    Calls Tryz.prog 103 #[.agg vs.toArray,.slice a xs.length cap,.slice a' ys.length cap'] w fun e w'=>e=.returned (.bool (fitsL p.types xs ys))∧Below w.heap.size w w':=by
  obtain⟨w1,hw1⟩:∃w1,w1=w.alloc (.cells vs.toArray 94):=⟨_,rfl⟩
  have B1:Hid (Below w.heap.size w w1):=by show Below _ _ _;rw[hw1];exact(Below.refl _ _).alloc (Nat.le_refl _) _
  have VR:Hid (Rec w1 w.heap.size 94 vs):=by show Rec _ _ _ _;rw[hw1];exact Rec.new _ _ _
  obtain⟨ra,rc,cb,e3,e4,hT⟩:=(h.keep (B1.out.mono h.hh)).tab
  have d3:=VR.out.cell e3
  have d4:=VR.out.cell e4
  have HC:=hide (eqFuncFd_any a a' cap cap' lo1 hi1 lo2 hi2 lo hi rc cb (kinCount p.types) ra p.types xs ys w1 hn hm hP hT (Nat.le_trans h.hh B1.out.size) (Nat.le_trans hh B1.out.size) (Nat.le_trans hh' B1.out.size) (hx.keepB (B1.out.mono hh)) (hy.keepB (B1.out.mono hh')))
  clear h hT hx hy e3 e4
  generalize fitsL p.types xs ys=r at HC ⊢
  generalize xs.length=n at *
  generalize ys.length=m at *
  generalize kinCount p.types=nk at *
  go_enter Tryz.func103,Tryz.ntmps103
  go_upto_region 1 with(fail)
  rw[←hw1]
  clear hw1
  go_wp2_with fail
  refine HC.out.mono ?_
  rintro e w2 ⟨rfl,b2⟩
  have B2:=hide (B1.out.trans (b2.mono B1.out.size))
  clear b2
  go_wp2_with fail
  go_ret
  exact⟨rfl,B2.out⟩
def faultV (k pc code:Int):Value:=.iface 125 (.agg #[.int .i64 k,.int .i64 pc,.int .i64 code])
set_option maxHeartbeats 1000000 in
theorem scopeFault_any (vs:List Value) (k pc code:Int) (w:World) (hv:vs[39]?=some (.int .i64 k)) :
    Calls Tryz.prog 102 #[.agg vs.toArray,.int .i64 pc,.int .i64 code] w fun e w'=>e=.returned (faultV k pc code)∧Below w.heap.size w w':=by
  obtain⟨w1,hw1⟩:∃w1,w1=w.alloc (.cells vs.toArray 94):=⟨_,rfl⟩
  have B1:Hid (Below w.heap.size w w1):=by show Below _ _ _;rw[hw1];exact(Below.refl _ _).alloc (Nat.le_refl _) _
  have VR:Hid (Rec w1 w.heap.size 94 vs):=by show Rec _ _ _ _;rw[hw1];exact Rec.new _ _ _
  have d:=VR.out.cell hv
  go_enter Tryz.func102,Tryz.ntmps102
  go_upto_region 1 with(fail)
  rw[←hw1]
  clear hw1
  go_wp2_with fail
  go_ret
  exact⟨rfl,B1.out⟩
def passF (p:GProg) (k:Nat) (op a:Int):Bool:=if op=28 then fieldUnderF p.types (funAt' p.funs a.toNat).gives (funAt' p.funs k).gives else true
set_option maxHeartbeats 4000000 in
set_option maxRecDepth 100000 in
theorem scopePasses_any (vs:List Value) (lo hi k:Nat) (p:GProg) (op a b:Int) (w:World) (h:Scp w lo hi p k vs) (hP:Parts p.types) (ha:op=28→0≤a∧a<(p.funs.length:Int)) :
    Calls Tryz.prog 104 #[.agg vs.toArray,.agg #[.int .i64 op,.int .i64 a,.int .i64 b]] w fun e w'=>e=.returned (.bool (passF p k op a))∧Below w.heap.size w w':=by
  obtain⟨w1,hw1⟩:∃w1,w1=(w.alloc (.cells vs.toArray 94)).alloc (.cells #[.int .i64 op,.int .i64 a,.int .i64 b] 40):=⟨_,rfl⟩
  have B1:Hid (Below w.heap.size w w1):=by show Below _ _ _;rw[hw1];exact((Below.refl _ _).alloc (Nat.le_refl _) _).alloc (by simp) _
  have VR:Hid (Rec w1 w.heap.size 94 vs):=by show Rec _ _ _ _;rw[hw1];exact(Rec.new _ _ _).alloc _
  have IR:Hid (Rec w1 (w.heap.size+1) 40 [.int .i64 op,.int .i64 a,.int .i64 b]):=by show Rec _ _ _ _;rw[hw1];exact Rec.new' _ _ _ _ (by simp)
  have BW:=hide B1.out.drew
  by_cases hop:op=28
  · subst hop
    obtain⟨h0,h1⟩:=ha rfl
    have hR:passF p k 28 a=fieldUnderF p.types (funAt' p.funs a.toNat).gives (funAt' p.funs k).gives:=if_pos rfl
    rw[hR]
    clear hR ha
    obtain⟨x,rfl⟩:∃x:Nat,a=x:=⟨a.toNat,by omega⟩
    rw[Int.toNat_natCast]
    have hx:x<p.funs.length:=by omega
    have hh:=h.hh
    obtain⟨fa,fc,e2,hf⟩:=h.fu
    rcases hf with hnil|⟨fb,fo,rfl,z1,z2,_,z3⟩
    · rw[hnil] at hx;exact absurd hx (Nat.not_lt_zero _)
    have hfb:fb<w.heap.size:=by omega
    obtain⟨p0,q0,p4,q4,p5,q5,y0,y1,y2,y3,y4,y5,_,_,_⟩:=z3 x hx
    obtain⟨ra,rc,cb,e3,e4,hT⟩:=h.tab
    have V2:=hide e2
    have V3:=hide e3
    have V4:=hide e4
    have V41:=hide h.g0
    have V42:=hide h.g1
    have V43:=hide h.g2
    have Y1:=hide y1
    have Y2:=hide y2
    have Y3:=hide y3
    have HC:=hide (fun W (hb:Below w.heap.size w W)=>fieldUnder_any ra rc cb 0 (kinCount p.types) lo hi p.types (funAt' p.funs x).gives (funAt' p.funs k).gives W hP (hT.keep (hb.mono hh)) (Nat.le_trans hh hb.size))
    clear h e2 e3 e4 hT y0 y1 y2 y3 y4 y5 z3 hP
    generalize fieldUnderF p.types (funAt' p.funs x).gives (funAt' p.funs k).gives=r at HC ⊢
    generalize (funAt' p.funs x).gives=f at *
    generalize (funAt' p.funs k).gives=g at *
    obtain⟨fk,fo9,fm⟩:=f
    obtain⟨gk,go,gm⟩:=g
    simp only at Y1 Y2 Y3 V41 V42 V43 HC
    generalize p.funs.length=N at *
    generalize kinCount p.types=nk at *
    have j1:(0:Int)≤(x:Int):=by omega
    go_enter Tryz.func104,Tryz.ntmps104
    go_upto_region 1 with(fail)
    rw[←hw1]
    clear hw1
    refine beginA (S:=fun w'=>Rec w' w.heap.size 94 vs∧Rec w' (w.heap.size+1) 40 [.int .i64 28,.int .i64 (x:Int),.int .i64 b]∧Below w.heap.size w w') 19 (by kernel_rfl) ⟨Rec.drew' VR.out,Rec.drew' IR.out,BW.out⟩ (fun hHeld=>?_)
    try simp only[Act.put,lA,lB,lC]
    refine tA 0 (v:=?v0n1) ?y0n1 ?r0n1
    case y0n1=>(intro w _;go_simp;try with_reducible rfl)
    (try simp only[Act.put,lA,lB,lC])
    refine tA 1 (v:=?v1n2) ?y1n2 ?r1n2
    case y1n2=>(intro w hSw;have si0:=hSw.2.1.cell (o:=0) rfl;have si1:=hSw.2.1.cell (o:=1) rfl;have s2:=hSw.1.cell V2.out;have s3:=hSw.1.cell V3.out;have s4:=hSw.1.cell V4.out;have s41:=hSw.1.cell V41.out;have s42:=hSw.1.cell V42.out;have s43:=hSw.1.cell V43.out;have y1:=(hSw.2.2.cell (p:=⟨fb,fo+x*6+1,none⟩) hfb).trans Y1.out;have y2:=(hSw.2.2.cell (p:=⟨fb,fo+x*6+2,none⟩) hfb).trans Y2.out;have y3:=(hSw.2.2.cell (p:=⟨fb,fo+x*6+3,none⟩) hfb).trans Y3.out;clear hSw;go_simp;try with_reducible rfl)
    (try simp only[Act.put,lA,lB,lC])
    refine tA 2 (v:=?v2n3) ?y2n3 ?r2n3
    case y2n3=>(intro w _;go_simp;try with_reducible rfl)
    (try simp only[Act.put,lA,lB,lC])
    refine tA 3 (v:=?v3n4) ?y3n4 ?r3n4
    case y3n4=>(intro w _;go_simp;try with_reducible rfl)
    (try simp only[Act.put,lA,lB,lC])
    refine tA 4 (v:=?v4n5) ?y4n5 ?r4n5
    case y4n5=>(intro w _;go_simp;try with_reducible rfl)
    (try simp only[Act.put,lA,lB,lC])
    refine tA 5 (v:=?v5n6) ?y5n6 ?r5n6
    case y5n6=>(intro w hSw;have si0:=hSw.2.1.cell (o:=0) rfl;have si1:=hSw.2.1.cell (o:=1) rfl;have s2:=hSw.1.cell V2.out;have s3:=hSw.1.cell V3.out;have s4:=hSw.1.cell V4.out;have s41:=hSw.1.cell V41.out;have s42:=hSw.1.cell V42.out;have s43:=hSw.1.cell V43.out;have y1:=(hSw.2.2.cell (p:=⟨fb,fo+x*6+1,none⟩) hfb).trans Y1.out;have y2:=(hSw.2.2.cell (p:=⟨fb,fo+x*6+2,none⟩) hfb).trans Y2.out;have y3:=(hSw.2.2.cell (p:=⟨fb,fo+x*6+3,none⟩) hfb).trans Y3.out;clear hSw;go_simp;try with_reducible rfl)
    (try simp only[Act.put,lA,lB,lC])
    refine tA 6 (v:=?v6n7) ?y6n7 ?r6n7
    case y6n7=>(intro w _;go_simp;try with_reducible rfl)
    (try simp only[Act.put,lA,lB,lC])
    refine tA 7 (v:=?v7n8) ?y7n8 ?r7n8
    case y7n8=>(intro w _;go_simp;try with_reducible rfl)
    (try simp only[Act.put,lA,lB,lC])
    refine tA 8 (v:=?v8n9) ?y8n9 ?r8n9
    case y8n9=>(intro w hSw;have si0:=hSw.2.1.cell (o:=0) rfl;have si1:=hSw.2.1.cell (o:=1) rfl;have s2:=hSw.1.cell V2.out;have s3:=hSw.1.cell V3.out;have s4:=hSw.1.cell V4.out;have s41:=hSw.1.cell V41.out;have s42:=hSw.1.cell V42.out;have s43:=hSw.1.cell V43.out;have y1:=(hSw.2.2.cell (p:=⟨fb,fo+x*6+1,none⟩) hfb).trans Y1.out;have y2:=(hSw.2.2.cell (p:=⟨fb,fo+x*6+2,none⟩) hfb).trans Y2.out;have y3:=(hSw.2.2.cell (p:=⟨fb,fo+x*6+3,none⟩) hfb).trans Y3.out;clear hSw;go_simp;try with_reducible rfl)
    (try simp only[Act.put,lA,lB,lC])
    refine tA 9 (v:=?v9n10) ?y9n10 ?r9n10
    case y9n10=>(intro w _;go_simp;try with_reducible rfl)
    (try simp only[Act.put,lA,lB,lC])
    refine tA 10 (v:=?v10n11) ?y10n11 ?r10n11
    case y10n11=>(intro w hSw;have si0:=hSw.2.1.cell (o:=0) rfl;have si1:=hSw.2.1.cell (o:=1) rfl;have s2:=hSw.1.cell V2.out;have s3:=hSw.1.cell V3.out;have s4:=hSw.1.cell V4.out;have s41:=hSw.1.cell V41.out;have s42:=hSw.1.cell V42.out;have s43:=hSw.1.cell V43.out;have y1:=(hSw.2.2.cell (p:=⟨fb,fo+x*6+1,none⟩) hfb).trans Y1.out;have y2:=(hSw.2.2.cell (p:=⟨fb,fo+x*6+2,none⟩) hfb).trans Y2.out;have y3:=(hSw.2.2.cell (p:=⟨fb,fo+x*6+3,none⟩) hfb).trans Y3.out;clear hSw;go_simp;try with_reducible rfl)
    (try simp only[Act.put,lA,lB,lC])
    refine tA 11 (v:=?v11n12) ?y11n12 ?r11n12
    case y11n12=>(intro w _;go_simp;try with_reducible rfl)
    (try simp only[Act.put,lA,lB,lC])
    refine tA 12 (v:=?v12n13) ?y12n13 ?r12n13
    case y12n13=>(intro w _;go_simp;try with_reducible rfl)
    (try simp only[Act.put,lA,lB,lC])
    refine tA 13 (v:=?v13n14) ?y13n14 ?r13n14
    case y13n14=>(intro w hSw;have si0:=hSw.2.1.cell (o:=0) rfl;have si1:=hSw.2.1.cell (o:=1) rfl;have s2:=hSw.1.cell V2.out;have s3:=hSw.1.cell V3.out;have s4:=hSw.1.cell V4.out;have s41:=hSw.1.cell V41.out;have s42:=hSw.1.cell V42.out;have s43:=hSw.1.cell V43.out;have y1:=(hSw.2.2.cell (p:=⟨fb,fo+x*6+1,none⟩) hfb).trans Y1.out;have y2:=(hSw.2.2.cell (p:=⟨fb,fo+x*6+2,none⟩) hfb).trans Y2.out;have y3:=(hSw.2.2.cell (p:=⟨fb,fo+x*6+3,none⟩) hfb).trans Y3.out;clear hSw;go_simp;try with_reducible rfl)
    (try simp only[Act.put,lA,lB,lC])
    refine tA 14 (v:=?v14n15) ?y14n15 ?r14n15
    case y14n15=>(intro w _;go_simp;try with_reducible rfl)
    (try simp only[Act.put,lA,lB,lC])
    refine tA 15 (v:=?v15n16) ?y15n16 ?r15n16
    case y15n16=>(intro w _;go_simp;try with_reducible rfl)
    (try simp only[Act.put,lA,lB,lC])
    refine tA 16 (v:=?v16n17) ?y16n17 ?r16n17
    case y16n17=>(intro w hSw;have si0:=hSw.2.1.cell (o:=0) rfl;have si1:=hSw.2.1.cell (o:=1) rfl;have s2:=hSw.1.cell V2.out;have s3:=hSw.1.cell V3.out;have s4:=hSw.1.cell V4.out;have s41:=hSw.1.cell V41.out;have s42:=hSw.1.cell V42.out;have s43:=hSw.1.cell V43.out;have y1:=(hSw.2.2.cell (p:=⟨fb,fo+x*6+1,none⟩) hfb).trans Y1.out;have y2:=(hSw.2.2.cell (p:=⟨fb,fo+x*6+2,none⟩) hfb).trans Y2.out;have y3:=(hSw.2.2.cell (p:=⟨fb,fo+x*6+3,none⟩) hfb).trans Y3.out;clear hSw;go_simp;try with_reducible rfl)
    (try simp only[Act.put,lA,lB,lC])
    refine oA 17 (fun K hK=>?_)
    go_simp
    (go_at_call 126;refine(HC.out _ BW.out).mono ?_;rintro e w2 ⟨rfl,b2⟩)
    have B2:=hide (BW.out.trans (b2.mono BW.out.size))
    have HH:=And.intro (hHeld.1.below b2 hHeld.1.lt) (And.intro (hHeld.2.1.below b2 hHeld.2.1.lt) B2.out)
    clear b2
    refine hK.out _ _ HH (fun hHeld=>?_)
    clear hK K HH
    (try simp only[Act.put,lA,lB,lC])
    refine tA 18 (v:=?v18n18) ?y18n18 ?r18n18
    case y18n18=>(intro w _;go_simp;try with_reducible rfl)
    (try simp only[Act.put,lA,lB,lC])
    refine eA 19 (fun K hK=>?_)
    go_simp
    refine hK.out _ _ ?_
    clear hK K
    (try simp only[Act.put,lA,lB,lC])
    refine doneA (by kernel_rfl) ?_ _
    have BF:=hide hHeld.2.2
    go_wp2_with fail
    go_ret
    exact⟨rfl,BF.out⟩
  · have hR:passF p k op a=true:=if_neg hop
    rw[hR]
    have hop2:(op !=28)=true:=by simp[hop]
    clear hR ha h
    go_enter Tryz.func104,Tryz.ntmps104
    go_upto_region 1 with(fail)
    rw[←hw1]
    clear hw1
    refine beginA (S:=fun w'=>Rec w' w.heap.size 94 vs∧Rec w' (w.heap.size+1) 40 [.int .i64 op,.int .i64 a,.int .i64 b]∧Below w.heap.size w w') 19 (by kernel_rfl) ⟨Rec.drew' VR.out,Rec.drew' IR.out,BW.out⟩ (fun hHeld=>?_)
    try simp only[Act.put,lA,lB,lC]
    refine tA 0 (v:=?v0n19) ?y0n19 ?r0n19
    case y0n19=>(intro w _;go_simp;try with_reducible rfl)
    (try simp only[Act.put,lA,lB,lC])
    refine tA 1 (v:=?v1n20) ?y1n20 ?r1n20
    case y1n20=>(intro w hSw;have si0:=hSw.2.1.cell (o:=0) rfl;have si1:=hSw.2.1.cell (o:=1) rfl;clear hSw;go_simp;try with_reducible rfl)
    (try simp only[Act.put,lA,lB,lC])
    refine tA 2 (v:=?v2n21) ?y2n21 ?r2n21
    case y2n21=>(intro w _;go_simp;try with_reducible rfl)
    (try simp only[Act.put,lA,lB,lC])
    refine tA 3 (v:=?v3n22) ?y3n22 ?r3n22
    case y3n22=>(intro w _;go_simp;try with_reducible rfl)
    (try simp only[Act.put,lA,lB,lC])
    refine sA 4 ?_
    (try simp only[Act.put,lA,lB,lC])
    refine sA 5 ?_
    (try simp only[Act.put,lA,lB,lC])
    refine sA 6 ?_
    (try simp only[Act.put,lA,lB,lC])
    refine sA 7 ?_
    (try simp only[Act.put,lA,lB,lC])
    refine sA 8 ?_
    (try simp only[Act.put,lA,lB,lC])
    refine sA 9 ?_
    (try simp only[Act.put,lA,lB,lC])
    refine sA 10 ?_
    (try simp only[Act.put,lA,lB,lC])
    refine sA 11 ?_
    (try simp only[Act.put,lA,lB,lC])
    refine sA 12 ?_
    (try simp only[Act.put,lA,lB,lC])
    refine sA 13 ?_
    (try simp only[Act.put,lA,lB,lC])
    refine sA 14 ?_
    (try simp only[Act.put,lA,lB,lC])
    refine sA 15 ?_
    (try simp only[Act.put,lA,lB,lC])
    refine sA 16 ?_
    (try simp only[Act.put,lA,lB,lC])
    refine sA 17 ?_
    (try simp only[Act.put,lA,lB,lC])
    refine tA 18 (v:=?v18n23) ?y18n23 ?r18n23
    case y18n23=>(intro w _;go_simp;try with_reducible rfl)
    (try simp only[Act.put,lA,lB,lC])
    refine eA 19 (fun K hK=>?_)
    go_simp
    refine hK.out _ _ ?_
    clear hK K
    (try simp only[Act.put,lA,lB,lC])
    refine doneA (by kernel_rfl) ?_ _
    have BF:=hide hHeld.2.2
    go_wp2_with fail
    go_ret
    exact⟨rfl,BF.out⟩
end Go.Proofs.YtpaneomkphjpcaaGreatDoor
