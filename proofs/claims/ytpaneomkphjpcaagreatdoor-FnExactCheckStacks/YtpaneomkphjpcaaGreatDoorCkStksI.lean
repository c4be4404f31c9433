/- CheckStacks of the program. -/
import Derived.Test.YtpaneomkphjpcaaGreatDoorCkStkG
namespace Go.Proofs.YtpaneomkphjpcaaGreatDoor
open Go.ChangeShapes Go.WideShapes Go.ChangeAt Go.RowKit Go.Shelf Go.Deep
set_option linter.unusedVariables false
set_option linter.unusedSimpArgs false
attribute [local go_sem] Oper.semAt_some
theorem wpListIn_store_rec {F:Fence} {n:Nat} {ops:Array Oper} {rest:List Oper} {o:Oper} {a:Act} {w:World} {Q:Exit→Act→World→Prop} (hgd:o.guard=none) (ty:TypeId) (x y:Operand) (ho:o.op=.store ty x y)
 (g:Nat) (C:Array Value) (T:TypeId) (vs:List Value) (hx:a.eval x=.pointer (some ⟨g,0,none⟩)) (hy:a.eval y=.agg C) (hr:Rec w g T vs) (hi:(Tryz.prog.info? ty).map (·.size)=some C.size) (hold:vs.length=C.size) (h1:C.all (·.oneCell')=true)
 (h:∀w',Rec w' g T C.toList→Below g w w'→wpListIn F n Tryz.prog ops Q rest (a.put o.dst undef) w'):wpListIn F n Tryz.prog ops Q (o::rest) a w:=by
 refine wpListIn_plain hgd fun K hK'=>?_
 have hrun:=run_storeVar_row (P:=Tryz.prog) w g T ty vs.toArray C hr hi (by simpa using hold) h1
 unfold Oper.wpIn
 refine⟨?_,?_⟩
 ·simp[Oper.about,ho]
 ·rw[Oper.semAt_plain F _ _ (by rw[ho];intro c hc';cases hc')]
  simp only[execOp,ho,hx,hy,Instr.storeAt,Instr.sureAddr,Sem.run_bind,Sem.run_pure,Result.andThen_ok,hrun]
  exact hK' _ _ (h _ (setRow_rec hr C) (setRow_below w g g C (Nat.le_refl _)))
def stkN (p:GProg) (f:Int):Nat:=if(progOkF p&&(decide (0≤f)&&decide (f<(p.funs.length:Int))))=true then(wk p f.toNat).1 else 0
def ApartV (vs:List Value):Prop:=∀(i j g o n c g' o' n' c':Nat),i<j→vs[i]?=some (Value.slice (some ⟨g,o,none⟩) n c)→vs[j]?=some (Value.slice (some ⟨g',o',none⟩) n' c')→g<g'
def ApartS (pre:List Stk):Prop:=∀(i j:Nat) (x y:Stk) (ad ad':Addr),i<j→pre[i]?=some x→pre[j]?=some y→x.a=some ad→y.a=some ad'→ad.block<ad'.block
theorem ApartS.nil:ApartS []:=fun i j x y ad ad' _ h=>by simp at h
theorem ApartS.snoc {pre:List Stk} {x:Stk} {b:Nat} (h:ApartS pre) (hb:BelB b pre) (hx:∀ad,x.a=some ad→b≤ad.block):ApartS (pre++[x]):=fun i j u v ad ad' hij hi hj e e'=>by
 have hjl:=(List.getElem?_eq_some_iff.1 hj).1
 simp at hjl
 rw[List.getElem?_append_left (by omega)] at hi
 by_cases hc:j<pre.length
 ·rw[List.getElem?_append_left hc] at hj
  exact h i j u v ad ad' hij hi hj e e'
 ·rw[List.getElem?_append_right (by omega),show j-pre.length=0 by omega] at hj
  simp at hj
  subst hj
  exact Nat.lt_of_lt_of_le (hb u (List.mem_of_getElem? hi) ad e) (hx ad' e')
theorem ApartS.vals {pre:List Stk} (h:ApartS pre):ApartV (pre.map stkV):=fun i j g o n c g' o' n' c' hij hi hj=>by
 rw[List.getElem?_map] at hi hj
 obtain⟨x,hx,ex⟩:=Option.map_eq_some_iff.1 hi
 obtain⟨y,hy,ey⟩:=Option.map_eq_some_iff.1 hj
 unfold stkV at ex ey
 injection ex with e1 _ _
 injection ey with e2 _ _
 exact h i j x y _ _ hij hx hy e1 e2
theorem FdRow.base {w:World} {S n c:Nat} {a:Option Addr} {xs:List Fd} (h:FdRow w S (.slice a n c) xs):∀ad,a=some ad→S≤ad.block:=fun ad e=>by
 rcases h.2 with⟨h1,_⟩|⟨g,c',cur,h1,hS,_⟩
 ·injection h1 with h2 _ _
  rw[e] at h2;cases h2
 ·injection h1 with h2 _ _
  rw[e] at h2;injection h2 with h3
  rw[h3]
  exact hS
def StkPost (A:List Value→Prop) (w:World) (st:Nat→List Fd×Int) (n:Nat) (e:Ending) (w':World):Prop :=
 (∃a c vs,e=.returned (.slice a n c)∧vs.length=n∧A vs∧LRow w' w.heap.size (.slice a n c) vs∧Stks w' w.heap.size st vs)∧Below w.heap.size w w'
def StkRows (S:Nat) (st:Nat→List Fd×Int) (pre:List Stk) (W:World):Prop:=∀j x,pre[j]?=some x→FdRow W S (.slice x.a x.n x.c) (st j).1
theorem stkRows_own (S:Nat) (st:Nat→List Fd×Int):Go.Own (StkRows S st):=fun s X Y row hs hg hr j x hj=>by
 have h:=hs j x hj
 refine World.ownsRow.kept h hg ?_
 rcases h.2 with⟨h1,_⟩|⟨g,cap,cur,e,_,hc,_⟩
 ·exact .inl (by rw[h1];rfl)
 ·refine .inr fun e2=>?_
  obtain⟨o,ho,hf⟩:=hr g (by rw[←e2,e];rfl)
  rw[hc] at ho
  cases ho
  cases hf
theorem fd_own (S:Nat) (xs:List Fd):Go.Own (fun(x:Stk) (W:World)=>FdRow W S (.slice x.a x.n x.c) xs):=fun s X Y row hs hg hr=>by
 refine World.ownsRow.kept hs hg ?_
 rcases hs.2 with⟨h1,_⟩|⟨g,cap,cur,e,_,hc,_⟩
 ·exact .inl (by rw[h1];rfl)
 ·refine .inr fun e2=>?_
  obtain⟨o,ho,hf⟩:=hr g (by rw[←e2,e];rfl)
  rw[hc] at ho
  cases ho
  cases hf
theorem gRow_own (S:Nat) (st:Nat→List Fd×Int) (pre:List Stk):Go.Own (GRow S st pre):=fun s X Y row hs hg hr=>by
 obtain⟨bm,h1,h2,h3,h4⟩:=hs
 exact⟨bm,h1,Nat.le_trans h2 hg.size,fd_own bm _ s X Y row h3 hg hr,h4⟩
theorem StkRows.stks {S:Nat} {st:Nat→List Fd×Int} {L:Nat} {ys:List Stk} {W:World} (h:StkRows S st ys W) (hp:StkPath st L ys):Stks W S st (ys.map stkV):=fun j hj=>by
 have hj2:j<ys.length:=by simpa using hj
 obtain⟨x,hx⟩:∃x,ys[j]?=some x:=⟨_,List.getElem?_eq_getElem hj2⟩
 have e:=(hp.2 j x hx).1
 refine⟨x.a,x.c,?_,?_⟩
 ·rw[List.getElem?_map,hx,←e];rfl
 ·rw[←e];exact h j x hx
set_option maxRecDepth 100000 in
set_option maxHeartbeats 4000000 in
theorem checkStacks_walk {md:Bool} (ra ga fa:Option Addr) (rc cg cf lo hi:Nat) (p:GProg) (f:Int) (w:World) (hB:ProgB 1048576 p) (hx:PM md w lo hi ra ga fa p) (hl:lo≤hi) (hh:hi≤w.heap.size) (hp:pow10 w) :
 CallsIn Fence.wide 6 Tryz.prog 20 #[.agg #[.slice ra p.types.length rc,.slice ga p.glob.length cg,.slice fa p.funs.length cf],.int .i64 f] w fun e w'=>StkPost ApartV w (stP p f.toNat) (stkN p f) e w':=by
 obtain⟨F,hFw⟩:∃F,F=Fence.wide:=⟨_,rfl⟩
 rw[←hFw]
 have hfa:∀f,F.fn f:=fun f=>by rw[hFw];trivial
 have hro:F.round=none:=by rw[hFw];rfl
 have HCT:∀n f args w R,Calls Tryz.prog f args w R→CallsIn F n Tryz.prog f args w R:=fun n f args w R h=>by rw[hFw];exact callsIn_wide.2 h
 have HCI:=hide HCT
 have hf1:=hfa 48
 have hf2:=hfa 78
 have hf3:=hfa 70
 have hf4:=hfa 47
 have hf0:=hfa 20
 clear hFw HCT hfa
 have HFS:=hide (fun W (hb:Below w.heap.size w W)=>checkFunScope_any ra ga fa rc cg cf lo hi p f W hB (hx.keep (hb.mono hh)) hl (Nat.le_trans hh hb.size) (pow10_keep hp hb))
 have HN:Hid (stkN p f=if(progOkF p&&(decide (0≤f)&&decide (f<(p.funs.length:Int))))=true then(wk p f.toNat).1 else 0):=rfl
 have hl2:lo≤w.heap.size:=Nat.le_trans hl hh
 clear hB hx hp
 obtain⟨ZL,hZL⟩:∃z,z=scope0:=⟨_,rfl⟩
 have hZl:ZL.length=47:=by rw[hZL];rfl
 have P1:Hid (Rec (w.alloc (.cells #[.slice ra p.types.length rc,.slice ga p.glob.length cg,.slice fa p.funs.length cf] 37)) w.heap.size 37 [.slice ra p.types.length rc,.slice ga p.glob.length cg,.slice fa p.funs.length cf]):=Rec.new _ _ _
 have B1:Hid (Below w.heap.size w (w.alloc (.cells #[.slice ra p.types.length rc,.slice ga p.glob.length cg,.slice fa p.funs.length cf] 37))):=(Below.refl _ _).alloc (Nat.le_refl _) _
 refine callsIn_of_wp_marks Tryz.func20 rfl hf0 ?_ hro
 simp only[Tryz.ntmps20,List.size_toArray,List.length_cons,List.length_nil,Nat.reduceAdd,Nat.reduceSub,Array.replicate_succ,Array.replicate_zero,List.push_toArray,List.append_toArray,List.nil_append,List.cons_append]
 by_cases hok:FunOk (progOkF p) p.funs.length f
 ·have HC0:=hide (fun W (hb:Below w.heap.size w W)=>(HFS.out W hb).mono (R':=fun e w'=>(∃vs:List Value,e=.returned (.tuple #[.agg vs.toArray,.nilIface])∧Scp w' lo w'.heap.size p f.toNat vs)∧Below W.heap.size W w') fun e w' h=>⟨h.1.elim (fun q=>absurd hok q.1) (fun q=>q.2),h.2⟩)
  have hNN:Hid (stkN p f=(wk p f.toNat).1):=by show _=_;rw[HN.out,hok.1,decide_eq_true hok.2.1,decide_eq_true hok.2.2];rfl
  have hF:=pf_of hok.1
  have hk:f.toNat<p.funs.length:=by have:=hok.2;omega
  clear HFS HN hok
  gi_wp2_with (first|(gi_at_call 47;refine(HCI.out _ _ _ _ _ (HC0.out _ B1.out)).mono ?_;rintro e w2 ⟨⟨vs,rfl,hsp⟩,b2⟩;have B2:=hide (B1.out.trans (b2.mono B1.out.size));have HSP:=hide hsp;have v1:=hsp.len;have v2:=hsp.one;have hsz2:(Tryz.prog.info? 94).map (·.size)=some vs.toArray.size:=(by rw[List.size_toArray,v1];kernel_rfl);have hold:ZL.length=vs.toArray.size:=(by rw[List.size_toArray,v1];exact hZl);have ZA:Hid (Rec (w2.alloc (.cells scope0.toArray 94)) w2.heap.size 94 ZL):=(by show Rec _ _ _ _;rw[hZL];exact Rec.new _ _ _);clear hsp b2)|(refine wpListIn_store_rec rfl 94 _ _ rfl w2.heap.size vs.toArray 94 ZL rfl rfl ZA.out hsz2 hold v2 ?_;intro w3 r3 b3;have B3:=hide ((B2.out.alloc B2.out.size (.cells scope0.toArray 94)).trans (b3.mono B2.out.size));have G3:Hid (Rec w3 w2.heap.size 94 vs):=(by show Rec _ _ _ _;simpa using r3);have S3:Hid (Scp w3 lo w2.heap.size p f.toNat vs):=HSP.out.keep (((Below.refl w2.heap.size w2).alloc (Nat.le_refl _) _).trans b3);have hsz:(Tryz.prog.info? 94).map (·.size)=some vs.length:=(by rw[v1];kernel_rfl);have G4:=hide (G3.out.alloc (.cells #[.slice none 0 0] 47));clear r3 b3)|(refine wpListIn_load_rec rfl 94 _ rfl w2.heap.size 94 vs _ rfl G4.out Tryz.underlying94 rfl hsz ?_)|(gi_at_call 48;refine(stacks_in F _ hf1 hro _ _).mono ?_;rintro e w' ⟨rfl,rfl⟩))
  obtain⟨W0,hW0⟩:∃W0,W0=(w3.alloc (.cells #[.slice none 0 0] 47)).alloc (.cells vs.toArray 94):=⟨_,rfl⟩
  have w23:=G3.out.lt
  have BW:Hid (Below w3.heap.size w3 W0):=by show Below _ _ _;rw[hW0];exact((Below.refl _ _).alloc (Nat.le_refl _) _).alloc (by simp) _
  have hsz0:W0.heap.size=w3.heap.size+1+1:=by rw[hW0];simp
  have R3:Hid (Rec W0 w3.heap.size 47 [.slice none 0 0]):=by show Rec _ _ _ _;rw[hW0];exact(Rec.new _ _ [.slice none 0 0]).alloc _
  have R4:Hid (Rec W0 (w3.heap.size+1) 94 vs):=by show Rec _ _ _ _;rw[hW0];exact Rec.new' _ _ _ _ (by simp)
  have S0:=hide (S3.out.keep (BW.out.mono (Nat.le_of_lt w23)))
  have BWw:=hide (B3.out.trans (BW.out.mono B3.out.size))
  have s2:=B2.out.size
  rw[←hW0]
  clear hW0
  refine range_rows hro (by omega) (gf:=78) (lb:=#[.pointer (some ⟨w3.heap.size+1,0,none⟩)]) rfl hf2 (enters_of Tryz.func78 (by kernel_rfl) rfl)
   (stk_seqG F (6-1) hf2 hro (by omega) HCI (w3.heap.size+1) w3.heap.size lo w2.heap.size f.toNat p vs hF hk W0 S0.out R4.out (by omega) (by omega) (by omega) hf3) KpS.trans (KpS.put (by omega) (by omega)) (Below.refl _ _) (fun _=>rfl)
   (fun pre W=>(SndB w3.heap.size pre W∧StkRows w3.heap.size (stP p f.toNat) pre W∧ApartS pre)∧Rec W (w3.heap.size+1) 94 vs∧Below w3.heap.size W0 W)
   (OwnFrom.and (OwnFrom.and (Own.from (holdsRow_own w3.heap.size w3.heap.size 47 31 1 (fun pre:List Stk=>pre.length) (fun pre=>pre.map stkV) (fun pre v=>∃a cap,v=.slice a pre.length cap)) _) (OwnFrom.and (Own.from (stkRows_own _ _) _) (Own.from (fun s A B row hs hg hr=>hs) _))) (OwnFrom.and (Own.from (rec_own _ _ _) _) (ownFrom_below (by omega) (by omega))))
   (fun pre=>Own.from (gRow_own _ _ pre) _)
   ⟨⟨⟨.slice none 0 0,R3.out,World.ownsRow_nil _ _ _ _,none,0,rfl⟩,fun j x h=>by simp at h,ApartS.nil⟩,R4.out,Below.refl _ _⟩
   (fun x=>{ tmps:=#[.agg #[.slice ra p.types.length rc,.slice ga p.glob.length cg,.slice fa p.funs.length cf],.int .i64 f,.pointer (some ⟨w.heap.size,0,none⟩),undef,.slice none 0 0,.pointer (some ⟨w2.heap.size,0,none⟩),.nilIface,.pointer (some ⟨w3.heap.size,0,none⟩),.slice x.a x.n x.c,.tuple #[.agg vs.toArray,.nilIface],.agg #[.slice ra p.types.length rc,.slice ga p.glob.length cg,.slice fa p.funs.length cf],.int .i64 f,.tuple #[.agg vs.toArray,.nilIface],.agg vs.toArray,.nilIface,.nilIface,.bool false,.agg vs.toArray,.func (.func 78) #[] #[.pointer (some ⟨w3.heap.size+1,0,none⟩)],.slice x.a x.n x.c,errO f.toNat x.e,undef,undef,undef,undef,undef],defers:=[] }) ?assign ?body ?done
  case assign =>
   intro l x W K hK
   gi_wp2
   exact hK
  case body =>
   rintro l pre ⟨xa,xn,xc,xe⟩ W ⟨⟨⟨v,hbx,hrow,a,cap,rfl⟩,hrows,hap⟩,hrec,hB⟩ hlen hGx
   obtain⟨i0,hi0,hzz⟩:=Option.map_eq_some_iff.1 Tryz.infoFdS
   simp only[Prod.mk.injEq] at hzz
   obtain⟨hz0,hs0,hb0⟩:=hzz
   have hL30:=(hF.fn f.toNat hk).bl
   have HI0:=hide hi0
   have HBX:=hide hbx
   have HRW:=hide hrow
   have HRC:=hide hrec
   have HRS:=hide hrows
   have HAP:Hid (ApartS (pre++[⟨xa,xn,xc,xe⟩])):=(by obtain⟨bm,q1,_,q2,q3⟩:=hGx;exact hap.snoc q3 (FdRow.base q2))
   have HGX:Hid (FdRow W w3.heap.size (.slice xa xn xc) (stP p f.toNat pre.length).1):=(by obtain⟨bm,q1,_,q2,_⟩:=hGx;exact FdRow.lower q2 q1)
   have k1:=hbx.cell
   have k2:=hbx.frozen
   have hsW:w3.heap.size+1+1≤W.heap.size:=by have:=hB.size;omega
   have HBW:=hide hB
   clear hi0 hbx hrow hrec hB hrows hGx
   gi_wp2_with (first|(refine wpListIn_append_own _ rfl _ _ 47 rfl w3.heap.size 31 i0 _ 1 24 Tryz.underlying47 HI0.out hz0 hs0 hb0 rfl (by decide) (.slice a pre.length cap) pre.length (pre.map stkV) rfl (World.ownsRow.alloc HRW.out _) ⟨W.heap.size,0,none⟩ 1 1 [.slice xa xn xc] rfl rfl (World.news_of_block (Deep.blk_alloc_new _ _)) (by intro u hu;simp at hu;subst hu;rfl) (by unfold maxLen;omega) (by omega) (by simp;omega) ?_;intro v' w9 hown' hgr hiff;obtain⟨g5,cap5,rfl⟩:=ownsRow_succ hown';have HA:=hide (Boxed.appended HBX.out (by decide) HRW.out (by omega) (Nat.le_refl _) hown' hgr);have HKK:Hid (∀(j:Nat) (T:TypeId) (cur:Array Value),W.heap[j]?=some (Obj.cells cur T (0,0))→T≠47→T≠31→(w9.setCell ⟨w3.heap.size,0,none⟩ (.slice (some ⟨g5,0,none⟩) (pre.length+1) cap5)).heap[j]?=W.heap[j]?):=hide (fun j T cur hj h1 h2=>app_keep HBX.out HRW.out hgr hj h1 h2);clear hown' hgr hiff;have c1:=HA.out.1.cell;have c2:=HA.out.1.frozen))
   have hkt:KeepT 68 W (w9.setCell ⟨w3.heap.size,0,none⟩ (.slice (some ⟨g5,0,none⟩) (pre.length+1) cap5)):=fun j cur hj=>HKK.out j _ cur hj (by decide) (by decide)
   refine⟨HA.out.2.2.2.1,⟨HA.out.2.2.2.2,HKK.out _ _ _ HRC.out (by decide) (by decide),hkt⟩,⟨⟨_,HA.out.2.1,?_,?_⟩,?_,HAP.out⟩,?_,?_⟩
   ·have:=HA.out.2.2.1
    rw[List.length_append,List.map_append]
    exact this
   ·rw[List.length_append];exact⟨_,_,rfl⟩
   ·intro j x hj
    by_cases e:j<pre.length
    ·rw[List.getElem?_append_left e] at hj
     exact fdRow_keepT (HRS.out j x hj) hkt
    ·rw[List.getElem?_append_right (by omega)] at hj
     obtain rfl:j=pre.length:=by
      have:=(List.getElem?_eq_some_iff.1 hj).1
      simp at this;omega
     simp at hj
     subst hj
     exact fdRow_keepT HGX.out hkt
   ·exact(HKK.out _ _ _ HRC.out (by decide) (by decide)).trans HRC.out
   ·exact HBW.out.trans HA.out.2.2.2.2
  case done =>
   rintro D ys W hD ⟨hpa,hend⟩ ⟨⟨⟨v,hbx,hrow,a,cap,rfl⟩,hrows,hap⟩,hrec,hB⟩ hK
   have hyl:ys.length=stkN p f:=by
    rw[hNN.out]
    unfold wk
    rcases hend with⟨h1,h2⟩|⟨j,h1,h2⟩
    ·rw[wkF_ok _ _ (fun i hi=>h2 i (by omega)),h1,Nat.zero_add]
    ·have hx:ys[j]?=some ys[j]:=List.getElem?_eq_getElem (by omega)
     have hle:=hpa.1
     rw[wkF_at _ _ j (Nat.zero_le _) (by omega) (hpa.2 j _ hx).2.2 h2,h1]
   have k1:=hbx.cell
   have HBf:=hide (fin_below (w:=w) (BWw.out.trans (hB.mono (by have:=B3.out.size;omega))) (by have:=B3.out.size;omega) hK)
   have HST:=hide ((StkRows.stks ((stkRows_own _ _).putObj (.deferred none) hrows hK rfl) hpa).lower (show w.heap.size≤w3.heap.size by have:=B3.out.size;omega))
   have HLR:=hide (owns_lower (ownsRow_putObj hrow (.deferred none) hK rfl) (show w.heap.size≤w3.heap.size by have:=B3.out.size;omega))
   clear hrow hrows hpa hend
   gi_wp2
   refine⟨by simp,.inl ⟨_,_,rfl,run_takeDeferred hK,?_⟩⟩
   refine⟨.slice a ys.length cap,?_,⟨a,cap,ys.map stkV,?_,?_,hap.vals,?_,HST.out⟩,HBf.out⟩
   ·simp[results,Tryz.f20,go_sem];first|done|exact hyl.symm
   ·rw[hyl]
   ·rw[List.length_map,hyl]
   ·rw[←hyl]
    refine⟨?_,fun u hu=>?_⟩
    ·rw[List.length_map];exact HLR.out
    ·obtain⟨x,_,rfl⟩:=List.mem_map.1 hu;rfl
 ·have HC0:=hide (fun W (hb:Below w.heap.size w W)=>(HFS.out W hb).mono (R':=fun e w'=>e=.returned (.tuple #[.agg scope0.toArray,.iface 125 (.agg #[.int .i64 0,.int .i64 0,.int .i64 7])])∧Below W.heap.size W w') fun e w' h=>⟨h.1.elim (fun q=>q.2) (fun q=>absurd q.1 hok),h.2⟩)
  have hNN:Hid (stkN p f=0):=by
   show _=_
   rw[HN.out,if_neg]
   intro h2
   simp only[Bool.and_eq_true,decide_eq_true_eq] at h2
   exact hok h2
  have hZa:ZL.length=scope0.toArray.size:=by rw[hZL];rfl
  clear HFS HN hok
  gi_wp2_with (first|(gi_at_call 47;refine(HCI.out _ _ _ _ _ (HC0.out _ B1.out)).mono ?_;rintro e w2 ⟨rfl,b2⟩;have B2:=hide (B1.out.trans (b2.mono B1.out.size));have ZA:Hid (Rec (w2.alloc (.cells scope0.toArray 94)) w2.heap.size 94 ZL):=(by show Rec _ _ _ _;rw[hZL];exact Rec.new _ _ _);clear b2)|(refine wpListIn_store_rec rfl 94 _ _ rfl w2.heap.size scope0.toArray 94 ZL rfl rfl ZA.out (by kernel_rfl) hZa scope0_one ?_;intro w3 r3 b3;have B3:=hide ((B2.out.alloc B2.out.size (.cells scope0.toArray 94)).trans (b3.mono B2.out.size));clear r3 b3))
  refine⟨.slice none 0 0,by simp[results,Tryz.f20,go_sem],?_⟩
  rw[hNN.out]
  exact⟨⟨none,0,[],rfl,rfl,fun i j g o n c g' o' n' c' _ h=>by simp at h,⟨⟨rfl,.inl ⟨rfl,rfl⟩⟩,fun u h=>by cases h⟩,Stks.nil _ _ _⟩,B3.out⟩
theorem implCheckStacks_any {md:Bool} (ra ga fa:Option Addr) (rc cg cf lo hi:Nat) (p:GProg) (f:Int) (w:World) (hB:ProgB 1048576 p) (hx:PM md w lo hi ra ga fa p) (hl:lo≤hi) (hh:hi≤w.heap.size) (hp:pow10 w) :
 Calls Tryz.prog 20 #[.agg #[.slice ra p.types.length rc,.slice ga p.glob.length cg,.slice fa p.funs.length cf],.int .i64 f] w fun e w'=>StkPost ApartV w (stP p f.toNat) (stkN p f) e w':=callsIn_wide.1 (checkStacks_walk ra ga fa rc cg cf lo hi p f w hB hx hl hh hp)
end Go.Proofs.YtpaneomkphjpcaaGreatDoor
