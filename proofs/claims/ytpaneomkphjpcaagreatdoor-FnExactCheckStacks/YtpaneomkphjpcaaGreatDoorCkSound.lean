/- sound of the program's scope: a range over the stacks. -/
import Derived.Test.YtpaneomkphjpcaaGreatDoorCkStk
import Derived.Test.YtpaneomkphjpcaaGreatDoorPcUp
namespace Go.Proofs.YtpaneomkphjpcaaGreatDoor
open Go.ChangeShapes Go.WideShapes Go.ChangeAt Go.RowKit Go.Shelf Go.Deep
set_option linter.unusedVariables false
set_option linter.unusedSimpArgs false
attribute [local go_sem] Oper.semAt_some
set_option maxHeartbeats 400000 in
theorem implInsJumps_any (op a b:Int) (w:World) :
 Calls Tryz.prog 116 #[.agg #[.int .i64 op,.int .i64 a,.int .i64 b]] w fun e w'=>e=.returned (.bool (decide (op=25∨op=26)))∧Below w.heap.size w w':=by
 go_enter Tryz.func116,Tryz.ntmps116
 go_wp2
 all_goals go_ret
 all_goals refine⟨ret_bool ?_,(Below.refl _ _).alloc (Nat.le_refl _) _⟩
 all_goals (rw[Bool.eq_iff_iff];simp_all)
theorem wkF_at {p:GProg} {k:Nat}:∀m n j,n≤j→j<n+m→(∀i,i≤j→(stP p k i).2=0)→(stP p k (j+1)).2≠0→wkF p k m n=(j+1,(stP p k (j+1)).2)
 | 0,n,j,h1,h2,_,_=>by omega
 | m+1,n,j,h1,h2,h3,h4=>by
  unfold wkF
  by_cases e:j=n
  ·subst e;rw[if_pos h4]
  ·rw[if_neg (fun h=>h (h3 (n+1) (by omega)))]
   exact wkF_at m (n+1) j (by omega) (by omega) h3 h4
theorem wkF_ok {p:GProg} {k:Nat}:∀m n,(∀i,i≤n+m→(stP p k i).2=0)→wkF p k m n=(n+m,0)
 | 0,n,_=>rfl
 | m+1,n,h=>by
  unfold wkF
  rw[if_neg (fun e=>e (h (n+1) (by omega))),wkF_ok m (n+1) (fun i hi=>h i (by omega)),show n+1+m=n+(m+1) by omega]
theorem app_keep {W w1:World} {n₀ B size k:Nat} {t e:TypeId} {v v':Value} {xs:List Value} {tmp:Obj} (hv:Boxed W B t v) (hrow:W.ownsRow n₀ e size v k xs) (hgrow:(W.alloc tmp).grownBy w1 v.ownBlock) {j:Nat} {T:TypeId} {cur:Array Value} (hj:W.heap[j]?=some (Obj.cells cur T (0,0))) (h1:T≠t) (h2:T≠e) :
 (w1.setCell ⟨B,0,none⟩ v').heap[j]?=W.heap[j]?:=by
 have hlt:=(Array.getElem?_eq_some_iff.1 hj).1
 have n1:j≠B:=fun e'=>by
  subst e'
  have:=(show W.heap[j]?=_ from hv).symm.trans hj
  simp at this
  exact h1 this.2.symm
 have n2:some j≠v.ownBlock:=by
  rcases hrow.2 with⟨rfl,_⟩|⟨g,cap,cur',rfl,_,hgb,_⟩
  ·simp[Value.ownBlock]
  ·intro e'
   obtain rfl:j=g:=by simpa[Value.ownBlock] using e'
   have:=hgb.symm.trans hj
   simp at this
   exact h2 this.2.symm
 exact(Below.heap_setCell _ _ _ j n1).trans ((hgrow.block j (by simp;omega) n2).trans (Below.heap_alloc _ _ _ hlt))
theorem rec_own {β:Type} (B:Nat) (T:TypeId) (vs:List Value):Go.Own (fun(_:β) (W:World)=>Rec W B T vs):=fun s X Y row hs hg hr=>(hg.block B hs.lt (fun e=>by
 obtain⟨o,ho,hc⟩:=hr B e.symm
 rw[show X.heap[B]?=_ from hs] at ho;cases ho;cases hc)).trans hs
def stkV (x:Stk):Value:=.slice x.a x.n x.c
def SndB (bx:Nat) (pre:List Stk) (W:World):Prop:=∃v,Boxed W bx 47 v∧W.ownsRow bx 31 1 v pre.length (pre.map stkV)∧∃a cap,v=.slice a pre.length cap
def resV (k:Nat) (r:Int×Int):Value:=if r.2=0 then .nilIface else faultV (k:Int) r.1 r.2
theorem resV_no {k:Nat} {a b:Int} (h:b≠0):resV k (a,b)=faultV (k:Int) a b:=if_neg h
theorem resV_ok {k:Nat} {a:Int}:resV k (a,0)=.nilIface:=if_pos rfl
theorem fin_cell {V:World} {D b:Nat} {T:TypeId} {x:Value} (h:Rec V b T [x]) (hK:V.heap[D]?=some (.deferred (some []))):(V.putObj D (.deferred none)).cell? ⟨b,0,none⟩=some x :=
 cell_kept (h.cell (o:=0) rfl) (grownBy_putObj' _ D (.deferred none)) (fun r e=>by cases e;exact⟨_,hK,rfl⟩)
theorem fin_below {w V:World} {D:Nat} (hb:Below w.heap.size w V) (hD:w.heap.size≤D) (hK:V.heap[D]?=some (.deferred (some []))):Below w.heap.size w (V.putObj D (.deferred none)) :=
 hb.grown (grownBy_putObj' V D (.deferred none)) hb.size (fun k e=>by cases e;exact hD)
structure SndW (b bx D:Nat) (sv:List Value) (av:Value) (W:World):Prop where
 r0:Rec W b 94 sv
 r1:Rec W (b+1) 47 [.slice none 0 0]
 r2:Rec W (b+1+1) 72 [.nilIface]
 r3:Rec W bx 47 [av]
 dk:W.heap[D]?=some (.deferred (some []))
theorem SndW.keep {b bx D:Nat} {sv:List Value} {av:Value} {W W':World} (h:SndW b bx D sv av W) (hb:Below W.heap.size W W'):SndW b bx D sv av W' :=
 ⟨h.r0.below hb h.r0.lt,h.r1.below hb h.r1.lt,h.r2.below hb h.r2.lt,h.r3.below hb h.r3.lt,(hb.block D (Array.getElem?_eq_some_iff.1 h.dk).1).trans h.dk⟩
theorem SndW.fault {b bx D:Nat} {sv:List Value} {av x y:Value} {W:World} (h:SndW b bx D sv av W):Rec ((W.setCell ⟨b+1,0,none⟩ x).setCell ⟨b+1+1,0,none⟩ y) (b+1) 47 [x]∧Rec ((W.setCell ⟨b+1,0,none⟩ x).setCell ⟨b+1+1,0,none⟩ y) (b+1+1) 72 [y]∧((W.setCell ⟨b+1,0,none⟩ x).setCell ⟨b+1+1,0,none⟩ y).heap[D]?=some (.deferred (some [])) :=
 ⟨(h.r1.set 0 x).other (by omega) 0 y,(h.r2.other (by omega) 0 x).set 0 y,by
  have n1:D≠b+1:=fun e=>by have:=h.dk;rw[e,h.r1] at this;cases this
  have n2:D≠b+1+1:=fun e=>by have:=h.dk;rw[e,h.r2] at this;cases this
  exact(Below.heap_setCell _ _ _ D n2).trans ((Below.heap_setCell _ _ _ D n1).trans h.dk)⟩
set_option maxRecDepth 100000 in
set_option maxHeartbeats 4000000 in
theorem sound_walk (lo hi k:Nat) (p:GProg) (sv:List Value) (hF:PF p) (hk:k<p.funs.length) (w:World) (hs:Scp w lo hi p k sv) (hlo:lo≤hi) :
 CallsIn Fence.wide 6 Tryz.prog 79 #[.agg sv.toArray] w fun e w'=>(∃a n c,e=.returned (.tuple #[.slice a n c,resV k (funF p k)]))∧Below w.heap.size w w':=by
 have hmo:Tryz.prog.follows .mixedOrders=true:=by kernel_rfl
 obtain⟨F,hFw⟩:∃F,F=Fence.wide:=⟨_,rfl⟩
 rw[←hFw]
 have hfa:∀f,F.fn f:=fun f=>by rw[hFw];trivial
 have hro:F.round=none:=by rw[hFw];rfl
 have HCT:∀n f args w R,Calls Tryz.prog f args w R→CallsIn F n Tryz.prog f args w R:=fun n f args w R h=>by rw[hFw];exact callsIn_wide.2 h
 have HCI:=hide HCT
 have hf1:=hfa 48
 have hf2:=hfa 78
 have hf3:=hfa 70
 have hf4:=hfa 105
 have hf5:=hfa 116
 have hf6:=hfa 102
 have hf0:=hfa 79
 clear hFw HCT hfa
 have hff:=hF.fn k hk
 obtain⟨ba,bc,e45,hin⟩:=hs.bd
 have hsl:=hs.len
 have e39:=hs.pl
 rcases hin with h00|⟨ib,io,rfl,u1,u2,_,u3⟩
 ·have:=hff.b0;rw[h00] at this;exact absurd this (Nat.not_lt_zero _)
 have hsz:(Tryz.prog.info? 94).map (·.size)=some sv.length:=by rw[hsl];kernel_rfl
 have hL30:=hff.bl
 have hL0:=hff.b0
 have hhw:=hs.hh
 have HWA:Hid ((∀j,j≤(funAt' p.funs k).body.length→(stP p k j).2=0)→wk p k=((funAt' p.funs k).body.length,0)):=fun h=>by unfold wk;rw[wkF_ok _ _ (fun i hi=>h i (by omega)),Nat.zero_add]
 have HWB:Hid (∀j,j<(funAt' p.funs k).body.length→(∀i,i≤j→(stP p k i).2=0)→(stP p k (j+1)).2≠0→wk p k=(j+1,(stP p k (j+1)).2)):=fun j hj h1 h2=>wkF_at _ _ j (Nat.zero_le _) (by omega) h1 h2
 have HJ:Hid ((wk p k).2=0→∀i,i<(funAt' p.funs k).body.length→(insAt' (funAt' p.funs k).body i).op=25∨(insAt' (funAt' p.funs k).body i).op=26→0≤(insAt' (funAt' p.funs k).body i).a∧(insAt' (funAt' p.funs k).body i).a<((funAt' p.funs k).body.length:Int)):=fun h i hi ho=>jump_in hF hk h hi ho
 have HB0:Hid (∀i,i<(funAt' p.funs k).body.length→jpBad p k i=(decide ((insAt' (funAt' p.funs k).body i).op=25∨(insAt' (funAt' p.funs k).body i).op=26)&&decide (0<(stP p k (insAt' (funAt' p.funs k).body i).a.toNat).1.length))):=fun _ _=>rfl
 have HJS:Hid (∀i,i<(funAt' p.funs k).body.length→jpF p k ((funAt' p.funs k).body.length-i) i=if jpBad p k i=true then((i:Int),4) else jpF p k ((funAt' p.funs k).body.length-(i+1)) (i+1)):=fun _ h=>jpF_step h
 have HJE:Hid (jpF p k ((funAt' p.funs k).body.length-(funAt' p.funs k).body.length) (funAt' p.funs k).body.length=(0,0)):=jpF_end
 have HFN:Hid (funF p k=if(wk p k).2≠0 then(((wk p k).1:Int)-1,(wk p k).2) else if lvF (insAt' (funAt' p.funs k).body ((funAt' p.funs k).body.length-1)).op=false then(((funAt' p.funs k).body.length:Int)-1,6) else jpF p k (funAt' p.funs k).body.length 0):=rfl
 have HIN:Hid (∀i,i<(funAt' p.funs k).body.length→w.cell? ⟨ib,io+i*3,none⟩=some (.int .i64 (insAt' (funAt' p.funs k).body i).op)∧w.cell? ⟨ib,io+i*3+1,none⟩=some (.int .i64 (insAt' (funAt' p.funs k).body i).a)∧w.cell? ⟨ib,io+i*3+2,none⟩=some (.int .i64 (insAt' (funAt' p.funs k).body i).b)):=u3
 have HSC:=hide hs
 have HFT:=hide (fun(W:World) (pc code:Int)=>scopeFault_any sv (k:Int) pc code W e39)
 have HST:=hide (fun(W:World) Bs n₁ (hs:Scp W lo hi p k sv) (hb:Rec W Bs 94 sv) (hhi:hi≤n₁) (hn₁:n₁≤W.heap.size)=>stk_stops F (6-1) hf2 hro (by omega) HCI Bs n₁ lo hi k p sv hF hk W hs hb hhi hn₁ hlo hf3)
 clear hF hs u3 hff
 have hib:ib<w.heap.size:=by omega
 generalize funF p k=R at *
 generalize wk p k=WK at *
 generalize jpF p k=jf at *
 generalize jpBad p k=jb at *
 generalize stP p k=st at *
 generalize funAt' p.funs k=FN at *
 obtain⟨ts,gv,os,bs⟩:=FN
 simp only at e45 hL30 hL0 HST HWA HWB HJ HB0 HJS HJE HFN HIN
 refine callsIn_of_wp_marks Tryz.func79 rfl hf0 ?_ hro
 simp only[Tryz.ntmps79,List.size_toArray,List.length_cons,List.length_nil,Nat.reduceAdd,Nat.reduceSub,Array.replicate_succ,Array.replicate_zero,List.push_toArray,List.append_toArray,List.nil_append,List.cons_append]
 have RB:Hid (Rec ((((w.alloc (.cells sv.toArray 94)).alloc (.cells #[.slice none 0 0] 47)).alloc (.cells #[.nilIface] 72)).alloc (.cells #[.slice none 0 0] 47)) w.heap.size 94 sv):=(((Rec.new _ _ _).alloc _).alloc _).alloc _
 gi_wp2_with (first|(refine wpListIn_load_rec rfl 94 _ rfl w.heap.size 94 sv _ rfl RB.out Tryz.underlying94 rfl hsz ?_)|(gi_at_call 48;refine(stacks_in F _ hf1 hro _ _).mono ?_;rintro e w' ⟨rfl,rfl⟩))
 obtain⟨W0,hW0⟩:∃W0,W0=((((w.alloc (.cells sv.toArray 94)).alloc (.cells #[.slice none 0 0] 47)).alloc (.cells #[.nilIface] 72)).alloc (.cells #[.slice none 0 0] 47)).alloc (.cells sv.toArray 94):=⟨_,rfl⟩
 have B0:Hid (Below w.heap.size w W0):=by
  show Below _ _ _
  rw[hW0]
  refine(((((Below.refl _ w).alloc (Nat.le_refl _) _).alloc ?_ _).alloc ?_ _).alloc ?_ _).alloc ?_ _<;>simp<;>omega
 have hsz0:W0.heap.size=w.heap.size+1+1+1+1+1:=by rw[hW0];simp
 have R0:Hid (Rec W0 w.heap.size 94 sv):=by show Rec _ _ _ _;rw[hW0];exact RB.out.alloc _
 have R1:Hid (Rec W0 (w.heap.size+1) 47 [.slice none 0 0]):=by show Rec _ _ _ _;rw[hW0];exact(((Rec.new' _ _ [.slice none 0 0] _ (by simp)).alloc _).alloc _).alloc _
 have R2:Hid (Rec W0 (w.heap.size+1+1) 72 [.nilIface]):=by show Rec _ _ _ _;rw[hW0];exact((Rec.new' _ _ [.nilIface] _ (by simp)).alloc _).alloc _
 have R3:Hid (Rec W0 (w.heap.size+1+1+1) 47 [.slice none 0 0]):=by show Rec _ _ _ _;rw[hW0];exact(Rec.new' _ _ [.slice none 0 0] _ (by simp)).alloc _
 have R4:Hid (Rec W0 (w.heap.size+1+1+1+1) 94 sv):=by show Rec _ _ _ _;rw[hW0];exact Rec.new' _ _ _ _ (by simp)
 have S0:=hide (HSC.out.keepW B0.out)
 rw[←hW0]
 clear hW0 RB
 refine wpIn_rangeFunc_ownF hro (by omega) (gf:=78) (lb:=#[.pointer (some ⟨w.heap.size+1+1+1+1,0,none⟩)]) rfl hf2 (enters_of Tryz.func78 (by kernel_rfl) rfl)
  (HST.out W0 (w.heap.size+1+1+1+1) (w.heap.size+1+1+1) S0.out R4.out (by omega) (by omega)) KpS.trans (KpS.put (by omega) (by omega)) (Below.refl _ _) (fun _=>rfl)
  (fun pre W=>(SndB (w.heap.size+1+1+1) pre W∧(∀x∈pre,x.e=none))∧Rec W (w.heap.size+1+1+1+1) 94 sv∧Below (w.heap.size+1+1+1) W0 W)
  (fun c pre W=>(c=.ret∧∃x∈pre,∃pc code,x.e=some (pc,code)∧W.cell? ⟨w.heap.size+1,0,none⟩=some (.slice none 0 0)∧W.cell? ⟨w.heap.size+1+1,0,none⟩=some (faultV (k:Int) pc code))∧Below w.heap.size w W)
  (OwnFrom.and (OwnFrom.and (Own.from (holdsRow_own (w.heap.size+1+1+1) (w.heap.size+1+1+1) 47 31 1 (fun pre:List Stk=>pre.length) (fun pre=>pre.map stkV) (fun pre v=>∃a cap,v=.slice a pre.length cap)) _) (Own.from (fun s A B row hs hg hr=>hs) _)) (OwnFrom.and (Own.from (rec_own _ _ _) _) (ownFrom_below (by omega) (by omega))))
  (fun c=>OwnFrom.and (Own.from (fun s A B row hs hg hr=>by obtain⟨h1,x,hx,pc,code,h2,h3,h4⟩:=hs;exact⟨h1,x,hx,pc,code,h2,cell_kept h3 hg hr,cell_kept h4 hg hr⟩) _) (ownFrom_below (Nat.le_refl _) (by omega)))
  ⟨⟨⟨.slice none 0 0,R3.out,World.ownsRow_nil _ _ _ _,none,0,rfl⟩,fun x hx=>by cases hx⟩,R4.out,Below.refl _ _⟩
  (fun x=>{ tmps:=#[.agg sv.toArray,.pointer (some ⟨w.heap.size,0,none⟩),.pointer (some ⟨w.heap.size+1,0,none⟩),.pointer (some ⟨w.heap.size+1+1,0,none⟩),.pointer (some ⟨w.heap.size+1+1+1,0,none⟩),.slice x.a x.n x.c,errO k x.e,undef,undef,undef,.agg sv.toArray,.func (.func 78) #[] #[.pointer (some ⟨w.heap.size+1+1+1+1,0,none⟩)],.slice x.a x.n x.c,errO k x.e,undef,undef,undef,undef,undef,undef,undef,undef,undef,undef,undef,undef,undef,undef,undef,undef,undef,undef,undef,undef,undef,undef,undef,undef,undef,undef,undef,undef,undef,undef,undef,undef,undef,undef,undef,undef,undef,undef,undef,undef,undef,undef,undef,undef,undef,undef,undef,undef],defers:=[] }) ?assign ?body ?done ?stop
 case assign =>
  intro l x W K hK
  gi_wp2
  exact hK
 case body =>
  rintro l pre ⟨xa,xn,xc,xe⟩ W ⟨⟨⟨v,hbx,hrow,a,cap,rfl⟩,hall⟩,hrec,hB⟩ hlen
  cases xe with
  | none =>
   obtain⟨i0,hi0,hzz⟩:=Option.map_eq_some_iff.1 Tryz.infoFdS
   simp only[Prod.mk.injEq] at hzz
   obtain⟨hz0,hs0,hb0⟩:=hzz
   have HI0:=hide hi0
   have HBX:=hide hbx
   have HRW:=hide hrow
   have HRC:=hide hrec
   have k1:=hbx.cell
   have k2:=hbx.frozen
   have hsW:w.heap.size+1+1+1+1+1≤W.heap.size:=by have:=hB.size;omega
   have HBW:=hide hB
   have HALL:=hide hall
   clear hi0 hbx hrow hrec hB hall
   simp only[errO]
   gi_wp2_with (first|(refine wpListIn_append_own _ rfl _ _ 47 rfl (w.heap.size+1+1+1) 31 i0 _ 1 24 Tryz.underlying47 HI0.out hz0 hs0 hb0 rfl (by decide) (.slice a pre.length cap) pre.length (pre.map stkV) rfl (World.ownsRow.alloc HRW.out _) ⟨W.heap.size,0,none⟩ 1 1 [.slice xa xn xc] rfl rfl (World.news_of_block (Deep.blk_alloc_new _ _)) (by intro u hu;simp at hu;subst hu;rfl) (by unfold maxLen;omega) (by omega) (by simp;omega) ?_;intro v' w3 hown' hgr hiff;obtain⟨g5,cap5,rfl⟩:=ownsRow_succ hown';have HA:=hide (Boxed.appended HBX.out (by decide) HRW.out (by omega) (Nat.le_refl _) hown' hgr);have HKK:Hid (∀(j:Nat) (T:TypeId) (cur:Array Value),W.heap[j]?=some (Obj.cells cur T (0,0))→T≠47→T≠31→(w3.setCell ⟨w.heap.size+1+1+1,0,none⟩ (.slice (some ⟨g5,0,none⟩) (pre.length+1) cap5)).heap[j]?=W.heap[j]?):=hide (fun j T cur hj h1 h2=>app_keep HBX.out HRW.out hgr hj h1 h2);clear hown' hgr hiff;have c1:=HA.out.1.cell;have c2:=HA.out.1.frozen))
   refine⟨HA.out.2.2.2.1,⟨HA.out.2.2.2.2,HKK.out _ _ _ HRC.out (by decide) (by decide),fun j cur hj=>HKK.out j _ cur hj (by decide) (by decide)⟩,⟨⟨_,HA.out.2.1,?_,?_⟩,?_⟩,?_,?_⟩
   ·have:=HA.out.2.2.1
    rw[List.length_append,List.map_append]
    exact this
   ·rw[List.length_append];exact⟨_,_,rfl⟩
   ·intro x hx
    rcases List.mem_append.1 hx with hx|hx
    ·exact HALL.out x hx
    ·rw[List.mem_singleton.1 hx]
   ·exact(HKK.out _ _ _ HRC.out (by decide) (by decide)).trans HRC.out
   ·exact HBW.out.trans HA.out.2.2.2.2
  | some pc =>
   obtain⟨pc,code⟩:=pc
   have r1:Rec W (w.heap.size+1) 47 [.slice none 0 0]:=(hB.block (w.heap.size+1) (by omega)).trans R1.out
   have r2:Rec W (w.heap.size+1+1) 72 [.nilIface]:=(hB.block (w.heap.size+1+1) (by omega)).trans R2.out
   have r3:Rec ((W.setCell ⟨w.heap.size+1,0,none⟩ (.slice none 0 0)).setCell ⟨w.heap.size+1+1,0,none⟩ (faultV (k:Int) pc code)) (w.heap.size+1) 47 [.slice none 0 0]:=(r1.set 0 (.slice none 0 0)).other (by omega) 0 _
   have r4:Rec ((W.setCell ⟨w.heap.size+1,0,none⟩ (.slice none 0 0)).setCell ⟨w.heap.size+1+1,0,none⟩ (faultV (k:Int) pc code)) (w.heap.size+1+1) 72 [faultV (k:Int) pc code]:=(r2.other (by omega) 0 (.slice none 0 0)).set 0 _
   have bb:Below w.heap.size w ((W.setCell ⟨w.heap.size+1,0,none⟩ (.slice none 0 0)).setCell ⟨w.heap.size+1+1,0,none⟩ (faultV (k:Int) pc code)):=((B0.out.trans (hB.mono (by omega))).setCell (by show w.heap.size≤w.heap.size+1;omega) _).setCell (by show w.heap.size≤w.heap.size+1+1;omega) _
   have HBB:=hide bb
   have H3:=hide (r3.cell (o:=0) rfl)
   have H4:=hide (r4.cell (o:=0) rfl)
   have c1:=r1.cell (o:=0) rfl
   have c2:=r2.cell (o:=0) rfl
   have d1:=r1.frozen 0
   have d2:=r2.frozen 0
   have l1:=r1.lt
   have l2:=r2.lt
   clear r1 r2 r3 r4 bb hbx hrow hrec hB
   unfold faultV at H3 H4 HBB
   simp only[errO,faultV]
   gi_wp2
   exact⟨(KeepsOthers.setCell _ _ _).trans (KeepsOthers.setCell _ _ _),⟨rfl,⟨xa,xn,xc,some (pc,code)⟩,by simp,pc,code,rfl,H3.out,H4.out⟩,HBB.out⟩
 case done =>
  rintro D ys W hD ⟨⟨hpl,hpa⟩,hend⟩ ⟨⟨⟨v,hbx,hrow,a,cap,rfl⟩,hall⟩,hrec,hB⟩ hK
  have hend2:ys.length=bs.length∧∀j,j≤bs.length→(st j).2=0:=by
   rcases hend with h|⟨j,hj,hne⟩
   ·exact h
   ·exfalso
    obtain⟨x,hx⟩:∃x,ys[j]?=some x:=⟨_,List.getElem?_eq_getElem (by omega)⟩
    have h1:=(hpa j x hx).2.1
    rw[hall x (List.mem_of_getElem? hx)] at h1
    unfold stErr at h1
    rw[if_neg hne] at h1
    cases h1
  obtain⟨hyl,hok⟩:=hend2
  have hW:=HWA.out hok
  have HJJ:=hide (HJ.out (by rw[hW]))
  have HFN2:Hid (R=if lvF (insAt' bs (bs.length-1)).op=false then((bs.length:Int)-1,6) else jf bs.length 0):=by
   show _=_
   rw[HFN.out,hW,if_neg (fun h=>h rfl)]
  rcases hrow.2 with⟨_,h0⟩|⟨g,cap',cur,e,h1g,h2g,_⟩
  ·omega
  cases e
  have HG:Hid (∀m,m<bs.length→∃xa xc,W.cell? ⟨g,m,none⟩=some (.slice xa (st m).1.length xc)):=fun m hm=>by
   obtain⟨x,hx⟩:∃x,ys[m]?=some x:=⟨_,List.getElem?_eq_getElem (by omega)⟩
   refine⟨x.a,x.c,?_⟩
   rw[hrow.cellAt m (by omega),List.getElem?_map,hx,←(hpa m x hx).1]
   rfl
  have hg:g<W.heap.size:=(Array.getElem?_eq_some_iff.1 h2g).1
  have SW:=hide (SndW.mk (b:=w.heap.size) (bx:=w.heap.size+1+1+1) (D:=D) (sv:=sv) (av:=.slice (some ⟨g,0,none⟩) ys.length cap) ((hB.block w.heap.size (by omega)).trans R0.out) ((hB.block (w.heap.size+1) (by omega)).trans R1.out) ((hB.block (w.heap.size+1+1) (by omega)).trans R2.out) hbx hK)
  have HBW:=hide (B0.out.trans (hB.mono (by omega)))
  have hDw:w.heap.size≤D:=by omega
  rw[hyl] at SW
  clear hrow hbx hall hrec hB hK hpa hend hok hW HFN HJ h2g HWA HWB
  have c45:=SW.out.r0.cell e45
  have hibW:ib<W.heap.size:=Nat.lt_of_lt_of_le hib HBW.out.size
  obtain⟨i0,i1,i2⟩:=HIN.out (bs.length-1) (by omega)
  have i0:=(HBW.out.cell (p:=⟨ib,io+(bs.length-1)*3,none⟩) hib).trans i0
  have i1:=(HBW.out.cell (p:=⟨ib,io+(bs.length-1)*3+1,none⟩) hib).trans i1
  have i2:=(HBW.out.cell (p:=⟨ib,io+(bs.length-1)*3+2,none⟩) hib).trans i2
  have l1:((bs.length:Int)-1)<(bs.length:Int):=by omega
  have l2:(0:Int)≤((bs.length:Int)-1):=by omega
  have l3:((bs.length:Int)-1).toNat=bs.length-1:=by omega
  have l4:IntKind.i64.wrap ((bs.length:Int)-1)=(bs.length:Int)-1:=wrapI9 (by omega) (by omega)
  have HLV:Hid (lvF (insAt' bs (bs.length-1)).op=decide ((insAt' bs (bs.length-1)).op=25∨(insAt' bs (bs.length-1)).op=28∨(insAt' bs (bs.length-1)).op=29)):=rfl
  generalize insAt' bs (bs.length-1)=lst at *
  obtain⟨op,x,y⟩:=lst
  simp only at i0 i1 i2 HLV HFN2
  cases hlv:lvF op with
  | false =>
   rw[hlv,if_pos rfl] at HFN2
   rw[hlv] at HLV
   replace HLV:=hide HLV.out.symm
   clear hlv
   gi_wp2_with (first|(refine wpListIn_load_rec rfl 94 _ rfl w.heap.size 94 sv _ rfl S3.out.r0 Tryz.underlying94 rfl hsz ?_)|(gi_at_call 105;refine(HCI.out _ _ _ _ _ (implInsLeaves_any op x y W)).mono ?_;rintro e w3 ⟨rfl,b3⟩;rw[HLV.out];have S3:=hide (SW.out.keep b3);have HB3:=hide (HBW.out.trans (b3.mono HBW.out.size));have w23:=hide b3;clear b3 i0 i1 i2 c45;have c45:=S3.out.r0.cell e45)|(gi_at_call 102;refine(HCI.out _ _ _ _ _ (HFT.out _ _ _)).mono ?_;unfold faultV;rintro e w4 ⟨rfl,b4⟩;have S4:=hide (S3.out.keep b4);have HB4:=hide (HB3.out.trans (b4.mono HB3.out.size));clear b4;have c1:=S4.out.r1.cell (o:=0) rfl;have c2:=S4.out.r2.cell (o:=0) rfl;have d1:=S4.out.r1.frozen 0;have d2:=S4.out.r2.frozen 0;have l1:=S4.out.r1.lt;have l2:=S4.out.r2.lt))
   obtain⟨q1,q2,q3⟩:=S4.out.fault (x:=.slice none 0 0) (y:=faultV (k:Int) ((bs.length:Int)-1) 6)
   have k1:=fin_cell q1 q3
   have k2:=fin_cell q2 q3
   unfold faultV at q3 k1 k2
   refine⟨by simp,.inl ⟨_,_,rfl,run_takeDeferred q3,?_⟩⟩
   refine⟨.tuple #[.slice none 0 0,faultV (k:Int) ((bs.length:Int)-1) 6],?_,⟨none,0,0,?_⟩,fin_below ((HB4.out.setCell (by show w.heap.size≤w.heap.size+1;omega) _).setCell (by show w.heap.size≤w.heap.size+1+1;omega) _) hDw q3⟩
   ·unfold faultV;simp[results,Tryz.f79,go_sem,k1,k2]
   ·rw[HFN2.out,resV_no (by decide)]
  | true =>
   rw[hlv,if_neg (by decide)] at HFN2
   rw[hlv] at HLV
   replace HLV:=hide HLV.out.symm
   clear hlv
   gi_wp2_with (gi_at_call 105;refine(HCI.out _ _ _ _ _ (implInsLeaves_any op x y W)).mono ?_;rintro e w3 ⟨rfl,b3⟩;rw[HLV.out];have S3:=hide (SW.out.keep b3);have HB3:=hide (HBW.out.trans (b3.mono HBW.out.size));have w23:=hide b3;clear b3 i0 i1 i2 c45;have c45:=S3.out.r0.cell e45)
   gi_loopw [41] (fun v wr=>∃i:Nat,i≤bs.length∧v=.int .i64 (i:Int)∧Hid (jf bs.length 0=jf (bs.length-i) i)∧Hid (Below w3.heap.size w3 wr)) (fun v wr=>bs.length-(intOf v).toNat)
   case atStart=>exact⟨0,Nat.zero_le _,rfl,rfl,Below.refl _ _⟩
   case round =>
    obtain⟨i,hi,rfl,HJ1,HBr⟩:=hrel
    have Sr:=hide (S3.out.keep HBr.out)
    have HBx:=hide (HB3.out.trans (HBr.out.mono HB3.out.size))
    by_cases hlt:i<bs.length
    ·obtain⟨i0,i1,i2⟩:=HIN.out i hlt
     have i0:=(HBx.out.cell (p:=⟨ib,io+i*3,none⟩) hib).trans i0
     have i1:=(HBx.out.cell (p:=⟨ib,io+i*3+1,none⟩) hib).trans i1
     have i2:=(HBx.out.cell (p:=⟨ib,io+i*3+2,none⟩) hib).trans i2
     have hji:=HJJ.out i hlt
     have hb0:=HB0.out i hlt
     have HS:=hide (HJ1.out.trans (HJS.out i hlt))
     have g1:(i:Int)<(bs.length:Int):=by omega
     have g2:(0:Int)≤(i:Int):=by omega
     clear HJ1
     generalize insAt' bs i=ins at *
     obtain⟨o,x,y⟩:=ins
     simp only at i0 i1 i2 hji hb0
     have BA:Hid (Below wr.heap.size wr (wr.alloc (.cells #[.int .i64 o,.int .i64 x,.int .i64 y] 40))):=(Below.refl _ _).alloc (Nat.le_refl _) _
     by_cases hjmp:o=25∨o=26
     ·obtain⟨q1,q2⟩:=hji hjmp
      obtain⟨m,rfl⟩:=Int.eq_ofNat_of_zero_le q1
      obtain⟨xa,xc,hv⟩:=HG.out m (by omega)
      rw[decide_eq_true hjmp,Bool.true_and,show((m:Nat):Int).toNat=m from rfl] at hb0
      by_cases hpos:0<(st m).1.length
      ·rw[decide_eq_true hpos] at hb0
       rw[hb0,if_pos rfl] at HS
       have hp2:(0:Int)<((st m).1.length:Int):=by omega
       gi_wp2_with (first|(gi_at_call 116;refine(HCI.out _ _ _ _ _ (implInsJumps_any o (m:Int) y _)).mono ?_;rintro e w5 ⟨rfl,b5⟩;rw[decide_eq_true hjmp];have R5:=(Rec.new wr 40 [.int .i64 o,.int .i64 (m:Int),.int .i64 y]).below b5 (by simp);have B5:=hide (BA.out.trans (b5.mono BA.out.size));have S5:=hide (Sr.out.keep B5.out);have HB5:=hide (HBx.out.trans (B5.out.mono HBx.out.size));have HB35:=hide (HBr.out.trans (B5.out.mono HBr.out.size));have c1:=R5.cell (o:=1) rfl;have c3:=S5.out.r3.cell (o:=0) rfl;have hwr:wr.heap.size<w5.heap.size:=R5.lt;have cm:=(HB35.out.cell (p:=⟨g,m,none⟩) (Nat.lt_of_lt_of_le hg w23.out.size)).trans ((w23.out.cell (p:=⟨g,m,none⟩) hg).trans hv);clear b5 R5)|(refine wpListIn_load_rec rfl 94 _ rfl w.heap.size 94 sv _ rfl S5.out.r0 Tryz.underlying94 rfl hsz ?_)|(gi_at_call 102;refine(HCI.out _ _ _ _ _ (HFT.out _ _ _)).mono ?_;unfold faultV;rintro e w4 ⟨rfl,b4⟩;have S4:=hide (S5.out.keep b4);have HB4:=hide (HB5.out.trans (b4.mono HB5.out.size));clear b4;have c1:=S4.out.r1.cell (o:=0) rfl;have c2:=S4.out.r2.cell (o:=0) rfl;have d1:=S4.out.r1.frozen 0;have d2:=S4.out.r2.frozen 0;have l1:=S4.out.r1.lt;have l2:=S4.out.r2.lt))
       obtain⟨q1,q2,q3⟩:=S4.out.fault (x:=.slice none 0 0) (y:=faultV (k:Int) (i:Int) 4)
       have k1:=fin_cell q1 q3
       have k2:=fin_cell q2 q3
       unfold faultV at q3 k1 k2
       refine⟨by simp,.inl ⟨_,_,rfl,run_takeDeferred q3,?_⟩⟩
       refine⟨.tuple #[.slice none 0 0,faultV (k:Int) (i:Int) 4],?_,⟨none,0,0,?_⟩,fin_below ((HB4.out.setCell (by show w.heap.size≤w.heap.size+1;omega) _).setCell (by show w.heap.size≤w.heap.size+1+1;omega) _) hDw q3⟩
       ·unfold faultV;simp[results,Tryz.f79,go_sem,k1,k2]
       ·rw[HFN2.out,HS.out,resV_no (by decide)]
      ·rw[decide_eq_false hpos] at hb0
       rw[hb0,if_neg (by decide)] at HS
       have hp2:¬(0:Int)<((st m).1.length:Int):=by omega
       gi_wp2_with (gi_at_call 116;refine(HCI.out _ _ _ _ _ (implInsJumps_any o (m:Int) y _)).mono ?_;rintro e w5 ⟨rfl,b5⟩;rw[decide_eq_true hjmp];have R5:=(Rec.new wr 40 [.int .i64 o,.int .i64 (m:Int),.int .i64 y]).below b5 (by simp);have B5:=hide (BA.out.trans (b5.mono BA.out.size));have S5:=hide (Sr.out.keep B5.out);have HB5:=hide (HBx.out.trans (B5.out.mono HBx.out.size));have HB35:=hide (HBr.out.trans (B5.out.mono HBr.out.size));have c1:=R5.cell (o:=1) rfl;have c3:=S5.out.r3.cell (o:=0) rfl;have hwr:wr.heap.size<w5.heap.size:=R5.lt;have cm:=(HB35.out.cell (p:=⟨g,m,none⟩) (Nat.lt_of_lt_of_le hg w23.out.size)).trans ((w23.out.cell (p:=⟨g,m,none⟩) hg).trans hv);clear b5 R5)
       exact⟨⟨i+1,by omega,by go_num,HS,HB35⟩,by simp[intOf];omega⟩
     ·rw[decide_eq_false hjmp,Bool.false_and] at hb0
      rw[hb0,if_neg (by decide)] at HS
      gi_wp2_with (gi_at_call 116;refine(HCI.out _ _ _ _ _ (implInsJumps_any o x y _)).mono ?_;rintro e w5 ⟨rfl,b5⟩;rw[decide_eq_false hjmp];have R5:=(Rec.new wr 40 [.int .i64 o,.int .i64 x,.int .i64 y]).below b5 (by simp);have B5:=hide (BA.out.trans (b5.mono BA.out.size));have S5:=hide (Sr.out.keep B5.out);have HB5:=hide (HBx.out.trans (B5.out.mono HBx.out.size));have HB35:=hide (HBr.out.trans (B5.out.mono HBr.out.size));have c1:=R5.cell (o:=1) rfl;have c3:=S5.out.r3.cell (o:=0) rfl;have hwr:wr.heap.size<w5.heap.size:=R5.lt;clear b5 R5)
      exact⟨⟨i+1,by omega,by go_num,HS,HB35⟩,by simp[intOf];omega⟩
    ·obtain rfl:i=bs.length:=by omega
     have hq:¬(bs.length:Int)<(bs.length:Int):=by omega
     have c1:=Sr.out.r1.cell (o:=0) rfl
     have c2:=Sr.out.r2.cell (o:=0) rfl
     have c3:=Sr.out.r3.cell (o:=0) rfl
     have d1:=Sr.out.r1.frozen 0
     have d2:=Sr.out.r2.frozen 0
     have l1:=Sr.out.r1.lt
     have l2:=Sr.out.r2.lt
     gi_wp2
     obtain⟨q1,q2,q3⟩:=Sr.out.fault (x:=.slice (some ⟨g,0,none⟩) bs.length cap) (y:=.nilIface)
     have k1:=fin_cell q1 q3
     have k2:=fin_cell q2 q3
     refine⟨by simp,.inl ⟨_,_,rfl,run_takeDeferred q3,?_⟩⟩
     refine⟨.tuple #[.slice (some ⟨g,0,none⟩) bs.length cap,.nilIface],?_,⟨some ⟨g,0,none⟩,bs.length,cap,?_⟩,fin_below ((HBx.out.setCell (by show w.heap.size≤w.heap.size+1;omega) _).setCell (by show w.heap.size≤w.heap.size+1+1;omega) _) hDw q3⟩
     ·simp[results,Tryz.f79,go_sem,k1,k2]
     ·rw[HFN2.out,HJ1.out,HJE.out,resV_ok]
 case stop =>
  rintro D c pre W hD ⟨hpl,hpa⟩ ⟨⟨rfl,x,hx,pc,code,hxe,hc1,hc2⟩,hB⟩ hK
  obtain⟨j,hj⟩:=List.getElem?_of_mem hx
  obtain⟨h1,h2,h3⟩:=hpa j x hj
  have hjl:=(List.getElem?_eq_some_iff.1 hj).1
  have hne:(st (j+1)).2≠0:=fun h=>by rw[hxe] at h2;unfold stErr at h2;rw[if_pos h] at h2;cases h2
  rw[hxe] at h2
  unfold stErr at h2
  rw[if_neg hne] at h2
  have h4:pc=(j:Int)∧code=(st (j+1)).2:=by simpa using h2
  obtain⟨rfl,rfl⟩:=h4
  have hW:=HWB.out j (by omega) h3 hne
  have hR:Hid (R=((j:Int),(st (j+1)).2)):=by
   show _=_
   rw[HFN.out,hW,if_pos hne]
   simp
  have HBB:=hide (hB.trans (belowK_b (w:=W0) (n₀:=w.heap.size) (by omega) W D _ (.deferred none) hD hK rfl rfl))
  have k1:=cell_kept hc1 (grownBy_putObj' _ D (.deferred none)) (fun r e=>by cases e;exact⟨_,hK,rfl⟩)
  have k2:=cell_kept hc2 (grownBy_putObj' _ D (.deferred none)) (fun r e=>by cases e;exact⟨_,hK,rfl⟩)
  clear hpa hj h2 hW HFN HJE HJS
  gi_wp2
  refine⟨by simp,.inl ⟨_,_,rfl,run_takeDeferred hK,?_⟩⟩
  refine⟨.tuple #[.slice none 0 0,faultV (k:Int) (j:Int) (st (j+1)).2],?_,⟨none,0,0,?_⟩,HBB.out⟩
  ·simp[results,Tryz.f79,go_sem,k1,k2]
  ·rw[hR.out,resV_no hne]
theorem sound_any (lo hi k:Nat) (p:GProg) (sv:List Value) (hF:PF p) (hk:k<p.funs.length) (w:World) (hs:Scp w lo hi p k sv) (hlo:lo≤hi) :
 Calls Tryz.prog 79 #[.agg sv.toArray] w fun e w'=>(∃a n c,e=.returned (.tuple #[.slice a n c,resV k (funF p k)]))∧Below w.heap.size w w':=callsIn_wide.1 (sound_walk lo hi k p sv hF hk w hs hlo)
end Go.Proofs.YtpaneomkphjpcaaGreatDoor
