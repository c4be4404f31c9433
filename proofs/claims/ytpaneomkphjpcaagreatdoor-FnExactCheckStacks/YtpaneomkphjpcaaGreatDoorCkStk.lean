/- The stacks of a function, one by one: the program's iterator. -/
import Derived.Test.YtpaneomkphjpcaaGreatDoorCkWalkM
import Derived.Test.YtpaneomkphjpcaaGreatDoorLRow
import Derived.Test.YtpaneomkphjpcaaGreatDoorPaKinB
import Derived.RangeFuncNested
import Derived.RangeFuncBound
import Derived.RangeFuncCalls
import Derived.RangeFuncLeaves
import Derived.RangeFuncFrom
import Derived.RangeFuncBox
import Derived.Shelf.Abstract
import Derived.Shelf.RegionOpen
import Derived.OwnWalkIn
import Derived.TacticsInMore
import Derived.LoopNIn
import Derived.LoopIn
namespace Go.Proofs.YtpaneomkphjpcaaGreatDoor
open Go.ChangeShapes Go.WideShapes Go.ChangeAt Go.RowKit Go.Shelf Go.Deep
set_option linter.unusedVariables false
set_option linter.unusedSimpArgs false
attribute [local go_sem] Oper.semAt_some
theorem wpListIn_load_rec {F:Fence} {n:Nat} {ops:Array Oper} {rest:List Oper} {o:Oper} {a:Act} {w:World} {Q:Exit→Act→World→Prop} (hgd:o.guard=none) (ty:TypeId) (x:Operand) (ho:o.op=.load ty x)
 (g:Nat) (T:TypeId) (vs:List Value) (d:TypeDesc) (hx:a.eval x=.pointer (some ⟨g,0,none⟩)) (hr:Rec w g T vs) (hu:Tryz.prog.underlying ty=some d) (hd:d.isRow=true) (hi:(Tryz.prog.info? ty).map (·.size)=some vs.length)
 (h:wpListIn F n Tryz.prog ops Q rest (a.put o.dst (.agg vs.toArray)) w):wpListIn F n Tryz.prog ops Q (o::rest) a w:=by
 refine wpListIn_plain hgd fun K hK'=>?_
 have hrun:=run_loadVar_mid (P:=Tryz.prog) w g 0 ty vs d hr.range hu hd hi
 unfold Oper.wpIn
 refine⟨?_,?_⟩
 ·simp[Oper.about,ho]
 ·rw[Oper.semAt_plain F _ _ (by rw[ho];intro c hc';cases hc')]
  simp only[execOp,ho,hx,Instr.loadAt,Instr.sureAddr,Sem.run_bind,Sem.run_pure,Result.andThen_ok,hrun]
  exact hK' _ _ h
structure Stk where
 a:Option Addr
 n:Nat
 c:Nat
 e:Option (Int×Int)
def errO (k:Nat):Option (Int×Int)→Value
 | none=>.nilIface
 | some (pc,code)=>faultV k pc code
def stErr (st:Nat→List Fd×Int) (j:Nat):Option (Int×Int):=if(st (j+1)).2=0 then none else some ((j:Int),(st (j+1)).2)
def StkPath (st:Nat→List Fd×Int) (L:Nat) (pre:List Stk):Prop:=pre.length≤L∧∀j x,pre[j]?=some x→x.n=(st j).1.length∧x.e=stErr st j∧∀i,i≤j→(st i).2=0
theorem StkPath.nil (st:Nat→List Fd×Int) (L:Nat):StkPath st L []:=⟨Nat.zero_le _,fun j x h=>by simp at h⟩
theorem StkPath.snoc {st:Nat→List Fd×Int} {L:Nat} {pre:List Stk} (h:StkPath st L pre) (hL:pre.length<L) (a:Option Addr) (c:Nat) (hok:∀i,i≤pre.length→(st i).2=0):StkPath st L (pre++[⟨a,(st pre.length).1.length,c,stErr st pre.length⟩]):=⟨by simp;omega,fun j x hj=>by
 by_cases e:j<pre.length
 ·rw[List.getElem?_append_left e] at hj;exact h.2 j x hj
 ·rw[List.getElem?_append_right (by omega)] at hj
  obtain rfl:j=pre.length:=by
   have:=(List.getElem?_eq_some_iff.1 hj).1
   simp at this;omega
  simp at hj
  subst hj
  exact⟨rfl,rfl,hok⟩⟩
def StkAll (st:Nat→List Fd×Int) (L:Nat) (ys:List Stk):Prop:=StkPath st L ys∧((ys.length=L∧∀j,j≤L→(st j).2=0)∨∃j,ys.length=j+1∧(st (j+1)).2≠0)
def KpS (n₁ Bs:Nat) (A B:World):Prop:=Below n₁ A B∧B.heap[Bs]?=A.heap[Bs]?∧KeepT 68 A B
theorem KpS.trans {n₁ Bs:Nat} {A B C:World} (h:KpS n₁ Bs A B) (k:KpS n₁ Bs B C):KpS n₁ Bs A C:=⟨h.1.trans k.1,k.2.1.trans h.2.1,h.2.2.trans k.2.2⟩
theorem FdRow.blkLt {w:World} {S n c:Nat} {a:Option Addr} {xs:List Fd} (h:FdRow w S (.slice a n c) xs):∀ad,a=some ad→ad.block<w.heap.size:=fun ad e=>by
 rcases h.2 with⟨h1,_⟩|⟨g,c',cur,h1,_,hg,_⟩
 ·injection h1 with h2 _ _
  rw[e] at h2;cases h2
 ·injection h1 with h2 _ _
  rw[e] at h2;injection h2 with h3
  rw[h3]
  exact(Array.getElem?_eq_some_iff.1 hg).1
def BelB (b:Nat) (pre:List Stk):Prop:=∀y∈pre,∀ad,y.a=some ad→ad.block<b
def GRow (n₁:Nat) (st:Nat→List Fd×Int) (pre:List Stk) (x:Stk) (W:World):Prop:=∃bm,n₁≤bm∧bm≤W.heap.size∧FdRow W bm (.slice x.a x.n x.c) (st pre.length).1∧BelB bm pre
set_option maxRecDepth 100000 in
set_option maxHeartbeats 4000000 in
theorem stkIter (F:Fence) (n:Nat) (hf:F.fn 78) (hro:F.round=none) (hn:1≤n) (HCI:Hid (∀n f args w R,Calls Tryz.prog f args w R→CallsIn F n Tryz.prog f args w R)) (l Bs n₁ lo hi k:Nat) (p:GProg) (sv:List Value) (hF:PF p) (hk:k<p.funs.length)
 (J Jx:List Stk→World→Prop)
 (hY:∀pre (x:Stk) W,J pre W→pre.length<(funAt' p.funs k).body.length→GRow n₁ (stP p k) pre x W→YieldAt F (n-1) Tryz.prog l #[.slice x.a x.n x.c,errO k x.e] W fun e W' =>
  (e=.returned (.bool true)∧J (pre++[x]) W'∧KpS n₁ Bs W W')∨(e=.returned (.bool false)∧Jx (pre++[x]) W'))
 (W:World) (hJA:AbidesFrom W.heap.size J) (hs:Scp W lo hi p k sv) (hb:Rec W Bs 94 sv) (hhi:hi≤n₁) (hn₁:n₁≤W.heap.size) (hlo:lo≤hi) (hf2:F.fn 70) (h0:J [] W) :
 CallsIn F n Tryz.prog 78 #[.func (.yield l) #[] #[],.pointer (some ⟨Bs,0,none⟩)] W fun e W'=>(∃v,e=.returned v) ∧
  ((∃ys,StkAll (stP p k) (funAt' p.funs k).body.length ys∧J ys W')∨(∃pre,StkPath (stP p k) (funAt' p.funs k).body.length pre∧Jx pre W')):=by
 refine callsIn_of_wp Tryz.func78 rfl hf ?_ hro
 simp only[Tryz.ntmps78,List.size_toArray,List.length_cons,List.length_nil,Nat.reduceAdd,Nat.reduceSub,Array.replicate_succ,Array.replicate_zero,List.push_toArray,List.append_toArray,List.nil_append,List.cons_append]
 have hff:=hF.fn k hk
 obtain⟨ba,bc,e45,hin⟩:=hs.bd
 have hsl:=hs.len
 rcases hin with h00|⟨ib,io,rfl,u1,u2,_,u3⟩
 ·have:=hff.b0;rw[h00] at this;exact absurd this (Nat.not_lt_zero _)
 have c45:=hb.cell e45
 have hL30:=hff.bl
 have hsz:(Tryz.prog.info? 94).map (·.size)=some sv.length:=by rw[hsl];kernel_rfl
 have HIO:Hid (∀i,i<(funAt' p.funs k).body.length→insOk (insAt' (funAt' p.funs k).body i).op (insAt' (funAt' p.funs k).body i).a (insAt' (funAt' p.funs k).body i).b=true):=hff.bd
 have HOK:Hid (∀n,n≤(funAt' p.funs k).body.length→(∀j,j≤n→(stP p k j).2=0)→(∀x∈(stP p k n).1,FOk p.types x)∧(stP p k n).1.length≤8):=stP_ok hF hk
 have HBE:=hide (fun(W:World) (h:Scp W lo hi p k sv) (st:List Fd) (sa:Option Addr) (sc:Nat) (i:GIns) (pc:Int) (hio:insOk i.op i.a i.b=true) (hx:FieldsIn W 0 W.heap.size sa st) (hsc:st.length≤sc) (h8:st.length≤8) =>
  behind_any sv lo hi 0 W.heap.size k sc p st sa i pc W h hF.pa hio hx (Nat.le_refl _) hsc (by omega) (Nat.le_trans hlo h.hh) (by have:=(rule_len (k:=k) (top:=lastFd st) hF hio).1;omega) (by have:=(rule_len (k:=k) (top:=lastFd st) hF hio).2;omega))
 have HST:Hid (∀n,stP p k (n+1)=ckDo p k (stP p k n).1 (insAt' (funAt' p.funs k).body n)):=fun _=>rfl
 have HS0:Hid (stP p k 0=([],0)):=rfl
 have HIN:Hid (∀i,i<(funAt' p.funs k).body.length→W.cell? ⟨ib,io+i*3,none⟩=some (.int .i64 (insAt' (funAt' p.funs k).body i).op)∧W.cell? ⟨ib,io+i*3+1,none⟩=some (.int .i64 (insAt' (funAt' p.funs k).body i).a)∧W.cell? ⟨ib,io+i*3+2,none⟩=some (.int .i64 (insAt' (funAt' p.funs k).body i).b)):=u3
 have HY:=hide hY
 have HSC:=hide hs
 have HRB:=hide hb
 have hib:ib<n₁:=by omega
 clear hff u3 hY hs hb hF
 generalize stP p k=st at *
 generalize funAt' p.funs k=FN at *
 obtain⟨ts,gv,os,bs⟩:=FN
 simp only at hL30 HIO HOK HBE HST HIN HY c45 e45 ⊢
 gi_wp2
 gi_loopw [3,12] (fun v3 v12 wr=>∃(m:Nat) (pre:List Stk) (sa:Option Addr) (sc:Nat),m≤bs.length∧v12=.int .i64 (m:Int)∧v3=.slice sa (st m).1.length sc∧pre.length=m∧Hid (StkPath st bs.length pre)∧Hid (∀j,j≤m→(st j).2=0)∧Hid (∃bm,n₁≤bm∧bm≤wr.heap.size∧FdRow wr bm (.slice sa (st m).1.length sc) (st m).1∧BelB bm pre)∧Hid (Below n₁ W wr)∧Hid (Scp wr lo hi p k sv)∧Hid (Rec wr Bs 94 sv)∧Hid (J pre wr)) (fun v3 v12 wr=>bs.length-(intOf v12).toNat)
 case atStart=>exact⟨0,[],none,0,Nat.zero_le _,rfl,by rw[HS0.out];rfl,rfl,StkPath.nil _ _,fun j hj=>(by rw[show j=0 by omega,HS0.out]),⟨n₁,Nat.le_refl _,hn₁,(by rw[HS0.out];exact FdRow.nil _ _),fun y h=>by cases h⟩,Below.refl _ _,HSC,HRB,h0⟩
 case round =>
  obtain⟨m,pre,sa,sc,hm,rfl,rfl,hpl,HP,HO,HR,HB,HS,HC,HJ⟩:=hrel
  by_cases hlt:m<bs.length
  ·have g1:(m:Int)<(bs.length:Int):=by omega
   have g2:(0:Int)≤(m:Int):=by omega
   subst hpl
   obtain⟨i0,i1,i2⟩:=HIN.out _ hlt
   have i0:=(HB.out.cell (p:=⟨ib,io+pre.length*3,none⟩) hib).trans i0
   have i1:=(HB.out.cell (p:=⟨ib,io+pre.length*3+1,none⟩) hib).trans i1
   have i2:=(HB.out.cell (p:=⟨ib,io+pre.length*3+2,none⟩) hib).trans i2
   have hio:=HIO.out _ hlt
   have h8:=(HOK.out _ hm HO.out).2
   have HS1:=hide (HST.out pre.length)
   generalize insAt' bs pre.length=ins at *
   obtain⟨op,x,y⟩:=ins
   simp only at i0 i1 i2 hio HS1
   obtain⟨bm,hb1,hb2,hR0,hbel⟩:=HR.out
   replace HR:=hide hR0
   clear hR0
   have hsc:=HR.out.capl
   have HWa:Hid (Scp (wr.alloc (.cells #[.int .i64 op,.int .i64 x,.int .i64 y] 40)) lo hi p k sv):=HS.out.keep ((Below.refl hi wr).alloc HS.out.hh _)
   have HRa:=hide (HR.out.alloc (.cells #[.int .i64 op,.int .i64 x,.int .i64 y] 40))
   have HCa:=hide (HC.out.alloc (.cells #[.int .i64 op,.int .i64 x,.int .i64 y] 40))
   have BA:Hid (Below wr.heap.size wr (wr.alloc (.cells #[.int .i64 op,.int .i64 x,.int .i64 y] 40))):=(Below.refl _ _).alloc (Nat.le_refl _) _
   have hle:=BA.out.size
   have hBel:BelB wr.heap.size pre:=fun y hy ad e=>Nat.lt_of_lt_of_le (hbel y hy ad e) hb2
   have hblk:=HR.out.blkLt
   have hq1:n₁≤wr.heap.size:=Nat.le_trans hb1 hb2
   have HCL:=hide (HBE.out _ HWa.out (st pre.length).1 sa sc ⟨op,x,y⟩ (pre.length:Int) hio (FdRow.own (HRa.out.lower (Nat.zero_le _))).1 hsc h8)
   rw[←HS1.out] at HCL
   by_cases h0:(st (pre.length+1)).2=0
   ·have HC0:Hid (Calls Tryz.prog 70 #[.agg sv.toArray,.slice sa (st pre.length).1.length sc,.int .i64 (pre.length:Int),.agg #[.int .i64 op,.int .i64 x,.int .i64 y]] (wr.alloc (.cells #[.int .i64 op,.int .i64 x,.int .i64 y] 40)) fun e w'=>(∃a c,e=.returned (.tuple #[.slice a (st (pre.length+1)).1.length c,.nilIface])∧FdRow w' wr.heap.size (.slice a (st (pre.length+1)).1.length c) (st (pre.length+1)).1)∧Below (wr.alloc (.cells #[.int .i64 op,.int .i64 x,.int .i64 y] 40)).heap.size (wr.alloc (.cells #[.int .i64 op,.int .i64 x,.int .i64 y] 40)) w'):=HCL.out.mono fun e w' h=>by
     obtain⟨hq,hb⟩:=h
     rcases hq with⟨_,a,c,he,hr⟩|⟨hn,_⟩
     ·exact⟨⟨a,c,he,hr.lower hle⟩,hb⟩
     ·exact absurd h0 hn
    have HP2:Hid (StkPath st bs.length (pre++[⟨sa,(st pre.length).1.length,sc,none⟩])):=by
     have:=HP.out.snoc hlt sa sc HO.out
     unfold stErr at this
     rw[if_pos h0] at this
     exact this
    clear HCL
    gi_wp2_with (first|(refine wpListIn_load_rec rfl 94 _ rfl Bs 94 sv _ rfl HCa.out Tryz.underlying94 rfl hsz ?_)|(gi_at_call 70;refine(HCI.out _ _ _ _ _ HC0.out).mono ?_;rintro e w4 ⟨⟨a9,c9,rfl,hrow⟩,b4⟩;have B4:=hide (BA.out.trans (b4.mono BA.out.size));have hJ4:J pre w4:=hJA pre wr w4 none HJ.out ⟨B4.out.os,B4.out.tape,B4.out.output,B4.out.size,fun k hk _=>B4.out.block k hk⟩ (fun r e=>by cases e);have R9:=hide hrow;obtain⟨fn,tmps,assign,body,hy,hR⟩:=HY.out pre ⟨sa,(st pre.length).1.length,sc,none⟩ w4 hJ4 hlt ⟨bm,hb1,Nat.le_trans hb2 B4.out.size,HR.out.below B4.out,hbel⟩;have HRR:=hide hR;clear hR hrow b4 hJ4;simp only[errO,faultV] at hy))
    refine HRR.out.mono ?_
    have hsw:=HB.out.size
    have S4:=hide (HS.out.keepW B4.out)
    have C4:=hide (HC.out.below B4.out HC.out.lt)
    have P4:=hide (HB.out.trans (B4.out.mono (by omega)))
    rintro e W3 (⟨rfl,hJ3,hk3⟩|⟨rfl,hJx3⟩)
    ·have HK:=hide hk3
     have HJ3:=hide hJ3
     clear HRR hk3 hJ3 hy HC0 HWa HRa HCa BA i0 i1 i2
     have hok1:∀j,j≤pre.length+1→(st j).2=0:=fun j hj=>by
      by_cases e:j=pre.length+1
      ·rw[e];exact h0
      ·exact HO.out j (by omega)
     gi_wp2
     exact⟨⟨pre.length+1,pre++[⟨sa,(st pre.length).1.length,sc,none⟩],a9,c9,hlt,by go_num,rfl,by simp,HP2,hok1,⟨wr.heap.size,hq1,Nat.le_trans B4.out.size HK.out.1.size,fdRow_keepT R9.out HK.out.2.2,fun y hy ad e=>(List.mem_append.1 hy).elim (fun h=>hBel y h ad e) (fun h=>by rw[List.mem_singleton.1 h] at e;exact hblk ad e)⟩,P4.out.trans HK.out.1,S4.out.keep (HK.out.1.mono hhi),HK.out.2.1.trans C4.out,HJ3⟩,by simp[intOf];omega⟩
    ·have HJx:=hide hJx3
     clear HRR hJx3 hy HC0 HWa HRa HCa BA i0 i1 i2
     gi_wp2
     refine bodyPost_ret (results_none rfl _ _ _) rfl ?_
     exact⟨⟨_,rfl⟩,.inr ⟨_,HP2.out,HJx.out⟩⟩
   ·have HC0:Hid (Calls Tryz.prog 70 #[.agg sv.toArray,.slice sa (st pre.length).1.length sc,.int .i64 (pre.length:Int),.agg #[.int .i64 op,.int .i64 x,.int .i64 y]] (wr.alloc (.cells #[.int .i64 op,.int .i64 x,.int .i64 y] 40)) fun e w'=>e=.returned (.tuple #[.slice none 0 0,(.iface 125 (.agg #[.int .i64 (k:Int),.int .i64 (pre.length:Int),.int .i64 (st (pre.length+1)).2]))])∧Below (wr.alloc (.cells #[.int .i64 op,.int .i64 x,.int .i64 y] 40)).heap.size (wr.alloc (.cells #[.int .i64 op,.int .i64 x,.int .i64 y] 40)) w'):=HCL.out.mono fun e w' h=>by
     obtain⟨hq,hb⟩:=h
     rcases hq with⟨hn,_⟩|⟨_,he⟩
     ·exact absurd hn h0
     ·exact⟨he,hb⟩
    have HP2:Hid (StkPath st bs.length (pre++[⟨sa,(st pre.length).1.length,sc,some ((pre.length:Int),(st (pre.length+1)).2)⟩])):=by
     have:=HP.out.snoc hlt sa sc HO.out
     unfold stErr at this
     rw[if_neg h0] at this
     exact this
    clear HCL
    gi_wp2_with (first|(refine wpListIn_load_rec rfl 94 _ rfl Bs 94 sv _ rfl HCa.out Tryz.underlying94 rfl hsz ?_)|(gi_at_call 70;refine(HCI.out _ _ _ _ _ HC0.out).mono ?_;rintro e w4 ⟨rfl,b4⟩;have B4:=hide (BA.out.trans (b4.mono BA.out.size));have hJ4:J pre w4:=hJA pre wr w4 none HJ.out ⟨B4.out.os,B4.out.tape,B4.out.output,B4.out.size,fun k hk _=>B4.out.block k hk⟩ (fun r e=>by cases e);obtain⟨fn,tmps,assign,body,hy,hR⟩:=HY.out pre ⟨sa,(st pre.length).1.length,sc,some ((pre.length:Int),(st (pre.length+1)).2)⟩ w4 hJ4 hlt ⟨bm,hb1,Nat.le_trans hb2 B4.out.size,HR.out.below B4.out,hbel⟩;have HRR:=hide hR;clear hR b4 hJ4;simp only[errO,faultV] at hy))
    refine HRR.out.mono ?_
    rintro e W3 (⟨rfl,hJ3,hk3⟩|⟨rfl,hJx3⟩)
    ·have HJ3:=hide hJ3
     clear HRR hk3 hJ3 hy HC0 HWa HRa HCa BA i0 i1 i2
     gi_wp2
     refine bodyPost_ret (results_none rfl _ _ _) rfl ?_
     exact⟨⟨_,rfl⟩,.inl ⟨_,⟨HP2.out,.inr ⟨pre.length,by simp,h0⟩⟩,HJ3.out⟩⟩
    ·have HJx:=hide hJx3
     clear HRR hJx3 hy HC0 HWa HRa HCa BA i0 i1 i2
     gi_wp2
     refine bodyPost_ret (results_none rfl _ _ _) rfl ?_
     exact⟨⟨_,rfl⟩,.inr ⟨_,HP2.out,HJx.out⟩⟩
  ·obtain rfl:m=bs.length:=by omega
   have hq:¬(bs.length:Int)<(bs.length:Int):=by omega
   gi_wp2
   go_end0
   exact⟨⟨_,rfl⟩,.inl ⟨pre,⟨HP.out,.inl ⟨hpl,HO.out⟩⟩,HJ.out⟩⟩
theorem stk_stops (F:Fence) (n:Nat) (hf:F.fn 78) (hro:F.round=none) (hn:1≤n) (HCI:Hid (∀n f args w R,Calls Tryz.prog f args w R→CallsIn F n Tryz.prog f args w R)) (Bs n₁ lo hi k:Nat) (p:GProg) (sv:List Value) (hF:PF p) (hk:k<p.funs.length)
 (w:World) (hs:Scp w lo hi p k sv) (hb:Rec w Bs 94 sv) (hhi:hi≤n₁) (hn₁:n₁≤w.heap.size) (hlo:lo≤hi) (hf2:F.fn 70) :
 SeqStopsK F n Tryz.prog 78 #[.pointer (some ⟨Bs,0,none⟩)] (fun x:Stk=>#[.slice x.a x.n x.c,errO k x.e]) (KpS n₁ Bs) (StkAll (stP p k) (funAt' p.funs k).body.length) (StkPath (stP p k) (funAt' p.funs k).body.length) (funAt' p.funs k).body.length w:=fun l J Jx W hW hJ _ hY h0 =>
 stkIter F n hf hro hn HCI l Bs n₁ lo hi k p sv hF hk J Jx (fun pre x W h1 h2 _=>hY pre x W h1 h2) W hJ (hs.keepW hW) (hb.below hW hb.lt) hhi (Nat.le_trans hn₁ hW.size) hlo hf2 h0
theorem KpS.put {n₁ Bs:Nat} {w:World} (h1:n₁≤w.heap.size) (h2:Bs<w.heap.size) (W:World) (l:Nat) (o o':Obj) (hl:w.heap.size≤l) (hg:W.heap[l]?=some o) (hc:o.isCells=false) (hw:o.isWalk=false):KpS n₁ Bs W (W.putObj l o') :=
 ⟨belowK_b h1 W l o o' hl hg hc hw,World.putObj_heap_other (by omega),fun k cur hk=>by
  by_cases e:k=l
  ·subst e;rw[hg] at hk;cases hk;cases hc
  ·exact World.putObj_heap_other e⟩
set_option maxHeartbeats 1000000 in
theorem stacks_in (F:Fence) (n:Nat) (hf:F.fn 48) (hro:F.round=none) (sv:List Value) (w:World) :
 CallsIn F n Tryz.prog 48 #[.agg sv.toArray] w fun e w'=>e=.returned (.func (.func 78) #[] #[.pointer (some ⟨w.heap.size,0,none⟩)])∧w'=w.alloc (.cells sv.toArray 94):=by
 refine callsIn_of_wp Tryz.func48 rfl hf ?_ hro
 simp only[Tryz.ntmps48,List.size_toArray,List.length_cons,List.length_nil,Nat.reduceAdd,Nat.reduceSub,Array.replicate_succ,Array.replicate_zero,List.push_toArray,List.append_toArray,List.nil_append,List.cons_append]
 gi_wp2
 go_ret
 exact⟨by simp,rfl⟩
end Go.Proofs.YtpaneomkphjpcaaGreatDoor
