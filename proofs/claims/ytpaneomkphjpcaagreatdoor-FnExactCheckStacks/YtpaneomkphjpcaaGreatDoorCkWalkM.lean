/- What a function's check answers, as data. -/
import Derived.Test.YtpaneomkphjpcaaGreatDoorPcMath
namespace Go.Proofs.YtpaneomkphjpcaaGreatDoor
open Go.ChangeShapes Go.WideShapes Go.ChangeAt Go.RowKit Go.Deep
set_option linter.unusedVariables false
set_option linter.unusedSimpArgs false
theorem FOk.isRef {gs:List (List Ty)} {a:Int} (h:isRefF gs a=true):a=-1∨a=-2∨(0≤a∧a<(kinCount gs:Int)):=by
 unfold isRefF at h
 simp only[Bool.and_eq_true,decide_eq_true_eq] at h
 omega
set_option maxHeartbeats 4000000 in
theorem ruleG_ok {p:GProg} {k:Nat} (hF:PF p) (hk:k<p.funs.length) {top:Fd} {i:GIns} (hi:insOk i.op i.a i.b=true) (hn:ruleN p k i=true) (h24:i.op=24→FOk p.types (uF top.of)):∀x∈ruleG p k top i,FOk p.types x:=by
 obtain⟨op,a,b⟩:=i
 obtain⟨⟨g1,g2⟩,g3,g4,g5,g6,g7⟩:=ins_bounds hi
 simp only at g1 g2 g3 g4 g5 g6 g7 h24
 have hff:=hF.fn k hk
 have N:=FOk.num p.types
 have hop:op=1∨op=2∨op=3∨op=4∨op=5∨op=6∨op=7∨op=8∨op=9∨op=10∨op=11∨op=12∨op=13∨op=14∨op=15∨op=16∨op=17∨op=18∨op=19∨op=20∨op=21∨op=22∨op=23∨op=24∨op=25∨op=26∨op=27∨op=28∨op=29∨op=30∨op=31∨op=32∨op=33:=by omega
 clear hi g1 g2
 intro x hx
 have one:∀y:Fd,x∈[y]→FOk p.types y→FOk p.types x:=fun y h1 h2=>by rw[List.mem_singleton.1 h1];exact h2
 have nil:x∈([]:List Fd)→FOk p.types x:=fun h=>by cases h
 rcases hop with rfl|rfl|rfl|rfl|rfl|rfl|rfl|rfl|rfl|rfl|rfl|rfl|rfl|rfl|rfl|rfl|rfl|rfl|rfl|rfl|rfl|rfl|rfl|rfl|rfl|rfl|rfl|rfl|rfl|rfl|rfl|rfl|rfl
 ·exact one nF hx N
 ·exact one _ hx (plFd_ok (g5 (by decide) (by decide) (by decide)) (of_decide_eq_true hn) (slots_ok hff))
 ·exact nil hx
 ·exact one _ hx (plFd_ok (g5 (by decide) (by decide) (by decide)) (of_decide_eq_true hn) hF.go)
 ·exact nil hx
 ·exact nil hx
 ·exact one nF hx N
 ·exact one nF hx N
 ·exact one nF hx N
 ·exact one (uF (-2)) hx (FOk.sure (.inr (.inl rfl)))
 ·exact one nF hx N
 ·exact one (rF a) hx (FOk.ref (FOk.isRef hn))
 ·exact one (uF a) hx (FOk.sure (.inr (.inr (tyIs_lt hn))))
 ·exact one (sOf (bxF p.types a b)) hx (FOk.sort (bxF_ok hF.pa g6 hn))
 ·exact nil hx
 ·exact one (uF a) hx (FOk.sure (.inr (.inr (tyIs_lt hn))))
 ·exact one (sOf (rwF p.types a)) hx (FOk.sort (rwF_ok hF.pa hn))
 ·exact nil hx
 ·exact one nF hx N
 ·exact one nF hx N
 ·exact one nF hx N
 ·exact one nF hx N
 ·exact one (uF a) hx (FOk.sure (FOk.isRef hn))
 ·exact one (uF top.of) hx (h24 rfl)
 ·exact nil hx
 ·exact nil hx
 ·replace hx:x∈caG p a:=hx
  replace hn:decide (a<(p.funs.length:Int))=true:=hn
  have ha:=of_decide_eq_true hn
  have h0:=g5 (by decide) (by decide) (by decide)
  unfold caG at hx
  rw[if_pos ha] at hx
  exact one _ hx (hF.fn a.toNat (by omega)).gv.1
 ·exact nil hx
 ·exact nil hx
 ·exact nil hx
 ·exact nil hx
 ·exact one nF hx N
 ·exact nil hx
theorem ckDo_ok {p:GProg} {k:Nat} (hF:PF p) (hk:k<p.funs.length) {st:List Fd} {i:GIns} (hi:insOk i.op i.a i.b=true) (hs:∀x∈st,FOk p.types x) (h0:(ckDo p k st i).2=0) :
  (∀x∈(ckDo p k st i).1,FOk p.types x)∧(ckDo p k st i).1.length≤8∧ruleN p k i=true:=by
 unfold ckDo at h0 ⊢
 by_cases h1:ruleN p k i=false
 ·rw[if_pos h1] at h0;exact absurd h0 (by decide)
 rw[if_neg h1] at h0 ⊢
 by_cases h2:st.length<(ruleT p k (lastFd st) i).length
 ·rw[if_pos h2] at h0;exact absurd h0 (by decide)
 rw[if_neg h2] at h0 ⊢
 by_cases h3:(fitsL p.types (st.drop (st.length-(ruleT p k (lastFd st) i).length)) (ruleT p k (lastFd st) i)&&passF p k i.op i.a)=false
 ·rw[if_pos h3] at h0;exact absurd h0 (by decide)
 rw[if_neg h3] at h0 ⊢
 by_cases h4:(decide ((ruleT p k (lastFd st) i).length<st.length)&&(decide (i.op=25∨i.op=28∨i.op=29)||decide (i.op=26)))=true
 ·rw[if_pos h4] at h0;exact absurd h0 (by decide)
 rw[if_neg h4] at h0 ⊢
 by_cases h5:8<st.length-(ruleT p k (lastFd st) i).length+(ruleG p k (lastFd st) i).length
 ·rw[if_pos h5] at h0;exact absurd h0 (by decide)
 rw[if_neg h5]
 have hn:ruleN p k i=true:=by cases hr:ruleN p k i with
  | true=>rfl
  | false=>exact absurd hr h1
 have hfit:fitsL p.types (st.drop (st.length-(ruleT p k (lastFd st) i).length)) (ruleT p k (lastFd st) i)=true:=by
  cases hr:fitsL p.types (st.drop (st.length-(ruleT p k (lastFd st) i).length)) (ruleT p k (lastFd st) i) with
  | true=>rfl
  | false=>rw[hr] at h3;exact absurd rfl h3
 refine⟨?_,?_,hn⟩
 ·intro x hx
  rcases List.mem_append.1 hx with hx|hx
  ·exact hs x (List.mem_of_mem_take hx)
  ·refine ruleG_ok hF hk hi hn ?_ x hx
   intro h24
   have hT:ruleT p k (lastFd st) i=[rF (-1)]:=by unfold ruleT;rw[h24];rfl
   rw[hT] at hfit h2
   have h2':¬st.length<1:=h2
   have hl:0<st.length:=by omega
   have e:(st.drop (st.length-[rF (-1)].length)).length=1:=by rw[List.length_drop];simp;omega
   unfold fitsL at hfit
   rw[e,Bool.and_eq_true] at hfit
   have hu:upTo (fun i=>fieldUnderF p.types (fdAt (st.drop (st.length-[rF (-1)].length)) i) (fdAt [rF (-1)] i)) 1=(true&&fieldUnderF p.types (fdAt (st.drop (st.length-[rF (-1)].length)) 0) (fdAt [rF (-1)] 0)):=rfl
   have h6:=hfit.2
   rw[hu,Bool.true_and,fdAt_drop] at h6
   have h7:fieldUnderF p.types (lastFd st) (rF (-1))=true:=h6
   unfold fieldUnderF at h7
   simp only[Bool.and_eq_true] at h7
   have hk1:(lastFd st).kind≠1:=by
    intro hk1
    have h8:=h7.2.2
    unfold sortF at h8
    rw[if_pos (.inl hk1),hk1] at h8
    exact absurd h8 (by decide)
   have h9:=h7.1
   exact(show fieldOk 3 (lastFd st).of (kinCount p.types:Nat)=true by
    unfold fieldOk at h9 ⊢
    rw[if_neg hk1] at h9
    rw[if_neg (by decide)]
    split at h9
    ·rw[if_pos (.inr rfl)];exact h9
    ·cases h9)
 ·show(List.take _ _++ruleG p k (lastFd st) i).length≤8
  rw[List.length_append,List.length_take];omega
def stP (p:GProg) (k:Nat):Nat→List Fd×Int
 | 0=>([],0)
 | n+1=>ckDo p k (stP p k n).1 (insAt' (funAt' p.funs k).body n)
theorem stP_ok {p:GProg} {k:Nat} (hF:PF p) (hk:k<p.funs.length):∀n,n≤(funAt' p.funs k).body.length→(∀j,j≤n→(stP p k j).2=0)→(∀x∈(stP p k n).1,FOk p.types x)∧(stP p k n).1.length≤8
 | 0,_,_=>⟨fun x hx=>(by cases hx),Nat.zero_le _⟩
 | n+1,h1,h2=>by
  have ih:=stP_ok hF hk n (by omega) (fun j hj=>h2 j (by omega))
  have:=ckDo_ok hF hk ((hF.fn k hk).bd n (by omega)) ih.1 (h2 (n+1) (Nat.le_refl _))
  exact⟨this.1,this.2.1⟩
def wkF (p:GProg) (k:Nat):Nat→Nat→Nat×Int
 | 0,n=>(n,0)
 | m+1,n=>if(stP p k (n+1)).2≠0 then(n+1,(stP p k (n+1)).2) else wkF p k m (n+1)
def wk (p:GProg) (k:Nat):Nat×Int:=wkF p k (funAt' p.funs k).body.length 0
theorem wkF_step {p:GProg} {k L n:Nat} (h:n<L):wkF p k (L-n) n=if(stP p k (n+1)).2≠0 then(n+1,(stP p k (n+1)).2) else wkF p k (L-(n+1)) (n+1):=by
 obtain⟨m,hm⟩:∃m,L-n=m+1:=⟨L-n-1,by omega⟩
 rw[hm,show L-(n+1)=m by omega]
 rfl
theorem wkF_end {p:GProg} {k L:Nat}:wkF p k (L-L) L=(L,0):=by rw[Nat.sub_self];rfl
theorem wkF_all {p:GProg} {k:Nat}:∀m n,(wkF p k m n).2=0→(∀j,j≤n→(stP p k j).2=0)→(wkF p k m n).1=n+m∧∀j,j≤n+m→(stP p k j).2=0
 | 0,n,_,h=>⟨rfl,h⟩
 | m+1,n,h0,h=>by
  unfold wkF at h0 ⊢
  by_cases h1:(stP p k (n+1)).2≠0
  ·rw[if_pos h1] at h0;exact absurd h0 h1
  ·rw[if_neg h1] at h0 ⊢
   have h2:∀j,j≤n+1→(stP p k j).2=0:=fun j hj=>by
    by_cases e:j=n+1
    ·subst e;exact Decidable.not_not.1 h1
    ·exact h j (by omega)
   have:=wkF_all m (n+1) h0 h2
   exact⟨by omega,fun j hj=>this.2 j (by omega)⟩
theorem wk_all {p:GProg} {k:Nat} (h:(wk p k).2=0):(wk p k).1=(funAt' p.funs k).body.length∧∀j,j≤(funAt' p.funs k).body.length→(stP p k j).2=0:=by
 have:=wkF_all (p:=p) (k:=k) (funAt' p.funs k).body.length 0 h (fun j hj=>by rw[show j=0 by omega];rfl)
 exact⟨by unfold wk;omega,fun j hj=>this.2 j (by omega)⟩
theorem wkF_one {p:GProg} {k:Nat}:∀m n,0<n+m→1≤(wkF p k m n).1∧(wkF p k m n).1≤n+m
 | 0,n,h=>⟨by unfold wkF;omega,Nat.le_refl _⟩
 | m+1,n,h=>by
  unfold wkF
  split
  ·exact⟨Nat.succ_le_succ (Nat.zero_le n),by show n+1≤_;omega⟩
  ·have:=wkF_one (p:=p) (k:=k) m (n+1) (by omega)
   exact⟨this.1,by omega⟩
def jpBad (p:GProg) (k i:Nat):Bool:=decide ((insAt' (funAt' p.funs k).body i).op=25∨(insAt' (funAt' p.funs k).body i).op=26)&&decide (0<(stP p k (insAt' (funAt' p.funs k).body i).a.toNat).1.length)
def jpF (p:GProg) (k:Nat):Nat→Nat→Int×Int
 | 0,_=>(0,0)
 | m+1,i=>if jpBad p k i=true then((i:Int),4) else jpF p k m (i+1)
theorem jpF_step {p:GProg} {k L i:Nat} (h:i<L):jpF p k (L-i) i=if jpBad p k i=true then((i:Int),4) else jpF p k (L-(i+1)) (i+1):=by
 obtain⟨m,hm⟩:∃m,L-i=m+1:=⟨L-i-1,by omega⟩
 rw[hm,show L-(i+1)=m by omega]
 rfl
theorem jpF_end {p:GProg} {k L:Nat}:jpF p k (L-L) L=(0,0):=by rw[Nat.sub_self];rfl
theorem jump_in {p:GProg} {k:Nat} (hF:PF p) (hk:k<p.funs.length) (h:(wk p k).2=0) {i:Nat} (hi:i<(funAt' p.funs k).body.length) (ho:(insAt' (funAt' p.funs k).body i).op=25∨(insAt' (funAt' p.funs k).body i).op=26) :
  0≤(insAt' (funAt' p.funs k).body i).a∧(insAt' (funAt' p.funs k).body i).a<((funAt' p.funs k).body.length:Int):=by
 have ha:=(wk_all h).2
 have hb:=(hF.fn k hk).bd i hi
 have h1:=(ckDo_ok hF hk hb (stP_ok hF hk i (by omega) (fun j hj=>ha j (by omega))).1 (ha (i+1) (by omega))).2.2
 obtain⟨⟨_,_⟩,_,_,g5,_,_⟩:=ins_bounds hb
 generalize insAt' (funAt' p.funs k).body i=x at *
 obtain⟨op,a,b⟩:=x
 simp only at ho g5 ⊢
 rcases ho with rfl|rfl
 ·exact⟨g5 (by decide) (by decide) (by decide),of_decide_eq_true (show decide (a<((funAt' p.funs k).body.length:Int))=true from h1)⟩
 ·exact⟨g5 (by decide) (by decide) (by decide),of_decide_eq_true (show decide (a<((funAt' p.funs k).body.length:Int))=true from h1)⟩
def lvF (op:Int):Bool:=decide (op=25∨op=28∨op=29)
def funF (p:GProg) (k:Nat):Int×Int :=
 if(wk p k).2≠0 then(((wk p k).1:Int)-1,(wk p k).2)
 else if lvF (insAt' (funAt' p.funs k).body ((funAt' p.funs k).body.length-1)).op=false then(((funAt' p.funs k).body.length:Int)-1,6)
 else jpF p k (funAt' p.funs k).body.length 0
def ckFunF (p:GProg) (f:Int):Int×Int:=if(progOkF p&&(decide (0≤f)&&decide (f<(p.funs.length:Int))))=true then funF p f.toNat else(0,7)
def alF (p:GProg):Nat→Nat→Int×Int×Int
 | 0,_=>(0,0,0)
 | m+1,k=>if(funF p k).2≠0 then((k:Int),(funF p k).1,(funF p k).2) else alF p m (k+1)
theorem alF_step {p:GProg} {L k:Nat} (h:k<L):alF p (L-k) k=if(funF p k).2≠0 then((k:Int),(funF p k).1,(funF p k).2) else alF p (L-(k+1)) (k+1):=by
 obtain⟨m,hm⟩:∃m,L-k=m+1:=⟨L-k-1,by omega⟩
 rw[hm,show L-(k+1)=m by omega]
 rfl
theorem alF_end {p:GProg} {L:Nat}:alF p (L-L) L=(0,0,0):=by rw[Nat.sub_self];rfl
def ckAllF (p:GProg):Int×Int×Int:=if progOkF p=true then alF p p.funs.length 0 else(0,0,7)
end Go.Proofs.YtpaneomkphjpcaaGreatDoor
