/- PcMath: CkMath, CkInsF. -/
import Derived.Test.YtpaneomkphjpcaaGreatDoorCkBeh
import Derived.Test.YtpaneomkphjpcaaGreatDoorPaOk
import Derived.Test.YtpaneomkphjpcaaGreatDoorCkNeed9
namespace Go.Proofs.YtpaneomkphjpcaaGreatDoor
open Go.ChangeShapes Go.WideShapes Go.ChangeAt Go.RowKit
set_option linter.unusedVariables false
set_option linter.unusedSimpArgs false
def FOk (gs:List (List Ty)) (f:Fd):Prop:=fieldOk f.kind f.of (kinCount gs:Nat)=true
theorem FOk.kind {gs:List (List Ty)} {f:Fd} (h:FOk gs f):f.kind=1∨f.kind=2∨f.kind=3:=by
 unfold FOk fieldOk at h
 split at h
 ·exact .inl (by assumption)
 ·split at h
  ·rename_i h2;exact .inr h2
  ·cases h
theorem FOk.num (gs:List (List Ty)):FOk gs nF:=by simp[FOk,fieldOk,nF]
theorem FOk.ref {gs:List (List Ty)} {a:Int} (h:a=-1∨a=-2∨(0≤a∧a<(kinCount gs:Int))):FOk gs (rF a):=by
 unfold FOk fieldOk rF;simp only;rw[if_neg (by decide),if_pos (by decide)];exact decide_eq_true h
theorem FOk.sure {gs:List (List Ty)} {a:Int} (h:a=-1∨a=-2∨(0≤a∧a<(kinCount gs:Int))):FOk gs (uF a):=by
 unfold FOk fieldOk uF;simp only;rw[if_neg (by decide),if_pos (by decide)];exact decide_eq_true h
theorem FOk.sort {gs:List (List Ty)} {f:Fd} (h:FOk gs f):FOk gs (sOf f):=h
theorem fdAt_in {l:List Fd} {i:Nat} (h:i<l.length):fdAt l i∈l:=by
 unfold fdAt;rw[List.getD_eq_getElem?_getD,List.getElem?_eq_getElem h];exact List.getElem_mem h
structure FF (gs:List (List Ty)) (f:GFun):Prop where
 tl:f.takes.length≤3
 ol:f.own.length≤3
 b0:0<f.body.length
 bl:f.body.length≤30
 tk:∀x∈f.takes,FOk gs x∧x.mt=false
 ow:∀x∈f.own,FOk gs x∧x.mt=false
 gv:FOk gs f.gives∧f.gives.mt=false
 bd:∀i,i<f.body.length→insOk (insAt' f.body i).op (insAt' f.body i).a (insAt' f.body i).b=true
structure PF (p:GProg):Prop where
 ki:kinOkF p.types=true
 pa:Parts p.types
 gl:p.glob.length≤3
 go:∀x∈p.glob,FOk p.types x∧x.mt=false
 f0:0<p.funs.length
 fl:p.funs.length≤5
 fn:∀k,k<p.funs.length→FF p.types (funAt' p.funs k)
theorem mem_fdAt {l:List Fd} {x:Fd} (h:x∈l):∃i,i<l.length∧fdAt l i=x:=by
 obtain⟨i,hi,e⟩:=List.getElem_of_mem h
 exact⟨i,hi,by unfold fdAt;rw[List.getD_eq_getElem?_getD,List.getElem?_eq_getElem hi];exact e⟩
theorem sorts_of {gs:List (List Ty)} {fs:List Fd} (h:sortsTo fs (kinCount gs:Nat) fs.length=true):∀x∈fs,FOk gs x∧x.mt=false:=by
 intro x hx
 obtain⟨i,hi,rfl⟩:=mem_fdAt hx
 have h1:=allTo_true h i hi
 unfold sOk sortOk at h1
 simp only[Bool.and_eq_true,Bool.not_eq_true'] at h1
 exact h1
theorem ff_of {gs:List (List Ty)} {f:GFun} (h:funOkF (kinCount gs:Nat) f=true):FF gs f:=by
 unfold funOkF at h
 simp only[Bool.and_eq_true,decide_eq_true_eq] at h
 obtain⟨⟨⟨h1,h2⟩,h3,h4⟩,⟨h5,h6,_⟩,h7,h8⟩:=h
 refine⟨h1,h2,h3,h4,sorts_of h5,sorts_of h6,?_,fun i hi=>allTo_true h8 i hi⟩
 unfold sOk sortOk at h7
 simp only[Bool.and_eq_true,Bool.not_eq_true'] at h7
 exact h7
theorem pf_of {p:GProg} (h:progOkF p=true):PF p:=by
 unfold progOkF at h
 simp only[Bool.and_eq_true,decide_eq_true_eq] at h
 obtain⟨⟨hk,⟨hl,hs,_⟩,h0,h5⟩,hf⟩:=h
 have hp:Parts p.types:=by
  have hk':=hk
  unfold kinOkF at hk'
  rw[Bool.and_eq_true] at hk'
  exact(partsF_iff _).1 hk'.1
 exact⟨hk,hp,hl,sorts_of hs,h0,h5,fun k hk=>ff_of (allTo_true hf k hk)⟩
theorem tyN_ok {gs:List (List Ty)} (hP:Parts gs) {a:Int} (h:isTypeF gs a=true):tyF gs a=tyN gs a.toNat∧0≤a∧a.toNat<kinCount gs:=by
 have h2:=h
 unfold isTypeF at h2
 simp only[Bool.and_eq_true,decide_eq_true_eq] at h2
 exact⟨by unfold tyF;rw[h];rfl,h2.1,by omega⟩
theorem tyF_fields {gs:List (List Ty)} (hP:Parts gs) (a:Int):∀x∈(tyF gs a).fields,FOk gs x:=by
 intro x hx
 by_cases h:isTypeF gs a=true
 ·obtain⟨e,h0,hl⟩:=tyN_ok hP h
  rw[e] at hx
  obtain⟨i,hi,rfl⟩:=mem_fdAt hx
  exact(parts_flat hP hl).2.2 i hi
 ·unfold tyF at hx
  rw[if_neg h] at hx
  cases hx
theorem tyIs_type {gs:List (List Ty)} {a k:Int} (h:tyIs gs a k=true):isTypeF gs a=true:=by
 unfold tyIs at h;rw[Bool.and_eq_true] at h;exact h.1
theorem tyIs_lt {gs:List (List Ty)} {a k:Int} (h:tyIs gs a k=true):0≤a∧a<(kinCount gs:Int):=by
 have h1:=tyIs_type h
 unfold isTypeF at h1
 simpa using h1
theorem bxF_ok {gs:List (List Ty)} (hP:Parts gs) {a b:Int} (h0:0≤b) (h:bxIs gs a b=true):FOk gs (bxF gs a b):=by
 unfold bxIs at h
 simp only[Bool.and_eq_true,decide_eq_true_eq] at h
 unfold bxF plFd
 rw[h.1,if_pos rfl,if_pos h.2]
 exact tyF_fields hP a _ (fdAt_in (by omega))
theorem rwF_ok {gs:List (List Ty)} (hP:Parts gs) {a:Int} (h:tyIs gs a 2=true):FOk gs (rwF gs a):=by
 unfold rwF
 rw[h,if_pos rfl]
 exact tyF_fields hP a _ (fdAt_in (by rw[tyIs_len hP h];decide))
theorem plFd_ok {gs:List (List Ty)} {l:List Fd} {a:Int} (h0:0≤a) (ha:a<(l.length:Int)) (h:∀x∈l,FOk gs x∧x.mt=false):FOk gs (plFd l a):=by
 unfold plFd;rw[if_pos ha];exact(h _ (fdAt_in (by omega))).1
theorem slots_ok {gs:List (List Ty)} {f:GFun} (h:FF gs f):∀x∈f.takes++f.own,FOk gs x∧x.mt=false:=by
 intro x hx
 rcases List.mem_append.1 hx with e|e
 ·exact h.tk x e
 ·exact h.ow x e
set_option maxHeartbeats 4000000 in
theorem ruleT_ok {p:GProg} {k:Nat} (hF:PF p) (hk:k<p.funs.length) {top:Fd} {i:GIns} (hi:insOk i.op i.a i.b=true) (hn:ruleN p k i=true) (h6:i.op≠6):∀x∈ruleT p k top i,FOk p.types x:=by
 obtain⟨op,a,b⟩:=i
 obtain⟨⟨g1,g2⟩,g3,g4,g5,g6,g7⟩:=ins_bounds hi
 simp only at g1 g2 g3 g4 g5 g6 g7 h6
 have hff:=hF.fn k hk
 have N:=FOk.num p.types
 have R1:FOk p.types (rF (-1)):=FOk.ref (.inl rfl)
 have hop:op=1∨op=2∨op=3∨op=4∨op=5∨op=7∨op=8∨op=9∨op=10∨op=11∨op=12∨op=13∨op=14∨op=15∨op=16∨op=17∨op=18∨op=19∨op=20∨op=21∨op=22∨op=23∨op=24∨op=25∨op=26∨op=27∨op=28∨op=29∨op=30∨op=31∨op=32∨op=33:=by omega
 clear hi g1 g2 h6
 intro x hx
 rcases hop with rfl|rfl|rfl|rfl|rfl|rfl|rfl|rfl|rfl|rfl|rfl|rfl|rfl|rfl|rfl|rfl|rfl|rfl|rfl|rfl|rfl|rfl|rfl|rfl|rfl|rfl|rfl|rfl|rfl|rfl|rfl|rfl
 ·exact absurd hx (by show x∉([]:List Fd);simp)
 ·exact absurd hx (by show x∉([]:List Fd);simp)
 ·replace hx:x∈[plFd ((funAt' p.funs k).takes++(funAt' p.funs k).own) a]:=hx
  replace hn:decide (a<(((funAt' p.funs k).takes++(funAt' p.funs k).own).length:Int))=true:=hn
  rw[List.mem_singleton.1 hx]
  exact plFd_ok (g5 (by decide) (by decide) (by decide)) (of_decide_eq_true hn) (slots_ok hff)
 ·exact absurd hx (by show x∉([]:List Fd);simp)
 ·replace hx:x∈[plFd p.glob a]:=hx
  replace hn:decide (a<(p.glob.length:Int))=true:=hn
  rw[List.mem_singleton.1 hx]
  exact plFd_ok (g5 (by decide) (by decide) (by decide)) (of_decide_eq_true hn) hF.go
 ·replace hx:x∈[nF,nF]:=hx
  simp only[List.mem_cons,List.not_mem_nil,or_false,or_self] at hx;rw[hx];exact N
 ·replace hx:x∈[nF,nF]:=hx
  simp only[List.mem_cons,List.not_mem_nil,or_false,or_self] at hx;rw[hx];exact N
 ·replace hx:x∈[nF,nF]:=hx
  simp only[List.mem_cons,List.not_mem_nil,or_false,or_self] at hx;rw[hx];exact N
 ·replace hx:x∈[nF]:=hx
  rw[List.mem_singleton.1 hx];exact N
 ·replace hx:x∈[rF (-2)]:=hx
  rw[List.mem_singleton.1 hx];exact FOk.ref (.inr (.inl rfl))
 ·exact absurd hx (by show x∉([]:List Fd);simp)
 ·replace hx:x∈(tyF p.types a).fields.map sOf:=hx
  obtain⟨y,hy,rfl⟩:=List.mem_map.1 hx
  exact FOk.sort (tyF_fields hF.pa a y hy)
 ·replace hx:x∈[rF a]:=hx
  replace hn:bxIs p.types a b=true:=hn
  unfold bxIs at hn
  rw[Bool.and_eq_true] at hn
  rw[List.mem_singleton.1 hx];exact FOk.ref (.inr (.inr (tyIs_lt hn.1)))
 ·replace hx:x∈[rF a,sOf (bxF p.types a b)]:=hx
  replace hn:(bxIs p.types a b&&(bxF p.types a b).mt)=true:=hn
  rw[Bool.and_eq_true] at hn
  have h2:=hn.1
  unfold bxIs at h2
  rw[Bool.and_eq_true] at h2
  rcases List.mem_cons.1 hx with rfl|hx
  ·exact FOk.ref (.inr (.inr (tyIs_lt h2.1)))
  ·rw[List.mem_singleton.1 hx];exact FOk.sort (bxF_ok hF.pa g6 hn.1)
 ·replace hx:x∈[nF,sOf (rwF p.types a)]:=hx
  replace hn:tyIs p.types a 2=true:=hn
  rcases List.mem_cons.1 hx with rfl|hx
  ·exact N
  ·rw[List.mem_singleton.1 hx];exact FOk.sort (rwF_ok hF.pa hn)
 ·replace hx:x∈[rF a,nF]:=hx
  replace hn:tyIs p.types a 2=true:=hn
  rcases List.mem_cons.1 hx with rfl|hx
  ·exact FOk.ref (.inr (.inr (tyIs_lt hn)))
  ·rw[List.mem_singleton.1 hx];exact N
 ·replace hx:x∈[rF a,nF,sOf (rwF p.types a)]:=hx
  replace hn:(tyIs p.types a 2&&(rwF p.types a).mt)=true:=hn
  rw[Bool.and_eq_true] at hn
  rcases List.mem_cons.1 hx with rfl|hx
  ·exact FOk.ref (.inr (.inr (tyIs_lt hn.1)))
  ·rcases List.mem_cons.1 hx with rfl|hx
   ·exact N
   ·rw[List.mem_singleton.1 hx];exact FOk.sort (rwF_ok hF.pa hn.1)
 ·replace hx:x∈[rF a]:=hx
  replace hn:tyIs p.types a 2=true:=hn
  rw[List.mem_singleton.1 hx];exact FOk.ref (.inr (.inr (tyIs_lt hn)))
 ·replace hx:x∈[rF (-1),rF (-1)]:=hx
  simp only[List.mem_cons,List.not_mem_nil,or_false,or_self] at hx;rw[hx];exact R1
 ·replace hx:x∈[rF (-1)]:=hx
  rw[List.mem_singleton.1 hx];exact R1
 ·replace hx:x∈[rF (-1)]:=hx
  rw[List.mem_singleton.1 hx];exact R1
 ·replace hx:x∈[rF (-1)]:=hx
  rw[List.mem_singleton.1 hx];exact R1
 ·replace hx:x∈[rF (-1)]:=hx
  rw[List.mem_singleton.1 hx];exact R1
 ·exact absurd hx (by show x∉([]:List Fd);simp)
 ·replace hx:x∈[nF]:=hx
  rw[List.mem_singleton.1 hx];exact N
 ·replace hx:x∈caT p a:=hx
  replace hn:decide (a<(p.funs.length:Int))=true:=hn
  have ha:=of_decide_eq_true hn
  have h0:=g5 (by decide) (by decide) (by decide)
  unfold caT at hx
  rw[if_pos ha] at hx
  exact((hF.fn a.toNat (by omega)).tk x hx).1
 ·replace hx:x∈caT p a:=hx
  replace hn:decide (a<(p.funs.length:Int))=true:=hn
  have ha:=of_decide_eq_true hn
  have h0:=g5 (by decide) (by decide) (by decide)
  unfold caT at hx
  rw[if_pos ha] at hx
  exact((hF.fn a.toNat (by omega)).tk x hx).1
 ·replace hx:x∈[(funAt' p.funs k).gives]:=hx
  rw[List.mem_singleton.1 hx];exact hff.gv.1
 ·replace hx:x∈[nF]:=hx
  rw[List.mem_singleton.1 hx];exact N
 ·replace hx:x∈[rF (-1)]:=hx
  rw[List.mem_singleton.1 hx];exact R1
 ·replace hx:x∈[nF]:=hx
  rw[List.mem_singleton.1 hx];exact N
 ·exact absurd hx (by show x∉([]:List Fd);simp)
set_option maxHeartbeats 4000000 in
theorem rule_len {p:GProg} {k:Nat} (hF:PF p) {top:Fd} {i:GIns} (hi:insOk i.op i.a i.b=true):(ruleT p k top i).length≤4∧(ruleG p k top i).length≤1:=by
 obtain⟨op,a,b⟩:=i
 obtain⟨⟨g1,g2⟩,g3,g4,g5,g6,g7⟩:=ins_bounds hi
 simp only at g1 g2 g3 g4 g5 g6 g7
 have hl4:=tyF_small hF.pa a
 have hc:(caT p a).length≤4∧(caG p a).length≤1:=by
  unfold caT caG
  by_cases ha:a<(p.funs.length:Int)
  ·rw[if_pos ha,if_pos ha]
   refine⟨?_,by simp⟩
   by_cases h0:0≤a
   ·have:=(hF.fn a.toNat (by omega)).tl;omega
   ·have:a.toNat=0:=by omega
    rw[this]
    have:=(hF.fn 0 hF.f0).tl;omega
  ·rw[if_neg ha,if_neg ha];simp
 have hop:op=1∨op=2∨op=3∨op=4∨op=5∨op=6∨op=7∨op=8∨op=9∨op=10∨op=11∨op=12∨op=13∨op=14∨op=15∨op=16∨op=17∨op=18∨op=19∨op=20∨op=21∨op=22∨op=23∨op=24∨op=25∨op=26∨op=27∨op=28∨op=29∨op=30∨op=31∨op=32∨op=33:=by omega
 clear hi g1 g2
 rcases hop with rfl|rfl|rfl|rfl|rfl|rfl|rfl|rfl|rfl|rfl|rfl|rfl|rfl|rfl|rfl|rfl|rfl|rfl|rfl|rfl|rfl|rfl|rfl|rfl|rfl|rfl|rfl|rfl|rfl|rfl|rfl|rfl|rfl
 all_goals first
  | exact hc
  | exact⟨hc.1,by show([]:List Fd).length≤1;decide⟩
  | exact⟨by show((tyF p.types a).fields.map sOf).length≤4;rw[List.length_map];exact hl4,Nat.le_refl _⟩
  | exact⟨Nat.le_of_ble_eq_true rfl,Nat.le_of_ble_eq_true rfl⟩
def needT (p:GProg) (k:Nat) (st:List Fd) (i:GIns):List Fd:=if i.op=6 then [⟨-1,0,false⟩] else ruleT p k (lastFd st) i
def needG (p:GProg) (k:Nat) (st:List Fd) (i:GIns):List Fd:=if i.op=24∧st.length=0 then [] else ruleG p k (lastFd st) i
def l4DoF (p:GProg) (k:Nat) (st:List Fd) (i:GIns):List Fd×Int :=
 if ruleN p k i=false then([],1)
 else if st.length<(needT p k st i).length then([],2)
 else if upTo (fun j=>fit1 p.types (fdAt st (st.length-(needT p k st i).length+j)) (fdAt (needT p k st i) j)) (needT p k st i).length=false then([],3)
 else if i.op=28∧sortF p.types (funAt' p.funs i.a.toNat).gives (funAt' p.funs k).gives=false then([],3)
 else if(decide (i.op=25∨i.op=28∨i.op=29)||decide (i.op=26))=true∧(needT p k st i).length<st.length then([],4)
 else if 8<st.length-(needT p k st i).length+(needG p k st i).length then([],5)
 else(st.take (st.length-(needT p k st i).length)++needG p k st i,0)
theorem upTo_congr {P Q:Nat→Bool} {n:Nat} (h:∀i,i<n→P i=Q i):upTo P n=upTo Q n:=by
 induction n with
 | zero=>rfl
 | succ n ih=>unfold upTo;rw[ih (fun i hi=>h i (by omega)),h n (Nat.lt_succ_self _)]
theorem fieldUnder_of {gs:List (List Ty)} {f g:Fd} (hf:FOk gs f) (hg:FOk gs g):fieldUnderF gs f g=sortF gs f g:=by
 unfold fieldUnderF
 rw[show fieldOk f.kind f.of (kinCount gs:Nat)=true from hf,show fieldOk g.kind g.of (kinCount gs:Nat)=true from hg];simp
theorem fit1_of {gs:List (List Ty)} {s f:Fd} (hf:FOk gs f):fit1 gs s f=sortF gs s f:=by
 unfold fit1
 rw[decide_eq_false (by rcases hf.kind with e|e|e<;>omega)];rfl
theorem fdAt_drop (st:List Fd) (m i:Nat):fdAt (st.drop m) i=fdAt st (m+i):=by simp[fdAt,List.getElem?_drop,List.getD]
theorem sortF_self {gs:List (List Ty)} {f:Fd} (h:FOk gs f):sortF gs f f=true:=by
 unfold sortF
 split
 ·simp
 ·rename_i h1
  have:under gs f.of f.of=true:=by unfold under;rw[if_pos (.inr rfl)]
  rw[this]
  rcases h.kind with e|e|e<;>simp[e] at h1 ⊢
theorem fits_of {gs:List (List Ty)} {st T:List Fd} (hl:T.length≤st.length) (hs:∀x∈st,FOk gs x) (ht:∀x∈T,FOk gs x) :
  fitsL gs (st.drop (st.length-T.length)) T=upTo (fun j=>fit1 gs (fdAt st (st.length-T.length+j)) (fdAt T j)) T.length:=by
 have e:(st.drop (st.length-T.length)).length=T.length:=by rw[List.length_drop];omega
 unfold fitsL
 rw[e,decide_eq_true rfl,Bool.true_and]
 refine upTo_congr fun i hi=>?_
 rw[fdAt_drop,fieldUnder_of (hs _ (fdAt_in (by omega))) (ht _ (fdAt_in hi)),fit1_of (ht _ (fdAt_in hi))]
theorem l4Do_same {p:GProg} {k:Nat} (hF:PF p) (hk:k<p.funs.length) {st:List Fd} {i:GIns} (hi:insOk i.op i.a i.b=true) (hs:∀x∈st,FOk p.types x):l4DoF p k st i=ckDo p k st i:=by
 unfold l4DoF ckDo
 cases hn:ruleN p k i with
 | false=>rfl
 | true =>
  rw[if_neg (show ¬(true=false) by decide),if_neg (show ¬(true=false) by decide)]
  have hpass:passF p k i.op i.a=!(decide (i.op=28∧sortF p.types (funAt' p.funs i.a.toNat).gives (funAt' p.funs k).gives=false)):=by
   unfold passF
   by_cases h28:i.op=28
   ·have ha:0≤i.a∧i.a<(p.funs.length:Int):=by
     obtain⟨op,a,b⟩:=i
     simp only at h28
     subst h28
     exact⟨(ins_bounds hi).2.2.2.1 (show(28:Int)≠12 by decide) (show(28:Int)≠22 by decide) (show(28:Int)≠23 by decide),of_decide_eq_true (show decide (a<(p.funs.length:Int))=true from hn)⟩
    rw[if_pos h28,fieldUnder_of (hF.fn i.a.toNat (by omega)).gv.1 (hF.fn k hk).gv.1]
    cases sortF p.types (funAt' p.funs i.a.toNat).gives (funAt' p.funs k).gives<;>simp[h28]
   ·rw[if_neg h28];simp[h28]
  by_cases h6:i.op=6
  ·have eT:ruleT p k (lastFd st) i=[lastFd st]:=by
    obtain⟨op,a,b⟩:=i
    simp only at h6
    subst h6
    rfl
   have eG:ruleG p k (lastFd st) i=[]:=by
    obtain⟨op,a,b⟩:=i
    simp only at h6
    subst h6
    rfl
   have nT:needT p k st i=[⟨-1,0,false⟩]:=if_pos h6
   have nG:needG p k st i=[]:=by unfold needG;rw[if_neg (by omega)];exact eG
   rw[eT,eG,nT,nG,hpass]
   simp only[List.length_singleton,List.length_nil]
   by_cases h0:st.length<1
   ·rw[if_pos h0,if_pos h0]
   ·rw[if_neg h0,if_neg h0]
    have u1:upTo (fun j=>fit1 p.types (fdAt st (st.length-1+j)) (fdAt [(⟨-1,0,false⟩:Fd)] j)) 1=true:=rfl
    have ho:FOk p.types (lastFd st):=hs _ (fdAt_in (l:=st) (i:=st.length-1) (by omega))
    have u2:fitsL p.types (st.drop (st.length-1)) [lastFd st]=true:=by
     unfold fitsL
     rw[List.length_drop,show st.length-(st.length-1)=1 by omega]
     show(true&&(true&&fieldUnderF p.types (fdAt (st.drop (st.length-1)) 0) (lastFd st)))=true
     rw[fdAt_drop,Nat.add_zero]
     show(true&&(true&&fieldUnderF p.types (lastFd st) (lastFd st)))=true
     rw[fieldUnder_of ho ho,sortF_self ho];rfl
    rw[u1,u2]
    simp[h6]
  ·have nT:needT p k st i=ruleT p k (lastFd st) i:=if_neg h6
   rw[nT,hpass]
   have ht:=ruleT_ok hF hk (top:=lastFd st) hi hn h6
   by_cases h24:i.op=24∧st.length=0
   ·have eT:ruleT p k (lastFd st) i=[rF (-1)]:=by
     obtain⟨op,a,b⟩:=i
     obtain⟨h24,_⟩:=h24
     simp only at h24
     subst h24
     rfl
    rw[eT,h24.2]
    simp
   ·have nG:needG p k st i=ruleG p k (lastFd st) i:=if_neg h24
    rw[nG]
    generalize ruleT p k (lastFd st) i=T at *
    generalize ruleG p k (lastFd st) i=G at *
    by_cases h2:st.length<T.length
    ·rw[if_pos h2,if_pos h2]
    ·rw [if_neg h2,if_neg h2,fits_of (by omega) hs ht]
     cases upTo (fun j=>fit1 p.types (fdAt st (st.length-T.length+j)) (fdAt T j)) T.length with
     | false=>rfl
     | true =>
      by_cases h3:i.op=28∧sortF p.types (funAt' p.funs i.a.toNat).gives (funAt' p.funs k).gives=false
      ·have e3:(true&&!(decide (i.op=28∧sortF p.types (funAt' p.funs i.a.toNat).gives (funAt' p.funs k).gives=false)))=false:=by simp[h3]
       rw[if_neg (show ¬(true=false) by decide),if_pos h3,if_pos e3]
      ·have e3:¬(true&&!(decide (i.op=28∧sortF p.types (funAt' p.funs i.a.toNat).gives (funAt' p.funs k).gives=false)))=false:=by rw[decide_eq_false h3];decide
       rw[if_neg (show ¬(true=false) by decide),if_neg h3,if_neg e3]
       have e4:((decide (i.op=25∨i.op=28∨i.op=29)||decide (i.op=26))=true∧T.length<st.length)↔(decide (T.length<st.length)&&(decide (i.op=25∨i.op=28∨i.op=29)||decide (i.op=26)))=true:=by
        simp only[Bool.and_eq_true,decide_eq_true_eq]
        exact and_comm
       by_cases h4:(decide (i.op=25∨i.op=28∨i.op=29)||decide (i.op=26))=true∧T.length<st.length
       ·rw[if_pos h4,if_pos (e4.1 h4)]
       ·rw[if_neg h4,if_neg (fun h=>h4 (e4.2 h))]
end Go.Proofs.YtpaneomkphjpcaaGreatDoor
namespace Go.Proofs.YtpaneomkphjpcaaGreatDoor
open Go.ChangeShapes Go.WideShapes Go.ChangeAt Go.RowKit Go.Deep
set_option linter.unusedVariables false
set_option linter.unusedSimpArgs false
def ckInsOk (p:GProg) (f:Int) (st:List Fd) (i:GIns):Bool:=((progOkF p&&(decide (0≤f)&&decide (f<(p.funs.length:Int))))&&decide (st.length≤8))&&(sortsTo st (kinCount p.types:Nat) st.length&&insOk i.op i.a i.b)
def ckInsF (p:GProg) (f:Int) (st:List Fd) (i:GIns):List Fd×Int:=if ckInsOk p f st i=true then ckDo p f.toNat st i else([],7)
def InsPost (w:World) (r:List Fd×Int) (e:Ending) (w':World):Prop:=∃a c,e=.returned (.tuple #[.slice a r.1.length c,.int .i64 r.2])∧FieldsM true w' w.heap.size w'.heap.size a r.1∧Below w.heap.size w w'
theorem insPost_no {w w':World} {a:Option Addr} {c:Nat} (hb:Below w.heap.size w w'):InsPost w ([],7) (.returned (.tuple #[.slice a 0 c,.int .i64 7])) w':=⟨a,c,rfl,⟨.inl rfl,fun _=>.inl rfl⟩,hb⟩
end Go.Proofs.YtpaneomkphjpcaaGreatDoor
