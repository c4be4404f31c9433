/- markFieldSS and heldFieldSS of the laws: lists of lists of fields. -/
import Derived.Test.YtpaneomkphjpcaaGreatDoorEqFSS
import Derived.Test.YtpaneomkphjpcaaGreatDoorCkStksI
import Derived.Test.YtpaneomkphjpcaaGreatDoorPcMark
namespace Go.Proofs.YtpaneomkphjpcaaGreatDoor
open Go.ChangeShapes Go.WideShapes Go.ChangeAt Go.RowKit Go.Joins Go.Deep
set_option linter.unusedVariables false
set_option linter.unusedSimpArgs false
def cumL (st:Nat→List Fd×Int):Nat→Nat
 | 0=>0
 | j+1=>cumL st j+(st j).1.length
theorem cumL_le {st:Nat→List Fd×Int} {n:Nat} (h8:∀j,j<n→(st j).1.length≤1000000):∀j,j≤n→cumL st j≤j*1000000
 | 0,_=>Nat.le_refl _
 | j+1,h=>by
  have h1:=cumL_le h8 j (by omega)
  have h2:=h8 j (by omega)
  show cumL st j+_≤_
  omega
def slA:Option Value→Option Addr
 | some (.slice a _ _)=>a
 | _=>none
def slC:Option Value→Nat
 | some (.slice _ _ c)=>c
 | _=>0
def StkSh (w:World) (lo hi:Nat) (st:Nat→List Fd×Int) (n:Nat) (a:Option Addr):Prop :=
 n=0∨∃(g m:Nat) (A:Nat→Option Addr) (C:Nat→Nat),a=some ⟨g,0,none⟩∧lo≤g∧g<hi∧Own w g m 31∧n≤m ∧
  (∀j,j<n→w.cell? ⟨g,j,none⟩=some (.slice (A j) (st j).1.length (C j))∧FlatSh 68 3 w lo hi (A j) (st j).1.length) ∧
  ∀(i j b o c o':Nat),i<j→j<n→A i=some ⟨b,o,none⟩→A j=some ⟨c,o',none⟩→b≠c
theorem StkSh.same {w w':World} {lo hi n:Nat} {st:Nat→List Fd×Int} {a:Option Addr} (h:StkSh w lo hi st n a) (hs:∀b,lo≤b→b<hi→w'.heap[b]?=w.heap[b]?):StkSh w' lo hi st n a:=by
 rcases h with h|⟨g,m,A,C,e,h1,h2,h3,h4,h5,h6⟩
 ·exact .inl h
 ·refine .inr ⟨g,m,A,C,e,h1,h2,h3.of_block (hs g h1 h2),h4,fun j hj=>⟨(World.cell?_of_block (w:=w) (hs g h1 h2)).trans (h5 j hj).1,?_⟩,h6⟩
  rcases(h5 j hj).2 with h|⟨b,m',e',q1,q2,q3,q4⟩
  ·exact .inl h
  ·exact .inr ⟨b,m',e',q1,q2,q3.of_block (hs b q1 q2),q4⟩
theorem StkSh.keep {w w':World} {lo hi n:Nat} {st:Nat→List Fd×Int} {a:Option Addr} (h:StkSh w lo hi st n a) (hb:Below hi w w'):StkSh w' lo hi st n a:=h.same fun b _ h2=>hb.block b h2
theorem StkSh.of {w:World} {S n c:Nat} {a:Option Addr} {vs:List Value} {st:Nat→List Fd×Int} (h:LRow w S (.slice a n c) vs) (hs:Stks w S st vs) (hn:vs.length=n) (ha:ApartV vs):StkSh w S w.heap.size st n a:=by
 by_cases h0:n=0
 ·exact .inl h0
 ·rcases h.1.2 with⟨_,h1⟩|⟨g,c',cur,e,hS,hg,k1,k2,k3,k4⟩
  ·omega
  have hv:∀j,j<n→vs[j]?=some (.slice (slA vs[j]?) (st j).1.length (slC vs[j]?))∧FdRow w S (.slice (slA vs[j]?) (st j).1.length (slC vs[j]?)) (st j).1:=fun j hj=>by
   obtain⟨aj,cj,q1,q2⟩:=hs j (by omega)
   rw[q1]
   exact⟨rfl,q2⟩
  injection e with e2 _ _
  refine .inr ⟨g,cur.size,fun j=>slA vs[j]?,fun j=>slC vs[j]?,e2,hS,(Array.getElem?_eq_some_iff.1 hg).1,⟨cur,hg,rfl⟩,by omega,fun j hj=>⟨?_,(FdRow.own (hv j hj).2).2 rfl⟩,?_⟩
  ·have e4:w.cell? ⟨g,j,none⟩=cur[j]?:=by simp[World.cell?,hg]
   have e5:cur[j]?=vs[j]?:=by
    have:=congrArg (fun l:List Value=>l[j]?) k4
    simp only[List.getElem?_take] at this
    rw[if_pos (by rw[hn];omega)] at this
    rw[←this,Array.getElem?_toList]
   exact(e4.trans e5).trans (hv j hj).1
  ·intro i j b o c2 o' hij hj e1 e3 hbc
   have q1:=(hv i (by omega)).1
   have q2:=(hv j hj).1
   replace e1:slA vs[i]?=some ⟨b,o,none⟩:=e1
   replace e3:slA vs[j]?=some ⟨c2,o',none⟩:=e3
   rw[e1] at q1
   rw[e3] at q2
   have:=ha i j b o _ _ c2 o' _ _ hij q1 q2
   omega
def MarkedSS (w:World) (lo hi:Nat) (st:Nat→List Fd×Int) (n:Nat) (a:Option Addr) (k:Int):Prop :=
 n=0∨∃(g:Nat) (A:Nat→Option Addr) (C:Nat→Nat),a=some ⟨g,0,none⟩∧lo≤g∧g<hi∧∀j,j<n→w.cell? ⟨g,j,none⟩=some (.slice (A j) (st j).1.length (C j))∧MarkedField w lo hi (A j) (st j).1.length (k+3*(cumL st j:Int))
theorem MarkedSS.keep {w w':World} {lo hi n:Nat} {st:Nat→List Fd×Int} {a:Option Addr} {k:Int} (h:MarkedSS w lo hi st n a k) (hb:Below hi w w'):MarkedSS w' lo hi st n a k:=by
 rcases h with h|⟨g,A,C,e,h1,h2,h3⟩
 ·exact .inl h
 ·exact .inr ⟨g,A,C,e,h1,h2,fun j hj=>⟨(hb.cell (p:=⟨g,j,none⟩) h2).trans (h3 j hj).1,(h3 j hj).2.keep hb⟩⟩
theorem MarkedField.other {w w':World} {lo hi:Nat} {a:Option Addr} {n:Nat} {k:Int} (h:MarkedField w lo hi a n k) (hs:∀b,a=some ⟨b,0,none⟩→w'.heap[b]?=w.heap[b]?):MarkedField w' lo hi a n k:=by
 rcases h with h|⟨b,e,h3,h4,h5⟩
 ·exact .inl h
 ·have q:∀o,w'.cell? ⟨b,o,none⟩=w.cell? ⟨b,o,none⟩:=fun o=>World.cell?_of_block (w:=w) (hs b e)
  exact .inr ⟨b,e,h3,h4,fun i hi=>by simp only[q];exact h5 i hi⟩
theorem MarkedField.wide {w:World} {lo hi lo' hi':Nat} {a:Option Addr} {n:Nat} {k:Int} (h:MarkedField w lo hi a n k) (h1:lo'≤lo) (h2:hi≤hi'):MarkedField w lo' hi' a n k:=by
 rcases h with h|⟨b,e,h3,h4,h5⟩
 ·exact .inl h
 ·exact .inr ⟨b,e,by omega,by omega,h5⟩
theorem MarksG.wide {lo hi lo' hi':Nat} {w w':World} (h:MarksG lo hi w w') (h1:lo'≤lo) (h2:hi≤hi'):MarksG lo' hi' w w' :=
 ⟨h.os,h.tape,h.output,h.size,fun b hb hx=>h.out b hb (by omega),h.own,h.head⟩
theorem markField_one (a:Option Addr) (cap n lo hi:Nat) (k:Int) (w:World) (hn:n≤4398046511104) (k0:0≤k) (k1:k≤4611686018427387904) (hx:FlatSh 68 3 w lo hi a n) :
 Calls Tryz.prog 17 #[.slice a n cap,.int .i64 k] w fun e w'=>e=.returned (.int .i64 (k+3*(n:Int)))∧MarksG lo hi w w'∧MarkedField w' lo hi a n k∧∀b,b<w.heap.size→a≠some ⟨b,0,none⟩→w'.heap[b]?=w.heap[b]?:=by
 rcases hx with h0|⟨b,m,rfl,h1,h2,h3,h4⟩
 ·refine(markFieldS_m a cap n 0 0 k w hn k0 k1 (.inl h0)).mono ?_
  rintro e w' ⟨rfl,hm,hk⟩
  refine⟨rfl,⟨hm.os,hm.tape,hm.output,hm.size,fun b hb _=>hm.out b hb (by omega),hm.own,hm.head⟩,.inl h0,fun b hb _=>hm.out b hb (by omega)⟩
 ·refine(markFieldS_m (some ⟨b,0,none⟩) cap n b (b+1) k w hn k0 k1 (.inr ⟨b,m,rfl,by omega,by omega,h3,h4⟩)).mono ?_
  rintro e w' ⟨rfl,hm,hk⟩
  refine⟨rfl,hm.wide h1 (by omega),hk.wide h1 (by omega),fun c hc hne=>hm.out c hc ?_⟩
  have:c≠b:=fun e=>hne (by rw[e])
  omega
set_option maxHeartbeats 1600000 in
theorem markFieldSS_m (a:Option Addr) (cap n lo hi:Nat) (st:Nat→List Fd×Int) (k:Int) (w:World) (hn:n≤1000000) (h8:∀j,j<n→(st j).1.length≤1000000) (k0:0≤k) (k1:k≤4611686018427) (hx:StkSh w lo hi st n a) :
  Calls Tryz.prog 22 #[.slice a n cap,.int .i64 k] w fun e w'=>e=.returned (.int .i64 (k+3*(cumL st n:Int)))∧MarksG lo hi w w'∧MarkedSS w' lo hi st n a k:=by
 have H8:=hide h8
 clear h8
 have HCU:Hid (∀j,j≤n→(cumL st j:Int)≤1000000000000):=fun j hj=>by have:=cumL_le H8.out j hj;omega
 rcases hx with h0|⟨g,m,A,C,rfl,h1,h2,h3,h4,h5,h6⟩
 ·subst h0
  go_enter Tryz.func22,Tryz.ntmps22
  go_wp2_with fail
  go_loop [1,5] (fun l i=>i=.int .i64 0∧l=.int .i64 k) (fun l i=>0)
  case atStart=>exact⟨rfl,rfl⟩
  case round =>
   obtain⟨rfl,rfl⟩:=hrel
   go_wp2_with fail
   go_ret
   exact⟨ret_int (by simp[cumL]),MarksG.refl _ _ _,.inl rfl⟩
 ·have H3:=hide h3
  have H5:=hide h5
  have H6:=hide h6
  clear h3 h5 h6
  go_enter Tryz.func22,Tryz.ntmps22
  go_wp2_with fail
  go_loopw [1,5] (fun l i wr=>∃(j:Nat),j≤n∧i=.int .i64 j∧l=.int .i64 (k+3*(cumL st j:Int))∧MarksG lo hi w wr∧∀i,i<j→MarkedField wr lo hi (A i) (st i).1.length (k+3*(cumL st i:Int))) (fun l i wr=>n-(intOf i).toNat)
  case atStart=>exact⟨0,Nat.zero_le _,rfl,by simp[cumL],MarksG.refl _ _ _,fun i hi=>absurd hi (Nat.not_lt_zero _)⟩
  case round =>
   obtain⟨j,hj,rfl,rfl,hM,hF⟩:=hrel
   have HK0:=hide hM
   have HF:=hide hF
   have hcu:=HCU.out j hj
   have hcu0:(0:Int)≤(cumL st j:Int):=by omega
   have HCS:Hid (k+3*(cumL st (j+1):Int)=k+3*(cumL st j:Int)+3*((st j).1.length:Int)):=by
    show _=_
    have:cumL st (j+1)=cumL st j+(st j).1.length:=rfl
    omega
   clear hM hF
   by_cases hjn:j<n
   ·obtain⟨e0,s0⟩:=H5.out j hjn
    have lj:=H8.out j hjn
    have S0:=hide (s0.marks HK0.out)
    have d0:=(HK0.out.head g m _ _ H3.out (sl_t1 Tryz.infoFdS j rfl)).trans e0
    have g1:(0:Int)≤(j:Int):=by omega
    have g2:(j:Int)<(n:Int):=by omega
    have hbl:Hid (∀i,i<j→∀b,A i=some ⟨b,0,none⟩→(st i).1.length=0∨b<wr.heap.size):=fun i hi b e=>by
     rcases(H5.out i (by omega)).2 with q|⟨b',m',e',_,_,q,_⟩
     ·exact .inl q
     ·rw[e] at e'
      injection e' with e''
      injection e'' with e3
      rw[e3]
      exact .inr (Nat.lt_of_lt_of_le q.lt HK0.out.size)
    clear e0 s0
    generalize hcj:(cumL st j:Int)=cj at *
    generalize hlen:(st j).1.length=len at *
    have HCJ:=hide hcj
    have HLEN:=hide hlen
    clear hcj hlen
    go_wp2_with fail
    refine(markField_one (A j) (C j) len lo hi _ _ (by omega) (by omega) (by omega) S0.out).mono ?_
    rintro e w1 ⟨rfl,hM0,hmk,hot⟩
    have HK1:=hide (HK0.out.trans hM0)
    have HMK:=hide hmk
    have HOT:=hide hot
    clear hM0 hmk hot
    go_wp2_with fail
    refine⟨⟨j+1,by omega,by go_num,?_,HK1.out,fun i hi=>?_⟩,by simp[intOf];omega⟩
    ·rw[HCS.out]
    ·by_cases e:i=j
     ·subst e
      rw[HLEN.out,HCJ.out]
      exact HMK.out
     ·have q:=HF.out i (by omega)
      have h:=hbl.out i (by omega)
      by_cases hz:(st i).1.length=0
      ·exact .inl hz
      ·refine q.other fun b eb=>HOT.out b ?_ fun e2=>?_
       ·rcases h b eb with h|h
        ·exact absurd h hz
        ·exact h
       ·exact H6.out i j b 0 b 0 (by omega) hjn eb e2 rfl
   ·have hje:j=n:=Nat.le_antisymm hj (Nat.le_of_not_lt hjn)
    subst hje
    go_wp2_with fail
    go_ret
    exact⟨rfl,HK0.out,.inr ⟨g,A,C,rfl,h1,h2,fun i hi=>⟨(HK0.out.head g m _ _ H3.out (sl_t1 Tryz.infoFdS i rfl)).trans (H5.out i hi).1,HF.out i hi⟩⟩⟩
set_option maxHeartbeats 1600000 in
theorem heldFieldSS_m (a:Option Addr) (cap n lo hi:Nat) (st:Nat→List Fd×Int) (k:Int) (w:World) (hn:n≤1000000) (h8:∀j,j<n→(st j).1.length≤1000000) (k0:0≤k) (k1:k≤4611686018427) (hh:hi≤w.heap.size) (hx:MarkedSS w lo hi st n a k) :
  Calls Tryz.prog 23 #[.slice a n cap,.int .i64 k] w fun e w'=>e=.returned (.int .i64 (k+3*(cumL st n:Int)))∧Below w.heap.size w w':=by
 have H8:=hide h8
 clear h8
 have HCU:Hid (∀j,j≤n→(cumL st j:Int)≤1000000000000):=fun j hj=>by have:=cumL_le H8.out j hj;omega
 rcases hx with h0|⟨g,A,C,rfl,h1,h2,h5⟩
 ·subst h0
  go_enter Tryz.func23,Tryz.ntmps23
  go_wp2_with fail
  go_loopw [1,5] (fun kv i wr=>i=.int .i64 0∧kv=.int .i64 k∧wr=w) (fun kv i wr=>0)
  case atStart=>exact⟨rfl,rfl,rfl⟩
  case round =>
  obtain⟨rfl,rfl,rfl⟩:=hrel
  go_wp2_with fail
  go_ret
  exact⟨ret_int (by simp[cumL]),Below.refl _ _⟩
 ·have H5:=hide h5
  clear h5
  go_enter Tryz.func23,Tryz.ntmps23
  go_wp2_with fail
  go_loopw [1,5] (fun l i wr=>∃(j:Nat),j≤n∧i=.int .i64 j∧l=.int .i64 (k+3*(cumL st j:Int))∧Hid (Below w.heap.size w wr)) (fun l i wr=>n-(intOf i).toNat)
  case atStart=>exact⟨0,Nat.zero_le _,rfl,by simp[cumL],Below.refl _ _⟩
  case round =>
   obtain⟨j,hj,rfl,rfl,HB⟩:=hrel
   have hcu:=HCU.out j hj
   have hcu0:(0:Int)≤(cumL st j:Int):=by omega
   have HCS:Hid (k+3*(cumL st (j+1):Int)=k+3*(cumL st j:Int)+3*((st j).1.length:Int)):=by
    show _=_
    have:cumL st (j+1)=cumL st j+(st j).1.length:=rfl
    omega
   by_cases hjn:j<n
   ·obtain⟨e0,s0⟩:=H5.out j hjn
    have lj:=H8.out j hjn
    have sz:=HB.out.size
    have S0:=hide (s0.keep (HB.out.mono hh))
    have d0:=(HB.out.cell (p:=⟨g,j,none⟩) (by show g<_;omega)).trans e0
    have g1:(0:Int)≤(j:Int):=by omega
    have g2:(j:Int)<(n:Int):=by omega
    clear e0 s0
    generalize hcj:(cumL st j:Int)=cj at *
    generalize hlen:(st j).1.length=len at *
    have HCJ:=hide hcj
    have HLEN:=hide hlen
    clear hcj hlen
    have q0:decide (k+3*cj+3*(len:Int)<0)=false:=by simp;omega
    go_wp2_with fail
    refine(heldFieldS_m (A j) (C j) len lo hi _ _ (by omega) (by omega) (by omega) S0.out).mono ?_
    rintro e w1 ⟨rfl,b1⟩
    have B1:=hide (HB.out.trans (b1.mono sz))
    clear b1
    go_wp2_with fail
    exact⟨⟨j+1,by omega,by go_num,by rw[HCS.out],B1⟩,by simp[intOf];omega⟩
   ·have hje:j=n:=Nat.le_antisymm hj (Nat.le_of_not_lt hjn)
    subst hje
    go_wp2_with fail
    go_ret
    exact⟨rfl,HB.out⟩
def StkG (b:Bool) (w:World) (lo hi:Nat) (st:Nat→List Fd×Int) (n:Nat) (a:Option Addr):Prop:=StkIn w lo hi st n a∧(b=true→StkSh w lo hi st n a)
theorem StkG.same {b:Bool} {w w':World} {lo hi n:Nat} {st:Nat→List Fd×Int} {a:Option Addr} (h:StkG b w lo hi st n a) (hs:∀g,lo≤g→g<hi→w'.heap[g]?=w.heap[g]?):StkG b w' lo hi st n a:=⟨h.1.same hs (Nat.le_refl _) (Nat.le_refl _),fun e=>(h.2 e).same hs⟩
theorem StkG.keep {b:Bool} {w w':World} {lo hi n:Nat} {st:Nat→List Fd×Int} {a:Option Addr} (h:StkG b w lo hi st n a) (hb:Below hi w w'):StkG b w' lo hi st n a:=h.same fun g _ h2=>hb.block g h2
theorem eqStk_g {b b':Bool} (a a':Option Addr) (c c' lo hi lo' hi' n:Nat) (st:Nat→List Fd×Int) (w:World) (hn:n≤1000000∧∀j,j<n→(st j).1.length≤1000000) (hx:StkG b w lo hi st n a) (hy:StkG b' w lo' hi' st n a') (hh:hi≤w.heap.size) (hh':hi'≤w.heap.size) :
 Calls Tryz.prog 21 #[.slice a n c,.slice a' n c'] w fun e w'=>e=.returned (.bool true)∧Below w.heap.size w w':=eqFieldSS_any a a' n c c' lo hi lo' hi' st w hn.1 hn.2 hx.1 hy.1 hh hh'
end Go.Proofs.YtpaneomkphjpcaaGreatDoor
