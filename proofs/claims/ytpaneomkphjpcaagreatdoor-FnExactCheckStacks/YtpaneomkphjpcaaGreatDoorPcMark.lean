/- PcMark: MarkG, MarkField, HeldField, MarkIns, MarkType, MarkTypeS, MarkFun, MarkProg. -/
import Derived.Test.YtpaneomkphjpcaaGreatDoorPaOne
import Derived.Test.YtpaneomkphjpcaaGreatDoorPaGen
namespace Go.Proofs.YtpaneomkphjpcaaGreatDoor
open Go.ChangeShapes Go.WideShapes Go.ChangeAt Go.RowKit Go.Joins Go.Deep
set_option linter.unusedVariables false
def isSl:Option Value→Bool
 | some (.slice _ _ _)=>true
 | _=>false
def SlAt (T:TypeId) (o:Nat):Prop:=∃z size bytes,(Tryz.prog.info? T).map (fun i=>(i.zero,i.size,i.bytes))=some (some z,size,bytes)∧isSl z.cells[o%size]?=true
theorem sl_mod (i size q:Nat) (hq:q<size):(i*size+q)%size=q:=by rw[Nat.mul_comm,Nat.mul_add_mod,Nat.mod_eq_of_lt hq]
theorem sl_t {T:TypeId} {z:Value} {size bytes:Nat} (h:(Tryz.prog.info? T).map (fun i=>(i.zero,i.size,i.bytes))=some (some z,size,bytes)) (i q:Nat) (hq:q<size) (hs:isSl z.cells[q]?=true):SlAt T (i*size+q) :=
 ⟨z,size,bytes,h,by rw[sl_mod i size q hq];exact hs⟩
theorem sl_f {T:TypeId} {z:Value} {size bytes:Nat} (h:(Tryz.prog.info? T).map (fun i=>(i.zero,i.size,i.bytes))=some (some z,size,bytes)) (i q:Nat) (hq:q<size) (hs:isSl z.cells[q]?=false):¬SlAt T (i*size+q):=by
 rintro⟨z',size',bytes',h',k⟩
 rw[h] at h'
 simp only[Option.some.injEq,Prod.mk.injEq] at h'
 obtain⟨rfl,rfl,rfl⟩:=h'
 rw[sl_mod i size q hq,hs] at k
 cases k
theorem sl_t0 {T:TypeId} {z:Value} {size bytes:Nat} (h:(Tryz.prog.info? T).map (fun i=>(i.zero,i.size,i.bytes))=some (some z,size,bytes)) (i:Nat) (hq:0<size) (hs:isSl z.cells[0]?=true):SlAt T (i*size):=sl_t h i 0 hq hs
theorem sl_f0 {T:TypeId} {z:Value} {size bytes:Nat} (h:(Tryz.prog.info? T).map (fun i=>(i.zero,i.size,i.bytes))=some (some z,size,bytes)) (i:Nat) (hq:0<size) (hs:isSl z.cells[0]?=false):¬SlAt T (i*size):=sl_f h i 0 hq hs
theorem sl_t1 {T:TypeId} {z:Value} {bytes:Nat} (h:(Tryz.prog.info? T).map (fun i=>(i.zero,i.size,i.bytes))=some (some z,1,bytes)) (i:Nat) (hs:isSl z.cells[0]?=true):SlAt T i:=by
 have:=sl_t0 h i (by decide) hs
 rwa [Nat.mul_one] at this
theorem sl_f1 {T:TypeId} {z:Value} {bytes:Nat} (h:(Tryz.prog.info? T).map (fun i=>(i.zero,i.size,i.bytes))=some (some z,1,bytes)) (i:Nat) (hs:isSl z.cells[0]?=false):¬SlAt T i:=by
 have:=sl_f0 h i (by decide) hs
 rwa [Nat.mul_one] at this
structure MarksG (lo hi:Nat) (w w':World):Prop where
 os:w'.os=w.os
 tape:w'.tape=w.tape
 output:w'.output=w.output
 size:w.heap.size≤w'.heap.size
 out:∀b,b<w.heap.size→b<lo∨hi≤b→w'.heap[b]?=w.heap[b]?
 own:∀b m T,Own w b m T→Own w' b m T
 head:∀b m T o,Own w b m T→SlAt T o→w'.cell? ⟨b,o,none⟩=w.cell? ⟨b,o,none⟩
theorem MarksG.refl (lo hi:Nat) (w:World):MarksG lo hi w w:=⟨rfl,rfl,rfl,Nat.le_refl _,fun _ _ _=>rfl,fun _ _ _ h=>h,fun _ _ _ _ _ _=>rfl⟩
theorem MarksG.trans {lo hi:Nat} {a b c:World} (h:MarksG lo hi a b) (k:MarksG lo hi b c):MarksG lo hi a c :=
 ⟨k.os.trans h.os,k.tape.trans h.tape,k.output.trans h.output,Nat.le_trans h.size k.size,fun x hl hx=>(k.out x (Nat.lt_of_lt_of_le hl h.size) hx).trans (h.out x hl hx),fun b m T ho=>k.own b m T (h.own b m T ho),
  fun b m T o ho hs=>(k.head b m T o (h.own b m T ho) hs).trans (h.head b m T o ho hs)⟩
theorem MarksG.of_below {lo hi:Nat} {w w':World} (h:Below w.heap.size w w'):MarksG lo hi w w' :=
 ⟨h.os,h.tape,h.output,h.size,fun k hk _=>h.block k hk,fun b m T ho=>ho.below h ho.lt,fun b m T o ho _=>h.cell (p:=⟨b,o,none⟩) ho.lt⟩
theorem MarksG.below {lo hi B:Nat} {w w':World} (h:MarksG lo hi w w') (hB:B≤lo) (hs:B≤w.heap.size):Below B w w':=⟨h.os,h.tape,h.output,h.size,fun k hk=>h.out k (by omega) (.inl (by omega))⟩
theorem own_typeG {w:World} {b m m':Nat} {T T':TypeId} (h:Own w b m T) (h':Own w b m' T'):T=T':=by
 obtain⟨c,hb,_⟩:=h
 obtain⟨c',hb',_⟩:=h'
 rw[hb] at hb'
 simp at hb'
 exact hb'.2
theorem MarksG.set {lo hi:Nat} {w w0:World} (h:MarksG lo hi w0 w) {b m:Nat} {T:TypeId} (ho:Own w b m T) (h1:lo≤b) (h2:b<hi) (o:Nat) (hm:o<m) (hT:¬SlAt T o) (v:Value):MarksG lo hi w0 (w.setCell ⟨b,o,none⟩ v):=by
 refine h.trans ⟨rfl,rfl,rfl,by simp[World.setCell],fun k _ hk=>Below.heap_setCell _ _ _ _ (by show k≠b;omega),fun b' m' T' h'=>h'.set _ _ _,fun b' m' T' o' h' hs=>?_⟩
 by_cases e:b'=b
 ·subst e
  have:=own_typeG h' ho
  subst this
  rw[ho.cell_set hm,if_neg]
  intro e
  subst e
  exact hT hs
 ·exact World.cell?_of_block (w:=w) (Below.heap_setCell _ _ _ _ e)
theorem Rec.marks {lo hi b:Nat} {w w':World} {T:TypeId} {vs:List Value} (h:Rec w b T vs) (ht:MarksG lo hi w w') (hb:b<lo∨hi≤b):Rec w' b T vs:=(ht.out b h.lt hb).trans h
def FlatSh (T:TypeId) (sz:Nat) (w:World) (lo hi:Nat) (a:Option Addr) (n:Nat):Prop:=n=0∨∃b m,a=some ⟨b,0,none⟩∧lo≤b∧b<hi∧Own w b m T∧n*sz≤m
theorem FlatSh.marks {T:TypeId} {sz lo hi lo' hi' n:Nat} {w w':World} {a:Option Addr} (h:FlatSh T sz w lo hi a n) (hk:MarksG lo' hi' w w'):FlatSh T sz w' lo hi a n:=by
 rcases h with h|⟨b,m,rfl,h3,h4,h5,h6⟩
 ·exact .inl h
 ·exact .inr ⟨b,m,rfl,h3,h4,hk.own _ _ _ h5,h6⟩
theorem FlatSh.keep {T:TypeId} {sz lo hi n:Nat} {w w':World} {a:Option Addr} (h:FlatSh T sz w lo hi a n) (hk:Below hi w w'):FlatSh T sz w' lo hi a n:=by
 rcases h with h|⟨b,m,rfl,h3,h4,h5,h6⟩
 ·exact .inl h
 ·exact .inr ⟨b,m,rfl,h3,h4,h5.below hk h4,h6⟩
def MarkedField (w:World) (lo hi:Nat) (a:Option Addr) (n:Nat) (k:Int):Prop:=n=0∨∃b,a=some ⟨b,0,none⟩∧lo≤b∧b<hi∧(∀i:Nat,i<n→w.cell? ⟨b,i*3,none⟩=some (.int .i64 (k+3*(i:Int)))∧w.cell? ⟨b,i*3+1,none⟩=some (.int .i64 (k+3*(i:Int)+1))∧w.cell? ⟨b,i*3+2,none⟩=some (.bool ((k+3*(i:Int)+1+1)%3==0)))
theorem MarkedField.same {w w':World} {lo hi:Nat} {a:Option Addr} {n:Nat} {k:Int} (h:MarkedField w lo hi a n k) (hs:∀b,lo≤b→b<hi→w'.heap[b]?=w.heap[b]?):MarkedField w' lo hi a n k:=by
 rcases h with h|⟨b,e,h3,h4,h5⟩
 ·exact .inl h
 ·have q:∀o,w'.cell? ⟨b,o,none⟩=w.cell? ⟨b,o,none⟩:=fun o=>World.cell?_of_block (w:=w) (hs b h3 h4)
  exact .inr ⟨b,e,h3,h4,fun i hi=>by simp only[q];exact h5 i hi⟩
theorem MarkedField.keep {w w':World} {lo hi:Nat} {a:Option Addr} {n:Nat} {k:Int} (h:MarkedField w lo hi a n k) (hb:Below hi w w'):MarkedField w' lo hi a n k:=h.same fun b _ h2=>hb.block b h2
set_option maxHeartbeats 800000 in
theorem markFieldS_m (a:Option Addr) (cap n lo hi:Nat) (k:Int) (w:World) (hn:n≤4398046511104) (k0:0≤k) (k1:k≤4611686018427387904) (hx:FlatSh 68 3 w lo hi a n) :
  Calls Tryz.prog 17 #[.slice a n cap,.int .i64 k] w fun e w'=>e=.returned (.int .i64 (k+3*(n:Int)))∧MarksG lo hi w w'∧MarkedField w' lo hi a n k:=by
 rcases hx with h0|⟨b,m,rfl,h1,h2,h3,h4⟩
 ·have h0':n≤0:=by omega
  have H0:=hide h0
  clear h0
  go_enter Tryz.func17,Tryz.ntmps17
  go_wp2_with fail
  go_loop [1,5] (fun l i=>i=.int .i64 0∧l=.int .i64 k) (fun l i=>0)
  case atStart=>exact⟨rfl,rfl⟩
  case round =>
   obtain⟨rfl,rfl⟩:=hrel
   go_wp2_with fail
   go_ret
   exact⟨ret_int (by rw[H0.out];simp),MarksG.refl _ _ _,.inl H0.out⟩
 ·have H3:=hide h3
  clear h3
  go_enter Tryz.func17,Tryz.ntmps17
  go_wp2_with fail
  go_loopw [1,5] (fun l i wr=>∃j:Nat,j≤n∧i=.int .i64 j∧l=.int .i64 (k+3*(j:Int))∧MarksG lo hi w wr∧∀i:Nat,i<j→wr.cell? ⟨b,i*3,none⟩=some (.int .i64 (k+3*(i:Int)))∧wr.cell? ⟨b,i*3+1,none⟩=some (.int .i64 (k+3*(i:Int)+1))∧wr.cell? ⟨b,i*3+2,none⟩=some (.bool ((k+3*(i:Int)+1+1)%3==0))) (fun l i wr=>n-(intOf i).toNat)
  case atStart=>exact⟨0,Nat.zero_le _,rfl,by simp,MarksG.refl _ _ _,fun q hq=>absurd hq (Nat.not_lt_zero _)⟩
  case round =>
   obtain⟨j,hj,rfl,rfl,hM,hF⟩:=hrel
   have HM:=hide hM
   have HF:=hide hF
   clear hM hF
   by_cases hjn:j<n
   ·have HO:=hide (HM.out.own _ _ _ H3.out)
    have g1:(0:Int)≤(j:Int):=by omega
    have g2:(j:Int)<(n:Int):=by omega
    have f0:=HO.out.frozen (j*3)
    obtain⟨v0,d0⟩:=HO.out.cell (o:=j*3) (by omega)
    have f1:=HO.out.frozen (j*3+1)
    obtain⟨v1,d1⟩:=HO.out.cell (o:=j*3+1) (by omega)
    have f2:=HO.out.frozen (j*3+2)
    obtain⟨v2,d2⟩:=HO.out.cell (o:=j*3+2) (by omega)
    go_wp2_with fail
    have o1:=HO.out.set b (j*3) (.int .i64 (k+3*(j:Int)))
    have o2:=o1.set b (j*3+1) (.int .i64 (k+3*(j:Int)+1))
    have o3:=o2.set b (j*3+2) (.bool ((k+3*(j:Int)+1+1)%3==0))
    have M2:=hide ((((HM.out).set HO.out h1 h2 (j*3) (by omega) (sl_f0 Tryz.infoField j (by decide) rfl) (.int .i64 (k+3*(j:Int)))).set o1 h1 h2 (j*3+1) (by omega) (sl_f Tryz.infoField j 1 (by decide) rfl) (.int .i64 (k+3*(j:Int)+1))).set o2 h1 h2 (j*3+2) (by omega) (sl_f Tryz.infoField j 2 (by decide) rfl) (.bool ((k+3*(j:Int)+1+1)%3==0)))
    refine⟨⟨j+1,by omega,by go_num,?_,M2.out,fun i hi=>?_⟩,by simp[intOf];omega⟩
    ·congr 1
     omega
    ·simp only[o2.cell_set (o:=j*3+2) (by omega:j*3+2<m),o1.cell_set (o:=j*3+1) (by omega:j*3+1<m),HO.out.cell_set (o:=j*3) (by omega:j*3<m)]
     by_cases e:i=j
     ·subst e
      exact⟨by simp,by simp,by simp⟩
     ·have q:=HF.out i (by omega)
      refine⟨?_,?_,?_⟩
      all_goals (rw[if_neg (by omega)];rw[if_neg (by omega)];rw[if_neg (by omega)])
      ·exact q.1
      ·exact q.2.1
      ·exact q.2.2
   ·have hje:Hid (j=n):=Nat.le_antisymm hj (Nat.le_of_not_lt hjn)
    go_wp2_with fail
    go_ret
    exact⟨ret_int (by rw[hje.out]),HM.out,.inr ⟨b,rfl,h1,h2,hje.out▸HF.out⟩⟩
theorem FieldsM.shapeG {lo hi:Nat} {w:World} {a:Option Addr} {xs:List Fd} (h:FieldsM true w lo hi a xs):FlatSh 68 3 w lo hi a xs.length:=h.2 rfl
theorem FieldsNew.shapeG {lo hi:Nat} {w:World} {a:Option Addr} {xs:List Fd} (h:FieldsNew w lo hi a xs):FlatSh 68 3 w lo hi a xs.length:=h.2
set_option maxHeartbeats 800000 in
theorem heldFieldS_m (a:Option Addr) (cap n lo hi:Nat) (k:Int) (w:World) (hn:n≤4398046511104) (k0:0≤k) (k1:k≤4611686018427387904) (hx:MarkedField w lo hi a n k) :
  Calls Tryz.prog 18 #[.slice a n cap,.int .i64 k] w fun e w'=>e=.returned (.int .i64 (k+3*(n:Int)))∧Below w.heap.size w w':=by
 rcases hx with h0|⟨b,rfl,h1,h2,h3⟩
 ·subst h0
  go_enter Tryz.func18,Tryz.ntmps18
  go_wp2_with fail
  go_loopw [1,5] (fun kv i wr=>i=.int .i64 0∧kv=.int .i64 k∧wr=w) (fun kv i wr=>0)
  case atStart=>exact⟨rfl,rfl,rfl⟩
  case round =>
  obtain⟨rfl,rfl,rfl⟩:=hrel
  go_wp2_with fail
  go_ret
  exact⟨ret_int (by simp),Below.refl _ _⟩
 ·go_enter Tryz.func18,Tryz.ntmps18
  go_wp2_with fail
  go_loopw [1,5] (fun kv i wr=>∃j:Nat,j≤n∧i=.int .i64 j∧kv=.int .i64 (k+3*(j:Int))∧∃q,wr=w.drewN q) (fun kv i wr=>n-(intOf i).toNat)
  case atStart=>exact⟨0,Nat.zero_le _,rfl,by simp,0,rfl⟩
  case round =>
   obtain⟨j,hj,rfl,rfl,q,rfl⟩:=hrel
   by_cases hlt:j<n
   ·obtain⟨c0,c1,c2⟩:=h3 j hlt
    have g1:(0:Int)≤(j:Int):=by omega
    have g2:(j:Int)<(n:Int):=by omega
    clear h3
    go_wp2_with fail
    exact⟨⟨j+1,by omega,by go_num,by congr 1;omega,_,rfl⟩,by simp[intOf];omega⟩
   ·have hjn:Hid (j=n):=Nat.le_antisymm hj (Nat.le_of_not_lt hlt)
    go_wp2_with fail
    go_ret
    exact⟨ret_int (by rw[hjn.out]),below_drewN (Below.refl _ _) _⟩
def MarkedIns (w:World) (lo hi:Nat) (a:Option Addr) (n:Nat) (k:Int):Prop:=n=0∨∃b,a=some ⟨b,0,none⟩∧lo≤b∧b<hi∧(∀i:Nat,i<n→w.cell? ⟨b,i*3,none⟩=some (.int .i64 (k+3*(i:Int)))∧w.cell? ⟨b,i*3+1,none⟩=some (.int .i64 (k+3*(i:Int)+1))∧w.cell? ⟨b,i*3+2,none⟩=some (.int .i64 (k+3*(i:Int)+1+1)))
theorem MarkedIns.same {w w':World} {lo hi:Nat} {a:Option Addr} {n:Nat} {k:Int} (h:MarkedIns w lo hi a n k) (hs:∀b,lo≤b→b<hi→w'.heap[b]?=w.heap[b]?):MarkedIns w' lo hi a n k:=by
 rcases h with h|⟨b,e,h3,h4,h5⟩
 ·exact .inl h
 ·have q:∀o,w'.cell? ⟨b,o,none⟩=w.cell? ⟨b,o,none⟩:=fun o=>World.cell?_of_block (w:=w) (hs b h3 h4)
  exact .inr ⟨b,e,h3,h4,fun i hi=>by simp only[q];exact h5 i hi⟩
theorem MarkedIns.keep {w w':World} {lo hi:Nat} {a:Option Addr} {n:Nat} {k:Int} (h:MarkedIns w lo hi a n k) (hb:Below hi w w'):MarkedIns w' lo hi a n k:=h.same fun b _ h2=>hb.block b h2
set_option maxHeartbeats 800000 in
theorem markInsS_m (a:Option Addr) (cap n lo hi:Nat) (k:Int) (w:World) (hn:n≤4398046511104) (k0:0≤k) (k1:k≤4611686018427387904) (hx:FlatSh 40 3 w lo hi a n) :
  Calls Tryz.prog 75 #[.slice a n cap,.int .i64 k] w fun e w'=>e=.returned (.int .i64 (k+3*(n:Int)))∧MarksG lo hi w w'∧MarkedIns w' lo hi a n k:=by
 rcases hx with h0|⟨b,m,rfl,h1,h2,h3,h4⟩
 ·have h0':n≤0:=by omega
  have H0:=hide h0
  clear h0
  go_enter Tryz.func75,Tryz.ntmps75
  go_wp2_with fail
  go_loop [1,5] (fun l i=>i=.int .i64 0∧l=.int .i64 k) (fun l i=>0)
  case atStart=>exact⟨rfl,rfl⟩
  case round =>
   obtain⟨rfl,rfl⟩:=hrel
   go_wp2_with fail
   go_ret
   exact⟨ret_int (by rw[H0.out];simp),MarksG.refl _ _ _,.inl H0.out⟩
 ·have H3:=hide h3
  clear h3
  go_enter Tryz.func75,Tryz.ntmps75
  go_wp2_with fail
  go_loopw [1,5] (fun l i wr=>∃j:Nat,j≤n∧i=.int .i64 j∧l=.int .i64 (k+3*(j:Int))∧MarksG lo hi w wr∧∀i:Nat,i<j→wr.cell? ⟨b,i*3,none⟩=some (.int .i64 (k+3*(i:Int)))∧wr.cell? ⟨b,i*3+1,none⟩=some (.int .i64 (k+3*(i:Int)+1))∧wr.cell? ⟨b,i*3+2,none⟩=some (.int .i64 (k+3*(i:Int)+1+1))) (fun l i wr=>n-(intOf i).toNat)
  case atStart=>exact⟨0,Nat.zero_le _,rfl,by simp,MarksG.refl _ _ _,fun q hq=>absurd hq (Nat.not_lt_zero _)⟩
  case round =>
   obtain⟨j,hj,rfl,rfl,hM,hF⟩:=hrel
   have HM:=hide hM
   have HF:=hide hF
   clear hM hF
   by_cases hjn:j<n
   ·have HO:=hide (HM.out.own _ _ _ H3.out)
    have g1:(0:Int)≤(j:Int):=by omega
    have g2:(j:Int)<(n:Int):=by omega
    have f0:=HO.out.frozen (j*3)
    obtain⟨v0,d0⟩:=HO.out.cell (o:=j*3) (by omega)
    have f1:=HO.out.frozen (j*3+1)
    obtain⟨v1,d1⟩:=HO.out.cell (o:=j*3+1) (by omega)
    have f2:=HO.out.frozen (j*3+2)
    obtain⟨v2,d2⟩:=HO.out.cell (o:=j*3+2) (by omega)
    go_wp2_with fail
    have o1:=HO.out.set b (j*3) (.int .i64 (k+3*(j:Int)))
    have o2:=o1.set b (j*3+1) (.int .i64 (k+3*(j:Int)+1))
    have o3:=o2.set b (j*3+2) (.int .i64 (k+3*(j:Int)+1+1))
    have M2:=hide ((((HM.out).set HO.out h1 h2 (j*3) (by omega) (sl_f0 Tryz.infoIns j (by decide) rfl) (.int .i64 (k+3*(j:Int)))).set o1 h1 h2 (j*3+1) (by omega) (sl_f Tryz.infoIns j 1 (by decide) rfl) (.int .i64 (k+3*(j:Int)+1))).set o2 h1 h2 (j*3+2) (by omega) (sl_f Tryz.infoIns j 2 (by decide) rfl) (.int .i64 (k+3*(j:Int)+1+1)))
    refine⟨⟨j+1,by omega,by go_num,?_,M2.out,fun i hi=>?_⟩,by simp[intOf];omega⟩
    ·congr 1
     omega
    ·simp only[o2.cell_set (o:=j*3+2) (by omega:j*3+2<m),o1.cell_set (o:=j*3+1) (by omega:j*3+1<m),HO.out.cell_set (o:=j*3) (by omega:j*3<m)]
     by_cases e:i=j
     ·subst e
      exact⟨by simp,by simp,by simp⟩
     ·have q:=HF.out i (by omega)
      refine⟨?_,?_,?_⟩
      all_goals (rw[if_neg (by omega)];rw[if_neg (by omega)];rw[if_neg (by omega)])
      ·exact q.1
      ·exact q.2.1
      ·exact q.2.2
   ·have hje:Hid (j=n):=Nat.le_antisymm hj (Nat.le_of_not_lt hjn)
    go_wp2_with fail
    go_ret
    exact⟨ret_int (by rw[hje.out]),HM.out,.inr ⟨b,rfl,h1,h2,hje.out▸HF.out⟩⟩
theorem InssM.shapeG {lo hi:Nat} {w:World} {a:Option Addr} {xs:List GIns} (h:InssM true w lo hi a xs):FlatSh 40 3 w lo hi a xs.length:=by
 rcases h with rfl|⟨b,off,rfl,h3,h4,h5,h6⟩
 ·exact .inl rfl
 ·obtain⟨rfl,m,ho,hm⟩:=h5 rfl
  exact .inr ⟨b,m,rfl,h3,h4,ho,hm⟩
def TypesBG (xs:List Ty):Prop:=xs.length≤1048576∧∀j,j<xs.length→(tyAt xs j).fields.length≤1048576
def TypeSh (w:World) (lo hi:Nat) (a:Option Addr) (xs:List Ty):Prop :=
 xs=[]∨∃b m,a=some ⟨b,0,none⟩∧lo≤b∧b<hi∧Own w b m 143∧xs.length*4≤m∧∀i,i<xs.length→∃a3 c3,w.cell? ⟨b,i*4+3,none⟩=some (.slice a3 (tyAt xs i).fields.length c3)∧FlatSh 68 3 w lo hi a3 (tyAt xs i).fields.length
theorem TypeSh.marks {lo hi lo' hi':Nat} {w w':World} {a:Option Addr} {xs:List Ty} (h:TypeSh w lo hi a xs) (hk:MarksG lo' hi' w w'):TypeSh w' lo hi a xs:=by
 rcases h with h|⟨b,m,rfl,h3,h4,h5,h6,h7⟩
 ·exact .inl h
 ·refine .inr ⟨b,m,rfl,h3,h4,hk.own _ _ _ h5,h6,fun i hi=>?_⟩
  obtain⟨a3,c3,e3,s3⟩:=h7 i hi
  exact⟨a3,c3,(hk.head b m _ _ h5 (sl_t Tryz.infoType i 3 (by decide) rfl)).trans e3,s3.marks hk⟩
theorem TypeSh.keep {lo hi:Nat} {w w':World} {a:Option Addr} {xs:List Ty} (h:TypeSh w lo hi a xs) (hk:Below hi w w'):TypeSh w' lo hi a xs:=by
 rcases h with h|⟨b,m,rfl,h3,h4,h5,h6,h7⟩
 ·exact .inl h
 ·refine .inr ⟨b,m,rfl,h3,h4,h5.below hk h4,h6,fun i hi=>?_⟩
  obtain⟨a3,c3,e3,s3⟩:=h7 i hi
  exact⟨a3,c3,(hk.cell (p:=⟨b,_,none⟩) h4).trans e3,s3.keep hk⟩
set_option maxHeartbeats 1600000 in
theorem markTypeS_m (a:Option Addr) (cap lo hi:Nat) (xs:List Ty) (k:Int) (w:World) (hl:TypesBG xs) (k0:0≤k) (k1:k≤4500000000000000000) (hx:TypeSh w lo hi a xs) :
  Calls Tryz.prog 74 #[.slice a xs.length cap,.int .i64 k] w fun e w'=>∃r:Int,e=.returned (.int .i64 r)∧k≤r∧r≤k+3145731*(xs.length:Int)∧MarksG lo hi w w':=by
 have hn:=hl.1
 have HL:=hide hl.2
 clear hl
 rcases hx with h0|⟨b,m,rfl,h1,h2,h3,h4,h5⟩
 ·have h0':xs.length≤0:=by rw[h0];exact Nat.le_refl _
  clear h0
  go_enter Tryz.func74,Tryz.ntmps74
  go_wp2_with fail
  go_loop [1,5] (fun l i=>i=.int .i64 0∧l=.int .i64 k) (fun l i=>0)
  case atStart=>exact⟨rfl,rfl⟩
  case round =>
   obtain⟨rfl,rfl⟩:=hrel
   go_wp2_with fail
   go_ret
   exact⟨k,rfl,by omega,by omega,MarksG.refl _ _ _⟩
 ·have H3:=hide h3
  have H5:=hide h5
  clear h3 h5
  go_enter Tryz.func74,Tryz.ntmps74
  go_wp2_with fail
  go_loopw [1,5] (fun l i wr=>∃(j:Nat) (r:Int),j≤xs.length∧i=.int .i64 j∧l=.int .i64 r∧k≤r∧r≤k+3145731*(j:Int)∧MarksG lo hi w wr) (fun l i wr=>xs.length-(intOf i).toNat)
  case atStart=>exact⟨0,k,Nat.zero_le _,rfl,rfl,by omega,by omega,MarksG.refl _ _ _⟩
  case round =>
   obtain⟨j,r0,hj,rfl,rfl,r1,r2,hM⟩:=hrel
   have HK0:=hide hM
   clear hM
   by_cases hjn:j<xs.length
   ·obtain⟨a3,c3,e3,s3⟩:=H5.out j hjn
    have HLj:=hide (HL.out j hjn)
    have g1:(0:Int)≤(j:Int):=by omega
    have g2:(j:Int)<(xs.length:Int):=by omega
    have E3:=hide e3
    have S3:=hide s3
    clear e3 s3
    have HO0:=hide (HK0.out.own _ _ _ H3.out)
    have f0_0:=HO0.out.frozen (j*4)
    obtain⟨v0_0,d0_0⟩:=HO0.out.cell (o:=j*4) (by omega)
    have f1_0:=HO0.out.frozen (j*4+1)
    obtain⟨v1_0,d1_0⟩:=HO0.out.cell (o:=j*4+1) (by omega)
    have f2_0:=HO0.out.frozen (j*4+2)
    obtain⟨v2_0,d2_0⟩:=HO0.out.cell (o:=j*4+2) (by omega)
    have d3_0:=(HK0.out.head b m _ _ H3.out (sl_t Tryz.infoType j 3 (by decide) rfl)).trans E3.out
    go_wp2_with fail
    have o1_0:=HO0.out.set b (j*4) (.int .i64 (r0))
    have o2_0:=o1_0.set b (j*4+1) (.int .i64 (r0+1))
    have o3_0:=o2_0.set b (j*4+2) (.bool ((r0+1+1)%3==0))
    have M0:=hide ((((HK0.out).set HO0.out h1 h2 (j*4) (by omega) (sl_f0 Tryz.infoType j (by decide) rfl) (.int .i64 (r0))).set o1_0 h1 h2 (j*4+1) (by omega) (sl_f Tryz.infoType j 1 (by decide) rfl) (.int .i64 (r0+1))).set o2_0 h1 h2 (j*4+2) (by omega) (sl_f Tryz.infoType j 2 (by decide) rfl) (.bool ((r0+1+1)%3==0)))
    refine(markFieldS_m a3 c3 (tyAt xs j).fields.length lo hi _ _ (Nat.le_trans HLj.out (by decide)) (by omega) (by omega) (S3.out.marks M0.out)).mono ?_
    rintro e w1 ⟨rfl,hM1,_⟩
    have lb0:(tyAt xs j).fields.length≤1048576:=HLj.out
    obtain⟨q0,hq0⟩:∃q:Int,q=r0+1+1+1+3*((tyAt xs j).fields.length:Int):=⟨_,rfl⟩
    rw[←hq0]
    have u0:r0+1+1+1≤q0∧q0≤r0+1+1+1+3145728:=by omega
    clear hq0 lb0
    have HK1:=hide (M0.out.trans hM1)
    clear hM1
    clear f0_0 d0_0 f1_0 d1_0 f2_0 d2_0 d3_0
    have HO1:=hide (HK1.out.own _ _ _ H3.out)
    have f0_1:=HO1.out.frozen (j*4)
    obtain⟨v0_1,d0_1⟩:=HO1.out.cell (o:=j*4) (by omega)
    have f1_1:=HO1.out.frozen (j*4+1)
    obtain⟨v1_1,d1_1⟩:=HO1.out.cell (o:=j*4+1) (by omega)
    have f2_1:=HO1.out.frozen (j*4+2)
    obtain⟨v2_1,d2_1⟩:=HO1.out.cell (o:=j*4+2) (by omega)
    have d3_1:=(HK1.out.head b m _ _ H3.out (sl_t Tryz.infoType j 3 (by decide) rfl)).trans E3.out
    go_wp2_with fail
    exact⟨⟨j+1,q0,by omega,by go_num,rfl,by omega,by omega,HK1.out⟩,by simp[intOf];omega⟩
   ·go_wp2_with fail
    go_ret
    exact⟨r0,rfl,r1,by omega,HK0.out⟩
theorem TypesNew.shapeG {lo hi:Nat} {w:World} {a:Option Addr} {xs:List Ty} (h:TypesNew w lo hi a xs):TypeSh w lo hi a xs:=by
 rcases h with rfl|⟨b,rfl,h3,h4,h5,h6⟩
 ·exact .inl rfl
 ·refine .inr ⟨b,_,rfl,h3,h4,h5,Nat.le_refl _,fun i hi=>?_⟩
  obtain⟨_,_,_,fa,fc,e3,hf⟩:=h6 i hi
  exact⟨fa,fc,e3,hf.shapeG⟩
def GroupShG (w:World) (lo hi:Nat) (a:Option Addr) (xs:List (List Ty)):Prop :=
 xs=[]∨∃b m,a=some ⟨b,0,none⟩∧lo≤b∧b<hi∧Own w b m 110∧xs.length≤m∧∀i,i<xs.length→∃ta tc,w.cell? ⟨b,i,none⟩=some (.slice ta (grAt xs i).length tc)∧TypeSh w lo hi ta (grAt xs i)
theorem GroupShG.marks {lo hi lo' hi':Nat} {w w':World} {a:Option Addr} {xs:List (List Ty)} (h:GroupShG w lo hi a xs) (hk:MarksG lo' hi' w w'):GroupShG w' lo hi a xs:=by
 rcases h with h|⟨b,m,rfl,h3,h4,h5,h6,h7⟩
 ·exact .inl h
 ·refine .inr ⟨b,m,rfl,h3,h4,hk.own _ _ _ h5,h6,fun i hi=>?_⟩
  obtain⟨ta,tc,e,s⟩:=h7 i hi
  exact⟨ta,tc,(hk.head b m _ _ h5 (sl_t1 Tryz.infoTypeS i rfl)).trans e,s.marks hk⟩
theorem GroupShG.keep {lo hi:Nat} {w w':World} {a:Option Addr} {xs:List (List Ty)} (h:GroupShG w lo hi a xs) (hk:Below hi w w'):GroupShG w' lo hi a xs:=by
 rcases h with h|⟨b,m,rfl,h3,h4,h5,h6,h7⟩
 ·exact .inl h
 ·refine .inr ⟨b,m,rfl,h3,h4,h5.below hk h4,h6,fun i hi=>?_⟩
  obtain⟨ta,tc,e,s⟩:=h7 i hi
  exact⟨ta,tc,(hk.cell (p:=⟨b,_,none⟩) h4).trans e,s.keep hk⟩
theorem GroupsM.shapeG {lo hi:Nat} {w:World} {a:Option Addr} {xs:List (List Ty)} (h:GroupsM true w lo hi a xs):GroupShG w lo hi a xs:=by
 rcases h.2 rfl with rfl|⟨b,rfl,h3,h4,h5,h6⟩
 ·exact .inl rfl
 ·refine .inr ⟨b,_,rfl,h3,h4,h5,Nat.le_refl _,fun i hi=>?_⟩
  obtain⟨ta,tc,e,s⟩:=h6 i hi
  exact⟨ta,tc,e,s.shapeG⟩
set_option maxHeartbeats 1600000 in
theorem markTypeSS_m (a:Option Addr) (cap lo hi:Nat) (xs:List (List Ty)) (k:Int) (w:World) (hl:GroupsB 1048576 xs) (k0:0≤k) (k1:k≤1000000000000000000) (hx:GroupShG w lo hi a xs) :
  Calls Tryz.prog 44 #[.slice a xs.length cap,.int .i64 k] w fun e w'=>∃r:Int,e=.returned (.int .i64 r)∧k≤r∧r≤k+3458767812355424256∧MarksG lo hi w w':=by
 have hn:=hl.1
 have HL:=hide hl.2
 clear hl
 rcases hx with h0|⟨b,m,rfl,h1,h2,h3,h4,h5⟩
 ·have h0':xs.length≤0:=by rw[h0];exact Nat.le_refl _
  clear h0
  go_enter Tryz.func44,Tryz.ntmps44
  go_wp2_with fail
  go_loop [1,5] (fun l i=>i=.int .i64 0∧l=.int .i64 k) (fun l i=>0)
  case atStart=>exact⟨rfl,rfl⟩
  case round =>
   obtain⟨rfl,rfl⟩:=hrel
   go_wp2_with fail
   go_ret
   exact⟨k,rfl,by omega,by omega,MarksG.refl _ _ _⟩
 ·have H3:=hide h3
  have H5:=hide h5
  clear h3 h5
  go_enter Tryz.func44,Tryz.ntmps44
  go_wp2_with fail
  go_loopw [1,5] (fun l i wr=>∃(j:Nat) (r:Int),j≤xs.length∧i=.int .i64 j∧l=.int .i64 r∧k≤r∧r≤k+3298538029056*(j:Int)∧MarksG lo hi w wr) (fun l i wr=>xs.length-(intOf i).toNat)
  case atStart=>exact⟨0,k,Nat.zero_le _,rfl,rfl,by omega,by omega,MarksG.refl _ _ _⟩
  case round =>
   obtain⟨j,r0,hj,rfl,rfl,r1,r2,hM⟩:=hrel
   have HK0:=hide hM
   clear hM
   by_cases hjn:j<xs.length
   ·obtain⟨ta,tc,e0,s0⟩:=H5.out j hjn
    have HLj:=hide (HL.out j hjn)
    have lj:(grAt xs j).length≤1048576:=HLj.out.1
    have S0:=hide (s0.marks HK0.out)
    have d0:=(HK0.out.head b m _ _ H3.out (sl_t1 Tryz.infoTypeS j rfl)).trans e0
    have g1:(0:Int)≤(j:Int):=by omega
    have g2:(j:Int)<(xs.length:Int):=by omega
    clear e0 s0
    go_wp2_with fail
    refine(markTypeS_m ta tc lo hi (grAt xs j) _ _ HLj.out (by omega) (by omega) S0.out).mono ?_
    rintro e w1 ⟨q0,rfl,t0,u0,hM0⟩
    have HK1:=hide (HK0.out.trans hM0)
    clear hM0
    go_wp2_with fail
    exact⟨⟨j+1,q0,by omega,by go_num,rfl,by omega,by omega,HK1.out⟩,by simp[intOf];omega⟩
   ·go_wp2_with fail
    go_ret
    exact⟨r0,rfl,r1,by omega,HK0.out⟩
def FunSh (w:World) (lo hi:Nat) (a:Option Addr) (xs:List GFun):Prop :=
 xs=[]∨∃b m,a=some ⟨b,0,none⟩∧lo≤b∧b<hi∧Own w b m 92∧xs.length*6≤m∧∀i,i<xs.length→∃a0 c0 a4 c4 a5 c5,w.cell? ⟨b,i*6,none⟩=some (.slice a0 (funAt' xs i).takes.length c0)∧w.cell? ⟨b,i*6+4,none⟩=some (.slice a4 (funAt' xs i).own.length c4)∧w.cell? ⟨b,i*6+5,none⟩=some (.slice a5 (funAt' xs i).body.length c5)∧FlatSh 68 3 w lo hi a0 (funAt' xs i).takes.length∧FlatSh 68 3 w lo hi a4 (funAt' xs i).own.length∧FlatSh 40 3 w lo hi a5 (funAt' xs i).body.length
theorem FunSh.marks {lo hi lo' hi':Nat} {w w':World} {a:Option Addr} {xs:List GFun} (h:FunSh w lo hi a xs) (hk:MarksG lo' hi' w w'):FunSh w' lo hi a xs:=by
 rcases h with h|⟨b,m,rfl,h3,h4,h5,h6,h7⟩
 ·exact .inl h
 ·refine .inr ⟨b,m,rfl,h3,h4,hk.own _ _ _ h5,h6,fun i hi=>?_⟩
  obtain⟨a0,c0,a4,c4,a5,c5,e0,e4,e5,s0,s4,s5⟩:=h7 i hi
  exact⟨a0,c0,a4,c4,a5,c5,(hk.head b m _ _ h5 (sl_t0 Tryz.infoFun i (by decide) rfl)).trans e0,(hk.head b m _ _ h5 (sl_t Tryz.infoFun i 4 (by decide) rfl)).trans e4,(hk.head b m _ _ h5 (sl_t Tryz.infoFun i 5 (by decide) rfl)).trans e5,s0.marks hk,s4.marks hk,s5.marks hk⟩
theorem FunSh.keep {lo hi:Nat} {w w':World} {a:Option Addr} {xs:List GFun} (h:FunSh w lo hi a xs) (hk:Below hi w w'):FunSh w' lo hi a xs:=by
 rcases h with h|⟨b,m,rfl,h3,h4,h5,h6,h7⟩
 ·exact .inl h
 ·refine .inr ⟨b,m,rfl,h3,h4,h5.below hk h4,h6,fun i hi=>?_⟩
  obtain⟨a0,c0,a4,c4,a5,c5,e0,e4,e5,s0,s4,s5⟩:=h7 i hi
  exact⟨a0,c0,a4,c4,a5,c5,(hk.cell (p:=⟨b,_,none⟩) h4).trans e0,(hk.cell (p:=⟨b,_,none⟩) h4).trans e4,(hk.cell (p:=⟨b,_,none⟩) h4).trans e5,s0.keep hk,s4.keep hk,s5.keep hk⟩
set_option maxHeartbeats 1600000 in
theorem markFunS_m (a:Option Addr) (cap lo hi:Nat) (xs:List GFun) (k:Int) (w:World) (hl:FunsB 1048576 xs) (k0:0≤k) (k1:k≤4500000000000000000) (hx:FunSh w lo hi a xs) :
  Calls Tryz.prog 45 #[.slice a xs.length cap,.int .i64 k] w fun e w'=>∃r:Int,e=.returned (.int .i64 r)∧k≤r∧r≤k+9437187*(xs.length:Int)∧MarksG lo hi w w':=by
 have hn:=hl.1
 have HL:=hide hl.2
 clear hl
 rcases hx with h0|⟨b,m,rfl,h1,h2,h3,h4,h5⟩
 ·have h0':xs.length≤0:=by rw[h0];exact Nat.le_refl _
  clear h0
  go_enter Tryz.func45,Tryz.ntmps45
  go_wp2_with fail
  go_loop [1,5] (fun l i=>i=.int .i64 0∧l=.int .i64 k) (fun l i=>0)
  case atStart=>exact⟨rfl,rfl⟩
  case round =>
   obtain⟨rfl,rfl⟩:=hrel
   go_wp2_with fail
   go_ret
   exact⟨k,rfl,by omega,by omega,MarksG.refl _ _ _⟩
 ·have H3:=hide h3
  have H5:=hide h5
  clear h3 h5
  go_enter Tryz.func45,Tryz.ntmps45
  go_wp2_with fail
  go_loopw [1,5] (fun l i wr=>∃(j:Nat) (r:Int),j≤xs.length∧i=.int .i64 j∧l=.int .i64 r∧k≤r∧r≤k+9437187*(j:Int)∧MarksG lo hi w wr) (fun l i wr=>xs.length-(intOf i).toNat)
  case atStart=>exact⟨0,k,Nat.zero_le _,rfl,rfl,by omega,by omega,MarksG.refl _ _ _⟩
  case round =>
   obtain⟨j,r0,hj,rfl,rfl,r1,r2,hM⟩:=hrel
   have HK0:=hide hM
   clear hM
   by_cases hjn:j<xs.length
   ·obtain⟨a0,c0,a4,c4,a5,c5,e0,e4,e5,s0,s4,s5⟩:=H5.out j hjn
    have HLj:=hide (HL.out j hjn)
    have g1:(0:Int)≤(j:Int):=by omega
    have g2:(j:Int)<(xs.length:Int):=by omega
    have E0:=hide e0
    have S0:=hide s0
    have E4:=hide e4
    have S4:=hide s4
    have E5:=hide e5
    have S5:=hide s5
    clear e0 s0 e4 s4 e5 s5
    have HO0:=hide (HK0.out.own _ _ _ H3.out)
    have d0_0:=(HK0.out.head b m _ _ H3.out (sl_t0 Tryz.infoFun j (by decide) rfl)).trans E0.out
    have f1_0:=HO0.out.frozen (j*6+1)
    obtain⟨v1_0,d1_0⟩:=HO0.out.cell (o:=j*6+1) (by omega)
    have f2_0:=HO0.out.frozen (j*6+2)
    obtain⟨v2_0,d2_0⟩:=HO0.out.cell (o:=j*6+2) (by omega)
    have f3_0:=HO0.out.frozen (j*6+3)
    obtain⟨v3_0,d3_0⟩:=HO0.out.cell (o:=j*6+3) (by omega)
    have d4_0:=(HK0.out.head b m _ _ H3.out (sl_t Tryz.infoFun j 4 (by decide) rfl)).trans E4.out
    have d5_0:=(HK0.out.head b m _ _ H3.out (sl_t Tryz.infoFun j 5 (by decide) rfl)).trans E5.out
    go_wp2_with fail
    have M0:=hide (HK0.out)
    refine(markFieldS_m a0 c0 (funAt' xs j).takes.length lo hi _ _ (Nat.le_trans HLj.out.1 (by decide)) (by omega) (by omega) (S0.out.marks M0.out)).mono ?_
    rintro e w1 ⟨rfl,hM1,_⟩
    have lb0:(funAt' xs j).takes.length≤1048576:=HLj.out.1
    obtain⟨q0,hq0⟩:∃q:Int,q=r0+3*((funAt' xs j).takes.length:Int):=⟨_,rfl⟩
    rw[←hq0]
    have u0:r0≤q0∧q0≤r0+3145728:=by omega
    clear hq0 lb0
    have HK1:=hide (M0.out.trans hM1)
    clear hM1
    clear d0_0 f1_0 d1_0 f2_0 d2_0 f3_0 d3_0 d4_0 d5_0
    have HO1:=hide (HK1.out.own _ _ _ H3.out)
    have d0_1:=(HK1.out.head b m _ _ H3.out (sl_t0 Tryz.infoFun j (by decide) rfl)).trans E0.out
    have f1_1:=HO1.out.frozen (j*6+1)
    obtain⟨v1_1,d1_1⟩:=HO1.out.cell (o:=j*6+1) (by omega)
    have f2_1:=HO1.out.frozen (j*6+2)
    obtain⟨v2_1,d2_1⟩:=HO1.out.cell (o:=j*6+2) (by omega)
    have f3_1:=HO1.out.frozen (j*6+3)
    obtain⟨v3_1,d3_1⟩:=HO1.out.cell (o:=j*6+3) (by omega)
    have d4_1:=(HK1.out.head b m _ _ H3.out (sl_t Tryz.infoFun j 4 (by decide) rfl)).trans E4.out
    have d5_1:=(HK1.out.head b m _ _ H3.out (sl_t Tryz.infoFun j 5 (by decide) rfl)).trans E5.out
    go_wp2_with fail
    have o1_1:=HO1.out.set b (j*6+1) (.int .i64 (q0))
    have o2_1:=o1_1.set b (j*6+2) (.int .i64 (q0+1))
    have o3_1:=o2_1.set b (j*6+3) (.bool ((q0+1+1)%3==0))
    have M1:=hide ((((HK1.out).set HO1.out h1 h2 (j*6+1) (by omega) (sl_f Tryz.infoFun j 1 (by decide) rfl) (.int .i64 (q0))).set o1_1 h1 h2 (j*6+2) (by omega) (sl_f Tryz.infoFun j 2 (by decide) rfl) (.int .i64 (q0+1))).set o2_1 h1 h2 (j*6+3) (by omega) (sl_f Tryz.infoFun j 3 (by decide) rfl) (.bool ((q0+1+1)%3==0)))
    refine(markFieldS_m a4 c4 (funAt' xs j).own.length lo hi _ _ (Nat.le_trans HLj.out.2.1 (by decide)) (by omega) (by omega) (S4.out.marks M1.out)).mono ?_
    rintro e w2 ⟨rfl,hM2,_⟩
    have lb1:(funAt' xs j).own.length≤1048576:=HLj.out.2.1
    obtain⟨q1,hq1⟩:∃q:Int,q=q0+1+1+1+3*((funAt' xs j).own.length:Int):=⟨_,rfl⟩
    rw[←hq1]
    have u1:q0+1+1+1≤q1∧q1≤q0+1+1+1+3145728:=by omega
    clear hq1 lb1
    have HK2:=hide (M1.out.trans hM2)
    clear hM2
    clear d0_1 f1_1 d1_1 f2_1 d2_1 f3_1 d3_1 d4_1 d5_1
    have HO2:=hide (HK2.out.own _ _ _ H3.out)
    have d0_2:=(HK2.out.head b m _ _ H3.out (sl_t0 Tryz.infoFun j (by decide) rfl)).trans E0.out
    have f1_2:=HO2.out.frozen (j*6+1)
    obtain⟨v1_2,d1_2⟩:=HO2.out.cell (o:=j*6+1) (by omega)
    have f2_2:=HO2.out.frozen (j*6+2)
    obtain⟨v2_2,d2_2⟩:=HO2.out.cell (o:=j*6+2) (by omega)
    have f3_2:=HO2.out.frozen (j*6+3)
    obtain⟨v3_2,d3_2⟩:=HO2.out.cell (o:=j*6+3) (by omega)
    have d4_2:=(HK2.out.head b m _ _ H3.out (sl_t Tryz.infoFun j 4 (by decide) rfl)).trans E4.out
    have d5_2:=(HK2.out.head b m _ _ H3.out (sl_t Tryz.infoFun j 5 (by decide) rfl)).trans E5.out
    go_wp2_with fail
    have M2:=hide (HK2.out)
    refine(markInsS_m a5 c5 (funAt' xs j).body.length lo hi _ _ (Nat.le_trans HLj.out.2.2 (by decide)) (by omega) (by omega) (S5.out.marks M2.out)).mono ?_
    rintro e w3 ⟨rfl,hM3,_⟩
    have lb2:(funAt' xs j).body.length≤1048576:=HLj.out.2.2
    obtain⟨q2,hq2⟩:∃q:Int,q=q1+3*((funAt' xs j).body.length:Int):=⟨_,rfl⟩
    rw[←hq2]
    have u2:q1≤q2∧q2≤q1+3145728:=by omega
    clear hq2 lb2
    have HK3:=hide (M2.out.trans hM3)
    clear hM3
    clear d0_2 f1_2 d1_2 f2_2 d2_2 f3_2 d3_2 d4_2 d5_2
    have HO3:=hide (HK3.out.own _ _ _ H3.out)
    have d0_3:=(HK3.out.head b m _ _ H3.out (sl_t0 Tryz.infoFun j (by decide) rfl)).trans E0.out
    have f1_3:=HO3.out.frozen (j*6+1)
    obtain⟨v1_3,d1_3⟩:=HO3.out.cell (o:=j*6+1) (by omega)
    have f2_3:=HO3.out.frozen (j*6+2)
    obtain⟨v2_3,d2_3⟩:=HO3.out.cell (o:=j*6+2) (by omega)
    have f3_3:=HO3.out.frozen (j*6+3)
    obtain⟨v3_3,d3_3⟩:=HO3.out.cell (o:=j*6+3) (by omega)
    have d4_3:=(HK3.out.head b m _ _ H3.out (sl_t Tryz.infoFun j 4 (by decide) rfl)).trans E4.out
    have d5_3:=(HK3.out.head b m _ _ H3.out (sl_t Tryz.infoFun j 5 (by decide) rfl)).trans E5.out
    go_wp2_with fail
    exact⟨⟨j+1,q2,by omega,by go_num,rfl,by omega,by omega,HK3.out⟩,by simp[intOf];omega⟩
   ·go_wp2_with fail
    go_ret
    exact⟨r0,rfl,r1,by omega,HK0.out⟩
theorem FunsM.shapeG {lo hi:Nat} {w:World} {a:Option Addr} {xs:List GFun} (h:FunsM true w lo hi a xs):FunSh w lo hi a xs:=by
 rcases h with rfl|⟨b,off,rfl,h3,h4,h5,h6⟩
 ·exact .inl rfl
 ·obtain⟨rfl,m,ho,hm⟩:=h5 rfl
  refine .inr ⟨b,m,rfl,h3,h4,ho,hm,fun i hi=>?_⟩
  obtain⟨a0,c0,a4,c4,a5,c5,e0,e1,e2,e3,e4,e5,s0,s4,s5⟩:=h6 i hi
  rw[Nat.zero_add] at e0 e4 e5
  exact⟨a0,c0,a4,c4,a5,c5,e0,e4,e5,s0.shapeG,s4.shapeG,s5.shapeG⟩
set_option maxHeartbeats 1600000 in
theorem markProg_m (a0:Option Addr) (c0:Nat) (a1:Option Addr) (c1:Nat) (a2:Option Addr) (c2:Nat) (lo hi:Nat) (x:GProg) (k:Int) (w:World) (hl:ProgB 1048576 x) (k0:0≤k) (k1:k≤1125899906842624) (g0:GroupShG w lo hi a0 x.types) (g1:FlatSh 68 3 w lo hi a1 x.glob.length) (g2:FunSh w lo hi a2 x.funs) (hh:hi≤w.heap.size) :
  Calls Tryz.prog 16 #[.agg #[.slice a0 x.types.length c0,.slice a1 x.glob.length c1,.slice a2 x.funs.length c2],.int .i64 k] w fun e w'=>∃r:Int,e=.returned (.int .i64 r)∧k≤r∧r≤k+3458777707966365696∧MarksG lo hi w w':=by
 have HL:=hide hl
 have HH:=hide hh
 clear hl hh
 have HB:Hid (Below w.heap.size w (w.alloc (.cells #[.slice a0 x.types.length c0,.slice a1 x.glob.length c1,.slice a2 x.funs.length c2] 37))):=(Below.refl _ _).alloc (Nat.le_refl _) _
 have G0_0:=hide (g0.keep (HB.out.mono HH.out))
 have G1_0:=hide (g1.keep (HB.out.mono HH.out))
 have G2_0:=hide (g2.keep (HB.out.mono HH.out))
 have R0:Hid (Rec (w.alloc (.cells #[.slice a0 x.types.length c0,.slice a1 x.glob.length c1,.slice a2 x.funs.length c2] 37)) w.heap.size 37 [.slice a0 x.types.length c0,.slice a1 x.glob.length c1,.slice a2 x.funs.length c2]):=Rec.new' _ _ _ _ rfl
 have BU0:Hid (MarksG lo hi w (w.alloc (.cells #[.slice a0 x.types.length c0,.slice a1 x.glob.length c1,.slice a2 x.funs.length c2] 37))):=MarksG.of_below HB.out
 clear g0 g1 g2
 go_enter Tryz.func16,Tryz.ntmps16
 go_wp2_with fail
 refine(markTypeSS_m a0 c0 lo hi x.types _ _ HL.out.1 (by omega) (by omega) G0_0.out).mono ?_
 rintro e w1 ⟨q0,rfl,t0,u0,hM1⟩
 have BU1:=hide (BU0.out.trans hM1)
 have G0_1:=hide (G0_0.out.marks hM1)
 have G1_1:=hide (G1_0.out.marks hM1)
 have G2_1:=hide (G2_0.out.marks hM1)
 have R1:=hide (R0.out.marks hM1 (.inr HH.out))
 have r0_1:=R1.out.cell (o:=0) rfl
 have r1_1:=R1.out.cell (o:=1) rfl
 have r2_1:=R1.out.cell (o:=2) rfl
 clear hM1 G0_0 G1_0 G2_0
 go_wp2_with fail
 refine(markFieldS_m a1 c1 x.glob.length lo hi _ _ (Nat.le_trans HL.out.2.1 (by decide)) (by omega) (by omega) G1_1.out).mono ?_
 rintro e w2 ⟨rfl,hM2,_⟩
 have lb1:x.glob.length≤1048576:=HL.out.2.1
 obtain⟨q1,hq1⟩:∃q:Int,q=q0+3*(x.glob.length:Int):=⟨_,rfl⟩
 rw[←hq1]
 have u1:q0≤q1∧q1≤q0+3145728:=by omega
 clear hq1 lb1
 have BU2:=hide (BU1.out.trans hM2)
 have G0_2:=hide (G0_1.out.marks hM2)
 have G1_2:=hide (G1_1.out.marks hM2)
 have G2_2:=hide (G2_1.out.marks hM2)
 have R2:=hide (R1.out.marks hM2 (.inr HH.out))
 have r0_2:=R2.out.cell (o:=0) rfl
 have r1_2:=R2.out.cell (o:=1) rfl
 have r2_2:=R2.out.cell (o:=2) rfl
 clear r0_1 r1_1 r2_1
 clear hM2 G0_1 G1_1 G2_1
 go_wp2_with fail
 refine(markFunS_m a2 c2 lo hi x.funs _ _ HL.out.2.2 (by omega) (by omega) G2_2.out).mono ?_
 rintro e w3 ⟨q2,rfl,t2,u2,hM3⟩
 have lb2:x.funs.length≤1048576:=(HL.out.2.2).1
 have BU3:=hide (BU2.out.trans hM3)
 have G0_3:=hide (G0_2.out.marks hM3)
 have G1_3:=hide (G1_2.out.marks hM3)
 have G2_3:=hide (G2_2.out.marks hM3)
 have R3:=hide (R2.out.marks hM3 (.inr HH.out))
 have r0_3:=R3.out.cell (o:=0) rfl
 have r1_3:=R3.out.cell (o:=1) rfl
 have r2_3:=R3.out.cell (o:=2) rfl
 clear r0_2 r1_2 r2_2
 clear hM3 G0_2 G1_2 G2_2
 go_wp2_with fail
 go_ret
 exact⟨q2,rfl,by omega,by omega,BU3.out⟩
end Go.Proofs.YtpaneomkphjpcaaGreatDoor
