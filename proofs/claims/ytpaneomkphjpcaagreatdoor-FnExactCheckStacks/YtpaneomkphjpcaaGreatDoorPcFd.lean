/- PcFd: Copy, FdRow, ConcatF. -/
import Derived.Test.YtpaneomkphjpcaaGreatDoorPaKinA
import Derived.Deep.AppendSrc
import Derived.Deep.DeepAppendWide
import Derived.Test.YtpaneomkphjpcaaGreatDoorPaSpecA
import Derived.Test.YtpaneomkphjpcaaGreatDoorGenProg0
import Derived.Maps.AppendAt
import Derived.Lib.AppendZeros
namespace Go.Proofs.YtpaneomkphjpcaaGreatDoor
open Go.ChangeShapes Go.WideShapes Go.ChangeAt Go.RowKit Go.Deep
set_option linter.unusedVariables false
def fcell (f:Fd):Nat→Value
 | 0=>.int .i64 f.kind
 | 1=>.int .i64 f.of
 | _=>.bool f.mt
def fcells (fs:List Fd):List Value:=(List.range (fs.length*3)).map fun j=>fcell (fdAt fs (j/3)) (j%3)
theorem fcells_get (fs:List Fd) (j:Nat) (h:j<fs.length*3):(fcells fs)[j]?=some (fcell (fdAt fs (j/3)) (j%3)):=by
 simp[fcells,h]
theorem fcells_length (fs:List Fd):(fcells fs).length=fs.length*3:=by simp[fcells]
theorem fcells_one (fs:List Fd):∀u∈fcells fs,u.oneCell'=true:=by
 intro u hu
 simp only[fcells,List.mem_map] at hu
 obtain⟨j,_,rfl⟩:=hu
 generalize j%3=r
 match r with
 | 0=>rfl
 | 1=>rfl
 | (k+2)=>rfl
theorem fieldAt_cell {w:World} {b off:Nat} {fs:List Fd} (h:∀i,i<fs.length→FieldAt w b (off+i*3) (fdAt fs i)) (j:Nat) (hj:j<fs.length*3) :
  w.cell? ⟨b,off+j,none⟩=some (fcell (fdAt fs (j/3)) (j%3)):=by
 obtain⟨a0,a1,a2⟩:=h (j/3) (by omega)
 have e:off+j=off+j/3*3+j%3:=by omega
 rw[e]
 have hr:j%3=0∨j%3=1∨j%3=2:=by omega
 rcases hr with hr|hr|hr<;>rw[hr]
 ·exact a0
 ·exact a1
 ·exact a2
theorem fieldAt_of {w:World} {b off:Nat} {fs:List Fd} (h:∀j,j<fs.length*3→w.cell? ⟨b,off+j,none⟩=some (fcell (fdAt fs (j/3)) (j%3))):∀i,i<fs.length→FieldAt w b (off+i*3) (fdAt fs i):=by
 intro i hi
 have h0:=h (i*3) (by omega)
 have h1:=h (i*3+1) (by omega)
 have h2:=h (i*3+2) (by omega)
 rw[show(i*3)/3=i by omega,show(i*3)%3=0 by omega] at h0
 rw[show(i*3+1)/3=i by omega,show(i*3+1)%3=1 by omega] at h1
 rw[show(i*3+2)/3=i by omega,show(i*3+2)%3=2 by omega] at h2
 exact⟨h0,by rw[Nat.add_assoc];exact h1,by rw[Nat.add_assoc];exact h2⟩
theorem frozen_none {w:World} {b o:Nat} (h:w.heap[b]?=none):w.frozen? ⟨b,o,none⟩=false:=by
 unfold World.frozen?
 simp only[h]
theorem frozen_alloc_new (w:World) (c:Array Value) (t:TypeId) (b o:Nat) (h:w.heap.size≤b):(w.alloc (.cells c t)).frozen? ⟨b,o,none⟩=false:=by
 by_cases e:b=w.heap.size
 ·subst e
  unfold World.frozen?
  simp only[blk_alloc_new]
  simp
 ·refine frozen_none (Array.getElem?_eq_none_iff.2 ?_)
  have:(w.alloc (.cells c t)).heap.size=w.heap.size+1:=by simp
  omega
theorem run_append_copy (ty:TypeId) (base:Option Addr) (hbase:base=none∨∃B,base=some ⟨B,0,none⟩) (fa:Option Addr) (fc lo hi:Nat) (fs:List Fd) (w:World) (hn:fs.length≤1048576) (hx:FieldsIn w lo hi fa fs) :
  ∃na nc w',(Builtin.append_ #[31,31] ty #[.slice base 0 0,.slice fa fs.length fc]).run Tryz.prog w=.ok (.slice na fs.length nc) w'∧FieldsNew w' w.heap.size w'.heap.size na fs∧Below w.heap.size w w':=by
 obtain⟨i0,hi0,hzz⟩:=Option.map_eq_some_iff.1 Tryz.infoField
 simp only[Prod.mk.injEq] at hzz
 obtain⟨hz0,hs0,hb0⟩:=hzz
 have hu:=Tryz.underlying31
 by_cases h0:fs=[]
 ·subst h0
  refine⟨base,0,w,?_,⟨.inl rfl,.inl rfl⟩,Below.refl _ _⟩
  ·have e1:(Builtin.firstCells i0.size 0 (.slice fa 0 fc)).run Tryz.prog w=.ok #[] w:=by
    cases fa with
    | none=>exact run_firstCells_none w i0.size 0 0 fc
    | some ad=>exact run_firstCells_some w i0.size 0 ad 0 fc [] (by simp) (fun j u h=>by simp at h)
   rcases hbase with rfl|⟨B,rfl⟩
   ·simp[Builtin.append_,run_underlying hu,sizeOf,typeInfo,hi0,Builtin.lenOf,e1]
   ·simp[Builtin.append_,run_underlying hu,sizeOf,typeInfo,hi0,Builtin.lenOf,e1,storeCells]
 ·rcases hx with rfl|⟨b,off,rfl,h1,h2,h3⟩
  ·exact absurd rfl h0
  have hpos:0<fs.length:=List.length_pos_iff.2 h0
  have hsrc:Src Tryz.prog i0.size 31 (.slice (some ⟨b,off,none⟩) fs.length fc) fs.length (fcells fs) w :=
   Src.ofSlice w hu ⟨b,off,none⟩ fs.length fc (fcells fs) (by rw[fcells_length,hs0]) (fun j u hj=>by
    have hlt:j<fs.length*3:=by have:=(List.getElem?_eq_some_iff.1 hj).1;rwa [fcells_length] at this
    rw[fcells_get _ _ hlt] at hj
    rw[add_plain,fieldAt_cell h3 j hlt]
    exact hj) (fcells_one fs)
  have hold:(Builtin.firstCells i0.size 0 (.slice base 0 0)).run Tryz.prog w.drew=.ok ([]:List Value).toArray w.drew:=by
   cases base with
   | none=>exact run_firstCells_none w.drew i0.size 0 0 0
   | some ad=>exact run_firstCells_some w.drew i0.size 0 ad 0 0 [] (by simp) (fun j u h=>by simp at h)
  have hrun:=run_append_grow_src (P:=Tryz.prog) w 31 31 ty 68 i0 _ hu hi0 hz0 base 0 0 [] hold _ fs.length (fcells fs) hsrc (by omega) (by omega)
   (growslice_fits_wide (by omega) (by rw[hb0];omega))
  rw[Nat.zero_add] at hrun
  refine⟨_,_,_,hrun,⟨.inr ⟨_,0,rfl,Nat.le_refl _,by simp,?_⟩,.inr ⟨_,_,rfl,Nat.le_refl _,by simp,⟨_,blk_alloc_new w.drew _,rfl⟩,?_⟩⟩,?_⟩
  ·refine fieldAt_of fun j hj=>?_
   rw[Nat.zero_add]
   generalize hc:(([]++fcells fs).toArray++_:Array Value)=c
   have hb':(w.drew.alloc (.cells c 68)).heap[w.heap.size]?=some (.cells c 68 (0,0)):=blk_alloc_new w.drew _
   simp only[World.cell?,hb']
   subst hc
   rw[←fcells_get fs j hj]
   have hl:=fcells_length fs
   simp[Array.getElem?_append,hl,hj]
  ·have hl:=fcells_length fs
   simp[hl]
  ·exact(Below.refl _ _).drew.alloc (Nat.le_refl _) _
theorem wp_append_copy {o:Oper} {a:Act} {K:Act→World→Prop} {Q:Exit→Act→World→Prop} (w:World) (s x:Operand)
  (ho:o.op=.call { callee:=.builtin .append,args:=#[s,x],argTypes:=#[31,31] })
  (base:Option Addr) (hbase:base=none∨∃B,base=some ⟨B,0,none⟩) (fa:Option Addr) (fc lo hi:Nat) (fs:List Fd) (hs:a.eval s=.slice base 0 0) (hx:a.eval x=.slice fa fs.length fc) (hn:fs.length≤1048576) (hf:FieldsIn w lo hi fa fs)
  (h:∀na nc w',FieldsNew w' w.heap.size w'.heap.size na fs→Below w.heap.size w w'→K (a.put o.dst (.slice na fs.length nc)) w'):o.wp Tryz.prog a w K Q:=by
 obtain⟨na,nc,w',hr,h2,h3⟩:=run_append_copy o.type base hbase fa fc lo hi fs w hn hf
 unfold Oper.wp execOp
 simp only[ho,resolve,invoke,builtin,Sem.run_bind,Sem.run_pure,Result.andThen_ok,List.map_toArray,List.map_cons,List.map_nil,hs,hx,hr]
 exact h na nc w' h2 h3
theorem wpList_append_copy {ops:Array Oper} {rest:List Oper} {o:Oper} {a:Act} {Q:Exit→Act→World→Prop} (w:World) (hgd:o.guard=none) (s x:Operand)
  (ho:o.op=.call { callee:=.builtin .append,args:=#[s,x],argTypes:=#[31,31] })
  (base:Option Addr) (hbase:base=none∨∃B,base=some ⟨B,0,none⟩) (fa:Option Addr) (fc lo hi:Nat) (fs:List Fd) (hs:a.eval s=.slice base 0 0) (hx:a.eval x=.slice fa fs.length fc) (hn:fs.length≤1048576) (hf:FieldsIn w lo hi fa fs)
  (h:∀na nc w',FieldsNew w' w.heap.size w'.heap.size na fs→Below w.heap.size w w'→wpList Tryz.prog ops Q rest (a.put o.dst (.slice na fs.length nc)) w'):wpList Tryz.prog ops Q (o::rest) a w :=
 wpList_plain hgd fun _ hK=>wp_append_copy w s x ho base hbase fa fc lo hi fs hs hx hn hf fun na nc w' h2 h3=>hK _ _ (h na nc w' h2 h3)
theorem step_append_copy {ops:Array Oper} {o:Oper} {a:Act} {K:Act→World→Prop} {Q:Exit→Act→World→Prop} {E:Prop} (w:World) (hgd:o.guard=none) (s x:Operand)
  (ho:o.op=.call { callee:=.builtin .append,args:=#[s,x],argTypes:=#[31,31] })
  (base:Option Addr) (hbase:base=none∨∃B,base=some ⟨B,0,none⟩) (fa:Option Addr) (fc lo hi:Nat) (fs:List Fd) (hs:a.eval s=.slice base 0 0) (hx:a.eval x=.slice fa fs.length fc) (hn:fs.length≤1048576) (hf:FieldsIn w lo hi fa fs)
  (h:∀na nc w',FieldsNew w' w.heap.size w'.heap.size na fs→Below w.heap.size w w'→K (a.put o.dst (.slice na fs.length nc)) w') :
  if Region.wanted o (yielded ops a.tmps)=true then Oper.wp Tryz.prog o a w K Q else E:=by
 have hw:Region.wanted o (yielded ops a.tmps)=true:=by simp[Region.wanted,hgd]
 rw[if_pos hw]
 exact wp_append_copy w s x ho base hbase fa fc lo hi fs hs hx hn hf h
theorem fdAt_app_left (l m:List Fd) (i:Nat) (h:i<l.length):fdAt (l++m) i=fdAt l i:=by
 unfold fdAt;simp[List.getElem?_append_left h]
theorem fdAt_app_right (l m:List Fd) (i:Nat) (h:l.length≤i):fdAt (l++m) i=fdAt m (i-l.length):=by
 unfold fdAt;simp[List.getElem?_append_right h]
theorem fcells_app (xs ys:List Fd):fcells (xs++ys)=fcells xs++fcells ys:=by
 refine List.ext_getElem? fun j=>?_
 have hl:=fcells_length xs
 have hm:=fcells_length ys
 by_cases h:j<xs.length*3
 ·rw[fcells_get _ _ (by simp;omega),List.getElem?_append_left (by omega),fcells_get _ _ h,fdAt_app_left _ _ _ (by omega)]
 ·by_cases h2:j<xs.length*3+ys.length*3
  ·rw[fcells_get _ _ (by simp;omega),List.getElem?_append_right (by omega),hl,fcells_get _ _ (by omega),fdAt_app_right _ _ _ (by omega)]
   rw[show j/3-xs.length=(j-xs.length*3)/3 by omega,show j%3=(j-xs.length*3)%3 by omega]
  ·rw[List.getElem?_eq_none_iff.2 (by rw[fcells_length];simp;omega),List.getElem?_eq_none_iff.2 (by simp[hl,hm];omega)]
def FdRow (w:World) (S:Nat) (v:Value) (xs:List Fd):Prop:=w.ownsRow S 68 3 v xs.length (fcells xs)
theorem FdRow.nil (w:World) (S:Nat):FdRow w S (.slice none 0 0) []:=⟨rfl,.inl ⟨rfl,rfl⟩⟩
theorem FdRow.below {w w':World} {S:Nat} {v:Value} {xs:List Fd} (h:FdRow w S v xs) (hb:Below w.heap.size w w'):FdRow w' S v xs:=owns_below h hb
theorem FdRow.alloc {w:World} {S:Nat} {v:Value} {xs:List Fd} (h:FdRow w S v xs) (o:Obj):FdRow (w.alloc o) S v xs:=World.ownsRow.alloc h o
theorem FdRow.lower {w:World} {S S':Nat} {v:Value} {xs:List Fd} (h:FdRow w S v xs) (hS:S'≤S):FdRow w S' v xs:=owns_lower h hS
theorem FdRow.val {w:World} {S:Nat} {v:Value} {xs:List Fd} (h:FdRow w S v xs):∃a cap,v=.slice a xs.length cap:=by
 rcases h.2 with⟨h1,h0⟩|⟨g,cap,cur,h1,_⟩
 ·exact⟨none,0,by rw[h1,h0]⟩
 ·exact⟨_,_,h1⟩
theorem FdRow.own {w:World} {S cap:Nat} {a:Option Addr} {xs:List Fd} (h:FdRow w S (.slice a xs.length cap) xs):FieldsM true w S w.heap.size a xs:=by
 rcases h.2 with⟨_,h0⟩|⟨g,c,cur,e,hS,hg,h1,h2,h3,h4⟩
 ·have:xs=[]:=List.length_eq_zero_iff.1 (by omega)
  exact⟨.inl this,fun _=>.inl (by rw[this];rfl)⟩
 ·injection e with e1 _ _
  subst e1
  have hlt:=(Array.getElem?_eq_some_iff.1 hg).1
  refine⟨.inr ⟨g,0,rfl,hS,hlt,fieldAt_of fun j hj=>?_⟩,fun _=>.inr ⟨g,cur.size,rfl,hS,hlt,⟨cur,hg,rfl⟩,by omega⟩⟩
  rw[Nat.zero_add,←fcells_get xs j hj,←h4,List.getElem?_take,if_pos hj]
  simp[World.cell?,hg]
theorem run_append_fields (ty:TypeId) (S:Nat) (v:Value) (xs:List Fd) (fa:Option Addr) (fc lo hi:Nat) (fs:List Fd) (w:World) (hown:FdRow w S v xs) (h1:xs.length≤1048576) (hn:fs.length≤1048576) (hx:FieldsIn w lo hi fa fs) (hS:S≤w.heap.size) :
  ∃v' w',(Builtin.append_ #[31,31] ty #[v,.slice fa fs.length fc]).run Tryz.prog w=.ok v' w'∧FdRow w' S v' (xs++fs)∧Below S w w':=by
 obtain⟨i0,hi0,hzz⟩:=Option.map_eq_some_iff.1 Tryz.infoField
 simp only[Prod.mk.injEq] at hzz
 obtain⟨hz0,hs0,hb0⟩:=hzz
 have hu:=Tryz.underlying31
 by_cases h0:fs=[]
 ·subst h0
  refine⟨v,w,?_,by rw[List.append_nil];exact hown,Below.refl _ _⟩
  have e1:(Builtin.firstCells i0.size 0 (.slice fa 0 fc)).run Tryz.prog w=.ok #[] w:=by
   cases fa with
   | none=>exact run_firstCells_none w i0.size 0 0 fc
   | some ad=>exact run_firstCells_some w i0.size 0 ad 0 fc [] (by simp) (fun j u h=>by simp at h)
  rcases hown.2 with⟨hv,_⟩|⟨g,cap,cur,hv,_,_,hcap,_⟩
  ·subst hv
   simp[Builtin.append_,run_underlying hu,sizeOf,typeInfo,hi0,Builtin.lenOf,e1]
  ·subst hv
   simp[Builtin.append_,run_underlying hu,sizeOf,typeInfo,hi0,Builtin.lenOf,e1,storeCells,hcap]
 ·rcases hx with rfl|⟨b,off,rfl,g1,g2,g3⟩
  ·exact absurd rfl h0
  obtain⟨v2,w2,hr2,ho2,hg2,_,_⟩:=run_append_own_at (P:=Tryz.prog) w S 31 ty 68 i0 _ 3 24 hu hi0 hz0 hs0 hb0 (by rfl) (by decide) v xs.length (fcells xs) hown ⟨b,off,none⟩ fs.length fc (fcells fs) (fcells_length fs)
   (fun j u hj=>by
    have hlt:j<fs.length*3:=by have:=(List.getElem?_eq_some_iff.1 hj).1;rwa [fcells_length] at this
    rw[fcells_get _ _ hlt] at hj
    rw[add_plain,fieldAt_cell g3 j hlt]
    exact hj) (fcells_one fs) (by unfold maxLen;omega) (by omega) hS
  refine⟨v2,w2,hr2,?_,(Below.refl S w).grown hg2 hS (owns_base hown)⟩
  unfold FdRow
  rw[fcells_app,List.length_append]
  exact ho2
theorem wpList_app_fields {ops:Array Oper} {rest:List Oper} {o:Oper} {a:Act} {Q:Exit→Act→World→Prop} {w:World} (hgd:o.guard=none) (s x:Operand)
  (ho:o.op=.call { callee:=.builtin .append,args:=#[s,x],argTypes:=#[31,31] })
  (S:Nat) (v:Value) (xs:List Fd) (fa:Option Addr) (fc lo hi:Nat) (fs:List Fd) (hs:a.eval s=v) (hown:FdRow w S v xs) (hx:a.eval x=.slice fa fs.length fc) (h1:xs.length≤1048576) (hn:fs.length≤1048576) (hf:FieldsIn w lo hi fa fs) (hS:S≤w.heap.size)
  (h:∀a' cap w',FdRow w' S (.slice a' (xs++fs).length cap) (xs++fs)→Below S w w'→wpList Tryz.prog ops Q rest (a.put o.dst (.slice a' (xs++fs).length cap)) w'):wpList Tryz.prog ops Q (o::rest) a w:=by
 obtain⟨v',w',hr,h2,h3⟩:=run_append_fields o.type S v xs fa fc lo hi fs w hown h1 hn hf hS
 obtain⟨a',cap,rfl⟩:=h2.val
 refine wpList_plain hgd fun K hK=>?_
 unfold Oper.wp execOp
 simp only[ho,resolve,invoke,builtin,Sem.run_bind,Sem.run_pure,Result.andThen_ok,List.map_toArray,List.map_cons,List.map_nil,hs,hx,hr]
 exact hK _ _ (h a' cap w' h2 h3)
theorem grow_row (w:World) (S n:Nat) (h0:0<n) (hn:n≤4194304) (hS:S≤w.heap.size) (ty:TypeId) :
  ∃cap w',(Builtin.append_ #[31,3] ty #[.slice none 0 0,.int .i64 (n:Int)]).run Tryz.prog w=.ok (.slice (some ⟨w.heap.size,0,none⟩) n cap) w'∧n≤cap∧FdRow w' S (.slice (some ⟨w.heap.size,0,none⟩) 0 cap) []∧Below w.heap.size w w':=by
 obtain⟨i0,hi0,hzz⟩:=Option.map_eq_some_iff.1 Tryz.infoField
 simp only[Prod.mk.injEq] at hzz
 obtain⟨hz0,hs0,hb0⟩:=hzz
 have hr:=Lib.run_append_nil_zeros (P:=Tryz.prog) w 31 3 ty 68 i0 _ .i64 .i64 Tryz.underlying31 Tryz.underlying3 hi0 hz0 n h0 (by rw[hs0];decide) (by omega) (by rw[hb0];omega)
 have hge:=grownCap_ge w n 0 68
 have hcm:grownCap w n 0 68≤maxLen:=grownCap_le_maxLen w n 0 _ (by unfold maxLen;omega)
 refine⟨_,_,hr,hge,⟨rfl,.inr ⟨w.heap.size,_,_,rfl,hS,Deep.blk_alloc_new w.drew _,Nat.zero_le _,hcm,?_,?_⟩⟩,(Below.refl _ _).drew.alloc (Nat.le_refl _) _⟩
 ·simp only[Array.size_append,size_zeroCells]
  have:(Value.agg #[Value.int IntKind.i64 0,Value.int IntKind.i64 0,Value.bool false]).cells.size=3:=rfl
  rw[this]
  omega
 ·simp[fcells]
set_option maxHeartbeats 1600000 in
set_option maxRecDepth 100000 in
theorem growF_any (n:Nat) (w:World) (hn:n≤4194304) :
  Calls Tryz.prog 127 #[.slice none 0 0,.int .i64 (n:Int)] w fun e w'=>∃v,e=.returned v∧FdRow w' w.heap.size v []∧Below w.heap.size w w':=by
 by_cases h0:n=0
 ·subst h0
  go_enter Tryz.func127,Tryz.ntmps127
  go_wp2_with fail
  go_ret
  exact⟨_,rfl,FdRow.nil _ _,Below.refl _ _⟩
 ·have hp:(0:Int)<(n:Int):=by omega
  have hnn:¬(n:Int)<0:=by omega
  have hw:IntKind.i64.wrap (n:Int)=(n:Int):=by rw[IntKind.wrap_i64];omega
  obtain⟨cap,w1,hr,hc,hrow,hb⟩:=grow_row w w.heap.size n (by omega) hn (Nat.le_refl _) 31
  have HR:=hide hr
  have HRow:=hide hrow
  have HB:=hide hb
  clear hr hrow hb
  go_enter Tryz.func127,Tryz.ntmps127
  go_wp2_with (first|(at_builtin;refine Lib.wpList_append_run _ rfl _ _ _ _ rfl _ _ rfl rfl _ _ HR.out ?_))
  go_wp2_with fail
  go_ret
  exact⟨_,rfl,HRow.out,HB.out⟩
set_option maxHeartbeats 1600000 in
theorem concatF_any (b:Nat) (a0 a1:Option Addr) (c0 c1 lo hi:Nat) (ts os:List Fd) (w:World) (h0:w.cell? ⟨b,0,none⟩=some (.slice a0 ts.length c0)) (h1:w.cell? ⟨b,1,none⟩=some (.slice a1 os.length c1))
  (hb:b<w.heap.size) (hx0:FieldsIn w lo hi a0 ts) (hx1:FieldsIn w lo hi a1 os) (hh:hi≤w.heap.size) (l0:ts.length≤1048576) (l1:os.length≤1048576) :
  Calls Tryz.prog 106 #[.slice (some ⟨b,0,none⟩) 2 2] w fun e w'=>∃a cap,e=.returned (.slice a (ts++os).length cap)∧FdRow w' w.heap.size (.slice a (ts++os).length cap) (ts++os)∧Below w.heap.size w w':=by
 have HX0:=hide hx0
 have HX1:=hide hx1
 clear hx0 hx1
 obtain⟨m,hm⟩:∃m,ts.length=m:=⟨_,rfl⟩
 obtain⟨n,hn⟩:∃n,os.length=n:=⟨_,rfl⟩
 have HM:=hide hm
 have HN:=hide hn
 rw[hm] at h0 l0
 rw[hn] at h1 l1
 clear hm hn
 have H0:=hide h0
 have H1:=hide h1
 go_enter Tryz.func106,Tryz.ntmps106
 go_wp2_with fail
 go_loopw [3,11] (fun s i wr=>w=wr∧((i=.int .i64 0∧s=.int .i64 0)∨(i=.int .i64 1∧s=.int .i64 (m:Int))∨(i=.int .i64 2∧s=.int .i64 ((m+n:Nat):Int)))) (fun s i wr=>2-(intOf i).toNat)
 case atStart=>exact⟨rfl,.inl ⟨rfl,rfl⟩⟩
 case round =>
  obtain⟨hwr,hrel⟩:=hrel
  subst hwr
  rcases hrel with⟨rfl,rfl⟩|⟨rfl,rfl⟩|⟨rfl,rfl⟩
  ·have hw:IntKind.i64.wrap (m:Int)=(m:Int):=by rw[IntKind.wrap_i64];omega
   have hnn:¬(m:Int)<0:=by omega
   go_wp2_with fail
   exact⟨⟨by first|trivial|rfl,.inr (.inl ⟨by go_num,by first|rfl|go_num⟩)⟩,by simp[intOf]⟩
  ·have hw:IntKind.i64.wrap ((m:Int)+(n:Int))=(m:Int)+(n:Int):=by rw[IntKind.wrap_i64];omega
   have hnn:¬(m:Int)+(n:Int)<0:=by omega
   go_wp2_with fail
   exact⟨⟨by first|trivial|rfl,.inr (.inr ⟨by go_num,by first|rfl|go_num|(simp)⟩)⟩,by simp[intOf]⟩
  ·go_wp2_with fail
   refine(growF_any (m+n) w (by omega)).mono ?_
   rintro e w1 ⟨v,rfl,hr1,hb1⟩
   have R1:=hide hr1
   have B1:=hide hb1
   clear hr1 hb1
   go_wp2_with fail
   go_loopw [6,27] (fun o i wr=>∃(v:Value) (k:Nat) (L:List Fd),v=o∧i=.int .i64 (k:Int)∧((k=0∧L=[])∨(k=1∧L=ts)∨(k=2∧L=ts++os))∧FdRow wr w.heap.size v L∧Below w.heap.size w wr) (fun o i wr=>2-(intOf i).toNat)
   case atStart=>exact⟨_,0,[],rfl,rfl,.inl ⟨rfl,rfl⟩,R1.out,B1.out⟩
   case round =>
    clear R1 B1
    obtain⟨v,k,L,rfl,rfl,hk,hr,hbl⟩:=hrel
    have HR:=hide hr
    have HB:=hide hbl
    have s1:=hbl.size
    have d0:wr.cell? ⟨b,0,none⟩=some (.slice a0 m c0):=by rw[hbl.cell (p:=⟨b,0,none⟩) hb];exact H0.out
    have d1:wr.cell? ⟨b,1,none⟩=some (.slice a1 n c1):=by rw[hbl.cell (p:=⟨b,1,none⟩) hb];exact H1.out
    have Y0:=hide (HX0.out.same (lo':=lo) (hi':=hi) (Same.of_below hbl hh) (Nat.le_refl _) (Nat.le_refl _))
    have Y1:=hide (HX1.out.same (lo':=lo) (hi':=hi) (Same.of_below hbl hh) (Nat.le_refl _) (Nat.le_refl _))
    clear hr hbl
    rcases hk with⟨rfl,rfl⟩|⟨rfl,rfl⟩|⟨rfl,rfl⟩
    ·go_wp2_with (first|(at_builtin;refine wpList_app_fields rfl _ _ rfl w.heap.size v [] a0 c0 lo hi ts rfl HR.out (by rw[HM.out];rfl) (by simp) (by rw[HM.out];exact l0) Y0.out s1 ?_))
     intro a' cap' w2 h2 b2
     try rw[List.nil_append] at h2 ⊢
     have R2:=hide h2
     have B2:=hide (HB.out.trans b2)
     clear h2 b2
     go_wp2_with fail
     exact⟨⟨_,1,ts,rfl,by go_num,.inr (.inl ⟨rfl,rfl⟩),R2.out,B2.out⟩,by simp[intOf]⟩
    ·go_wp2_with (first|(at_builtin;refine wpList_app_fields rfl _ _ rfl w.heap.size v L a1 c1 lo hi os rfl HR.out (by rw[HN.out];rfl) (by rw[HM.out];exact l0) (by rw[HN.out];exact l1) Y1.out s1 ?_))
     intro a' cap' w2 h2 b2
     have R2:=hide h2
     have B2:=hide (HB.out.trans b2)
     clear h2 b2
     go_wp2_with fail
     exact⟨⟨_,2,L++os,rfl,by go_num,.inr (.inr ⟨rfl,rfl⟩),R2.out,B2.out⟩,by simp[intOf]⟩
    ·obtain⟨a',cap',rfl⟩:=HR.out.val
     go_wp2_with fail
     go_ret
     exact⟨a',cap',rfl,HR.out,HB.out⟩
end Go.Proofs.YtpaneomkphjpcaaGreatDoor
