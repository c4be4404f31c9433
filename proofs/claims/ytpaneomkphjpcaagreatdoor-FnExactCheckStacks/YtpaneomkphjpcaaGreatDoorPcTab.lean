/- PcTab: AggRow, CkRules, TabKeep. -/
import Derived.Test.YtpaneomkphjpcaaGreatDoorPaOne
import Derived.Deep.MidRow
import Derived.Laws.EntriesVeiled
import Derived.Laws.NewBlocks
import Derived.Test.YtpaneomkphjpcaaGreatDoorPaKinC
namespace Go.Proofs.YtpaneomkphjpcaaGreatDoor
open Go.ChangeShapes Go.WideShapes Go.ChangeAt Go.RowKit Go.Deep
set_option linter.unusedVariables false
theorem setRow_rec {w:World} {g:Nat} {T:TypeId} {vs:List Value} (h:Rec w g T vs) (C:Array Value):Rec (w.setRow g C) g T C.toList:=by
 have:=setRow_heap w g vs.toArray C T (0,0) h
 simpa[Rec] using this
theorem setRow_other (w:World) (g:Nat) (C:Array Value) {k:Nat} (hk:k≠g):(w.setRow g C).heap[k]?=w.heap[k]?:=by
 simp only[World.setRow,Array.getElem?_modify]
 rw[if_neg (fun e=>hk e.symm)]
theorem setRow_size (w:World) (g:Nat) (C:Array Value):(w.setRow g C).heap.size=w.heap.size:=by simp[World.setRow]
theorem setRow_below (w:World) (g B:Nat) (C:Array Value) (hB:B≤g):Below B w (w.setRow g C) :=
 ⟨rfl,rfl,rfl,Nat.le_of_eq (setRow_size w g C).symm,fun k hk=>setRow_other w g C (by omega)⟩
theorem Rec.range {w:World} {g:Nat} {T:TypeId} {vs:List Value} (h:Rec w g T vs):w.rangeAt g 0 vs:=fun j v hv=>by
 rw[Nat.zero_add]
 exact h.cell hv
theorem wp_store_rec {o:Oper} {a:Act} {w:World} {K:Act→World→Prop} {Q:Exit→Act→World→Prop} (ty:TypeId) (x y:Operand) (ho:o.op=.store ty x y)
  (g:Nat) (C:Array Value) (T:TypeId) (vs:List Value) (hx:a.eval x=.pointer (some ⟨g,0,none⟩)) (hy:a.eval y=.agg C) (hr:Rec w g T vs) (hi:(Tryz.prog.info? ty).map (·.size)=some C.size) (hold:vs.length=C.size) (h1:C.all (·.oneCell')=true)
  (h:∀w',Rec w' g T C.toList→(∀k,k≠g→w'.heap[k]?=w.heap[k]?)→w'.heap.size=w.heap.size→Below g w w'→K (a.put o.dst undef) w'):o.wp Tryz.prog a w K Q :=
 wp_store_row ty x y ho g C hx hy T vs.toArray hr hi (by simpa using hold) h1 (h _ (setRow_rec hr C) (fun k hk=>setRow_other w g C hk) (setRow_size w g C) (setRow_below w g g C (Nat.le_refl _)))
theorem wpList_store_rec {ops:Array Oper} {rest:List Oper} {o:Oper} {a:Act} {w:World} {Q:Exit→Act→World→Prop} (hgd:o.guard=none) (ty:TypeId) (x y:Operand) (ho:o.op=.store ty x y)
  (g:Nat) (C:Array Value) (T:TypeId) (vs:List Value) (hx:a.eval x=.pointer (some ⟨g,0,none⟩)) (hy:a.eval y=.agg C) (hr:Rec w g T vs) (hi:(Tryz.prog.info? ty).map (·.size)=some C.size) (hold:vs.length=C.size) (h1:C.all (·.oneCell')=true)
  (h:∀w',Rec w' g T C.toList→(∀k,k≠g→w'.heap[k]?=w.heap[k]?)→w'.heap.size=w.heap.size→Below g w w'→wpList Tryz.prog ops Q rest (a.put o.dst undef) w'):wpList Tryz.prog ops Q (o::rest) a w :=
 wpList_plain hgd fun _ hK=>wp_store_rec ty x y ho g C T vs hx hy hr hi hold h1 fun w' q1 q2 q3 q4=>hK _ _ (h w' q1 q2 q3 q4)
theorem step_store_rec {ops:Array Oper} {o:Oper} {a:Act} {w:World} {K:Act→World→Prop} {Q:Exit→Act→World→Prop} {E:Prop} (hgd:o.guard=none) (ty:TypeId) (x y:Operand) (ho:o.op=.store ty x y)
  (g:Nat) (C:Array Value) (T:TypeId) (vs:List Value) (hx:a.eval x=.pointer (some ⟨g,0,none⟩)) (hy:a.eval y=.agg C) (hr:Rec w g T vs) (hi:(Tryz.prog.info? ty).map (·.size)=some C.size) (hold:vs.length=C.size) (h1:C.all (·.oneCell')=true)
  (h:∀w',Rec w' g T C.toList→(∀k,k≠g→w'.heap[k]?=w.heap[k]?)→w'.heap.size=w.heap.size→Below g w w'→K (a.put o.dst undef) w'):if Region.wanted o (yielded ops a.tmps)=true then Oper.wp Tryz.prog o a w K Q else E:=by
 have hw:Region.wanted o (yielded ops a.tmps)=true:=by simp[Region.wanted,hgd]
 rw[if_pos hw]
 exact wp_store_rec ty x y ho g C T vs hx hy hr hi hold h1 h
theorem wpList_load_rec {ops:Array Oper} {rest:List Oper} {o:Oper} {a:Act} {w:World} {Q:Exit→Act→World→Prop} (hgd:o.guard=none) (ty:TypeId) (x:Operand) (ho:o.op=.load ty x)
  (g:Nat) (T:TypeId) (vs:List Value) (d:TypeDesc) (hx:a.eval x=.pointer (some ⟨g,0,none⟩)) (hr:Rec w g T vs) (hu:Tryz.prog.underlying ty=some d) (hd:d.isRow=true) (hi:(Tryz.prog.info? ty).map (·.size)=some vs.length)
  (h:wpList Tryz.prog ops Q rest (a.put o.dst (.agg vs.toArray)) w):wpList Tryz.prog ops Q (o::rest) a w :=
 wpList_load_mid hgd ty x ho g 0 hx vs d hr.range hu hd hi h
end Go.Proofs.YtpaneomkphjpcaaGreatDoor
namespace Go.Proofs.YtpaneomkphjpcaaGreatDoor
open Go.ChangeShapes Go.WideShapes Go.ChangeAt Go.RowKit
set_option linter.unusedVariables false
def ruleVs:List Value:=[.nilFunc,.func (.func 141) #[] #[],.func (.func 142) #[] #[],.func (.func 143) #[] #[],.func (.func 144) #[] #[],.func (.func 145) #[] #[],.func (.func 146) #[] #[],.func (.func 147) #[] #[],.func (.func 147) #[] #[],.func (.func 147) #[] #[],.func (.func 148) #[] #[],.func (.func 149) #[] #[],.func (.func 150) #[] #[],.func (.func 151) #[] #[],.func (.func 152) #[] #[],.func (.func 153) #[] #[],.func (.func 154) #[] #[],.func (.func 155) #[] #[],.func (.func 156) #[] #[],.func (.func 157) #[] #[],.func (.func 158) #[] #[],.func (.func 159) #[] #[],.func (.func 160) #[] #[],.func (.func 161) #[] #[],.func (.func 162) #[] #[],.func (.func 163) #[] #[],.func (.func 164) #[] #[],.func (.func 165) #[] #[],.func (.func 166) #[] #[],.func (.func 167) #[] #[],.func (.func 168) #[] #[],.func (.func 169) #[] #[],.func (.func 170) #[] #[],.func (.func 171) #[] #[]]
def notOkV:Value:=.iface 125 (.agg #[.int .i64 0,.int .i64 0,.int .i64 7])
theorem ruleVs_one:ruleVs.toArray.all (·.oneCell')=true:=by simp[ruleVs,Value.oneCell']
set_option maxHeartbeats 1600000 in
set_option maxRecDepth 100000 in
theorem checkRules_any (w:World) :
  Calls Tryz.prog 115 #[] w fun e w'=>e=.returned (.agg ruleVs.toArray)∧Below w.heap.size w w':=by
 have R0:Hid (Rec (w.alloc (.cells (List.replicate 34 Value.nilFunc).toArray 89)) w.heap.size 89 (List.replicate 34 .nilFunc)):=Rec.new _ _ _
 go_enter Tryz.func115,Tryz.ntmps115
 go_wp2_with (refine wpList_store_rec rfl 89 _ _ rfl w.heap.size ruleVs.toArray 89 _ rfl rfl R0.out (by kernel_rfl) (by rfl) ruleVs_one ?_)
 intro w1 r1 k1 s1 b1
 have B1:Hid (Below w.heap.size w w1):=((Below.refl _ _).alloc (Nat.le_refl _) _).trans b1
 have R1:=hide r1
 clear r1 k1 s1 b1
 go_wp2_with fail
 exact bodyPost_ret (v:=.agg ruleVs.toArray) (results_cell_row rfl _ _ w.heap.size 89 ruleVs.toArray (0,0) _ rfl R1.out Tryz.underlying89 rfl (by kernel_rfl)) rfl ⟨rfl,B1.out⟩
set_option maxHeartbeats 400000 in
theorem checkNotOk_any (w:World) :
  Calls Tryz.prog 69 #[] w fun e w'=>e=.returned notOkV∧w'=w:=by
 go_enter Tryz.func69,Tryz.ntmps69
 go_wp2_with fail
 go_ret
 exact⟨rfl,rfl⟩
def NoNz (w:World) (r:Nat):Prop:=∀o k v,w.cell? ⟨r,o,none⟩=some (.int k v)→v=0
theorem Rec.noNz {w:World} {r:Nat} {T:TypeId} {vs:List Value} (h:Rec w r T vs) (hv:∀k v,Value.int k v∈vs→v=0):NoNz w r:=by
 intro o k v hc
 unfold Rec at h
 simp only[World.cell?,h] at hc
 refine hv k v ?_
 have hq:vs[o]?=some (.int k v):=by
  simpa using hc
 exact List.mem_of_getElem? hq
theorem cell_blkT {w w':World} {b o:Nat} (h:w'.heap[b]?=w.heap[b]?):w'.cell? ⟨b,o,none⟩=w.cell? ⟨b,o,none⟩:=World.cell?_of_block (w:=w) (a:=⟨b,o,none⟩) h
theorem FieldsIn.keepZ {w w':World} {lo hi r:Nat} {a:Option Addr} {fs:List Fd} (h:FieldsIn w lo hi a fs) (hf:∀i,i<fs.length→(fdAt fs i).kind≠0) (hr:NoNz w r) (hk:∀k,k≠r→w'.heap[k]?=w.heap[k]?):FieldsIn w' lo hi a fs:=by
 rcases h with rfl|⟨b,off,e,h1,h2,h3⟩
 ·exact .inl rfl
 ·refine .inr ⟨b,off,e,h1,h2,fun i hi=>?_⟩
  obtain⟨x,y,z⟩:=h3 i hi
  have hb:b≠r:=fun e=>by subst e;exact hf i hi (hr _ _ _ x)
  exact⟨(cell_blkT (hk b hb)).trans x,(cell_blkT (hk b hb)).trans y,(cell_blkT (hk b hb)).trans z⟩
theorem parts_kind {gs:List (List Ty)} (hP:Parts gs) {p:Nat} (hp:p<kinCount gs):(tyN gs p).kind=1∨((tyN gs p).kind=2∧(tyN gs p).fields.length=1):=by
 obtain⟨g1,g2,g3⟩:=grp_spec gs p hp
 have h:=(hP.2.2 _ g1).2 (p-beg gs (grp gs p)) (by unfold beg;simp only[countTo] at g3;omega)
 unfold tyN
 rw[flat_at hp]
 unfold formOk at h
 simp only[Bool.and_eq_true,Bool.or_eq_true,decide_eq_true_eq] at h
 exact h.2.1
theorem fieldOk_nz {k o n:Int} (h:fieldOk k o n=true):k≠0:=by
 rintro rfl
 simp[fieldOk] at h
theorem TabIn.keepZ {w w':World} {lo hi r:Nat} {ra:Option Addr} {cb:Nat} {gs:List (List Ty)} {a:Option Addr} {n c:Nat} (h:TabIn w lo hi ra cb 0 gs) (hP:Parts gs) (hr:NoNz w r) (h0:w.cell? ⟨r,0,none⟩=some (.slice a n c)) (hk:∀k,k≠r→w'.heap[k]?=w.heap[k]?):TabIn w' lo hi ra cb 0 gs:=by
 obtain⟨h1,h2,h3⟩:=h
 refine⟨?_,h2,fun i hi=>?_⟩
 ·rcases h1 with e|⟨b,off,e,g1,g2,g3⟩
  ·exact .inl e
  ·refine .inr ⟨b,off,e,g1,g2,fun i hi=>?_⟩
   obtain⟨⟨x,y,z,fa,fc,v,f⟩,u,t⟩:=g3 i hi
   have hp:i<kinCount gs:=by rw[←rows_len gs];exact hi
   have ek:=rows_ty gs hp
   have kk:=parts_kind hP hp
   have pf:=(parts_flat hP hp).2.2
   have hb:b≠r:=fun e=>by
    subst e
    have:=hr _ _ _ x
    rw[ek] at this
    omega
   refine⟨⟨(cell_blkT (hk b hb)).trans x,(cell_blkT (hk b hb)).trans y,(cell_blkT (hk b hb)).trans z,fa,fc,(cell_blkT (hk b hb)).trans v,f.keepZ (fun j hj=>?_) hr hk⟩,(cell_blkT (hk b hb)).trans u,(cell_blkT (hk b hb)).trans t⟩
   rw[ek] at hj ⊢
   exact fieldOk_nz (pf j hj)
 ·have x:=h3 i hi
  have x0:=h3 0 (by omega)
  have hb:cb≠r:=fun e=>by
   subst e
   rw[Nat.zero_add,h0] at x0
   cases x0
  exact(cell_blkT (hk cb hb)).trans x
end Go.Proofs.YtpaneomkphjpcaaGreatDoor
