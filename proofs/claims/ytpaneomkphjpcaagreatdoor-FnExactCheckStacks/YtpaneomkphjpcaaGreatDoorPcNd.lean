/- PcNd: CkNeed1, NeedFin. -/
import Derived.Test.YtpaneomkphjpcaaGreatDoorPcFd
import Derived.Laws.ResultCell
import Derived.Deep.RegionHeld3
import Derived.Test.YtpaneomkphjpcaaGreatDoorPaKinC
namespace Go.Proofs.YtpaneomkphjpcaaGreatDoor
open Go.ChangeShapes Go.WideShapes Go.ChangeAt Go.RowKit
set_option linter.unusedVariables false
set_option linter.unusedSimpArgs false
theorem Rec.drew' {w:World} {b:Nat} {T:TypeId} {vs:List Value} (h:Rec w b T vs):Rec w.drew b T vs:=h
theorem rec_fieldsN {w:World} {b lo hi:Nat} {fs:List Fd} (h:Rec w b 68 (fcells fs)) (h1:lo≤b) (h2:b<hi):FieldsIn w lo hi (some ⟨b,0,none⟩) fs :=
 .inr ⟨b,0,rfl,h1,h2,fieldAt_of fun j hj=>by rw[Nat.zero_add];exact h.cell (fcells_get fs j hj)⟩
def OneRow (W:World) (fs:List Fd) (e:Ending) (w':World):Prop:=∃b,e=.returned (.slice (some ⟨b,0,none⟩) fs.length fs.length)∧W.heap.size≤b∧Rec w' b 68 (fcells fs)∧Below W.heap.size W w'
theorem fcells_l1 (k o:Int) (m:Bool):fcells [(⟨k,o,m⟩:Fd)]=[.int .i64 k,.int .i64 o,.bool m]:=by
 simp[fcells,List.range,List.range.loop,fdAt,fcell]
theorem fcells_l2 (k o:Int) (m:Bool) (k' o':Int) (m':Bool):fcells [(⟨k,o,m⟩:Fd),⟨k',o',m'⟩]=[.int .i64 k,.int .i64 o,.bool m,.int .i64 k',.int .i64 o',.bool m']:=by
 simp[fcells,List.range,List.range.loop,fdAt,fcell]
theorem fcells_l3 (k o:Int) (m:Bool) (k' o':Int) (m':Bool) (k2 o2:Int) (m2:Bool):fcells [(⟨k,o,m⟩:Fd),⟨k',o',m'⟩,⟨k2,o2,m2⟩]=[.int .i64 k,.int .i64 o,.bool m,.int .i64 k',.int .i64 o',.bool m',.int .i64 k2,.int .i64 o2,.bool m2]:=by
 simp[fcells,List.range,List.range.loop,fdAt,fcell]
def sOf (f:Fd):Fd:=⟨f.kind,f.of,false⟩
set_option maxHeartbeats 400000 in
theorem l4Num_any (w:World):Calls Tryz.prog 91 #[] w fun e w'=>e=.returned (.agg #[.int .i64 1,.int .i64 0,.bool false])∧Below w.heap.size w w':=by
 go_enter Tryz.func91,Tryz.ntmps91
 go_wp2_with fail
 refine bodyPost_ret (v:=.agg #[.int .i64 1,.int .i64 0,.bool false]) (by simp[results,Tryz.results91,go_sem]) rfl ⟨rfl,?_⟩
 exact(Below.refl _ _).alloc (Nat.le_refl _) _
set_option maxHeartbeats 400000 in
theorem l4Ref_any (o:Int) (w:World):Calls Tryz.prog 86 #[.int .i64 o] w fun e w'=>e=.returned (.agg #[.int .i64 2,.int .i64 o,.bool false])∧Below w.heap.size w w':=by
 go_enter Tryz.func86,Tryz.ntmps86
 go_wp2_with fail
 refine bodyPost_ret (v:=.agg #[.int .i64 2,.int .i64 o,.bool false]) (by simp[results,Tryz.results86,go_sem]) rfl ⟨rfl,?_⟩
 exact(Below.refl _ _).alloc (Nat.le_refl _) _
set_option maxHeartbeats 400000 in
theorem l4Sure_any (o:Int) (w:World):Calls Tryz.prog 92 #[.int .i64 o] w fun e w'=>e=.returned (.agg #[.int .i64 3,.int .i64 o,.bool false])∧Below w.heap.size w w':=by
 go_enter Tryz.func92,Tryz.ntmps92
 go_wp2_with fail
 refine bodyPost_ret (v:=.agg #[.int .i64 3,.int .i64 o,.bool false]) (by simp[results,Tryz.results92,go_sem]) rfl ⟨rfl,?_⟩
 exact(Below.refl _ _).alloc (Nat.le_refl _) _
set_option maxHeartbeats 400000 in
theorem l4Of_any (k o:Int) (m:Bool) (w:World):Calls Tryz.prog 173 #[.agg #[.int .i64 k,.int .i64 o,.bool m]] w fun e w'=>e=.returned (.agg #[.int .i64 k,.int .i64 o,.bool false])∧Below w.heap.size w w':=by
 go_enter Tryz.func173,Tryz.ntmps173
 go_wp2_with fail
 refine bodyPost_ret (v:=.agg #[.int .i64 k,.int .i64 o,.bool false]) (by simp[results,Tryz.results173,go_sem]) rfl ⟨rfl,?_⟩
 exact((Below.refl _ _).alloc (Nat.le_refl _) _).alloc (by simp) _
set_option maxHeartbeats 400000 in
theorem l4One_any (ak ao:Int) (am:Bool) (w:World):Calls Tryz.prog 90 #[.agg #[.int .i64 ak,.int .i64 ao,.bool am]] w fun e w'=>OneRow w [⟨ak,ao,am⟩] e w':=by
 have NR:Hid (Rec ((w.alloc (.cells #[.int .i64 ak,.int .i64 ao,.bool am] 68)).alloc (.cells #[.int .i64 ak,.int .i64 ao,.bool am] 68)) (w.heap.size+1) 68 (fcells [⟨ak,ao,am⟩])):=by show Rec _ _ _ _;rw[fcells_l1];exact Rec.new' _ _ _ _ (by simp)
 have BR:Hid (Below w.heap.size w ((w.alloc (.cells #[.int .i64 ak,.int .i64 ao,.bool am] 68)).alloc (.cells #[.int .i64 ak,.int .i64 ao,.bool am] 68))):=(((Below.refl _ _).alloc (Nat.le_refl _) _).alloc (by simp) _)
 go_enter Tryz.func90,Tryz.ntmps90
 go_wp2_with fail
 go_ret
 exact⟨_,rfl,by omega,NR.out,BR.out⟩
set_option maxHeartbeats 400000 in
theorem l4Two_any (ak ao:Int) (am:Bool) (bk bo:Int) (bm:Bool) (w:World):Calls Tryz.prog 122 #[.agg #[.int .i64 ak,.int .i64 ao,.bool am],.agg #[.int .i64 bk,.int .i64 bo,.bool bm]] w fun e w'=>OneRow w [⟨ak,ao,am⟩,⟨bk,bo,bm⟩] e w':=by
 have NR:Hid (Rec (((w.alloc (.cells #[.int .i64 ak,.int .i64 ao,.bool am] 68)).alloc (.cells #[.int .i64 bk,.int .i64 bo,.bool bm] 68)).alloc (.cells #[.int .i64 ak,.int .i64 ao,.bool am,.int .i64 bk,.int .i64 bo,.bool bm] 68)) (w.heap.size+1+1) 68 (fcells [⟨ak,ao,am⟩,⟨bk,bo,bm⟩])):=by show Rec _ _ _ _;rw[fcells_l2];exact Rec.new' _ _ _ _ (by simp)
 have BR:Hid (Below w.heap.size w (((w.alloc (.cells #[.int .i64 ak,.int .i64 ao,.bool am] 68)).alloc (.cells #[.int .i64 bk,.int .i64 bo,.bool bm] 68)).alloc (.cells #[.int .i64 ak,.int .i64 ao,.bool am,.int .i64 bk,.int .i64 bo,.bool bm] 68))):=((((Below.refl _ _).alloc (Nat.le_refl _) _).alloc (by simp) _).alloc (by simp;omega) _)
 go_enter Tryz.func122,Tryz.ntmps122
 go_wp2_with fail
 go_ret
 exact⟨_,rfl,by omega,NR.out,BR.out⟩
set_option maxHeartbeats 400000 in
theorem l4Three_any (ak ao:Int) (am:Bool) (bk bo:Int) (bm:Bool) (ck co:Int) (cm:Bool) (w:World):Calls Tryz.prog 174 #[.agg #[.int .i64 ak,.int .i64 ao,.bool am],.agg #[.int .i64 bk,.int .i64 bo,.bool bm],.agg #[.int .i64 ck,.int .i64 co,.bool cm]] w fun e w'=>OneRow w [⟨ak,ao,am⟩,⟨bk,bo,bm⟩,⟨ck,co,cm⟩] e w':=by
 have NR:Hid (Rec ((((w.alloc (.cells #[.int .i64 ak,.int .i64 ao,.bool am] 68)).alloc (.cells #[.int .i64 bk,.int .i64 bo,.bool bm] 68)).alloc (.cells #[.int .i64 ck,.int .i64 co,.bool cm] 68)).alloc (.cells #[.int .i64 ak,.int .i64 ao,.bool am,.int .i64 bk,.int .i64 bo,.bool bm,.int .i64 ck,.int .i64 co,.bool cm] 68)) (w.heap.size+1+1+1) 68 (fcells [⟨ak,ao,am⟩,⟨bk,bo,bm⟩,⟨ck,co,cm⟩])):=by show Rec _ _ _ _;rw[fcells_l3];exact Rec.new' _ _ _ _ (by simp)
 have BR:Hid (Below w.heap.size w ((((w.alloc (.cells #[.int .i64 ak,.int .i64 ao,.bool am] 68)).alloc (.cells #[.int .i64 bk,.int .i64 bo,.bool bm] 68)).alloc (.cells #[.int .i64 ck,.int .i64 co,.bool cm] 68)).alloc (.cells #[.int .i64 ak,.int .i64 ao,.bool am,.int .i64 bk,.int .i64 bo,.bool bm,.int .i64 ck,.int .i64 co,.bool cm] 68))):=(((((Below.refl _ _).alloc (Nat.le_refl _) _).alloc (by simp) _).alloc (by simp;omega) _).alloc (by simp;omega) _)
 go_enter Tryz.func174,Tryz.ntmps174
 go_wp2_with fail
 go_ret
 exact⟨_,rfl,by omega,NR.out,BR.out⟩
def NeedPost (W:World) (T G:List Fd) (nm:Bool) (e:Ending) (w':World):Prop :=
 ∃(ta:Option Addr) (tc:Nat) (ga:Option Addr) (gc:Nat),e=.returned (.agg #[.slice ta T.length tc,.slice ga G.length gc,.bool nm])∧FieldsIn w' W.heap.size w'.heap.size ta T∧FieldsIn w' W.heap.size w'.heap.size ga G∧Below W.heap.size W w'
theorem NeedPost.widen {W0 W:World} {T G:List Fd} {nm:Bool} {e:Ending} {w':World} (h:NeedPost W T G nm e w') (hb:Below W0.heap.size W0 W):NeedPost W0 T G nm e w':=by
 obtain⟨ta,tc,ga,gc,h1,h2,h3,h4⟩:=h
 exact⟨ta,tc,ga,gc,h1,h2.same (fun _ _ _=>rfl) hb.size (Nat.le_refl _),h3.same (fun _ _ _=>rfl) hb.size (Nat.le_refl _),hb.trans (h4.mono hb.size)⟩
theorem rec_res {fn:Func} {p:Tmp} {a:Act} {w:World} {g:Nat} {T ty:TypeId} {vs:List Value} {d:TypeDesc} (h:fn.results=#[.cell p ty]) (hp:a.tmps.getD p undef=.pointer (some ⟨g,0,none⟩)) (hr:Rec w g T vs)
  (hu:Tryz.prog.underlying ty=some d) (hd:d.isRow=true) (hi:(Tryz.prog.info? ty).map (·.size)=some vs.length):(results fn a.tmps).run Tryz.prog w=.ok (.agg vs.toArray) w :=
 results_cell_row h _ _ g T vs.toArray (0,0) d hp hr hu (by cases d<;>first|rfl|cases hd) (by simpa using hi)
def plFd (fs:List Fd) (n:Int):Fd:=if n<(fs.length:Int) then fdAt fs n.toNat else⟨0,0,false⟩
def plT (fs:List Fd) (n:Int) (b:Bool):List Fd:=if n<(fs.length:Int) then(if b then [] else [fdAt fs n.toNat]) else []
set_option maxHeartbeats 1600000 in
theorem l4Place_any (sa:Option Addr) (c lo hi:Nat) (fs:List Fd) (op n y:Int) (b:Bool) (w:World) (h0:0≤n) (hx:FieldsIn w lo hi sa fs) (hh:hi≤w.heap.size) :
  Calls Tryz.prog 87 #[.slice sa fs.length c,.agg #[.int .i64 op,.int .i64 n,.int .i64 y],.bool b] w fun e w'=>NeedPost w (plT fs n b) (plT fs n (!b)) (decide (n<(fs.length:Int))) e w':=by
 have B0:Hid (Below w.heap.size w ((w.alloc (.cells #[.int .i64 op,.int .i64 n,.int .i64 y] 40)).alloc (.cells #[.slice none 0 0,.slice none 0 0,.bool false] 115))):=((Below.refl _ _).alloc (Nat.le_refl _) _).alloc (by simp) _
 have G0:Hid (Rec ((w.alloc (.cells #[.int .i64 op,.int .i64 n,.int .i64 y] 40)).alloc (.cells #[.slice none 0 0,.slice none 0 0,.bool false] 115)) (w.heap.size+1) 115 [.slice none 0 0,.slice none 0 0,.bool false]):=Rec.new' _ _ _ _ (by simp)
 by_cases hn:n<(fs.length:Int)
 ·have HT:Hid (plT fs n b=(if b then [] else [fdAt fs n.toNat])):=if_pos hn
  have HG:Hid (plT fs n (!b)=(if(!b) then [] else [fdAt fs n.toNat])):=if_pos hn
  have HD:Hid (decide (n<(fs.length:Int))=true):=by show _=_;simp[hn]
  rw[HT.out,HG.out,HD.out]
  have hk:n.toNat<fs.length:=by omega
  have hfk:((n.toNat:Nat):Int)=n:=by omega
  obtain⟨k,hkk⟩:∃k,n.toNat=k:=⟨_,rfl⟩
  rw[hkk] at hk hfk ⊢
  clear HT HG HD hkk
  subst hfk
  rcases hx with hnil|⟨bb,off,rfl,g1,g2,g3⟩
  ·rw[hnil] at hk;exact absurd hk (Nat.not_lt_zero _)
  obtain⟨f0,f1,f2⟩:=g3 k hk
  clear g3
  generalize fdAt fs k=f at f0 f1 f2 ⊢
  obtain⟨fk,fo,fm⟩:=f
  simp only at f0 f1 f2 ⊢
  have hbw:bb<w.heap.size:=by omega
  have hbw1:bb<w.heap.size+1:=by omega
  have j1:(0:Int)≤(k:Int):=by omega
  have j2:(k:Int)<(fs.length:Int):=by omega
  have j3:¬(fs.length:Int)≤(k:Int):=by omega
  cases b
  all_goals
   go_enter Tryz.func87,Tryz.ntmps87
   go_wp2_with fail
   refine(l4One_any fk fo fm _).mono ?_
   rintro e w1 ⟨b1,rfl,hb1,r1,bl1⟩
   have B1:=hide (B0.out.trans (bl1.mono B0.out.size))
   have G1:=hide (G0.out.below bl1 G0.out.lt)
   have hlt:=G1.out.lt
   have c0:=G1.out.cell (o:=0) rfl
   have c1:=G1.out.cell (o:=1) rfl
   have c2:=G1.out.cell (o:=2) rfl
   have q0:=G1.out.frozen 0
   have q1:=G1.out.frozen 1
   have q2:=G1.out.frozen 2
   have NR:=hide r1
   have hb9:w.heap.size+1<b1:=by have:=hb1;simp at this;omega
   clear bl1 r1
   go_wp2_with fail
  ·refine bodyPost_ret (rec_res rfl rfl (((G1.out.set 0 (.slice (some ⟨b1,0,none⟩) 1 1)).set 1 (.slice none 0 0)).set 2 (.bool true)) Tryz.underlying115 rfl (by kernel_rfl)) rfl ⟨some ⟨b1,0,none⟩,1,none,0,rfl,?_,.inl rfl,?_⟩
   ·exact rec_fieldsN (((NR.out.other (by omega) _ _).other (by omega) _ _).other (by omega) _ _) (by omega) (by simp;exact NR.out.lt)
   ·exact((B1.out.setCell (by show w.heap.size≤w.heap.size+1;omega) _).setCell (by show w.heap.size≤w.heap.size+1;omega) _).setCell (by show w.heap.size≤w.heap.size+1;omega) _
  ·refine bodyPost_ret (rec_res rfl rfl (((G1.out.set 0 (.slice none 0 0)).set 1 (.slice (some ⟨b1,0,none⟩) 1 1)).set 2 (.bool true)) Tryz.underlying115 rfl (by kernel_rfl)) rfl ⟨none,0,some ⟨b1,0,none⟩,1,rfl,.inl rfl,?_,?_⟩
   ·exact rec_fieldsN (((NR.out.other (by omega) _ _).other (by omega) _ _).other (by omega) _ _) (by omega) (by simp;exact NR.out.lt)
   ·exact((B1.out.setCell (by show w.heap.size≤w.heap.size+1;omega) _).setCell (by show w.heap.size≤w.heap.size+1;omega) _).setCell (by show w.heap.size≤w.heap.size+1;omega) _
 ·have HT:Hid (plT fs n b=[]):=if_neg hn
  have HG:Hid (plT fs n (!b)=[]):=if_neg hn
  have HD:Hid (decide (n<(fs.length:Int))=false):=by show _=_;simp[hn]
  rw[HT.out,HG.out,HD.out]
  have j3:(fs.length:Int)≤n:=by omega
  clear HT HG HD hx
  go_enter Tryz.func87,Tryz.ntmps87
  go_wp2_with fail
  exact bodyPost_ret (rec_res rfl rfl G0.out Tryz.underlying115 rfl (by kernel_rfl)) rfl ⟨none,0,none,0,rfl,.inl rfl,.inl rfl,B0.out⟩
theorem Rec.notInt3 {w:World} {r:Nat} {T:TypeId} {a d:Option Addr} {b c e f:Nat} {g:Bool} (h:Rec w r T [.slice a b c,.slice d e f,.bool g]):NotInt w r:=by
 intro o k v hc
 unfold Rec at h
 match o with
 | 0=>simp[World.cell?,h] at hc
 | 1=>simp[World.cell?,h] at hc
 | 2=>simp[World.cell?,h] at hc
 | n+3=>simp[World.cell?,h] at hc
abbrev st3 (w:World) (nb:Nat) (x y z:Value):World:=((w.setCell ⟨nb,0,none⟩ x).setCell ⟨nb,1,none⟩ y).setCell ⟨nb,2,none⟩ z
theorem need_row {w:World} {nb r lo:Nat} {fs:List Fd} {x y z:Value} (N:Rec w r 68 (fcells fs)) (h1:nb<r) (h2:lo≤r):FieldsIn (st3 w nb x y z) lo (st3 w nb x y z).heap.size (some ⟨r,0,none⟩) fs :=
 rec_fieldsN (((N.other (by omega) _ _).other (by omega) _ _).other (by omega) _ _) h2 (by simp;exact N.lt)
theorem need_lst {w:World} {nb lo n c n' c' p q e f:Nat} {a a0 d a' b':Option Addr} {g:Bool} {fs:List Fd} {z:Value} (N:FieldsIn w lo w.heap.size a fs) (E:Rec w nb 115 [.slice a0 p q,.slice d e f,.bool g]):FieldsIn (st3 w nb (.slice a' n c) (.slice b' n' c') z) lo (st3 w nb (.slice a' n c) (.slice b' n' c') z).heap.size a fs :=
 FieldsIn.same (FieldsIn.other (FieldsIn.other (FieldsIn.other (o:=0) (u:=.slice a' n c) N E.notInt3) (o:=1) (u:=.slice b' n' c') (Rec.notInt3 (E.set 0 (.slice a' n c)))) (o:=2) (u:=z) (Rec.notInt3 ((E.set 0 (.slice a' n c)).set 1 (.slice b' n' c')))) (fun _ _ _=>rfl) (Nat.le_refl _) (by simp)
theorem need_done {fn:Func} {p:Tmp} {a:Act} {W w:World} {nb tl tc gl gc:Nat} {ta ga:Option Addr} {T G:List Fd} {nm:Bool} {x y z:Value} (E:Rec w nb 115 [x,y,z]) (B:Below W.heap.size W w) (hb:W.heap.size≤nb)
  (hT:FieldsIn (st3 w nb (.slice ta tl tc) (.slice ga gl gc) (.bool nm)) W.heap.size (st3 w nb (.slice ta tl tc) (.slice ga gl gc) (.bool nm)).heap.size ta T) (hG:FieldsIn (st3 w nb (.slice ta tl tc) (.slice ga gl gc) (.bool nm)) W.heap.size (st3 w nb (.slice ta tl tc) (.slice ga gl gc) (.bool nm)).heap.size ga G)
  (h:fn.results=#[.cell p 115]) (hp:a.tmps.getD p undef=.pointer (some ⟨nb,0,none⟩)) (hd:a.defers=[]) (htl:tl=T.length:=by first|rfl|(rw[List.length_map])) (hgl:gl=G.length:=by first|rfl|(rw[List.length_map])) :
  bodyPost Tryz.prog fn (fun e w'=>NeedPost W T G nm e w') .ret a (st3 w nb (.slice ta tl tc) (.slice ga gl gc) (.bool nm)):=by
 subst htl hgl
 exact bodyPost_ret (rec_res h hp (((E.set 0 (.slice ta T.length tc)).set 1 (.slice ga G.length gc)).set 2 (.bool nm)) Tryz.underlying115 rfl (by kernel_rfl)) hd ⟨ta,tc,ga,gc,rfl,hT,hG,((B.setCell hb _).setCell hb _).setCell hb _⟩
end Go.Proofs.YtpaneomkphjpcaaGreatDoor
