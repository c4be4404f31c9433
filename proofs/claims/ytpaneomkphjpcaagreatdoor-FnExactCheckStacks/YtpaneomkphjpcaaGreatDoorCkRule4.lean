/- typeOf, boxField, rowField, sortOf of the program. -/
import Derived.Test.YtpaneomkphjpcaaGreatDoorCkRule5
import Derived.Test.YtpaneomkphjpcaaGreatDoorPcKin
namespace Go.Proofs.YtpaneomkphjpcaaGreatDoor
open Go.ChangeShapes Go.WideShapes Go.ChangeAt Go.RowKit
set_option linter.unusedVariables false
set_option linter.unusedSimpArgs false
def tyF (gs:List (List Ty)) (a:Int):Ty:=if isTypeF gs a then tyN gs a.toNat else⟨0,0,false,[]⟩
def tyIs (gs:List (List Ty)) (a k:Int):Bool:=isTypeF gs a&&decide ((tyN gs a.toNat).kind=k)
def TypePost9 (w:World) (lo hi:Nat) (t:Ty) (ok:Bool) (e:Ending) (w':World):Prop :=
 ∃fa fc,e=.returned (.tuple #[.agg #[.int .i64 t.kind,.int .i64 t.up,.bool t.last,.slice fa t.fields.length fc],.bool ok])∧FieldsIn w' lo hi fa t.fields∧Below w.heap.size w w'
set_option maxHeartbeats 2000000 in
theorem typeOf_any (vs:List Value) (lo hi k:Nat) (p:GProg) (a kd:Int) (w:World) (h:Scp w lo hi p k vs) (hn:kinCount p.types≤1099511627776) :
  Calls Tryz.prog 186 #[.agg vs.toArray,.int .i64 a,.int .i64 kd] w fun e w'=>TypePost9 w lo hi (tyF p.types a) (tyIs p.types a kd) e w':=by
 obtain⟨w1,hw1⟩:∃w1,w1=(w.alloc (.cells vs.toArray 94)).alloc (.cells #[.int .i64 0,.int .i64 0,.bool false,.slice none 0 0] 143):=⟨_,rfl⟩
 have B1:Hid (Below w.heap.size w w1):=by show Below _ _ _;rw[hw1];exact((Below.refl _ _).alloc (Nat.le_refl _) _).alloc (by simp) _
 have G1:Hid (Rec w1 (w.heap.size+1) 143 [.int .i64 0,.int .i64 0,.bool false,.slice none 0 0]):=by show Rec _ _ _ _;rw[hw1];exact Rec.new' _ _ _ _ (by simp)
 have VR:Hid (Rec w1 w.heap.size 94 vs):=by show Rec _ _ _ _;rw[hw1];exact(Rec.new _ _ _).alloc _
 have hh:=h.hh
 obtain⟨ra,rc,cb,e3,e4,hT⟩:=(h.keep (B1.out.mono hh)).tab
 clear h
 have d3:=VR.out.cell e3
 have d4:=VR.out.cell e4
 have T1:=hide hT
 clear hT e3 e4
 have HIT:=isType_any ra (some ⟨cb,0,none⟩) rc (kinCount p.types) p.types a w1 hn
 generalize hgs:p.types=gs at *
 clear hgs
 cases hb:isTypeF gs a with
 | false =>
  rw[hb] at HIT
  have HIT:=hide HIT
  have e1:tyF gs a=⟨0,0,false,[]⟩:=by unfold tyF;rw[hb];rfl
  have e2:tyIs gs a kd=false:=by unfold tyIs;rw[hb];rfl
  rw[e1,e2]
  clear e1 e2 hb
  go_enter Tryz.func186,Tryz.ntmps186
  go_upto_region 1 with(fail)
  rw[←hw1]
  clear hw1
  go_wp2_with fail
  refine HIT.out.mono ?_
  rintro e w2 ⟨rfl,b2⟩
  have B22:=hide b2
  have B2:=hide (B1.out.trans (b2.mono B1.out.size))
  have G2:=hide (G1.out.below b2 G1.out.lt)
  have d3':=(b2.cell (p:=⟨w.heap.size,3,none⟩) VR.out.lt).trans d3
  have c0:=G2.out.cell (o:=0) rfl
  have c1:=G2.out.cell (o:=1) rfl
  have c2:=G2.out.cell (o:=2) rfl
  have c3:=G2.out.cell (o:=3) rfl
  have q0:=G2.out.frozen 0
  have q1:=G2.out.frozen 1
  have q2:=G2.out.frozen 2
  have q3:=G2.out.frozen 3
  have hlt:=G2.out.lt
  clear b2 d3 d4 G1 VR HIT
  go_wp2_with fail
  exact bodyPost_ret (results_ct rfl rfl ((((G2.out.set 0 (.int .i64 0)).set 1 (.int .i64 0)).set 2 (.bool false)).set 3 (.slice none 0 0)) Tryz.underlying143 rfl (by kernel_rfl)) rfl ⟨none,0,rfl,.inl rfl,(((B2.out.setCell (by show w.heap.size≤w.heap.size+1;omega) _).setCell (by show w.heap.size≤w.heap.size+1;omega) _).setCell (by show w.heap.size≤w.heap.size+1;omega) _).setCell (by show w.heap.size≤w.heap.size+1;omega) _⟩
 | true =>
  rw[hb] at HIT
  have HIT:=hide HIT
  have e1:tyF gs a=tyN gs a.toNat:=by unfold tyF;rw[hb];rfl
  have e2:tyIs gs a kd=decide ((tyN gs a.toNat).kind=kd):=by unfold tyIs;rw[hb];rfl
  rw[e1,e2]
  unfold isTypeF at hb
  simp only[Bool.and_eq_true,decide_eq_true_eq] at hb
  obtain⟨a0,a1⟩:=hb
  clear e1 e2
  obtain⟨x,rfl⟩:∃x:Nat,a=x:=⟨a.toNat,by omega⟩
  have hx:x<kinCount gs:=by omega
  rw[Int.toNat_natCast]
  rcases T1.out.1 with hnil|⟨b,off,rfl,g1,g2,g3⟩
  ·exact absurd hx (by rw[←rows_len gs,hnil];exact Nat.not_lt_zero _)
  obtain⟨⟨y0,y1,y2,fa,fc,y3,hf⟩,_⟩:=g3 x (by rw[rows_len gs];exact hx)
  rw[rows_ty gs hx] at y0 y1 y2 y3 hf
  clear g3 T1
  have HF0:Hid (FieldsIn w lo hi fa (tyN gs x).fields):=by
   show FieldsIn _ _ _ _ _
   rcases hf with h0|⟨fb,fo,h1,h2,h3,h4⟩
   ·exact .inl h0
   ·exact .inr ⟨fb,fo,h1,h2,h3,fun i hi2=>by
     obtain⟨z0,z1,z2⟩:=h4 i hi2
     have hfb:fb<w.heap.size:=by omega
     exact⟨(B1.out.cell (p:=⟨fb,fo+i*3,none⟩) hfb).symm.trans z0,(B1.out.cell (p:=⟨fb,fo+i*3+1,none⟩) hfb).symm.trans z1,(B1.out.cell (p:=⟨fb,fo+i*3+2,none⟩) hfb).symm.trans z2⟩⟩
  have HF:=hide hf
  clear hf
  generalize tyN gs x=t at y0 y1 y2 y3 HF HF0 ⊢
  obtain⟨tk,tu,tl,tf⟩:=t
  simp only at y0 y1 y2 y3 HF HF0 ⊢
  have hbw:b<w1.heap.size:=by have:=B1.out.size;omega
  generalize kinCount gs=n at *
  have j2:(x:Int)<(n:Int):=by omega
  go_enter Tryz.func186,Tryz.ntmps186
  go_upto_region 1 with(fail)
  rw[←hw1]
  clear hw1
  go_wp2_with fail
  refine HIT.out.mono ?_
  rintro e w2 ⟨rfl,b2⟩
  have B22:=hide b2
  have B2:=hide (B1.out.trans (b2.mono B1.out.size))
  have G2:=hide (G1.out.below b2 G1.out.lt)
  have d3':=(b2.cell (p:=⟨w.heap.size,3,none⟩) VR.out.lt).trans d3
  have c0:=G2.out.cell (o:=0) rfl
  have c1:=G2.out.cell (o:=1) rfl
  have c2:=G2.out.cell (o:=2) rfl
  have c3:=G2.out.cell (o:=3) rfl
  have q0:=G2.out.frozen 0
  have q1:=G2.out.frozen 1
  have q2:=G2.out.frozen 2
  have q3:=G2.out.frozen 3
  have hlt:=G2.out.lt
  have y0:=(b2.cell (p:=⟨b,off+x*6,none⟩) hbw).trans y0
  have y1:=(b2.cell (p:=⟨b,off+x*6+1,none⟩) hbw).trans y1
  have y2:=(b2.cell (p:=⟨b,off+x*6+2,none⟩) hbw).trans y2
  have y3:=(b2.cell (p:=⟨b,off+x*6+3,none⟩) hbw).trans y3
  have hbw2:b<w2.heap.size:=Nat.lt_of_lt_of_le hbw b2.size
  clear b2 d3 d4 G1 VR HIT
  go_wp2_with fail
  have NT3:=hide (Rec.new w2 143 [.int .i64 tk,.int .i64 tu,.bool tl,.slice fa tf.length fc])
  have G3:=hide (G2.out.alloc (.cells #[.int .i64 tk,.int .i64 tu,.bool tl,.slice fa tf.length fc] 143))
  have B3:=hide (B2.out.alloc B2.out.size (.cells #[.int .i64 tk,.int .i64 tu,.bool tl,.slice fa tf.length fc] 143))
  generalize w2.alloc (.cells #[.int .i64 tk,.int .i64 tu,.bool tl,.slice fa tf.length fc] 143)=w3 at *
  refine beginA (S:=fun w'=>Rec w' w2.heap.size 143 [.int .i64 tk,.int .i64 tu,.bool tl,.slice fa tf.length fc]) 6 (by kernel_rfl) (Rec.drew' NT3.out) (fun hHeld=>?_)
  try simp only[Act.put,List.setIfInBounds_toArray,List.set_cons_zero,List.set_cons_succ]
  refine takeA (i:=0) (v:=?v0n1) rfl (by kernel_rfl) (by kernel_rfl) (by kernel_rfl) (fun _ _ _ h=>h) (by kernel_rfl) (by kernel_rfl) (by assumption) ?y0n1 ?r0n1
  case y0n1=>(intro w hSw;have t0:=hSw.cell (o:=0) rfl;have t1:=hSw.cell (o:=1) rfl;have t2:=hSw.cell (o:=2) rfl;have t3:=hSw.cell (o:=3) rfl;clear hSw;go_simp;try with_reducible rfl)
  (try simp only[Act.put,List.setIfInBounds_toArray,List.set_cons_zero,List.set_cons_succ])
  refine takeA (i:=1) (v:=?v1n2) rfl (by kernel_rfl) (by kernel_rfl) (by kernel_rfl) (fun _ _ _ h=>h) (by kernel_rfl) (by kernel_rfl) (by assumption) ?y1n2 ?r1n2
  case y1n2=>(intro w hSw;have t0:=hSw.cell (o:=0) rfl;have t1:=hSw.cell (o:=1) rfl;have t2:=hSw.cell (o:=2) rfl;have t3:=hSw.cell (o:=3) rfl;clear hSw;go_simp;try with_reducible rfl)
  (try simp only[Act.put,List.setIfInBounds_toArray,List.set_cons_zero,List.set_cons_succ])
  refine takeA (i:=2) (v:=?v2n3) rfl (by kernel_rfl) (by kernel_rfl) (by kernel_rfl) (fun _ _ _ h=>h) (by kernel_rfl) (by kernel_rfl) (by assumption) ?y2n3 ?r2n3
  case y2n3=>(intro w hSw;have t0:=hSw.cell (o:=0) rfl;have t1:=hSw.cell (o:=1) rfl;have t2:=hSw.cell (o:=2) rfl;have t3:=hSw.cell (o:=3) rfl;clear hSw;go_simp;try with_reducible rfl)
  (try simp only[Act.put,List.setIfInBounds_toArray,List.set_cons_zero,List.set_cons_succ])
  refine takeA (i:=3) (v:=?v3n4) rfl (by kernel_rfl) (by kernel_rfl) (by kernel_rfl) (fun _ _ _ h=>h) (by kernel_rfl) (by kernel_rfl) (by assumption) ?y3n4 ?r3n4
  case y3n4=>(intro w hSw;have t0:=hSw.cell (o:=0) rfl;have t1:=hSw.cell (o:=1) rfl;have t2:=hSw.cell (o:=2) rfl;have t3:=hSw.cell (o:=3) rfl;clear hSw;go_simp;try with_reducible rfl)
  (try simp only[Act.put,List.setIfInBounds_toArray,List.set_cons_zero,List.set_cons_succ])
  refine takeA (i:=4) (v:=?v4n5) rfl (by kernel_rfl) (by kernel_rfl) (by kernel_rfl) (fun _ _ _ h=>h) (by kernel_rfl) (by kernel_rfl) (by assumption) ?y4n5 ?r4n5
  case y4n5=>(intro w hSw;have t0:=hSw.cell (o:=0) rfl;have t1:=hSw.cell (o:=1) rfl;have t2:=hSw.cell (o:=2) rfl;have t3:=hSw.cell (o:=3) rfl;clear hSw;go_simp;try with_reducible rfl)
  (try simp only[Act.put,List.setIfInBounds_toArray,List.set_cons_zero,List.set_cons_succ])
  refine readyA (rs:=[5]) (by kernel_rfl) (by simp) ?_
  refine AllL.cons rfl (fun K hK=>?_) ?_
  ·have e0:=G3.out.cell (o:=0) rfl
   have e1:=G3.out.cell (o:=1) rfl
   have e2:=G3.out.cell (o:=2) rfl
   have e3:=G3.out.cell (o:=3) rfl
   have f0:=G3.out.frozen 0
   have f1:=G3.out.frozen 1
   have f2:=G3.out.frozen 2
   have f3:=G3.out.frozen 3
   have hl3:=G3.out.lt
   go_simp
   refine hK.out _ _ ?_ (fun hHeld=>?_)
   ·exact Rec.drew' ((((NT3.out.other (show w2.heap.size≠w.heap.size+1 by omega) 0 _).other (show w2.heap.size≠w.heap.size+1 by omega) 1 _).other (show w2.heap.size≠w.heap.size+1 by omega) 2 _).other (show w2.heap.size≠w.heap.size+1 by omega) 3 _)
   clear hK K e0 e1 e2 e3 f0 f1 f2 f3
   (try simp only[Act.put,List.setIfInBounds_toArray,List.set_cons_zero,List.set_cons_succ])
   refine readyA (rs:=[6]) (by kernel_rfl) (by simp) ?_
   refine AllL.last rfl (fun K hK=>?_)
   go_simp
   refine hK.out _ _ ?_
   clear hK K
   (try simp only[Act.put,List.setIfInBounds_toArray,List.set_cons_zero,List.set_cons_succ])
   refine doneA (by kernel_rfl) ?_ _
   have GF:=hide ((((G3.out.set 0 (.int .i64 tk)).set 1 (.int .i64 tu)).set 2 (.bool tl)).set 3 (.slice fa tf.length fc))
   have BF:=hide ((((B3.out.setCell (p:=⟨w.heap.size+1,0,none⟩) (by show w.heap.size≤w.heap.size+1;omega) (.int .i64 tk)).setCell (p:=⟨w.heap.size+1,1,none⟩) (by show w.heap.size≤w.heap.size+1;omega) (.int .i64 tu)).setCell (p:=⟨w.heap.size+1,2,none⟩) (by show w.heap.size≤w.heap.size+1;omega) (.bool tl)).setCell (p:=⟨w.heap.size+1,3,none⟩) (by show w.heap.size≤w.heap.size+1;omega) (.slice fa tf.length fc))
   have FF:=hide (HF0.out.keepB (BF.out.drew.mono hh))
   go_wp2_with fail
   have ek:(tk==kd)=decide (tk=kd):=by rw[Bool.eq_iff_iff];simp
   refine bodyPost_ret (results_ct rfl rfl (Rec.drew' GF.out) Tryz.underlying143 rfl (by kernel_rfl)) rfl ⟨fa,fc,?_,FF.out,BF.out.drew⟩
   show Ending.returned (.tuple #[.agg #[.int .i64 tk,.int .i64 tu,.bool tl,.slice fa tf.length fc],.bool (tk==kd)])=_
   rw[ek]
  exact AllL.nil
def bxF (gs:List (List Ty)) (a b:Int):Fd:=if tyIs gs a 1 then plFd (tyF gs a).fields b else⟨0,0,false⟩
def bxIs (gs:List (List Ty)) (a b:Int):Bool:=tyIs gs a 1&&decide (b<((tyF gs a).fields.length:Int))
def rwF (gs:List (List Ty)) (a:Int):Fd:=if tyIs gs a 2 then fdAt (tyF gs a).fields 0 else⟨0,0,false⟩
def FdPost9 (w:World) (f:Fd) (ok:Bool) (e:Ending) (w':World):Prop:=e=.returned (.tuple #[.agg #[.int .i64 f.kind,.int .i64 f.of,.bool f.mt],.bool ok])∧Below w.heap.size w w'
theorem tyIs_len {gs:List (List Ty)} (hP:Parts gs) {a:Int} (h:tyIs gs a 2=true):(tyF gs a).fields.length=1:=by
 unfold tyIs at h
 simp only[Bool.and_eq_true,decide_eq_true_eq] at h
 obtain⟨h1,h2⟩:=h
 have h3:tyF gs a=tyN gs a.toNat:=by unfold tyF;rw[h1];rfl
 unfold isTypeF at h1
 simp only[Bool.and_eq_true,decide_eq_true_eq] at h1
 have:=parts_kind hP (show a.toNat<kinCount gs by omega)
 rw[h3]
 omega
set_option maxHeartbeats 2000000 in
theorem boxField_any (vs:List Value) (lo hi k:Nat) (p:GProg) (op a b:Int) (w:World) (h:Scp w lo hi p k vs) (hn:kinCount p.types≤1099511627776) (hb:0≤b) :
  Calls Tryz.prog 188 #[.agg vs.toArray,.agg #[.int .i64 op,.int .i64 a,.int .i64 b]] w fun e w'=>FdPost9 w (bxF p.types a b) (bxIs p.types a b) e w':=by
 obtain⟨w1,hw1⟩:∃w1,w1=((w.alloc (.cells vs.toArray 94)).alloc (.cells #[.int .i64 op,.int .i64 a,.int .i64 b] 40)).alloc (.cells #[.int .i64 0,.int .i64 0,.bool false] 68):=⟨_,rfl⟩
 have B1:Hid (Below w.heap.size w w1):=by show Below _ _ _;rw[hw1];exact(((Below.refl _ _).alloc (Nat.le_refl _) _).alloc (by simp) _).alloc (by simp;omega) _
 have G1:Hid (Rec w1 (w.heap.size+1+1) 68 [.int .i64 0,.int .i64 0,.bool false]):=by show Rec _ _ _ _;rw[hw1];exact Rec.new' _ _ _ _ (by simp)
 have IR:Hid (Rec w1 (w.heap.size+1) 40 [.int .i64 op,.int .i64 a,.int .i64 b]):=by show Rec _ _ _ _;rw[hw1];exact(Rec.new' _ _ _ _ (by simp)).alloc _
 have VR:Hid (Rec w1 w.heap.size 94 vs):=by show Rec _ _ _ _;rw[hw1];exact((Rec.new _ _ _).alloc _).alloc _
 have hsz:(Tryz.prog.info? 94).map (·.size)=some vs.length:=by rw[h.len];kernel_rfl
 have hh:=h.hh
 have i1:=IR.out.cell (o:=1) rfl
 have HT:=hide (typeOf_any vs lo hi k p a 1 w1 (h.keep (B1.out.mono hh)) hn)
 have HY:Hid (tyIs p.types a 1=false→bxF p.types a b=⟨0,0,false⟩∧bxIs p.types a b=false):=fun h=>by unfold bxF bxIs;rw[h];exact⟨rfl,rfl⟩
 have HZ:Hid (tyIs p.types a 1=true→bxF p.types a b=plFd (tyF p.types a).fields b∧bxIs p.types a b=decide (b<((tyF p.types a).fields.length:Int))):=fun h=>by unfold bxF bxIs;rw[h];exact⟨rfl,rfl⟩
 clear h
 generalize tyF p.types a=t at HT HZ
 obtain⟨tk,tu,tl,tf⟩:=t
 simp only at HT HZ
 cases hv:tyIs p.types a 1 with
 | false =>
  obtain⟨e1,e2⟩:=HY.out hv
  rw[e1,e2]
  rw[hv] at HT
  clear HY HZ e1 e2 hv
  go_enter Tryz.func188,Tryz.ntmps188
  go_upto_region 1 with(fail)
  rw[←hw1]
  clear hw1
  go_wp2_with (refine wpList_load_rec rfl 94 _ rfl w.heap.size 94 vs _ rfl VR.out Tryz.underlying94 rfl hsz ?_)
  refine HT.out.mono ?_
  rintro e w2 ⟨fa,fc,rfl,hf,b2⟩
  have G2:=hide ((G1.out.below b2 G1.out.lt).alloc (.cells #[.int .i64 tk,.int .i64 tu,.bool tl,.slice fa tf.length fc] 143))
  have B2:=hide ((B1.out.trans (b2.mono B1.out.size)).alloc (Nat.le_trans B1.out.size b2.size) (.cells #[.int .i64 tk,.int .i64 tu,.bool tl,.slice fa tf.length fc] 143))
  clear b2 hf
  go_upto_region 2 with(fail)
  generalize w2.alloc (.cells #[.int .i64 tk,.int .i64 tu,.bool tl,.slice fa tf.length fc] 143)=w3 at *
  have c0:=G2.out.cell (o:=0) rfl
  have c1:=G2.out.cell (o:=1) rfl
  have c2:=G2.out.cell (o:=2) rfl
  have q0:=G2.out.frozen 0
  have q1:=G2.out.frozen 1
  have q2:=G2.out.frozen 2
  go_wp2_with fail
  exact bodyPost_ret (results_ct rfl rfl (((G2.out.set 0 (.int .i64 0)).set 1 (.int .i64 0)).set 2 (.bool false)) Tryz.underlying68 rfl (by kernel_rfl)) rfl ⟨rfl,((B2.out.setCell (by show w.heap.size≤w.heap.size+1+1;omega) _).setCell (by show w.heap.size≤w.heap.size+1+1;omega) _).setCell (by show w.heap.size≤w.heap.size+1+1;omega) _⟩
 | true =>
  obtain⟨e1,e2⟩:=HZ.out hv
  rw[e1,e2]
  rw[hv] at HT
  clear HY HZ e1 e2 hv
  have HC:=hide (fun W fa fc (hx:FieldsIn W lo hi fa tf) (hW:hi≤W.heap.size)=>checkPlace_any fa fc lo hi tf b W hb hx hW)
  generalize plFd tf b=f at HC ⊢
  generalize decide (b<(tf.length:Int))=nm at HC ⊢
  obtain⟨fk,fo,fm⟩:=f
  simp only at HC ⊢
  go_enter Tryz.func188,Tryz.ntmps188
  go_upto_region 1 with(fail)
  rw[←hw1]
  clear hw1
  go_wp2_with (refine wpList_load_rec rfl 94 _ rfl w.heap.size 94 vs _ rfl VR.out Tryz.underlying94 rfl hsz ?_)
  refine HT.out.mono ?_
  rintro e w2 ⟨fa,fc,rfl,hf,b2⟩
  have hiw:hi≤w2.heap.size:=Nat.le_trans hh (Nat.le_trans B1.out.size b2.size)
  have bn:=(Below.refl w2.heap.size w2).alloc (Nat.le_refl _) (.cells #[.int .i64 tk,.int .i64 tu,.bool tl,.slice fa tf.length fc] 143)
  have G2:=hide ((G1.out.below b2 G1.out.lt).alloc (.cells #[.int .i64 tk,.int .i64 tu,.bool tl,.slice fa tf.length fc] 143))
  have I2:=hide ((IR.out.below b2 IR.out.lt).alloc (.cells #[.int .i64 tk,.int .i64 tu,.bool tl,.slice fa tf.length fc] 143))
  have N2:=hide (Rec.new w2 143 [.int .i64 tk,.int .i64 tu,.bool tl,.slice fa tf.length fc])
  have F2:=hide (hf.keepB (bn.mono hiw))
  have B2:=hide ((B1.out.trans (b2.mono B1.out.size)).trans (bn.mono (Nat.le_trans B1.out.size b2.size)))
  have hiw3:=Nat.le_trans hiw bn.size
  clear b2 hf i1
  go_upto_region 2 with(fail)
  generalize w2.alloc (.cells #[.int .i64 tk,.int .i64 tu,.bool tl,.slice fa tf.length fc] 143)=w3 at *
  have t3:=N2.out.cell (o:=3) rfl
  have i2:=I2.out.cell (o:=2) rfl
  go_wp2_with fail
  refine(HC.out w3 fa fc F2.out hiw3).mono ?_
  rintro e w4 ⟨rfl,b4⟩
  have B4:=hide (B2.out.trans (b4.mono B2.out.size))
  have G4:=hide (G2.out.below b4 G2.out.lt)
  have c0:=G4.out.cell (o:=0) rfl
  have c1:=G4.out.cell (o:=1) rfl
  have c2:=G4.out.cell (o:=2) rfl
  have q0:=G4.out.frozen 0
  have q1:=G4.out.frozen 1
  have q2:=G4.out.frozen 2
  clear b4
  go_wp2_with fail
  exact bodyPost_ret (results_ct rfl rfl (((G4.out.set 0 (.int .i64 fk)).set 1 (.int .i64 fo)).set 2 (.bool fm)) Tryz.underlying68 rfl (by kernel_rfl)) rfl ⟨rfl,((B4.out.setCell (by show w.heap.size≤w.heap.size+1+1;omega) _).setCell (by show w.heap.size≤w.heap.size+1+1;omega) _).setCell (by show w.heap.size≤w.heap.size+1+1;omega) _⟩
end Go.Proofs.YtpaneomkphjpcaaGreatDoor
