/- rowField, sortOf, sortsOf of the program. -/
import Derived.Test.YtpaneomkphjpcaaGreatDoorCkRule4
namespace Go.Proofs.YtpaneomkphjpcaaGreatDoor
open Go.ChangeShapes Go.WideShapes Go.ChangeAt Go.RowKit Go.Deep
set_option linter.unusedVariables false
set_option linter.unusedSimpArgs false
set_option maxHeartbeats 2000000 in
theorem rowField_any (vs:List Value) (lo hi k:Nat) (p:GProg) (op a b:Int) (w:World) (h:Scp w lo hi p k vs) (hn:kinCount p.types≤1099511627776) (hP:Parts p.types) :
  Calls Tryz.prog 190 #[.agg vs.toArray,.agg #[.int .i64 op,.int .i64 a,.int .i64 b]] w fun e w'=>FdPost9 w (rwF p.types a) (tyIs p.types a 2) e w':=by
 obtain⟨w1,hw1⟩:∃w1,w1=((w.alloc (.cells vs.toArray 94)).alloc (.cells #[.int .i64 op,.int .i64 a,.int .i64 b] 40)).alloc (.cells #[.int .i64 0,.int .i64 0,.bool false] 68):=⟨_,rfl⟩
 have B1:Hid (Below w.heap.size w w1):=by show Below _ _ _;rw[hw1];exact(((Below.refl _ _).alloc (Nat.le_refl _) _).alloc (by simp) _).alloc (by simp;omega) _
 have G1:Hid (Rec w1 (w.heap.size+1+1) 68 [.int .i64 0,.int .i64 0,.bool false]):=by show Rec _ _ _ _;rw[hw1];exact Rec.new' _ _ _ _ (by simp)
 have IR:Hid (Rec w1 (w.heap.size+1) 40 [.int .i64 op,.int .i64 a,.int .i64 b]):=by show Rec _ _ _ _;rw[hw1];exact(Rec.new' _ _ _ _ (by simp)).alloc _
 have VR:Hid (Rec w1 w.heap.size 94 vs):=by show Rec _ _ _ _;rw[hw1];exact((Rec.new _ _ _).alloc _).alloc _
 have hsz:(Tryz.prog.info? 94).map (·.size)=some vs.length:=by rw[h.len];kernel_rfl
 have hh:=h.hh
 have i1:=IR.out.cell (o:=1) rfl
 have HT:=hide (typeOf_any vs lo hi k p a 2 w1 (h.keep (B1.out.mono hh)) hn)
 have HY:Hid (tyIs p.types a 2=false→rwF p.types a=⟨0,0,false⟩):=fun h=>by unfold rwF;rw[h];rfl
 have HZ:Hid (tyIs p.types a 2=true→rwF p.types a=fdAt (tyF p.types a).fields 0∧(tyF p.types a).fields.length=1):=fun h=>⟨by unfold rwF;rw[h];rfl,tyIs_len hP h⟩
 clear h
 generalize tyF p.types a=t at HT HZ
 obtain⟨tk,tu,tl,tf⟩:=t
 simp only at HT HZ
 cases hv:tyIs p.types a 2 with
 | false =>
  have e1:=HY.out hv
  rw[e1]
  rw[hv] at HT
  clear HY HZ e1 hv
  go_enter Tryz.func190,Tryz.ntmps190
  go_upto_region 1 with(fail)
  rw[←hw1]
  clear hw1
  go_wp2_with (refine wpList_load_rec rfl 94 _ rfl w.heap.size 94 vs _ rfl VR.out Tryz.underlying94 rfl hsz ?_)
  refine HT.out.mono ?_
  rintro e w2 ⟨fa,fc,rfl,hf,b2⟩
  have G2:=hide ((G1.out.below b2 G1.out.lt).alloc (.cells #[.int .i64 tk,.int .i64 tu,.bool tl,.slice fa tf.length fc] 143))
  have B2:=hide ((B1.out.trans (b2.mono B1.out.size)).alloc (Nat.le_trans B1.out.size b2.size) (.cells #[.int .i64 tk,.int .i64 tu,.bool tl,.slice fa tf.length fc] 143))
  clear b2 hf
  go_upto_region 2 with(fail)
  generalize w2.alloc (.cells #[.int .i64 tk,.int .i64 tu,.bool tl,.slice fa tf.length fc] 143)=w3 at *
  have c0:=G2.out.cell (o:=0) rfl
  have c1:=G2.out.cell (o:=1) rfl
  have c2:=G2.out.cell (o:=2) rfl
  have q0:=G2.out.frozen 0
  have q1:=G2.out.frozen 1
  have q2:=G2.out.frozen 2
  go_wp2_with fail
  exact bodyPost_ret (results_ct rfl rfl (((G2.out.set 0 (.int .i64 0)).set 1 (.int .i64 0)).set 2 (.bool false)) Tryz.underlying68 rfl (by kernel_rfl)) rfl ⟨rfl,((B2.out.setCell (by show w.heap.size≤w.heap.size+1+1;omega) _).setCell (by show w.heap.size≤w.heap.size+1+1;omega) _).setCell (by show w.heap.size≤w.heap.size+1+1;omega) _⟩
 | true =>
  obtain⟨e1,e2⟩:=HZ.out hv
  rw[e1]
  rw[hv] at HT
  have HL:=hide e2
  clear HY HZ e1 e2 hv
  obtain⟨⟨fk,fo,fm⟩,rfl⟩:=List.length_eq_one_iff.1 HL.out
  clear HL
  show Calls _ _ _ _ (FdPost9 w ⟨fk,fo,fm⟩ true)
  go_enter Tryz.func190,Tryz.ntmps190
  go_upto_region 1 with(fail)
  rw[←hw1]
  clear hw1
  go_wp2_with (refine wpList_load_rec rfl 94 _ rfl w.heap.size 94 vs _ rfl VR.out Tryz.underlying94 rfl hsz ?_)
  refine HT.out.mono ?_
  rintro e w2 ⟨fa,fc,rfl,hf,b2⟩
  have hiw:hi≤w2.heap.size:=Nat.le_trans hh (Nat.le_trans B1.out.size b2.size)
  have bn:=(Below.refl w2.heap.size w2).alloc (Nat.le_refl _) (.cells #[.int .i64 tk,.int .i64 tu,.bool tl,.slice fa 1 fc] 143)
  have G2:=hide ((G1.out.below b2 G1.out.lt).alloc (.cells #[.int .i64 tk,.int .i64 tu,.bool tl,.slice fa 1 fc] 143))
  have I2:=hide ((IR.out.below b2 IR.out.lt).alloc (.cells #[.int .i64 tk,.int .i64 tu,.bool tl,.slice fa 1 fc] 143))
  have N2:=hide (Rec.new w2 143 [.int .i64 tk,.int .i64 tu,.bool tl,.slice fa 1 fc])
  have F2:=hide (hf.keepB (bn.mono hiw))
  have B2:=hide ((B1.out.trans (b2.mono B1.out.size)).trans (bn.mono (Nat.le_trans B1.out.size b2.size)))
  have hiw3:=Nat.le_trans hiw bn.size
  clear b2 hf i1
  rcases F2.out with hnil|⟨fb,fo9,rfl,z1,z2,z3⟩
  ·cases hnil
  obtain⟨y0,y1,y2⟩:=z3 0 (by simp)
  simp only[fdAt,List.getD_cons_zero,Nat.zero_mul,Nat.add_zero] at y0 y1 y2
  clear z3 F2
  go_upto_region 2 with(fail)
  generalize w2.alloc (.cells #[.int .i64 tk,.int .i64 tu,.bool tl,.slice (some ⟨fb,fo9,none⟩) 1 fc] 143)=w3 at *
  have t3:=N2.out.cell (o:=3) rfl
  have i2:=I2.out.cell (o:=2) rfl
  have G4:=G2
  have B4:=B2
  have hfb:fb<w3.heap.size:=by omega
  have c0:=G4.out.cell (o:=0) rfl
  have c1:=G4.out.cell (o:=1) rfl
  have c2:=G4.out.cell (o:=2) rfl
  have q0:=G4.out.frozen 0
  have q1:=G4.out.frozen 1
  have q2:=G4.out.frozen 2
  go_wp2_with fail
  exact bodyPost_ret (results_ct rfl rfl (((G4.out.set 0 (.int .i64 fk)).set 1 (.int .i64 fo)).set 2 (.bool fm)) Tryz.underlying68 rfl (by kernel_rfl)) rfl ⟨rfl,((B4.out.setCell (by show w.heap.size≤w.heap.size+1+1;omega) _).setCell (by show w.heap.size≤w.heap.size+1+1;omega) _).setCell (by show w.heap.size≤w.heap.size+1+1;omega) _⟩
set_option maxHeartbeats 400000 in
theorem sortOf_any (k o:Int) (m:Bool) (w:World):Calls Tryz.prog 189 #[.agg #[.int .i64 k,.int .i64 o,.bool m]] w fun e w'=>e=.returned (.agg #[.int .i64 k,.int .i64 o,.bool false])∧Below w.heap.size w w':=by
 go_enter Tryz.func189,Tryz.ntmps189
 go_wp2_with fail
 refine bodyPost_ret (v:=.agg #[.int .i64 k,.int .i64 o,.bool false]) (by simp[results,Tryz.results189,go_sem]) rfl ⟨rfl,?_⟩
 exact((Below.refl _ _).alloc (Nat.le_refl _) _).alloc (by simp) _
theorem take_sOf {fs:List Fd} {j:Nat} (h:j<fs.length):(fs.take j).map sOf++[sOf (fdAt fs j)]=(fs.take (j+1)).map sOf:=by
 rw[List.take_succ_eq_append_getElem h,List.map_append]
 have e:fdAt fs j=fs[j]:=by simp[fdAt,h]
 rw[e]
 rfl
set_option maxHeartbeats 1600000 in
theorem sortsOf_any (fa:Option Addr) (fc lo hi:Nat) (fs:List Fd) (w:World) (hx:FieldsIn w lo hi fa fs) (hh:hi≤w.heap.size) (hn:fs.length≤1000) :
  Calls Tryz.prog 187 #[.slice fa fs.length fc] w fun e w'=>∃a c,e=.returned (.slice a fs.length c)∧FdRow w' w.heap.size (.slice a fs.length c) (fs.map sOf)∧Below w.heap.size w w':=by
 have HX:=hide hx
 clear hx
 go_enter Tryz.func187,Tryz.ntmps187
 go_wp2_with fail
 go_loopw [3,8] (fun o i wr=>∃(v:Value) (j:Nat) (xs:List Fd),v=o∧i=.int .i64 j∧j≤fs.length∧Hid (xs=(fs.take j).map sOf)∧Hid (FdRow wr w.heap.size v xs)∧Hid (Below w.heap.size w wr)) (fun o i wr=>fs.length-(intOf i).toNat)
 case atStart=>exact⟨_,0,[],rfl,rfl,Nat.zero_le _,rfl,FdRow.nil _ _,Below.refl _ _⟩
 case round =>
  obtain⟨v,j,xs,rfl,rfl,hj,HE,HF,HB⟩:=hrel
  have HL:Hid (xs.length=j):=by show _=_;rw[HE.out,List.length_map,List.length_take];omega
  by_cases hjk:j<fs.length
  ·have hjk':(j:Int)<(fs.length:Int):=by omega
   rcases HX.out with hnil|⟨b,off,rfl,g1,g2,g3⟩
   ·rw[hnil] at hjk;exact absurd hjk (Nat.not_lt_zero _)
   have hbw:b<w.heap.size:=by omega
   obtain⟨f0,f1,f2⟩:=g3 j hjk
   have y0:=(HB.out.cell (p:=⟨b,off+j*3,none⟩) hbw).trans f0
   have y1:=(HB.out.cell (p:=⟨b,off+j*3+1,none⟩) hbw).trans f1
   have y2:=(HB.out.cell (p:=⟨b,off+j*3+2,none⟩) hbw).trans f2
   have HT:=hide (take_sOf hjk)
   clear g3 f0 f1 f2
   generalize fdAt fs j=f at y0 y1 y2 HT
   obtain⟨fk,fo,fm⟩:=f
   simp only[sOf] at y0 y1 y2 HT
   have hbr:b<wr.heap.size:=Nat.lt_of_lt_of_le hbw HB.out.size
   go_wp2_with fail
   refine(sortOf_any fk fo fm _).mono ?_
   rintro e w1 ⟨rfl,b1⟩
   have bn:=(Below.refl wr.heap.size wr).alloc (Nat.le_refl _) (.cells #[.int .i64 fk,.int .i64 fo,.bool fm] 68)
   have s0:=HB.out.size
   have s1:wr.heap.size≤w1.heap.size:=Nat.le_trans bn.size b1.size
   have F1:=hide (((HF.out.alloc (.cells #[.int .i64 fk,.int .i64 fo,.bool fm] 68)).below b1).alloc (.cells #[.int .i64 fk,.int .i64 fo,.bool false] 68))
   have B1:=hide (((HB.out.trans (bn.mono s0)).trans (b1.mono (Nat.le_trans s0 bn.size))).alloc (Nat.le_trans s0 s1) (.cells #[.int .i64 fk,.int .i64 fo,.bool false] 68))
   have NR:Rec (w1.alloc (.cells #[.int .i64 fk,.int .i64 fo,.bool false] 68)) w1.heap.size 68 (fcells [(⟨fk,fo,false⟩:Fd)]):=by rw[fcells_l1];exact Rec.new' _ _ _ _ rfl
   have X1:=hide (rec_fieldsN NR (Nat.le_refl _) (show w1.heap.size<w1.heap.size+1 by omega))
   have hl:xs.length≤1000:=by have:=HL.out;omega
   clear b1 bn NR HF HB
   go_wp2_with (first|(at_builtin;(refine wpList_app_fields rfl _ _ rfl w.heap.size v xs (some ⟨w1.heap.size,0,none⟩) 1 w1.heap.size (w1.heap.size+1) [⟨fk,fo,false⟩] rfl F1.out rfl (by omega) (by simp) X1.out (by simp;omega) ?_)))
   intro a2 cap2 w2 hF2 hb2
   have F2:=hide hF2
   have B2:=hide (B1.out.trans hb2)
   clear hF2 hb2
   go_wp2_with fail
   exact⟨⟨_,j+1,xs++[⟨fk,fo,false⟩],rfl,by go_num,by omega,by show _=_;rw[HE.out];exact HT.out,F2,B2⟩,by simp[intOf];omega⟩
  ·obtain⟨a,cap,rfl⟩:=HF.out.val
   have hje:Hid (j=fs.length):=Nat.le_antisymm hj (Nat.le_of_not_lt hjk)
   have HL2:Hid (xs.length=fs.length):=HL.out.trans hje.out
   have HE2:Hid (xs=fs.map sOf):=by show _=_;rw[HE.out,hje.out,List.take_length]
   go_wp2_with fail
   go_ret
   exact⟨a,cap,by rw[←HL2.out];rfl,by have:=HF.out;rw[←HE2.out,←HL2.out];exact this,HB.out⟩
end Go.Proofs.YtpaneomkphjpcaaGreatDoor
