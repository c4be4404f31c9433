/- The law FnExactCheckStacks, walked. Written by tools/made/lawcheckstacks.py out of WalkExactCheckSlots. -/
import Derived.Test.YtpaneomkphjpcaaGreatDoorCkStksS
import Derived.Test.YtpaneomkphjpcaaGreatDoorMarkFSS
import Derived.Test.YtpaneomkphjpcaaGreatDoorPcMark
import Derived.Test.YtpaneomkphjpcaaGreatDoorPaGen
namespace Go.Proofs.YtpaneomkphjpcaaGreatDoor
open Go.ChangeShapes Go.WideShapes Go.ChangeAt Go.RowKit Go.Joins Go.Deep
set_option linter.unusedVariables false
theorem wkF_code {p:GProg} {k:Nat}:∀m n,(∀j,j≤n→(stP p k j).2=0)→∀j,j<(wkF p k m n).1→(stP p k j).2=0
 | 0,n,h,j,hj=>h j (Nat.le_of_lt hj)
 | m+1,n,h,j,hj=>by
  unfold wkF at hj
  split at hj
  ·exact h j (by simp at hj;omega)
  ·rename_i hz
   refine wkF_code m (n+1) (fun i hi=>?_) j hj
   by_cases e:i=n+1
   ·rw[e];exact Classical.not_not.1 hz
   ·exact h i (by omega)
theorem stkN_ok (p:GProg) (f:Int):stkN p f≤1000000∧∀j,j<stkN p f→(stP p f.toNat j).1.length≤1000000:=by
 unfold stkN
 split
 ·rename_i h
  simp only[Bool.and_eq_true,decide_eq_true_eq] at h
  obtain⟨hp,h1,h2⟩:=h
  have hF:=pf_of hp
  have hk:f.toNat<p.funs.length:=by omega
  have hL:=(hF.fn f.toNat hk).bl
  have hW:(wk p f.toNat).1≤(funAt' p.funs f.toNat).body.length:=by
   have:=(wkF_one (p:=p) (k:=f.toNat) (funAt' p.funs f.toNat).body.length 0 (by have:=(hF.fn f.toNat hk).b0;omega)).2
   unfold wk
   omega
  refine⟨by omega,fun j hj=>?_⟩
  have hc:=wkF_code (p:=p) (k:=f.toNat) (funAt' p.funs f.toNat).body.length 0 (fun j h=>by rw[Nat.le_zero.1 h];rfl)
  have:=(stP_ok hF hk j (by omega) (fun i hi=>hc i (by have:(wk p f.toNat).1=(wkF p f.toNat (funAt' p.funs f.toNat).body.length 0).1:=rfl;omega))).2
  omega
 ·exact⟨by omega,fun j hj=>absurd hj (Nat.not_lt_zero _)⟩
set_option maxHeartbeats 4000000 in
set_option maxRecDepth 100000 in
theorem fnExactCheckStacks_walk0 (a0:Option Addr) (c0:Nat) (a1:Option Addr) (c1:Nat) (a2:Option Addr) (c2:Nat) (x:GProg) (f:Int) (w:World) (hl:ProgB 9223372036854775807 x) (g0:GroupsM false w 0 w.heap.size a0 x.types) (g1:FieldsM false w 0 w.heap.size a1 x.glob) (g2:FunsM false w 0 w.heap.size a2 x.funs) (hp:pow10 w) :
    Calls Tryz.prog 4 #[.agg #[.slice a0 x.types.length c0,.slice a1 x.glob.length c1,.slice a2 x.funs.length c2],.int .i64 f] w fun e w'=>e=.returned (.bool true)∧Below w.heap.size w w':=by
  have HLn:=hide hl
  have X0:=hide g0
  have X1:=hide g1
  have X2:=hide g2
  have HP:=hide hp
  clear hl g0 g1 g2 hp
  have BB:Hid (Below w.heap.size w (w.alloc (.cells #[.slice a0 x.types.length c0,.slice a1 x.glob.length c1,.slice a2 x.funs.length c2] 26))):=(Below.refl _ _).alloc (Nat.le_refl _) _
  have RR:Hid (Rec (w.alloc (.cells #[.slice a0 x.types.length c0,.slice a1 x.glob.length c1,.slice a2 x.funs.length c2] 26)) w.heap.size 26 [.slice a0 x.types.length c0,.slice a1 x.glob.length c1,.slice a2 x.funs.length c2]):=Rec.new _ _ _
  go_enter Tryz.func4,Tryz.ntmps4
  go_wp2_with fail
  refine(szProg_any a0 a1 a2 c0 c1 c2 0 w.heap.size x 1048576 _ HLn.out (X0.out.keep BB.out) (X1.out.keep BB.out) (X2.out.keep BB.out) BB.out.size (by omega) (by omega)).mono ?_
  rintro e w0 ⟨r,rfl,r1,r2,r3,hb0⟩
  have B0:=hide (BB.out.trans (hb0.mono BB.out.size))
  have R0:=hide (RR.out.below hb0 RR.out.lt)
  clear hb0 BB RR
  by_cases hr:r<0
  · clear r3
    go_wp2_with fail
    go_ret
    exact⟨rfl,B0.out⟩
  have hf:=hide (r3 (by omega))
  clear r3
  have hf2:=hf.out
  have HBd:Hid (stkN x f≤1000000∧∀j,j<stkN x f→(stP x f.toNat j).1.length≤1000000):=stkN_ok x f
  have HSp:Hid (∀(n0:Option Addr) (n1:Option Addr) (n2:Option Addr) (lo hi:Nat) (W:World),GroupsM true W lo hi n0 x.types→FieldsM true W lo hi n1 x.glob→FunsM true W lo hi n2 x.funs→pow10 W→hi≤W.heap.size→Calls Tryz.prog 19 #[.agg #[.slice n0 x.types.length x.types.length,.slice n1 x.glob.length x.glob.length,.slice n2 x.funs.length x.funs.length],.int .i64 f] W fun e w'=>∃a c,e=.returned (.slice a (stkN x f) c)∧StkG false w' W.heap.size w'.heap.size (stP x f.toNat) (stkN x f) a∧Below W.heap.size W w'):=fun n0 n1 n2 lo hi W q0 q1 q2 hp hh=>(specCheckStacks_any n0 n1 n2 _ _ _ (min lo hi) hi x f W hf2 (PM.wide ⟨q0,q1,q2⟩ (Nat.min_le_left _ _) (Nat.le_refl _)) (Nat.le_refl _) (Nat.min_le_right _ _) hh).mono fun e w' h=>by
   obtain⟨⟨a,c,vs,h1,h2,h3,h4,h5⟩,h6⟩:=h
   exact⟨a,c,h1,⟨StkIn.of h4 h5 h2,fun e=>Bool.noConfusion e⟩,h6⟩
  have HIm:Hid (∀(n0:Option Addr) (n1:Option Addr) (n2:Option Addr) (lo hi:Nat) (W:World),GroupsM true W lo hi n0 x.types→FieldsM true W lo hi n1 x.glob→FunsM true W lo hi n2 x.funs→pow10 W→hi≤W.heap.size→Calls Tryz.prog 20 #[.agg #[.slice n0 x.types.length x.types.length,.slice n1 x.glob.length x.glob.length,.slice n2 x.funs.length x.funs.length],.int .i64 f] W fun e w'=>∃a c,e=.returned (.slice a (stkN x f) c)∧StkG true w' W.heap.size w'.heap.size (stP x f.toNat) (stkN x f) a∧Below W.heap.size W w'):=fun n0 n1 n2 lo hi W q0 q1 q2 hp hh=>(implCheckStacks_any n0 n1 n2 _ _ _ (min lo hi) hi x f W hf2 (PM.wide ⟨q0,q1,q2⟩ (Nat.min_le_left _ _) (Nat.le_refl _)) (Nat.min_le_right _ _) hh hp).mono fun e w' h=>by
   obtain⟨⟨a,c,vs,h1,h2,h3,h4,h5⟩,h6⟩:=h
   exact⟨a,c,h1,⟨StkIn.of h4 h5 h2,fun _=>StkSh.of h4 h5 h2 h3⟩,h6⟩
  clear hf2
  generalize stkN x f=n at *
  generalize stP x f.toNat=st at *
  have kc0:=R0.out.cell (o:=0) rfl
  have kc1:=R0.out.cell (o:=1) rfl
  have kc2:=R0.out.cell (o:=2) rfl
  go_wp2_with fail
  refine(toProg_any a0 c0 a1 c1 a2 c2 0 w.heap.size x _ hf.out (X0.out.keep B0.out) (X1.out.keep B0.out) (X2.out.keep B0.out) B0.out.size).mono ?_
  rintro e w1 ⟨n0A,n1A,n2A,rfl,q0A,q1A,q2A,hb⟩
  have Q0A:=hide q0A
  have Q1A:=hide q1A
  have Q2A:=hide q2A
  have SA:=hide hb.size
  have B1:=hide (B0.out.trans (hb.mono B0.out.size))
  have R1:=hide (R0.out.below hb R0.out.lt)
  clear hb q0A q1A q2A
  clear kc0 kc1 kc2
  go_wp2_with fail
  refine(HSp.out n0A n1A n2A w0.heap.size w1.heap.size w1 Q0A.out Q1A.out Q2A.out (pow10_keep HP.out B1.out) (Nat.le_refl _)).mono ?_
  rintro e w2 ⟨at2,ct2,rfl,ht2,hb⟩
  have T2:=hide ht2
  have S2:=hide hb.size
  have B2:=hide (B1.out.trans (hb.mono B1.out.size))
  have R2:=hide (R1.out.below hb R1.out.lt)
  clear hb ht2
  have kc0:=R2.out.cell (o:=0) rfl
  have kc1:=R2.out.cell (o:=1) rfl
  have kc2:=R2.out.cell (o:=2) rfl
  go_wp2_with fail
  refine(toProg_any a0 c0 a1 c1 a2 c2 0 w.heap.size x _ hf.out (X0.out.keep B2.out) (X1.out.keep B2.out) (X2.out.keep B2.out) B2.out.size).mono ?_
  rintro e w3 ⟨n0B,n1B,n2B,rfl,q0B,q1B,q2B,hb⟩
  have Q0B:=hide q0B
  have Q1B:=hide q1B
  have Q2B:=hide q2B
  have SB:=hide hb.size
  have B3:=hide (B2.out.trans (hb.mono B2.out.size))
  have R3:=hide (R2.out.below hb R2.out.lt)
  have T3:=hide (T2.out.keep hb)
  clear hb q0B q1B q2B
  clear kc0 kc1 kc2
  obtain⟨xb,hxb⟩:∃xb,xb=w3.heap.size:=⟨_,rfl⟩
  obtain⟨w4,hw4⟩:∃w4,w4=w3.alloc (.cells #[.slice n0B x.types.length x.types.length,.slice n1B x.glob.length x.glob.length,.slice n2B x.funs.length x.funs.length] 37):=⟨_,rfl⟩
  have hb4:Below w3.heap.size w3 w4:=by rw[hw4];exact(Below.refl _ _).alloc (Nat.le_refl _) _
  have P4:Hid (Rec w4 xb 37 [.slice n0B x.types.length x.types.length,.slice n1B x.glob.length x.glob.length,.slice n2B x.funs.length x.funs.length]):=by rw[hw4];exact Rec.new' _ _ _ _ hxb
  have S4:Hid (w4.heap.size=w3.heap.size+1):=by show _=_;rw[hw4];simp
  have B4:=hide (B3.out.trans (hb4.mono B3.out.size))
  have R4:=hide (R3.out.below hb4 R3.out.lt)
  have T4:=hide (T3.out.keep (hb4.mono (by have:=SB.out;omega)))
  have Q0C:=hide (Q0B.out.keep hb4)
  have Q1C:=hide (Q1B.out.keep hb4)
  have Q2C:=hide (Q2B.out.keep hb4)
  clear hb4
  go_upto_region 7 with(fail)
  rw[←hw4,←hxb]
  have HXB:=hide hxb
  clear hw4 hxb
  have kp0:=P4.out.cell (o:=0) rfl
  have kp1:=P4.out.cell (o:=1) rfl
  have kp2:=P4.out.cell (o:=2) rfl
  go_wp2_with fail
  refine(HIm.out n0B n1B n2B w2.heap.size w3.heap.size w4 Q0C.out Q1C.out Q2C.out (pow10_keep HP.out B4.out) (by have:=S4.out;omega)).mono ?_
  rintro e w5 ⟨ag5,cg5,rfl,hg5,hb⟩
  have G5:=hide hg5
  have S5:=hide hb.size
  have B5:=hide (B4.out.trans (hb.mono B4.out.size))
  have R5:=hide (R4.out.below hb R4.out.lt)
  have P5:=hide (P4.out.below hb P4.out.lt)
  have T5:=hide (T4.out.keep (hb.mono (by have:=SB.out;have:=S4.out;omega)))
  have Q0D:=hide (Q0C.out.keep (hb.mono (by have:=S4.out;omega)))
  have Q1D:=hide (Q1C.out.keep (hb.mono (by have:=S4.out;omega)))
  have Q2D:=hide (Q2C.out.keep (hb.mono (by have:=S4.out;omega)))
  clear hb hg5
  clear kp0 kp1 kp2
  go_wp2_with fail
  refine(eqStk_g ag5 at2 cg5 ct2 w4.heap.size w5.heap.size w1.heap.size w2.heap.size n st w5 HBd.out G5.out T5.out (Nat.le_refl _) (by have e1:=SA.out;have e2:=S2.out;have e3:=SB.out;have e4:=S4.out;have e5:=S5.out;omega)).mono ?_
  rintro e w6 ⟨rfl,hb⟩
  have S6:=hide hb.size
  have B6:=hide (B5.out.trans (hb.mono B5.out.size))
  have R6:=hide (R5.out.below hb R5.out.lt)
  have P6:=hide (P5.out.below hb P5.out.lt)
  have T6:=hide (T5.out.keep (hb.mono (by have e1:=SA.out;have e2:=S2.out;have e3:=SB.out;have e4:=S4.out;have e5:=S5.out;omega)))
  have G6:=hide (G5.out.keep hb)
  have Q0E:=hide (Q0D.out.keep (hb.mono (by have e1:=SA.out;have e2:=S2.out;have e3:=SB.out;have e4:=S4.out;have e5:=S5.out;omega)))
  have Q1E:=hide (Q1D.out.keep (hb.mono (by have e1:=SA.out;have e2:=S2.out;have e3:=SB.out;have e4:=S4.out;have e5:=S5.out;omega)))
  have Q2E:=hide (Q2D.out.keep (hb.mono (by have e1:=SA.out;have e2:=S2.out;have e3:=SB.out;have e4:=S4.out;have e5:=S5.out;omega)))
  clear hb
  have kc0:=R6.out.cell (o:=0) rfl
  have kc1:=R6.out.cell (o:=1) rfl
  have kc2:=R6.out.cell (o:=2) rfl
  have kp0:=P6.out.cell (o:=0) rfl
  have kp1:=P6.out.cell (o:=1) rfl
  have kp2:=P6.out.cell (o:=2) rfl
  go_wp2_with fail
  go_region_held3 (fun w'=>w'.cell? ⟨w.heap.size,0,none⟩=some (.slice a0 x.types.length c0)∧w'.cell? ⟨w.heap.size,1,none⟩=some (.slice a1 x.glob.length c1)∧w'.cell? ⟨w.heap.size,2,none⟩=some (.slice a2 x.funs.length c2)∧w'.cell? ⟨xb,0,none⟩=some (.slice n0B x.types.length x.types.length)∧w'.cell? ⟨xb,1,none⟩=some (.slice n1B x.glob.length x.glob.length)∧w'.cell? ⟨xb,2,none⟩=some (.slice n2B x.funs.length x.funs.length)) (go_keep) ((first|(go_at_call 10;refine(toProg_any a0 c0 a1 c1 a2 c2 0 w.heap.size x _ hf.out (X0.out.keep B6.out.drew) (X1.out.keep B6.out.drew) (X2.out.keep B6.out.drew) (by have:=B6.out.drew.size;exact this)).mono ?_;rintro e w7 ⟨n0F,n1F,n2F,rfl,q0F,q1F,q2F,hb7⟩;have Q0F:=hide q0F;have Q1F:=hide q1F;have Q2F:=hide q2F;have s7:=hb7.size;have s7b:w6.heap.size≤w7.heap.size:=s7;have B7:=hide (B6.out.drew.trans (hb7.mono B6.out.drew.size));have R7:Hid (Rec w7 w.heap.size 26 [.slice a0 x.types.length c0,.slice a1 x.glob.length c1,.slice a2 x.funs.length c2]):=Rec.below (w:=w6.drew) R6.out hb7 R6.out.lt;have P7:Hid (Rec w7 xb 37 [.slice n0B x.types.length x.types.length,.slice n1B x.glob.length x.glob.length,.slice n2B x.funs.length x.funs.length]):=Rec.below (w:=w6.drew) P6.out hb7 P6.out.lt;have HB7:Hid (Below w6.heap.size w6 w7):=⟨hb7.os,hb7.tape,hb7.output,hb7.size,hb7.block⟩;clear hb7 q0F q1F q2F;have kc0:=R7.out.cell (o:=0) rfl;have kp0:=P7.out.cell (o:=0) rfl;have kc1:=R7.out.cell (o:=1) rfl;have kp1:=P7.out.cell (o:=1) rfl;have kc2:=R7.out.cell (o:=2) rfl;have kp2:=P7.out.cell (o:=2) rfl)|(go_at_call 15;refine(eqProg_g n0B n0F n1B n1F n2B n2F _ _ _ _ _ _ w2.heap.size w3.heap.size w6.heap.size w7.heap.size x w7 hf.out (Q0E.out.keep (HB7.out.mono (by have e1:=SA.out;have e2:=S2.out;have e3:=SB.out;have e4:=S4.out;have e5:=S5.out;have e6:=S6.out;omega))) (Q1E.out.keep (HB7.out.mono (by have e1:=SA.out;have e2:=S2.out;have e3:=SB.out;have e4:=S4.out;have e5:=S5.out;have e6:=S6.out;omega))) (Q2E.out.keep (HB7.out.mono (by have e1:=SA.out;have e2:=S2.out;have e3:=SB.out;have e4:=S4.out;have e5:=S5.out;have e6:=S6.out;omega))) Q0F.out Q1F.out Q2F.out (by have e1:=SA.out;have e2:=S2.out;have e3:=SB.out;have e4:=S4.out;have e5:=S5.out;have e6:=S6.out;omega) (Nat.le_refl _)).mono ?_;rintro e w8 ⟨rfl,hb8⟩;have s8:=hb8.size;have B8:=hide (B7.out.trans (hb8.mono B7.out.size));have R8:=hide (R7.out.below hb8 R7.out.lt);have P8:=hide (P7.out.below hb8 P7.out.lt);have HB8:=hide (HB7.out.trans (hb8.mono s7b));clear hb8;have kc0:=R8.out.cell (o:=0) rfl;have kp0:=P8.out.cell (o:=0) rfl;have kc1:=R8.out.cell (o:=1) rfl;have kp1:=P8.out.cell (o:=1) rfl;have kc2:=R8.out.cell (o:=2) rfl;have kp2:=P8.out.cell (o:=2) rfl)))
  rename_i hHeld
  clear hHeld
  clear kc0 kc1 kc2
  clear kp0 kp1 kp2
  have T8:=hide (T6.out.keep (HB8.out.mono (by have e1:=SA.out;have e2:=S2.out;have e3:=SB.out;have e4:=S4.out;have e5:=S5.out;have e6:=S6.out;omega)))
  have G8:=hide (G6.out.keep (HB8.out.mono (by have e1:=SA.out;have e2:=S2.out;have e3:=SB.out;have e4:=S4.out;have e5:=S5.out;have e6:=S6.out;omega)))
  have Q0G:=hide (Q0E.out.keep (HB8.out.mono (by have e1:=SA.out;have e2:=S2.out;have e3:=SB.out;have e4:=S4.out;have e5:=S5.out;have e6:=S6.out;omega)))
  have Q1G:=hide (Q1E.out.keep (HB8.out.mono (by have e1:=SA.out;have e2:=S2.out;have e3:=SB.out;have e4:=S4.out;have e5:=S5.out;have e6:=S6.out;omega)))
  have Q2G:=hide (Q2E.out.keep (HB8.out.mono (by have e1:=SA.out;have e2:=S2.out;have e3:=SB.out;have e4:=S4.out;have e5:=S5.out;have e6:=S6.out;omega)))
  clear Q0F Q0E Q0D Q0C Q0B Q0A Q1F Q1E Q1D Q1C Q1B Q1A Q2F Q2E Q2D Q2C Q2B Q2A
  have kp0:=P8.out.cell (o:=0) rfl
  have kp1:=P8.out.cell (o:=1) rfl
  have kp2:=P8.out.cell (o:=2) rfl
  go_wp2_with fail
  refine(markProg_m n0B _ n1B _ n2B _ w2.heap.size w3.heap.size x 1 w8 hf.out (by omega) (by omega) Q0G.out.shapeG Q1G.out.shapeG Q2G.out.shapeG (by have e1:=SA.out;have e2:=S2.out;have e3:=SB.out;have e4:=S4.out;have e5:=S5.out;have e6:=S6.out;have e7:=HB8.out.size;omega)).mono ?_
  rintro e w9 ⟨r9,rfl,r91,r92,hm⟩
  have S9:=hide hm.size
  have T9:=hide (T8.out.same (fun g _ h2=>hm.out g (by have e1:=SA.out;have e2:=S2.out;have e3:=SB.out;have e4:=S4.out;have e5:=S5.out;have e6:=S6.out;have e7:=HB8.out.size;omega) (.inl h2)))
  have G9:=hide (G8.out.same (fun g h1 h2=>hm.out g (by have e1:=SA.out;have e2:=S2.out;have e3:=SB.out;have e4:=S4.out;have e5:=S5.out;have e6:=S6.out;have e7:=HB8.out.size;omega) (.inr (by have e1:=SA.out;have e2:=S2.out;have e3:=SB.out;have e4:=S4.out;have e5:=S5.out;have e6:=S6.out;have e7:=HB8.out.size;omega))))
  have B9:=hide (B8.out.trans (hm.below B2.out.size B8.out.size))
  have R9:=hide (R8.out.marks hm (.inl (by have:=R2.out.lt;omega)))
  clear hm Q0G Q1G Q2G
  clear kp0 kp1 kp2
  have d9:decide (r9<0)=false:=by simp;omega
  go_wp2_with fail
  refine(eqStk_g ag5 at2 cg5 ct2 w4.heap.size w5.heap.size w1.heap.size w2.heap.size n st w9 HBd.out G9.out T9.out (by have e1:=SA.out;have e2:=S2.out;have e3:=SB.out;have e4:=S4.out;have e5:=S5.out;have e6:=S6.out;have e7:=HB8.out.size;have e9:=S9.out;omega) (by have e1:=SA.out;have e2:=S2.out;have e3:=SB.out;have e4:=S4.out;have e5:=S5.out;have e6:=S6.out;have e7:=HB8.out.size;have e9:=S9.out;omega)).mono ?_
  rintro e w10 ⟨rfl,hb⟩
  have S10:=hide hb.size
  have B10:=hide (B9.out.trans (hb.mono B9.out.size))
  have R10:=hide (R9.out.below hb R9.out.lt)
  have T10:=hide (T9.out.keep (hb.mono (by have e1:=SA.out;have e2:=S2.out;have e3:=SB.out;have e4:=S4.out;have e5:=S5.out;have e6:=S6.out;have e7:=HB8.out.size;have e9:=S9.out;omega)))
  have G10:=hide (G9.out.keep (hb.mono (by have e1:=SA.out;have e2:=S2.out;have e3:=SB.out;have e4:=S4.out;have e5:=S5.out;have e6:=S6.out;have e7:=HB8.out.size;have e9:=S9.out;omega)))
  clear hb
  go_wp2_with fail
  refine(markFieldSS_m ag5 cg5 n w4.heap.size w5.heap.size st 1 w10 HBd.out.1 HBd.out.2 (by omega) (by omega) (G10.out.2 rfl)).mono ?_
  rintro e w11 ⟨rfl,hm,hmk⟩
  have S11:=hide hm.size
  have T11:=hide (T10.out.same (fun g _ h2=>hm.out g (by have e1:=SA.out;have e2:=S2.out;have e3:=SB.out;have e4:=S4.out;have e5:=S5.out;have e6:=S6.out;have e7:=HB8.out.size;have e9:=S9.out;have e10:=S10.out;omega) (.inl (by have e1:=SA.out;have e2:=S2.out;have e3:=SB.out;have e4:=S4.out;have e5:=S5.out;have e6:=S6.out;have e7:=HB8.out.size;have e9:=S9.out;have e10:=S10.out;omega))))
  have M11:=hide hmk
  have B11:=hide (B10.out.trans (hm.below (by have:=B4.out.size;omega) B10.out.size))
  have R11:=hide (R10.out.marks hm (.inl (by have:=R4.out.lt;omega)))
  clear hm hmk G10
  obtain⟨tot,htot⟩:∃t:Int,1+3*(cumL st n:Int)=t:=⟨_,rfl⟩
  rw[htot]
  have HTt:=hide htot
  have d11:¬(tot<0):=by omega
  clear htot
  go_wp2_with fail
  refine(heldFieldSS_m ag5 cg5 n w4.heap.size w5.heap.size st 1 w11 HBd.out.1 HBd.out.2 (by omega) (by omega) (by have e1:=SA.out;have e2:=S2.out;have e3:=SB.out;have e4:=S4.out;have e5:=S5.out;have e6:=S6.out;have e7:=HB8.out.size;have e9:=S9.out;have e10:=S10.out;have e11:=S11.out;omega) M11.out).mono ?_
  rintro e w12 ⟨rfl,hb⟩
  rw[HTt.out]
  have S12:=hide hb.size
  have B12:=hide (B11.out.trans (hb.mono B11.out.size))
  have R12:=hide (R11.out.below hb R11.out.lt)
  have T12:=hide (T11.out.keep (hb.mono (by have e1:=SA.out;have e2:=S2.out;have e3:=SB.out;have e4:=S4.out;have e5:=S5.out;have e6:=S6.out;have e7:=HB8.out.size;have e9:=S9.out;have e10:=S10.out;have e11:=S11.out;omega)))
  have M12:=hide (M11.out.keep (hb.mono (by have e1:=SA.out;have e2:=S2.out;have e3:=SB.out;have e4:=S4.out;have e5:=S5.out;have e6:=S6.out;have e7:=HB8.out.size;have e9:=S9.out;have e10:=S10.out;have e11:=S11.out;omega)))
  clear hb
  have kc0:=R12.out.cell (o:=0) rfl
  have kc1:=R12.out.cell (o:=1) rfl
  have kc2:=R12.out.cell (o:=2) rfl
  go_wp2_with fail
  refine(toProg_any a0 c0 a1 c1 a2 c2 0 w.heap.size x _ hf.out (X0.out.keep B12.out) (X1.out.keep B12.out) (X2.out.keep B12.out) B12.out.size).mono ?_
  rintro e w13 ⟨n0H,n1H,n2H,rfl,q0H,q1H,q2H,hb⟩
  have Q0H:=hide q0H
  have Q1H:=hide q1H
  have Q2H:=hide q2H
  have SH:=hide hb.size
  have B13:=hide (B12.out.trans (hb.mono B12.out.size))
  have T13:=hide (T12.out.keep (hb.mono (by have e1:=SA.out;have e2:=S2.out;have e3:=SB.out;have e4:=S4.out;have e5:=S5.out;have e6:=S6.out;have e7:=HB8.out.size;have e9:=S9.out;have e10:=S10.out;have e11:=S11.out;have e12:=S12.out;omega)))
  have M13:=hide (M12.out.keep (hb.mono (by have e1:=SA.out;have e2:=S2.out;have e3:=SB.out;have e4:=S4.out;have e5:=S5.out;have e6:=S6.out;have e7:=HB8.out.size;have e9:=S9.out;have e10:=S10.out;have e11:=S11.out;have e12:=S12.out;omega)))
  clear hb q0H q1H q2H
  clear kc0 kc1 kc2
  go_wp2_with fail
  refine(HIm.out n0H n1H n2H w12.heap.size w13.heap.size w13 Q0H.out Q1H.out Q2H.out (pow10_keep HP.out B13.out) (Nat.le_refl _)).mono ?_
  rintro e w14 ⟨ah,ch,rfl,hg14,hb⟩
  have G14:=hide hg14
  have S14:=hide hb.size
  have B14:=hide (B13.out.trans (hb.mono B13.out.size))
  have T14:=hide (T13.out.keep (hb.mono (by have e1:=SA.out;have e2:=S2.out;have e3:=SB.out;have e4:=S4.out;have e5:=S5.out;have e6:=S6.out;have e7:=HB8.out.size;have e9:=S9.out;have e10:=S10.out;have e11:=S11.out;have e12:=S12.out;have e13:=SH.out;omega)))
  have M14:=hide (M13.out.keep (hb.mono (by have e1:=SA.out;have e2:=S2.out;have e3:=SB.out;have e4:=S4.out;have e5:=S5.out;have e6:=S6.out;have e7:=HB8.out.size;have e9:=S9.out;have e10:=S10.out;have e11:=S11.out;have e12:=S12.out;have e13:=SH.out;omega)))
  clear hb hg14
  go_wp2_with fail
  refine(eqStk_g ah at2 ch ct2 w13.heap.size w14.heap.size w1.heap.size w2.heap.size n st w14 HBd.out G14.out T14.out (Nat.le_refl _) (by have e1:=SA.out;have e2:=S2.out;have e3:=SB.out;have e4:=S4.out;have e5:=S5.out;have e6:=S6.out;have e7:=HB8.out.size;have e9:=S9.out;have e10:=S10.out;have e11:=S11.out;have e12:=S12.out;have e13:=SH.out;have e14:=S14.out;omega)).mono ?_
  rintro e w15 ⟨rfl,hb⟩
  have S15:=hide hb.size
  have B15:=hide (B14.out.trans (hb.mono B14.out.size))
  have M15:=hide (M14.out.keep (hb.mono (by have e1:=SA.out;have e2:=S2.out;have e3:=SB.out;have e4:=S4.out;have e5:=S5.out;have e6:=S6.out;have e7:=HB8.out.size;have e9:=S9.out;have e10:=S10.out;have e11:=S11.out;have e12:=S12.out;have e13:=SH.out;have e14:=S14.out;omega)))
  clear hb
  go_wp2_with fail
  refine(heldFieldSS_m ag5 cg5 n w4.heap.size w5.heap.size st 1 w15 HBd.out.1 HBd.out.2 (by omega) (by omega) (by have e1:=SA.out;have e2:=S2.out;have e3:=SB.out;have e4:=S4.out;have e5:=S5.out;have e6:=S6.out;have e7:=HB8.out.size;have e9:=S9.out;have e10:=S10.out;have e11:=S11.out;have e12:=S12.out;have e13:=SH.out;have e14:=S14.out;have e15:=S15.out;omega) M15.out).mono ?_
  rintro e w16 ⟨rfl,hb⟩
  rw[HTt.out]
  have B16:=hide (B15.out.trans (hb.mono B15.out.size))
  clear hb
  go_wp2_with fail
  go_ret
  exact⟨rfl,B16.out⟩
theorem fnExactCheckStacks_walk (a0 a1 a2:Option Addr) (c0 c1 c2:Nat) (x:GProg) (f:Int) (_:(Lit.int .i64 f).wf=true) (w:World) (hlx:ProgB 9223372036854775807 x) (hx:PM false w 0 w.heap.size a0 a1 a2 x) (hp:pow10 w) :
    Calls Tryz.prog 4 #[.agg #[.slice a0 x.types.length c0,.slice a1 x.glob.length c1,.slice a2 x.funs.length c2],.int .i64 f] w fun e w'=>e=.returned (.bool true)∧Below w.heap.size w w' :=
  fnExactCheckStacks_walk0 a0 c0 a1 c1 a2 c2 x f w hlx hx.1 hx.2.1 hx.2.2 hp
end Go.Proofs.YtpaneomkphjpcaaGreatDoor
