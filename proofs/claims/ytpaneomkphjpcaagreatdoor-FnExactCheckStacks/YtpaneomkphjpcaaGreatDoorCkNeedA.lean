/- What an instruction takes and gives, as the model tells it: all of them. -/
import Derived.Test.YtpaneomkphjpcaaGreatDoorPcMath
import Derived.Test.YtpaneomkphjpcaaGreatDoorCkNeed8
namespace Go.Proofs.YtpaneomkphjpcaaGreatDoor
open Go.ChangeShapes Go.WideShapes Go.ChangeAt Go.RowKit
set_option linter.unusedVariables false
set_option linter.unusedSimpArgs false
def NeedsP (w:World) (p:GProg) (k:Nat) (st:List Fd) (i:GIns) (e:Ending) (w':World):Prop :=
 ∃T G,NeedPost w T G (ruleN p k i) e w'∧T.length≤1000∧G.length≤1000∧(ruleN p k i=true→T=needT p k st i∧G=needG p k st i)
theorem NeedsP.of {w:World} {p:GProg} {k:Nat} {st:List Fd} {i:GIns} {e:Ending} {w':World} {T G:List Fd} {nm:Bool} (h:NeedPost w T G nm e w') (hn:nm=ruleN p k i) (l:T.length≤1000∧G.length≤1000) (hT:ruleN p k i=true→T=needT p k st i∧G=needG p k st i):NeedsP w p k st i e w' :=
 ⟨T,G,hn▸h,l.1,l.2,hT⟩
theorem needT_ne {p:GProg} {k:Nat} {st:List Fd} {i:GIns} (h:i.op≠6):ruleT p k (lastFd st) i=needT p k st i:=(if_neg h).symm
theorem needG_ne {p:GProg} {k:Nat} {st:List Fd} {i:GIns} (h:i.op≠24):ruleG p k (lastFd st) i=needG p k st i:=(if_neg (fun e=>h e.1)).symm
theorem plT_len (fs:List Fd) (n:Int) (b:Bool):(plT fs n b).length≤1000:=by
 unfold plT;split<;>(try split)<;>simp
theorem plT_true {fs:List Fd} {n:Int}:plT fs n true=[]:=by unfold plT;split<;>rfl
theorem plT_false {fs:List Fd} {n:Int} (h:n<(fs.length:Int)):plT fs n false=[plFd fs n]:=by unfold plT plFd;rw[if_pos h,if_pos h];rfl
theorem tyIs_at {gs:List (List Ty)} {k:Nat} (hk:k<kinCount gs) (q:Int):tyIs gs (k:Int) q=decide ((tyAt (flat gs) k).kind=q)∧tyF gs (k:Int)=tyAt (flat gs) k:=by
 have h:isTypeF gs (k:Int)=true:=by unfold isTypeF;simp;exact hk
 refine⟨?_,?_⟩
 ·unfold tyIs tyN;rw[h,Bool.true_and,Int.toNat_natCast]
 ·unfold tyF tyN;rw[h,if_pos rfl,Int.toNat_natCast]
theorem tyIs_none {gs:List (List Ty)} {k:Nat} (hk:kinCount gs≤k) (q:Int):tyIs gs (k:Int) q=false:=by
 unfold tyIs isTypeF
 rw[decide_eq_false (p:=(k:Int)<(kinCount gs:Int)) (by omega)];simp
theorem box_needs (p:GProg) (k:Nat) (st:List Fd) (op:Int) (z:Nat) (b:Int) (hop:op=13∨op=14∨op=15) (hb:0≤b) (hz:z<kinCount p.types) (lo:Nat) (hl:(tyAt (flat p.types) z).fields.length≤1000) :
  ∃T G nm,(∀W qa qc,FieldsIn W lo W.heap.size qa (tyAt (flat p.types) z).fields→Calls Tryz.prog 120 #[.agg #[.int .i64 (tyAt (flat p.types) z).kind,.int .i64 (tyAt (flat p.types) z).up,.bool (tyAt (flat p.types) z).last,.slice qa (tyAt (flat p.types) z).fields.length qc],.agg #[.int .i64 op,.int .i64 (z:Int),.int .i64 b]] W fun e w'=>NeedPost W T G nm e w') ∧
   nm=ruleN p k ⟨op,z,b⟩∧(T.length≤1000∧G.length≤1000)∧(ruleN p k ⟨op,z,b⟩=true→T=needT p k st ⟨op,z,b⟩∧G=needG p k st ⟨op,z,b⟩):=by
 obtain⟨e1,e2⟩:=tyIs_at hz 1
 have r13:ruleN p k ⟨13,z,b⟩=tyIs p.types z 1:=rfl
 have r14:ruleN p k ⟨14,z,b⟩=bxIs p.types z b:=rfl
 have r15:ruleN p k ⟨15,z,b⟩=(bxIs p.types z b&&(bxF p.types z b).mt):=rfl
 have bi:bxIs p.types z b=(tyIs p.types z 1&&decide (b<((tyF p.types z).fields.length:Int))):=rfl
 by_cases hk:(tyAt (flat p.types) z).kind=1
 ·rw [decide_eq_true hk] at e1
  have bf:bxF p.types z b=plFd (tyF p.types z).fields b:=by unfold bxF;rw[e1,if_pos rfl]
  rcases hop with rfl|hop
  ·refine⟨(tyAt (flat p.types) z).fields.map sOf,[⟨3,z,false⟩],true,fun W qa qc hx=>?_,(by rw[r13,e1]),⟨by rw[List.length_map];exact hl,by simp⟩,fun _=>⟨?_,needG_ne (p:=p) (k:=k) (st:=st) (i:=⟨13,z,b⟩) (show(13:Int)≠24 by decide)⟩⟩
   ·rw[hk];exact l4Box_new _ _ qa qc lo W.heap.size _ _ b W hx (Nat.le_refl _) hl
   ·exact(congrArg (fun t:Ty=>t.fields.map sOf) e2.symm).trans (needT_ne (p:=p) (k:=k) (st:=st) (i:=⟨13,z,b⟩) (show(13:Int)≠6 by decide))
  ·by_cases hlt:b<((tyAt (flat p.types) z).fields.length:Int)
   ·obtain⟨y,rfl⟩:∃y:Nat,b=y:=⟨b.toNat,by omega⟩
    have hy:y<(tyAt (flat p.types) z).fields.length:=by omega
    have hbx:bxIs p.types z (y:Int)=true:=by rw[bi,e1,e2,decide_eq_true hlt];rfl
    have hbf:bxF p.types z (y:Int)=fdAt (tyAt (flat p.types) z).fields y:=by rw[bf,e2];unfold plFd;rw[if_pos hlt,Int.toNat_natCast]
    have hF:∀W qa,FieldsIn W lo W.heap.size qa (tyAt (flat p.types) z).fields→∃fb off,qa=some ⟨fb,off,none⟩∧fb<W.heap.size∧FieldAt W fb (off+y*3) (fdAt (tyAt (flat p.types) z).fields y):=by
     intro W qa hx
     rcases hx with h0|⟨fb,off,h1,h2,h3,h4⟩
     ·rw[h0] at hy;exact absurd hy (Nat.not_lt_zero _)
     ·exact⟨fb,off,h1,h3,h4 y hy⟩
    rcases hop with rfl|rfl
    ·refine⟨[⟨2,z,false⟩],[⟨(fdAt (tyAt (flat p.types) z).fields y).kind,(fdAt (tyAt (flat p.types) z).fields y).of,false⟩],true,fun W qa qc hx=>?_,(by rw[r14,hbx]),⟨by simp,by simp⟩,fun _=>⟨needT_ne (p:=p) (k:=k) (st:=st) (i:=⟨14,z,y⟩) (show(14:Int)≠6 by decide),?_⟩⟩
     ·obtain⟨fb,off,rfl,h1,h2⟩:=hF W qa hx
      rw[hk];exact l4Box_look _ _ fb off qc y _ _ _ W hy h1 h2
     ·exact(congrArg (fun t:Fd=>[sOf t]) hbf.symm).trans (needG_ne (p:=p) (k:=k) (st:=st) (i:=⟨14,z,y⟩) (show(14:Int)≠24 by decide))
    ·refine⟨[⟨2,z,false⟩,⟨(fdAt (tyAt (flat p.types) z).fields y).kind,(fdAt (tyAt (flat p.types) z).fields y).of,false⟩],[],(fdAt (tyAt (flat p.types) z).fields y).mt,fun W qa qc hx=>?_,(by rw[r15,hbx,hbf];rfl),⟨by simp,by simp⟩,fun _=>⟨?_,needG_ne (p:=p) (k:=k) (st:=st) (i:=⟨15,z,y⟩) (show(15:Int)≠24 by decide)⟩⟩
     ·obtain⟨fb,off,rfl,h1,h2⟩:=hF W qa hx
      rw[hk];exact l4Box_put _ _ fb off qc y _ _ _ W hy h1 h2
     ·exact(congrArg (fun t:Fd=>[rF z,sOf t]) hbf.symm).trans (needT_ne (p:=p) (k:=k) (st:=st) (i:=⟨15,z,y⟩) (show(15:Int)≠6 by decide))
   ·have hbx:bxIs p.types z b=false:=by rw[bi,e2,decide_eq_false hlt,Bool.and_false]
    have hn:false=ruleN p k ⟨op,z,b⟩:=by rcases hop with rfl|rfl<;>first|rw[r14,hbx]|rw[r15,hbx,Bool.false_and]
    refine⟨[],[],false,fun W qa qc hx=>l4Box_none _ _ _ qa _ qc op _ b W (.inr ⟨by omega,by omega⟩),hn,⟨by simp,by simp⟩,fun h=>by rw[←hn] at h;cases h⟩
 ·rw[decide_eq_false hk] at e1
  have hbx:bxIs p.types z b=false:=by rw[bi,e1,Bool.false_and]
  have hn:false=ruleN p k ⟨op,z,b⟩:=by rcases hop with rfl|rfl|rfl<;>first|rw[r13,e1]|rw[r14,hbx]|rw[r15,hbx,Bool.false_and]
  exact⟨[],[],false,fun W qa qc hx=>l4Box_none _ _ _ qa _ qc op _ b W (.inl hk),hn,⟨by simp,by simp⟩,fun h=>by rw[←hn] at h;cases h⟩
theorem row_needs (p:GProg) (k:Nat) (st:List Fd) (hP:Parts p.types) (op:Int) (z:Nat) (b:Int) (hop:op=16∨op=17∨op=18∨op=19) (hz:z<kinCount p.types) (lo:Nat) :
  ∃T G nm,(∀W qa qc,FieldsIn W lo W.heap.size qa (tyAt (flat p.types) z).fields→Calls Tryz.prog 121 #[.agg #[.int .i64 (tyAt (flat p.types) z).kind,.int .i64 (tyAt (flat p.types) z).up,.bool (tyAt (flat p.types) z).last,.slice qa (tyAt (flat p.types) z).fields.length qc],.agg #[.int .i64 op,.int .i64 (z:Int),.int .i64 b]] W fun e w'=>NeedPost W T G nm e w') ∧
   nm=ruleN p k ⟨op,z,b⟩∧(T.length≤1000∧G.length≤1000)∧(ruleN p k ⟨op,z,b⟩=true→T=needT p k st ⟨op,z,b⟩∧G=needG p k st ⟨op,z,b⟩):=by
 obtain⟨e1,e2⟩:=tyIs_at hz 2
 have r16:ruleN p k ⟨16,z,b⟩=tyIs p.types z 2:=rfl
 have r17:ruleN p k ⟨17,z,b⟩=tyIs p.types z 2:=rfl
 have r18:ruleN p k ⟨18,z,b⟩=(tyIs p.types z 2&&(rwF p.types z).mt):=rfl
 have r19:ruleN p k ⟨19,z,b⟩=tyIs p.types z 2:=rfl
 by_cases hk:(tyAt (flat p.types) z).kind=2
 ·rw[decide_eq_true hk] at e1
  have hrw:rwF p.types z=fdAt (tyAt (flat p.types) z).fields 0:=by unfold rwF;rw[e1,if_pos rfl,e2]
  have hl1:=tyIs_len hP e1
  rw[e2] at hl1
  refine⟨rowTm (fdAt (tyAt (flat p.types) z).fields 0) op z,rowGm (fdAt (tyAt (flat p.types) z).fields 0) op z,rowNm (fdAt (tyAt (flat p.types) z).fields 0) op,fun W qa qc hx=>?_,?_,?_,?_⟩
  ·rcases hx with h0|⟨fb,off,rfl,h2,h3,h4⟩
   ·rw[h0] at hl1;cases hl1
   ·obtain⟨f0,f1,f2⟩:=h4 0 (by omega)
    simp only[Nat.zero_mul,Nat.add_zero] at f0 f1 f2
    rw[hk]
    generalize fdAt (tyAt (flat p.types) z).fields 0=f at f0 f1 f2 ⊢
    obtain⟨fk,fo,fm⟩:=f
    exact l4Row_any _ _ fb off _ qc fk fo fm op _ b W (by omega) h3 f0 f1 f2 hop
  ·rcases hop with rfl|rfl|rfl|rfl
   ·rw[r16,e1];rfl
   ·rw[r17,e1];rfl
   ·rw[r18,e1,hrw];rfl
   ·rw[r19,e1];rfl
  ·rcases hop with rfl|rfl|rfl|rfl<;>exact⟨Nat.le_of_ble_eq_true rfl,Nat.le_of_ble_eq_true rfl⟩
  ·intro _
   rcases hop with rfl|rfl|rfl|rfl
   ·exact⟨(congrArg (fun t:Fd=>[nF,sOf t]) hrw.symm).trans (needT_ne (p:=p) (k:=k) (st:=st) (i:=⟨16,z,b⟩) (show(16:Int)≠6 by decide)),needG_ne (p:=p) (k:=k) (st:=st) (i:=⟨16,z,b⟩) (show(16:Int)≠24 by decide)⟩
   ·exact⟨needT_ne (p:=p) (k:=k) (st:=st) (i:=⟨17,z,b⟩) (show(17:Int)≠6 by decide),(congrArg (fun t:Fd=>[sOf t]) hrw.symm).trans (needG_ne (p:=p) (k:=k) (st:=st) (i:=⟨17,z,b⟩) (show(17:Int)≠24 by decide))⟩
   ·exact⟨(congrArg (fun t:Fd=>[rF z,nF,sOf t]) hrw.symm).trans (needT_ne (p:=p) (k:=k) (st:=st) (i:=⟨18,z,b⟩) (show(18:Int)≠6 by decide)),needG_ne (p:=p) (k:=k) (st:=st) (i:=⟨18,z,b⟩) (show(18:Int)≠24 by decide)⟩
   ·exact⟨needT_ne (p:=p) (k:=k) (st:=st) (i:=⟨19,z,b⟩) (show(19:Int)≠6 by decide),needG_ne (p:=p) (k:=k) (st:=st) (i:=⟨19,z,b⟩) (show(19:Int)≠24 by decide)⟩
 ·rw[decide_eq_false hk] at e1
  have hn:false=ruleN p k ⟨op,z,b⟩:=by rcases hop with rfl|rfl|rfl|rfl<;>first|rw[r16,e1]|rw[r17,e1]|rw[r18,e1,Bool.false_and]|rw[r19,e1]
  exact⟨[],[],false,fun W qa qc hx=>l4Row_none _ _ _ qa _ qc op _ b W hk,hn,⟨by simp,by simp⟩,fun h=>by rw[←hn] at h;cases h⟩
set_option maxHeartbeats 4000000 in
theorem needs_any {md:Bool} (ra ga fa sa:Option Addr) (rc cg cf sc lo hi lo1 hi1 k:Nat) (p:GProg) (st:List Fd) (i:GIns) (w:World) (hF:PF p) (hB:ProgB 1048576 p) (hx:PM md w lo hi ra ga fa p) (hl:lo≤hi) (hh:hi≤w.heap.size) (hk:k<p.funs.length)
  (hio:insOk i.op i.a i.b=true) (hs:FieldsIn w lo1 hi1 sa st) (hh1:hi1≤w.heap.size) (hn:st.length≤1000) :
  Calls Tryz.prog 61 #[.agg #[.slice ra p.types.length rc,.slice ga p.glob.length cg,.slice fa p.funs.length cf],.int .i64 (k:Int),.slice sa st.length sc,.agg #[.int .i64 i.op,.int .i64 i.a,.int .i64 i.b]] w fun e w'=>NeedsP w p k st i e w':=by
 obtain⟨op,a,b⟩:=i
 obtain⟨⟨g1,g2⟩,g3,g4,g5,g6,g7⟩:=ins_bounds hio
 simp only at g1 g2 g3 g4 g5 g6 g7 ⊢
 obtain⟨x0,x1,x2⟩:=hx
 have hN:Few p.types:=hB.1
 have hFB:=hB.2.2.2 k hk
 have hfu:=x2
 rcases hfu with h0|⟨fb,off,rfl,z1,z2,_,z3⟩
 ·rw[h0] at hk;exact absurd hk (Nat.not_lt_zero _)
 have hf:fb<w.heap.size:=by omega
 obtain⟨a0,c0,a4,c4,a5,c5,y0,y1,y2,y3,y4,y5,m0,m4,m5⟩:=z3 k hk
 have hP:=hF.pa
 have hop:(op=12∨op=22∨op=23)∨(op=24)∨(op=25∨op=26)∨(op=29)∨(op=2∨op=3)∨(op=4∨op=5)∨(op=13∨op=14∨op=15)∨(op=16∨op=17∨op=18∨op=19)∨(op=27∨op=28)∨(op=1∨op=6∨op=7∨op=8∨op=9∨op=10∨op=11∨op=20∨op=21∨op=30∨op=31∨op=32∨op=33):=by omega
 clear hio g1 g2
 rcases hop with hop|rfl|hop|rfl|hop|hop|hop|hop|hop|hop
 ·have er:decide (a<(kinCount p.types:Int))=isRefF p.types a:=by unfold isRefF;rw[decide_eq_true g3,Bool.true_and]
  rcases hop with rfl|rfl|rfl
  ·exact(l4Needs_null ra ga a0 a4 a5 sa rc cg p.funs.length cf fb off k c0 c4 c5 lo hi sc 0 0 p.types p.glob (funAt' p.funs k) st a b w hk hf hh hn ⟨y0,y1,y2,y3,y4,y5⟩ hN x0.1).mono fun e w' h=>NeedsP.of h er ⟨by simp,by simp⟩ (fun _=>⟨needT_ne (p:=p) (k:=k) (st:=st) (i:=⟨12,a,b⟩) (show(12:Int)≠6 by decide),needG_ne (p:=p) (k:=k) (st:=st) (i:=⟨12,a,b⟩) (show(12:Int)≠24 by decide)⟩)
  ·exact(l4Needs_test ra ga a0 a4 a5 sa rc cg p.funs.length cf fb off k c0 c4 c5 lo hi sc 0 0 p.types p.glob (funAt' p.funs k) st a b w hk hf hh hn ⟨y0,y1,y2,y3,y4,y5⟩ hN x0.1).mono fun e w' h=>NeedsP.of h er ⟨by simp,by simp⟩ (fun _=>⟨needT_ne (p:=p) (k:=k) (st:=st) (i:=⟨22,a,b⟩) (show(22:Int)≠6 by decide),needG_ne (p:=p) (k:=k) (st:=st) (i:=⟨22,a,b⟩) (show(22:Int)≠24 by decide)⟩)
  ·exact(l4Needs_cast ra ga a0 a4 a5 sa rc cg p.funs.length cf fb off k c0 c4 c5 lo hi sc 0 0 p.types p.glob (funAt' p.funs k) st a b w hk hf hh hn ⟨y0,y1,y2,y3,y4,y5⟩ hN x0.1).mono fun e w' h=>NeedsP.of h er ⟨by simp,by simp⟩ (fun _=>⟨needT_ne (p:=p) (k:=k) (st:=st) (i:=⟨23,a,b⟩) (show(23:Int)≠6 by decide),needG_ne (p:=p) (k:=k) (st:=st) (i:=⟨23,a,b⟩) (show(23:Int)≠24 by decide)⟩)
 ·by_cases h0:st.length=0
  ·exact(l4Needs_sure0 ra ga a0 a4 a5 sa rc cg p.funs.length cf fb off k c0 c4 c5 lo hi sc 0 0 p.types p.glob (funAt' p.funs k) st a b w hk hf hh hn ⟨y0,y1,y2,y3,y4,y5⟩ h0).mono fun e w' h=>NeedsP.of h rfl ⟨by simp,by simp⟩ (fun _=>⟨needT_ne (p:=p) (k:=k) (st:=st) (i:=⟨24,a,b⟩) (show(24:Int)≠6 by decide),(if_pos ⟨rfl,h0⟩).symm⟩)
  ·obtain⟨m,hm⟩:∃m,st.length=m+1:=⟨st.length-1,by omega⟩
   rcases hs with e0|⟨sb,so,rfl,t1,t2,t3⟩
   ·rw[e0] at h0;exact absurd rfl h0
   obtain⟨_,u1,_⟩:=t3 m (by omega)
   have hla:lastFd st=fdAt st m:=by unfold lastFd;rw[hm];rfl
   refine(l4Needs_sure ra ga a0 a4 a5 _ rc cg p.funs.length cf fb off k c0 c4 c5 lo hi sc 0 0 p.types p.glob (funAt' p.funs k) st a b w hk hf hh hn ⟨y0,y1,y2,y3,y4,y5⟩ sb so m _ rfl hm (by omega) u1).mono fun e w' h=>NeedsP.of h rfl ⟨by simp,by simp⟩ (fun _=>⟨needT_ne (p:=p) (k:=k) (st:=st) (i:=⟨24,a,b⟩) (show(24:Int)≠6 by decide),?_⟩)
   rw[show needG p k st ⟨24,a,b⟩=[uF (lastFd st).of] from if_neg (fun e=>h0 e.2),hla];rfl
 ·rcases hop with rfl|rfl
  ·exact(l4Needs_jump ra ga a0 a4 a5 sa rc cg p.funs.length cf fb off k c0 c4 c5 lo hi sc 0 0 p.types p.glob (funAt' p.funs k) st a b w hk hf hh hn ⟨y0,y1,y2,y3,y4,y5⟩).mono fun e w' h=>NeedsP.of h rfl ⟨by simp,by simp⟩ (fun _=>⟨needT_ne (p:=p) (k:=k) (st:=st) (i:=⟨25,a,b⟩) (show(25:Int)≠6 by decide),needG_ne (p:=p) (k:=k) (st:=st) (i:=⟨25,a,b⟩) (show(25:Int)≠24 by decide)⟩)
  ·exact(l4Needs_if ra ga a0 a4 a5 sa rc cg p.funs.length cf fb off k c0 c4 c5 lo hi sc 0 0 p.types p.glob (funAt' p.funs k) st a b w hk hf hh hn ⟨y0,y1,y2,y3,y4,y5⟩).mono fun e w' h=>NeedsP.of h rfl ⟨by simp,by simp⟩ (fun _=>⟨needT_ne (p:=p) (k:=k) (st:=st) (i:=⟨26,a,b⟩) (show(26:Int)≠6 by decide),needG_ne (p:=p) (k:=k) (st:=st) (i:=⟨26,a,b⟩) (show(26:Int)≠24 by decide)⟩)
 ·exact(l4Needs_ret ra ga a0 a4 a5 sa rc cg p.funs.length cf fb off k c0 c4 c5 lo hi sc 0 0 p.types p.glob (funAt' p.funs k) st a b w hk hf hh hn ⟨y0,y1,y2,y3,y4,y5⟩).mono fun e w' h=>NeedsP.of h rfl ⟨by simp,by simp⟩ (fun _=>⟨needT_ne (p:=p) (k:=k) (st:=st) (i:=⟨29,a,b⟩) (show(29:Int)≠6 by decide),needG_ne (p:=p) (k:=k) (st:=st) (i:=⟨29,a,b⟩) (show(29:Int)≠24 by decide)⟩)
 ·have ha:0≤a:=g5 (by omega) (by omega) (by omega)
  have HC:=l4Needs_slot ra ga a0 a4 a5 sa rc cg p.funs.length cf fb off k c0 c4 c5 lo hi sc 0 0 p.types p.glob (funAt' p.funs k) st a b w op hop hk hf hh hn ⟨y0,y1,y2,y3,y4,y5⟩ _ rfl hFB m0.plain m4.plain ha
  rcases hop with rfl|rfl
  ·refine HC.mono fun e w' h=>NeedsP.of h rfl ⟨plT_len _ _ _,plT_len _ _ _⟩ (fun hr=>⟨plT_true.trans (needT_ne (p:=p) (k:=k) (st:=st) (i:=⟨2,a,b⟩) (show(2:Int)≠6 by decide)),(plT_false (of_decide_eq_true hr)).trans (needG_ne (p:=p) (k:=k) (st:=st) (i:=⟨2,a,b⟩) (show(2:Int)≠24 by decide))⟩)
  ·refine HC.mono fun e w' h=>NeedsP.of h rfl ⟨plT_len _ _ _,plT_len _ _ _⟩ (fun hr=>⟨(plT_false (of_decide_eq_true hr)).trans (needT_ne (p:=p) (k:=k) (st:=st) (i:=⟨3,a,b⟩) (show(3:Int)≠6 by decide)),plT_true.trans (needG_ne (p:=p) (k:=k) (st:=st) (i:=⟨3,a,b⟩) (show(3:Int)≠24 by decide))⟩)
 ·have ha:0≤a:=g5 (by omega) (by omega) (by omega)
  have HC:=l4Needs_glob ra ga a0 a4 a5 sa rc cg p.funs.length cf fb off k c0 c4 c5 lo hi sc 0 0 p.types p.glob (funAt' p.funs k) st a b w op hop hk hf hh hn ⟨y0,y1,y2,y3,y4,y5⟩ x1.1 ha
  rcases hop with rfl|rfl
  ·refine HC.mono fun e w' h=>NeedsP.of h rfl ⟨plT_len _ _ _,plT_len _ _ _⟩ (fun hr=>⟨plT_true.trans (needT_ne (p:=p) (k:=k) (st:=st) (i:=⟨4,a,b⟩) (show(4:Int)≠6 by decide)),(plT_false (of_decide_eq_true hr)).trans (needG_ne (p:=p) (k:=k) (st:=st) (i:=⟨4,a,b⟩) (show(4:Int)≠24 by decide))⟩)
  ·refine HC.mono fun e w' h=>NeedsP.of h rfl ⟨plT_len _ _ _,plT_len _ _ _⟩ (fun hr=>⟨(plT_false (of_decide_eq_true hr)).trans (needT_ne (p:=p) (k:=k) (st:=st) (i:=⟨5,a,b⟩) (show(5:Int)≠6 by decide)),plT_true.trans (needG_ne (p:=p) (k:=k) (st:=st) (i:=⟨5,a,b⟩) (show(5:Int)≠24 by decide))⟩)
 ·obtain⟨z,rfl⟩:∃z:Nat,a=z:=⟨a.toNat,by have:=g5 (by omega) (by omega) (by omega);omega⟩
  have hop7:op=13∨op=14∨op=15∨op=16∨op=17∨op=18∨op=19:=by omega
  by_cases hz:z<kinCount p.types
  ·have hf4:(tyAt (flat p.types) z).fields.length≤1000:=Nat.le_trans (parts_flat hP hz).1 (by decide)
   obtain⟨T,G,nm,HC,e1,e2,e3⟩:=box_needs p k st op z b hop g6 hz lo hf4
   exact(l4Needs_thing ra ga a0 a4 a5 sa rc cg p.funs.length cf fb off k c0 c4 c5 lo hi sc 0 0 p.types p.glob (funAt' p.funs k) st z b w op hop7 hk hf hh hn ⟨y0,y1,y2,y3,y4,y5⟩ T G nm (fun W hb=>l4Thing_box ra ga _ rc p.glob.length cg p.funs.length cf z lo hi p.types op b T G nm W hN (x0.1.keep (hb.mono hh)) (Nat.le_trans hh hb.size) hl hz hop HC)).mono fun e w' h=>NeedsP.of h e1 e2 e3
  ·have hn0:false=ruleN p k ⟨op,z,b⟩:=by
    have t:=tyIs_none (gs:=p.types) (k:=z) (by omega) 1
    rcases hop with rfl|rfl|rfl
    ·exact t.symm
    ·show false=(tyIs p.types z 1&&_);rw[t,Bool.false_and]
    ·show false=((tyIs p.types z 1&&_)&&_);rw[t,Bool.false_and,Bool.false_and]
   exact(l4Needs_thing ra ga a0 a4 a5 sa rc cg p.funs.length cf fb off k c0 c4 c5 lo hi sc 0 0 p.types p.glob (funAt' p.funs k) st z b w op hop7 hk hf hh hn ⟨y0,y1,y2,y3,y4,y5⟩ [] [] false (fun W hb=>l4Thing_none ra ga _ rc p.glob.length cg p.funs.length cf z lo hi p.types op b W hN (x0.1.keep (hb.mono hh)) (Nat.le_trans hh hb.size) hl (by omega))).mono fun e w' h=>NeedsP.of h hn0 ⟨by simp,by simp⟩ (fun h=>by rw[←hn0] at h;cases h)
 ·obtain⟨z,rfl⟩:∃z:Nat,a=z:=⟨a.toNat,by have:=g5 (by omega) (by omega) (by omega);omega⟩
  have hop7:op=13∨op=14∨op=15∨op=16∨op=17∨op=18∨op=19:=by omega
  by_cases hz:z<kinCount p.types
  ·obtain⟨T,G,nm,HC,e1,e2,e3⟩:=row_needs p k st hP op z b hop hz lo
   exact(l4Needs_thing ra ga a0 a4 a5 sa rc cg p.funs.length cf fb off k c0 c4 c5 lo hi sc 0 0 p.types p.glob (funAt' p.funs k) st z b w op hop7 hk hf hh hn ⟨y0,y1,y2,y3,y4,y5⟩ T G nm (fun W hb=>l4Thing_row ra ga _ rc p.glob.length cg p.funs.length cf z lo hi p.types op b T G nm W hN (x0.1.keep (hb.mono hh)) (Nat.le_trans hh hb.size) hl hz hop HC)).mono fun e w' h=>NeedsP.of h e1 e2 e3
  ·have hn0:false=ruleN p k ⟨op,z,b⟩:=by
    have t:=tyIs_none (gs:=p.types) (k:=z) (by omega) 2
    rcases hop with rfl|rfl|rfl|rfl
    ·exact t.symm
    ·exact t.symm
    ·show false=(tyIs p.types z 2&&_);rw[t,Bool.false_and]
    ·exact t.symm
   exact(l4Needs_thing ra ga a0 a4 a5 sa rc cg p.funs.length cf fb off k c0 c4 c5 lo hi sc 0 0 p.types p.glob (funAt' p.funs k) st z b w op hop7 hk hf hh hn ⟨y0,y1,y2,y3,y4,y5⟩ [] [] false (fun W hb=>l4Thing_none ra ga _ rc p.glob.length cg p.funs.length cf z lo hi p.types op b W hN (x0.1.keep (hb.mono hh)) (Nat.le_trans hh hb.size) hl (by omega))).mono fun e w' h=>NeedsP.of h hn0 ⟨by simp,by simp⟩ (fun h=>by rw[←hn0] at h;cases h)
 ·obtain⟨z,rfl⟩:∃z:Nat,a=z:=⟨a.toNat,by have:=g5 (by omega) (by omega) (by omega);omega⟩
  by_cases hz:z<p.funs.length
  ·obtain⟨b0,d0,b4,d4,b5,d5,v0,v1,v2,v3,v4,v5,n0,n4,n5⟩:=z3 z hz
   have hl0:(funAt' p.funs z).takes.length≤1048576:=(hB.2.2.2 z hz).1
   have ct:caT p (z:Int)=(funAt' p.funs z).takes:=by unfold caT;rw[if_pos (by omega),Int.toNat_natCast]
   have cg':caG p (z:Int)=[(funAt' p.funs z).gives]:=by unfold caG;rw[if_pos (by omega),Int.toNat_natCast]
   have hl3:(funAt' p.funs z).takes.length≤1000:=Nat.le_trans (hF.fn z hz).tl (by decide)
   have hnn:decide ((z:Int)<(p.funs.length:Int))=true:=decide_eq_true (by omega)
   have K:∀W,Below w.heap.size w W→∀o,W.cell? ⟨fb,o,none⟩=w.cell? ⟨fb,o,none⟩:=fun W hb o=>hb.cell (p:=⟨fb,o,none⟩) hf
   rcases hop with rfl|rfl
   ·exact(l4Needs_call ra ga a0 a4 a5 sa rc cg p.funs.length cf fb off k c0 c4 c5 lo hi sc 0 0 p.types p.glob (funAt' p.funs k) st z b w 27 (.inl rfl) hk hf hh hn ⟨y0,y1,y2,y3,y4,y5⟩ (funAt' p.funs z).takes [(funAt' p.funs z).gives] true (fun W hb=>l4Call_call ra ga b0 b4 b5 p.types.length rc p.glob.length cg p.funs.length cf fb off z d0 _ d4 _ d5 lo hi _ _ _ _ b W hz (Nat.lt_of_lt_of_le hf hb.size) ((K W hb _).trans v0) ((K W hb _).trans v1) ((K W hb _).trans v2) ((K W hb _).trans v3) ((K W hb _).trans v4) ((K W hb _).trans v5) (n0.1.keepB (hb.mono hh)) (Nat.le_trans hh hb.size) hl0)).mono fun e w' h=>NeedsP.of h hnn.symm ⟨hl3,by simp⟩ (fun _=>⟨ct.symm.trans (needT_ne (p:=p) (k:=k) (st:=st) (i:=⟨27,z,b⟩) (show(27:Int)≠6 by decide)),cg'.symm.trans (needG_ne (p:=p) (k:=k) (st:=st) (i:=⟨27,z,b⟩) (show(27:Int)≠24 by decide))⟩)
   ·exact(l4Needs_call ra ga a0 a4 a5 sa rc cg p.funs.length cf fb off k c0 c4 c5 lo hi sc 0 0 p.types p.glob (funAt' p.funs k) st z b w 28 (.inr rfl) hk hf hh hn ⟨y0,y1,y2,y3,y4,y5⟩ (funAt' p.funs z).takes [] true (fun W hb=>l4Call_pass ra ga b0 b4 b5 p.types.length rc p.glob.length cg p.funs.length cf fb off z d0 _ d4 _ d5 lo hi _ _ _ _ b W hz (Nat.lt_of_lt_of_le hf hb.size) ((K W hb _).trans v0) ((K W hb _).trans v1) ((K W hb _).trans v2) ((K W hb _).trans v3) ((K W hb _).trans v4) ((K W hb _).trans v5) (n0.1.keepB (hb.mono hh)) (Nat.le_trans hh hb.size) hl0)).mono fun e w' h=>NeedsP.of h hnn.symm ⟨hl3,by simp⟩ (fun _=>⟨ct.symm.trans (needT_ne (p:=p) (k:=k) (st:=st) (i:=⟨28,z,b⟩) (show(28:Int)≠6 by decide)),needG_ne (p:=p) (k:=k) (st:=st) (i:=⟨28,z,b⟩) (show(28:Int)≠24 by decide)⟩)
  ·have hnn:decide ((z:Int)<(p.funs.length:Int))=false:=decide_eq_false (by omega)
   have hn0:false=ruleN p k ⟨op,z,b⟩:=by rcases hop with rfl|rfl<;>exact hnn.symm
   exact(l4Needs_call ra ga a0 a4 a5 sa rc cg p.funs.length cf fb off k c0 c4 c5 lo hi sc 0 0 p.types p.glob (funAt' p.funs k) st z b w op hop hk hf hh hn ⟨y0,y1,y2,y3,y4,y5⟩ [] [] false (fun W hb=>l4Call_none ra ga _ _ rc _ cg _ cf op _ b W (by omega))).mono fun e w' h=>NeedsP.of h hn0 ⟨by simp,by simp⟩ (fun h=>by rw[←hn0] at h;cases h)
 ·have HC:=l4Needs_plain ra ga a0 a4 a5 sa rc cg p.funs.length cf fb off k c0 c4 c5 lo hi sc 0 0 p.types p.glob (funAt' p.funs k) st a b w op hop hk hf hh hn ⟨y0,y1,y2,y3,y4,y5⟩ (plainT op) (plainG op) true (fun W hb=>l4Plain_any op a b W hop)
  refine HC.mono fun e w' h=>?_
  clear HC
  rcases hop with rfl|rfl|hop
  ·exact NeedsP.of h rfl ⟨Nat.le_of_ble_eq_true rfl,Nat.le_of_ble_eq_true rfl⟩ (fun _=>⟨needT_ne (p:=p) (k:=k) (st:=st) (i:=⟨1,a,b⟩) (show(1:Int)≠6 by decide),needG_ne (p:=p) (k:=k) (st:=st) (i:=⟨1,a,b⟩) (show(1:Int)≠24 by decide)⟩)
  ·exact NeedsP.of h rfl ⟨Nat.le_of_ble_eq_true rfl,Nat.le_of_ble_eq_true rfl⟩ (fun _=>⟨(if_pos rfl).symm,needG_ne (p:=p) (k:=k) (st:=st) (i:=⟨6,a,b⟩) (show(6:Int)≠24 by decide)⟩)
  ·rcases hop with rfl|rfl|rfl|rfl|rfl|rfl|rfl|rfl|rfl|rfl|rfl
   ·exact NeedsP.of h rfl ⟨Nat.le_of_ble_eq_true rfl,Nat.le_of_ble_eq_true rfl⟩ (fun _=>⟨needT_ne (p:=p) (k:=k) (st:=st) (i:=⟨7,a,b⟩) (show(7:Int)≠6 by decide),needG_ne (p:=p) (k:=k) (st:=st) (i:=⟨7,a,b⟩) (show(7:Int)≠24 by decide)⟩)
   ·exact NeedsP.of h rfl ⟨Nat.le_of_ble_eq_true rfl,Nat.le_of_ble_eq_true rfl⟩ (fun _=>⟨needT_ne (p:=p) (k:=k) (st:=st) (i:=⟨8,a,b⟩) (show(8:Int)≠6 by decide),needG_ne (p:=p) (k:=k) (st:=st) (i:=⟨8,a,b⟩) (show(8:Int)≠24 by decide)⟩)
   ·exact NeedsP.of h rfl ⟨Nat.le_of_ble_eq_true rfl,Nat.le_of_ble_eq_true rfl⟩ (fun _=>⟨needT_ne (p:=p) (k:=k) (st:=st) (i:=⟨9,a,b⟩) (show(9:Int)≠6 by decide),needG_ne (p:=p) (k:=k) (st:=st) (i:=⟨9,a,b⟩) (show(9:Int)≠24 by decide)⟩)
   ·exact NeedsP.of h rfl ⟨Nat.le_of_ble_eq_true rfl,Nat.le_of_ble_eq_true rfl⟩ (fun _=>⟨needT_ne (p:=p) (k:=k) (st:=st) (i:=⟨10,a,b⟩) (show(10:Int)≠6 by decide),needG_ne (p:=p) (k:=k) (st:=st) (i:=⟨10,a,b⟩) (show(10:Int)≠24 by decide)⟩)
   ·exact NeedsP.of h rfl ⟨Nat.le_of_ble_eq_true rfl,Nat.le_of_ble_eq_true rfl⟩ (fun _=>⟨needT_ne (p:=p) (k:=k) (st:=st) (i:=⟨11,a,b⟩) (show(11:Int)≠6 by decide),needG_ne (p:=p) (k:=k) (st:=st) (i:=⟨11,a,b⟩) (show(11:Int)≠24 by decide)⟩)
   ·exact NeedsP.of h rfl ⟨Nat.le_of_ble_eq_true rfl,Nat.le_of_ble_eq_true rfl⟩ (fun _=>⟨needT_ne (p:=p) (k:=k) (st:=st) (i:=⟨20,a,b⟩) (show(20:Int)≠6 by decide),needG_ne (p:=p) (k:=k) (st:=st) (i:=⟨20,a,b⟩) (show(20:Int)≠24 by decide)⟩)
   ·exact NeedsP.of h rfl ⟨Nat.le_of_ble_eq_true rfl,Nat.le_of_ble_eq_true rfl⟩ (fun _=>⟨needT_ne (p:=p) (k:=k) (st:=st) (i:=⟨21,a,b⟩) (show(21:Int)≠6 by decide),needG_ne (p:=p) (k:=k) (st:=st) (i:=⟨21,a,b⟩) (show(21:Int)≠24 by decide)⟩)
   ·exact NeedsP.of h rfl ⟨Nat.le_of_ble_eq_true rfl,Nat.le_of_ble_eq_true rfl⟩ (fun _=>⟨needT_ne (p:=p) (k:=k) (st:=st) (i:=⟨30,a,b⟩) (show(30:Int)≠6 by decide),needG_ne (p:=p) (k:=k) (st:=st) (i:=⟨30,a,b⟩) (show(30:Int)≠24 by decide)⟩)
   ·exact NeedsP.of h rfl ⟨Nat.le_of_ble_eq_true rfl,Nat.le_of_ble_eq_true rfl⟩ (fun _=>⟨needT_ne (p:=p) (k:=k) (st:=st) (i:=⟨31,a,b⟩) (show(31:Int)≠6 by decide),needG_ne (p:=p) (k:=k) (st:=st) (i:=⟨31,a,b⟩) (show(31:Int)≠24 by decide)⟩)
   ·exact NeedsP.of h rfl ⟨Nat.le_of_ble_eq_true rfl,Nat.le_of_ble_eq_true rfl⟩ (fun _=>⟨needT_ne (p:=p) (k:=k) (st:=st) (i:=⟨32,a,b⟩) (show(32:Int)≠6 by decide),needG_ne (p:=p) (k:=k) (st:=st) (i:=⟨32,a,b⟩) (show(32:Int)≠24 by decide)⟩)
   ·exact NeedsP.of h rfl ⟨Nat.le_of_ble_eq_true rfl,Nat.le_of_ble_eq_true rfl⟩ (fun _=>⟨needT_ne (p:=p) (k:=k) (st:=st) (i:=⟨33,a,b⟩) (show(33:Int)≠6 by decide),needG_ne (p:=p) (k:=k) (st:=st) (i:=⟨33,a,b⟩) (show(33:Int)≠24 by decide)⟩)
end Go.Proofs.YtpaneomkphjpcaaGreatDoor
