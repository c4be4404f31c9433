/- behind of the program's scope. -/
import Derived.Test.YtpaneomkphjpcaaGreatDoorPcReg
import Derived.Test.YtpaneomkphjpcaaGreatDoorCkDo
import Derived.Test.YtpaneomkphjpcaaGreatDoorPcUp
import Derived.Deep.CutRange
namespace Go.Proofs.YtpaneomkphjpcaaGreatDoor
open Go.ChangeShapes Go.WideShapes Go.ChangeAt Go.RowKit Go.Deep
set_option linter.unusedVariables false
set_option linter.unusedSimpArgs false
def lastFd (st:List Fd):Fd:=fdAt st (st.length-1)
theorem lastFd_nil:lastFd []=⟨0,0,false⟩:=rfl
def ckDo (p:GProg) (k:Nat) (st:List Fd) (i:GIns):List Fd×Int :=
 if ruleN p k i=false then([],1)
 else if st.length<(ruleT p k (lastFd st) i).length then([],2)
 else if(fitsL p.types (st.drop (st.length-(ruleT p k (lastFd st) i).length)) (ruleT p k (lastFd st) i)&&passF p k i.op i.a)=false then([],3)
 else if(decide ((ruleT p k (lastFd st) i).length<st.length)&&(decide (i.op=25∨i.op=28∨i.op=29)||decide (i.op=26)))=true then([],4)
 else if 8<st.length-(ruleT p k (lastFd st) i).length+(ruleG p k (lastFd st) i).length then([],5)
 else(st.take (st.length-(ruleT p k (lastFd st) i).length)++ruleG p k (lastFd st) i,0)
def BehPost (w:World) (k:Nat) (pc:Int) (r:List Fd×Int) (e:Ending) (w':World):Prop :=
 (r.2=0∧∃a c,e=.returned (.tuple #[.slice a r.1.length c,.nilIface])∧FdRow w' w.heap.size (.slice a r.1.length c) r.1) ∨
 (r.2≠0∧e=.returned (.tuple #[.slice none 0 0,faultV k pc r.2]))
theorem takeY {P:Program} {md:Region.Mode} {l:List Oper} {Q:Exit→Act→World→Prop} {S:World→Prop} {L:Nat} {i:Nat} {oi:Oper} {v:Value} {fuel:Nat} {listed:Array Bool} {a:Act} {w:World} (hi:l[i]?=some oi) (hs:Region.noSelect l.toArray=true) (hf:Region.free md l.toArray listed i=true) (hr:(Region.ready md l.toArray listed).contains i=true)
  (hQ:∀c a w,Q (.panic c) (a.put oi.dst v) w→Q (.panic c) a w) (hL:waits md l.toArray L i=true) (hS:S w) (hy:YieldsIf P l.toArray S oi v a)
  (h:AnyL P md l.toArray Q S L fuel (listed.setIfInBounds i true) (a.put oi.dst v) w):AnyL P md l.toArray Q S L (fuel+1) listed a w :=
 AnyL.first (by simpa using hi) (Region.noSelect_spec hs) hQ hL fuel listed a w (Region.free_spec (by simpa using hi) hf) (by simpa using hr) hy hS h
theorem FieldsIn.dropAt {w:World} {lo hi sb so m sc:Nat} {st:List Fd} (h:FieldsIn w lo hi (some ⟨sb,so,none⟩) st) (hsc:st.length≤sc):FieldsIn w lo hi (if sc=m then some ⟨sb,so,none⟩ else some ⟨sb,so+m*3,none⟩) (st.drop m):=by
 by_cases hd:st.length≤m
 ·exact .inl (List.drop_eq_nil_of_le hd)
 ·rcases h with rfl|⟨b,off,e,h1,h2,h3⟩
  ·exact absurd (Nat.zero_le _) hd
  ·cases e
   rw[if_neg (by omega)]
   refine .inr ⟨_,_,rfl,h1,h2,fun i hi=>?_⟩
   rw[List.length_drop] at hi
   have:=h3 (m+i) (by omega)
   have e2:fdAt (st.drop m) i=fdAt st (m+i):=by simp[fdAt,List.getElem?_drop,List.getD]
   rw[e2,show so+m*3+i*3=so+(m+i)*3 by omega]
   exact this
theorem FieldsIn.takeL {w:World} {lo hi:Nat} {a:Option Addr} {st:List Fd} (h:FieldsIn w lo hi a st) (m:Nat):FieldsIn w lo hi a (st.take m):=by
 rcases h with rfl|⟨b,off,e,h1,h2,h3⟩
 ·exact .inl (by simp)
 ·refine .inr ⟨b,off,e,h1,h2,fun i hi=>?_⟩
  rw[List.length_take] at hi
  have e2:fdAt (st.take m) i=fdAt st i:=by simp[fdAt,List.getElem?_take,List.getD,show i<m by omega]
  rw[e2]
  exact h3 i (by omega)
theorem SB.two {b c:Nat} {vs iv tv:List Value} {w:World} (h:SB b vs iv tv w) (hc:b+1+1<c) (x y:Value):SB b vs iv tv ((w.setCell ⟨c,0,none⟩ x).setCell ⟨c,1,none⟩ y) :=
 ⟨(h.v.other (by omega) 0 x).other (by omega) 1 y,(h.i.other (by omega) 0 x).other (by omega) 1 y,(h.t.other (by omega) 0 x).other (by omega) 1 y⟩
set_option maxRecDepth 100000 in
set_option maxHeartbeats 4000000 in
theorem rule_enter (o:Nat) (h1:1≤o) (h2:o<34) (fn:FuncId) (h:ruleVs[o]?=some (.func (.func fn) #[] #[])) (args:Array Value) (w:World):(callFunc fn args).run Tryz.prog w=.ok (.enter fn args) w:=by
 obtain rfl|rfl|rfl|rfl|rfl|rfl|rfl|rfl|rfl|rfl|rfl|rfl|rfl|rfl|rfl|rfl|rfl|rfl|rfl|rfl|rfl|rfl|rfl|rfl|rfl|rfl|rfl|rfl|rfl|rfl|rfl|rfl|rfl:o=1∨o=2∨o=3∨o=4∨o=5∨o=6∨o=7∨o=8∨o=9∨o=10∨o=11∨o=12∨o=13∨o=14∨o=15∨o=16∨o=17∨o=18∨o=19∨o=20∨o=21∨o=22∨o=23∨o=24∨o=25∨o=26∨o=27∨o=28∨o=29∨o=30∨o=31∨o=32∨o=33:=by omega
 all_goals (simp[ruleVs] at h;subst h;clear h1 h2;go_simp)
set_option maxHeartbeats 40000000 in
set_option maxRecDepth 100000 in
theorem behind_any (vs:List Value) (lo hi lo1 hi1 k sc:Nat) (p:GProg) (st:List Fd) (sa:Option Addr) (i:GIns) (pc:Int) (w:World) (h:Scp w lo hi p k vs) (hP:Parts p.types) (h1:insOk i.op i.a i.b=true) (hx:FieldsIn w lo1 hi1 sa st) (hh1:hi1≤w.heap.size) (hsc:st.length≤sc) (hn:st.length≤1000) (hl:lo≤w.heap.size)
  (hTl:(ruleT p k (lastFd st) i).length≤1000) (hGl:(ruleG p k (lastFd st) i).length≤1000) :
  Calls Tryz.prog 70 #[.agg vs.toArray,.slice sa st.length sc,.int .i64 pc,.agg #[.int .i64 i.op,.int .i64 i.a,.int .i64 i.b]] w fun e w'=>BehPost w k pc (ckDo p k st i) e w'∧Below w.heap.size w w':=by
 obtain⟨top,htop⟩:∃t,lastFd st=t:=⟨_,rfl⟩
 rw[htop] at hTl hGl
 have HTl:=hide hTl
 have HGl:=hide hGl
 have hb:=ins_bounds h1
 have H:=hide h
 have HP:=hide hP
 obtain⟨fn,hfn,hrule⟩:=rule_call vs lo hi k p i top h1 hP
 have HFN:=hide hfn
 have HRU:=hide hrule
 have hsz:(Tryz.prog.info? 94).map (·.size)=some vs.length:=by rw[h.len];kernel_rfl
 have hpass:ruleN p k i=true→i.op=28→0≤i.a∧i.a<(p.funs.length:Int):=by
  intro e1 e2
  obtain⟨op,ia,ib⟩:=i
  simp only at e1 e2 hb ⊢
  subst e2
  exact⟨hb.2.2.2.1 (by decide) (by decide) (by decide),of_decide_eq_true e1⟩
 have hgl:=h.hh
 have hpl:=h.pl
 clear h hP h1 hfn hrule
 obtain⟨r,hr⟩:∃r,ckDo p k st i=r:=⟨_,rfl⟩
 rw[hr]
 unfold ckDo at hr
 rw[htop] at hr
 generalize ruleT p k top i=T at *
 generalize ruleG p k top i=G at *
 generalize ruleN p k i=nm at *
 obtain⟨op,ia,ib⟩:=i
 obtain⟨⟨o1,o2⟩,o3,o4,o5,o6,o7⟩:=hb
 simp only at o1 o2 o3 o4 o5 o6 o7 HFN HRU hr hpass ⊢
 obtain⟨o,rfl⟩:∃o:Nat,op=o:=⟨op.toNat,by omega⟩
 have HR:=hide hr
 clear hr
 obtain⟨w1,hw1⟩:∃w1,w1=((w.alloc (.cells vs.toArray 94)).alloc (.cells #[.int .i64 (o:Int),.int .i64 ia,.int .i64 ib] 40)).alloc (.cells #[.int .i64 0,.int .i64 0,.bool false] 68):=⟨_,rfl⟩
 have B1:Hid (Below w.heap.size w w1):=by show Below _ _ _;rw[hw1];exact(((Below.refl _ _).alloc (Nat.le_refl _) _).alloc (by simp) _).alloc (by simp;omega) _
 have S1:Hid (SB w.heap.size vs [.int .i64 (o:Int),.int .i64 ia,.int .i64 ib] [.int .i64 0,.int .i64 0,.bool false] w1):=by show SB _ _ _ _ _;rw[hw1];exact⟨((Rec.new _ _ _).alloc _).alloc _,(Rec.new' _ _ _ _ (by simp)).alloc _,Rec.new' _ _ _ _ (by simp)⟩
 go_enter Tryz.func70,Tryz.ntmps70
 go_upto_region 2 with(fail)
 rw[←hw1]
 clear hw1
 have l1:=B1.out.size
 go_upto_if 17 with(fail)
 go_cut [] from 15 to 23 (fun wx=>Hid (SB w.heap.size vs [.int .i64 (o:Int),.int .i64 ia,.int .i64 ib] [.int .i64 top.kind,.int .i64 top.of,.bool top.mt] wx)∧Hid (Below w.heap.size w wx))
 case first =>
  rcases hx with rfl|⟨sb,so,rfl,x1,x2,x3⟩
  ·have et:top=⟨0,0,false⟩:=htop.symm
   have hl0:([]:List Fd).length=0:=rfl
   subst et
   go_wp2_with (fail)
   go_meet
   exact⟨S1,B1⟩
  ·by_cases hne:st=[]
   ·have et:top=⟨0,0,false⟩:=by rw[←htop,hne];rfl
    subst et hne
    go_wp2_with (fail)
    go_meet
    exact⟨S1,B1⟩
   obtain⟨m,hm⟩:∃m,st.length=m+1:=⟨st.length-1,by have:=List.length_pos_iff.2 hne;omega⟩
   have hlt0:0<st.length:=by omega
   obtain⟨y0,y1,y2⟩:=x3 m (by omega)
   have hsbw:sb<w.heap.size:=by omega
   have y0:=(B1.out.cell (p:=⟨sb,so+m*3,none⟩) hsbw).trans y0
   have y1:=(B1.out.cell (p:=⟨sb,so+m*3+1,none⟩) hsbw).trans y1
   have y2:=(B1.out.cell (p:=⟨sb,so+m*3+2,none⟩) hsbw).trans y2
   have etop:fdAt st m=top:=by rw[←htop];unfold lastFd;rw[hm];rfl
   rw[etop] at y0 y1 y2
   have hsb1:sb<w1.heap.size:=by omega
   have c0:=S1.out.t.cell (o:=0) rfl
   have c1:=S1.out.t.cell (o:=1) rfl
   have c2:=S1.out.t.cell (o:=2) rfl
   have f0:=S1.out.t.frozen 0
   have f1:=S1.out.t.frozen 1
   have f2:=S1.out.t.frozen 2
   have j1:(0:Int)<(st.length:Int):=by omega
   have j2:(0:Int)≤(st.length:Int)-1:=by omega
   have j3:(st.length:Int)-1=(m:Int):=by omega
   have j4:(m:Int)<(st.length:Int):=by omega
   generalize st.length=n at *
   go_wp2_with (fail)
   go_meet
   refine⟨?_,?_⟩
   ·exact⟨((S1.out.v.other (by omega) 0 _).other (by omega) 1 _).other (by omega) 2 _,((S1.out.i.other (by omega) 0 _).other (by omega) 1 _).other (by omega) 2 _,((S1.out.t.set 0 _).set 1 _).set 2 _⟩
   ·exact((B1.out.setCell (by simp<;>omega) _).setCell (by simp<;>omega) _).setCell (by simp<;>omega) _
 case rest =>
  obtain⟨S2,B2⟩:=hcut
  clear S1 B1 l1
  have l1:=B2.out.size
  go_upto_region 4 with(fail)
  go_cut [11,12] from 24 to 35 (fun dv nv wx=>∃(ta ga:Option Addr) (tc gc bd:Nat),dv=.pointer (some ⟨bd,0,none⟩)∧nv=.bool (nm)∧w.heap.size≤bd∧Hid (Rec wx bd 160 [.slice ta T.length tc,.slice ga G.length gc])∧Hid (FieldsIn wx lo wx.heap.size ta T)∧Hid (FieldsIn wx lo wx.heap.size ga G)∧Hid (SB w.heap.size vs [.int .i64 (o:Int),.int .i64 ia,.int .i64 ib] [.int .i64 top.kind,.int .i64 top.of,.bool top.mt] wx)∧Hid (Below w.heap.size w wx))
  case first =>
   generalize wc=w1 at *
   have Bd:=hide B2.out.drew
   have SLd:=hide S2.out.drew
   have hK0:=HRU.out w1.drew (H.out.keep (Bd.out.mono H.out.hh)) (by have:=Bd.out.size;simp at this ⊢;omega)
   refine beginA (S:=SB w.heap.size vs [.int .i64 (o:Int),.int .i64 ia,.int .i64 ib] [.int .i64 top.kind,.int .i64 top.of,.bool top.mt]) 14 (by kernel_rfl) SLd.out (fun hHeld=>?_)
   try simp only[Act.put,lA,lB,lC]
   have hfn:=HFN.out w1 (H.out.keep (B2.out.mono H.out.hh))
   rw[Int.toNat_natCast] at hfn
   have ho2:o<34:=by omega
   have ho1:1≤o:=by omega
   have hrv:ruleVs[o]?=some (.func (.func fn) #[] #[]):=(H.out.rul o ho2).symm.trans (by rw[←hfn])
   have ho3:(o:Int)<34:=by omega
   refine tA 0 (v:=?v0n1) ?y0n1 ?r0n1
   case y0n1=>(intro w _;go_simp;try with_reducible rfl)
   (try simp only[Act.put,lA,lB,lC])
   refine tA 1 (v:=?v1n2) ?y1n2 ?r1n2
   case y1n2=>(intro w hSw;have si0:=hSw.i.cell (o:=0) rfl;have si1:=hSw.i.cell (o:=1) rfl;have si2:=hSw.i.cell (o:=2) rfl;have st0:=hSw.t.cell (o:=0) rfl;have st1:=hSw.t.cell (o:=1) rfl;have st2:=hSw.t.cell (o:=2) rfl;have sv:=hSw.v.cell (o:=5+o) hfn;go_simp;try with_reducible rfl)
   (try simp only[Act.put,lA,lB,lC])
   refine tA 2 (v:=?v2n3) ?y2n3 ?r2n3
   case y2n3=>(intro w _;go_simp;try with_reducible rfl)
   (try simp only[Act.put,lA,lB,lC])
   refine tA 3 (v:=?v3n4) ?y3n4 ?r3n4
   case y3n4=>(intro w _;go_simp;first|exact if_pos ho3|exact rfl)
   (try simp only[Act.put,lA,lB,lC])
   refine tA 4 (v:=?v4n5) ?y4n5 ?r4n5
   case y4n5=>(intro w hSw;have si0:=hSw.i.cell (o:=0) rfl;have si1:=hSw.i.cell (o:=1) rfl;have si2:=hSw.i.cell (o:=2) rfl;have st0:=hSw.t.cell (o:=0) rfl;have st1:=hSw.t.cell (o:=1) rfl;have st2:=hSw.t.cell (o:=2) rfl;have sv:=hSw.v.cell (o:=5+o) hfn;go_simp;try with_reducible rfl)
   (try simp only[Act.put,lA,lB,lC])
   refine takeY (i:=5) (v:=.agg vs.toArray) rfl (by kernel_rfl) (by kernel_rfl) (by kernel_rfl) (fun _ _ _ h=>h) (by kernel_rfl) (by assumption) (yieldsIf_load_mid (by rfl) 94 _ rfl w.heap.size 0 rfl vs _ (fun w hS=>hS.v.range) Tryz.underlying94 rfl hsz) ?_
   (try simp only[Act.put,lA,lB,lC])
   refine tA 6 (v:=?v6n6) ?y6n6 ?r6n6
   case y6n6=>(intro w hSw;have si0:=hSw.i.cell (o:=0) rfl;have si1:=hSw.i.cell (o:=1) rfl;have si2:=hSw.i.cell (o:=2) rfl;have st0:=hSw.t.cell (o:=0) rfl;have st1:=hSw.t.cell (o:=1) rfl;have st2:=hSw.t.cell (o:=2) rfl;have sv:=hSw.v.cell (o:=5+o) hfn;go_simp;try with_reducible rfl)
   (try simp only[Act.put,lA,lB,lC])
   refine tA 7 (v:=?v7n7) ?y7n7 ?r7n7
   case y7n7=>(intro w hSw;have si0:=hSw.i.cell (o:=0) rfl;have si1:=hSw.i.cell (o:=1) rfl;have si2:=hSw.i.cell (o:=2) rfl;have st0:=hSw.t.cell (o:=0) rfl;have st1:=hSw.t.cell (o:=1) rfl;have st2:=hSw.t.cell (o:=2) rfl;have sv:=hSw.v.cell (o:=5+o) hfn;go_simp;try with_reducible rfl)
   (try simp only[Act.put,lA,lB,lC])
   refine rA [8,12] ?_
   refine AllL.cons rfl (fun K hK=>?_) ?_
   ·go_simp
    rw[rule_enter o ho1 ho2 fn hrv,Oper.upon_enter]
    refine hK0.mono ?_
    rintro e w2 ⟨ta,tc,ga,gc,rfl,x1,x2,b2⟩
    have B3:=hide (Bd.out.trans (b2.mono Bd.out.size))
    have HH:=hHeld.below b2
    have SL2:=hide HH
    refine hK.out _ _ HH (fun hHeld=>?_)
    clear hK K HH b2 hK0
    (try simp only[Act.put,lA,lB,lC])
    refine tA 9 (v:=?v9n1) ?y9n1 ?r9n1
    case y9n1=>(intro w _;go_simp;try with_reducible rfl)
    (try simp only[Act.put,lA,lB,lC])
    refine tA 10 (v:=?v10n2) ?y10n2 ?r10n2
    case y10n2=>(intro w _;go_simp;try with_reducible rfl)
    (try simp only[Act.put,lA,lB,lC])
    refine tA 11 (v:=?v11n3) ?y11n3 ?r11n3
    case y11n3=>(intro w _;go_simp;try with_reducible rfl)
    (try simp only[Act.put,lA,lB,lC])
    refine oA 12 (fun K hK=>?_)
    go_simp
    refine hK.out _ _ (hHeld.alloc (.cells #[.slice none 0 0,.slice none 0 0] 160)) (fun hHeld=>?_)
    clear hK K
    (try simp only[Act.put,lA,lB,lC])
    refine oA 13 (fun K hK=>?_)
    have EE:Rec (w2.alloc (.cells #[.slice none 0 0,.slice none 0 0] 160)) w2.heap.size 160 [.slice none 0 0,.slice none 0 0]:=Rec.new _ _ _
    have e0:=EE.cell (o:=0) rfl
    have e1:=EE.cell (o:=1) rfl
    have f0:=EE.frozen 0
    have f1:=EE.frozen 1
    have lw:=B3.out.size
    go_simp
    refine hK.out _ _ (SL2.out.alloc (.cells #[.slice ta T.length tc,.slice ga G.length gc] 160)) (fun hHeld=>?_)
    clear hK K e0 e1 f0 f1
    (try simp only[Act.put,lA,lB,lC])
    refine eA 14 (fun K hK=>?_)
    go_simp
    refine hK.out _ _ ?_
    clear hK K
    (try simp only[Act.put,lA,lB,lC])
    refine doneA (by kernel_rfl) ?_ _
    have BA:=(Below.refl w2.heap.size w2).alloc (Nat.le_refl _) (.cells #[.slice ta T.length tc,.slice ga G.length gc] 160)
    go_wp2_with (fail)
    go_meet
    exact⟨ta,ga,tc,gc,_,rfl,rfl,B3.out.size,Rec.new _ _ _,(x1.keepB BA).wid (Nat.le_refl _) BA.size,(x2.keepB BA).wid (Nat.le_refl _) BA.size,hHeld,B3.out.alloc B3.out.size _⟩
   refine AllL.cons rfl (fun K hK=>?_) ?_
   ·go_simp
    have BA:=(B2.out.alloc B2.out.size (.cells #[.slice none 0 0,.slice none 0 0] 160)).drew
    have hK1:=HRU.out (w1.alloc (.cells #[.slice none 0 0,.slice none 0 0] 160)).drew (H.out.keep (BA.mono H.out.hh)) (by have:=BA.size;omega)
    have EA:Rec (w1.alloc (.cells #[.slice none 0 0,.slice none 0 0] 160)).drew w1.heap.size 160 [.slice none 0 0,.slice none 0 0]:=Rec.drew' (Rec.new _ _ _)
    refine hK.out _ _ (S2.out.alloc (.cells #[.slice none 0 0,.slice none 0 0] 160)).drew (fun hHeld=>?_)
    clear hK K hK0
    (try simp only[Act.put,lA,lB,lC])
    refine oA 8 (fun K hK=>?_)
    go_simp
    rw[rule_enter o ho1 ho2 fn hrv,Oper.upon_enter]
    refine hK1.mono ?_
    rintro e w2 ⟨ta,tc,ga,gc,rfl,x1,x2,b2⟩
    have B3:=hide (BA.trans (b2.mono BA.size))
    have EB:=EA.below b2 EA.lt
    have HH:=hHeld.below b2
    have SL2:=hide HH
    refine hK.out _ _ HH (fun hHeld=>?_)
    clear hK K HH b2 hK1 EA BA
    (try simp only[Act.put,lA,lB,lC])
    refine tA 9 (v:=?v9n1b) ?y9n1b ?r9n1b
    case y9n1b=>(intro w _;go_simp;try with_reducible rfl)
    (try simp only[Act.put,lA,lB,lC])
    refine tA 10 (v:=?v10n2b) ?y10n2b ?r10n2b
    case y10n2b=>(intro w _;go_simp;try with_reducible rfl)
    (try simp only[Act.put,lA,lB,lC])
    refine tA 11 (v:=?v11n3b) ?y11n3b ?r11n3b
    case y11n3b=>(intro w _;go_simp;try with_reducible rfl)
    (try simp only[Act.put,lA,lB,lC])
    refine oA 13 (fun K hK=>?_)
    have e0:=EB.cell (o:=0) rfl
    have e1:=EB.cell (o:=1) rfl
    have f0:=EB.frozen 0
    have f1:=EB.frozen 1
    have lw:=B3.out.size
    have lb:=EB.lt
    have lt2:=S2.out.t.lt
    go_simp
    refine hK.out _ _ (SL2.out.two lt2 _ _) (fun hHeld=>?_)
    clear hK K e0 e1 f0 f1
    (try simp only[Act.put,lA,lB,lC])
    refine eA 14 (fun K hK=>?_)
    go_simp
    refine hK.out _ _ ?_
    clear hK K
    (try simp only[Act.put,lA,lB,lC])
    refine doneA (by kernel_rfl) ?_ _
    go_wp2_with (fail)
    go_meet
    refine⟨ta,ga,tc,gc,_,rfl,rfl,l1,(EB.set 0 _).set 1 _,?_,?_,hHeld,(B3.out.setCell l1 _).setCell l1 _⟩
    ·exact((x1.other EB.notInt).other (Rec.notInt (EB.set 0 _))).wid (Nat.le_refl _) (by simp)
    ·exact((x2.other EB.notInt).other (Rec.notInt (EB.set 0 _))).wid (Nat.le_refl _) (by simp)
   exact AllL.nil
  case rest =>
   obtain⟨ta,ga,tc,gc,bd,rfl,rfl,hbd,ER,TR,GR,S3,B3⟩:=hcut
   clear S2 B2 l1 HRU HFN
   have l3:=B3.out.size
   have hTl:=HTl.out
   have hGl:=HGl.out
   cases nm
   ·go_wp2_with (first|(refine wpList_load_rec rfl 94 _ rfl w.heap.size 94 vs _ rfl S3.out.v Tryz.underlying94 rfl hsz ?_)|(go_at_call 102;refine(scopeFault_any vs k pc 1 _ hpl).mono ?_;rintro e w9 ⟨rfl,b9⟩;have B9:=hide (B3.out.trans (b9.mono B3.out.size));clear b9))
    have hr:r=([],1):=by rw[←HR.out];simp only[if_true]
    subst hr
    exact bodyPost_ret (results_tmp2 rfl _ _ _) rfl ⟨.inr ⟨by decide,rfl⟩,B9.out⟩
   have er0:=ER.out.cell (o:=0) rfl
   have er1:=ER.out.cell (o:=1) rfl
   by_cases hlt:st.length<T.length
   ·have q1:(st.length:Int)-(T.length:Int)<0:=by omega
    go_wp2_with (first|(refine wpList_load_rec rfl 94 _ rfl w.heap.size 94 vs _ rfl S3.out.v Tryz.underlying94 rfl hsz ?_)|(go_at_call 102;refine(scopeFault_any vs k pc 2 _ hpl).mono ?_;rintro e w9 ⟨rfl,b9⟩;have B9:=hide (B3.out.trans (b9.mono B3.out.size));clear b9))
    have hr:r=([],2):=by rw[←HR.out];rw[if_neg (by decide),if_pos hlt]
    subst hr
    exact bodyPost_ret (results_tmp2 rfl _ _ _) rfl ⟨.inr ⟨by decide,rfl⟩,B9.out⟩
   obtain⟨m,hm⟩:∃m,st.length=m+T.length:=⟨st.length-T.length,by omega⟩
   have hm2:st.length-T.length=m:=by omega
   have hm3:(st.length:Int)-(T.length:Int)=(m:Int):=by omega
   have hm4:¬((m:Int)<0):=by omega
   rw[hm2,if_neg (by decide),if_neg hlt] at HR
   replace hm:=hide hm
   go_upto_region 10 with(fail)
   go_cut [65] from 52 to 65 (fun v wx=>v=.bool (!(fitsL p.types (st.drop m) T&&passF p k o ia))∧Hid (SB w.heap.size vs [.int .i64 (o:Int),.int .i64 ia,.int .i64 ib] [.int .i64 top.kind,.int .i64 top.of,.bool top.mt] wx)∧Hid (Rec wx bd 160 [.slice ta T.length tc,.slice ga G.length gc])∧Hid (FieldsIn wx lo wx.heap.size ta T)∧Hid (FieldsIn wx lo wx.heap.size ga G)∧Hid (Below w.heap.size w wx))
   case first =>
    generalize wc=w2 at *
    have SLd:=hide (And.intro S3.out.drew (Rec.drew' ER.out))
    have hmx:=hm.out
    have hmT:(m:Int)≤(m:Int)+(T.length:Int):=by omega
    have hmS:(m:Int)≤(st.length:Int):=by omega
    have hmU:True:=trivial
    have hdl:(st.drop m).length=T.length:=by simp;omega
    clear hm2 hm3
    clear hmx
    by_cases hnil:∃sb so,sa=some ⟨sb,so,none⟩
    ·obtain⟨sb,so,rfl⟩:=hnil
     obtain⟨A,hA⟩:∃A,(if sc=m then some ⟨sb,so,none⟩ else some ⟨sb,so+m*3,none⟩:Option Addr)=A:=⟨_,rfl⟩
     have BD:=B3.out.drew
     have HX2:FieldsIn w2.drew lo1 hi1 A (st.drop m):=by rw[←hA];exact FieldsIn.dropAt (hx.keepB (BD.mono hh1)) hsc
     refine wp_region_noPanic ?_
     refine wp_region_held_drew (S:=fun w'=>SB w.heap.size vs [.int .i64 (o:Int),.int .i64 ia,.int .i64 ib] [.int .i64 top.kind,.int .i64 top.of,.bool top.mt] w'∧Rec w' bd 160 [.slice ta T.length tc,.slice ga G.length gc]) (by kernel_rfl) SLd.out (fun hHeld=>?_)
     (try simp only[Act.put,lA,lB,lC])
     refine wpAnyH_take (i:=0) (oi:=_) (v:=.agg vs.toArray) rfl (by kernel_rfl) (by kernel_rfl) (by kernel_rfl) (fun _ _ _ h=>h) (yieldsIf_load_mid (by rfl) 94 _ rfl w.heap.size 0 rfl vs _ (fun w hS=>hS.1.v.range) Tryz.underlying94 rfl hsz) hHeld ?_
     (try simp only[Act.put,lA,lB,lC])
     refine tL 1 (v:=?v1h701) hHeld ?y1h701 ?r1h701
     case y1h701=>(intro w _;go_simp;first|with_reducible rfl|exact if_pos hmT|exact if_pos hmS|exact if_pos hmU)
     (try simp only[Act.put,lA,lB,lC])
     refine tL 2 (v:=?v2h702) hHeld ?y2h702 ?r2h702
     case y2h702=>(intro w _;go_simp;first|with_reducible rfl|exact if_pos hmT|exact if_pos hmS|exact if_pos hmU)
     (try simp only[Act.put,lA,lB,lC])
     refine tL 3 (v:=.slice A T.length (sc-m)) hHeld ?y3h703 ?r3h703
     case y3h703=>(intro w _;go_simp;have h9:=hm.out;omega)
     (try simp only[Act.put,lA,lB,lC])
     refine tL 4 (v:=?v4h704) hHeld ?y4h704 ?r4h704
     case y4h704=>(intro w _;go_simp;first|with_reducible rfl|exact if_pos hmT|exact if_pos hmS|exact if_pos hmU)
     (try simp only[Act.put,lA,lB,lC])
     refine tL 5 (v:=?v5h705) hHeld ?y5h705 ?r5h705
     case y5h705=>(intro w hSw;have sb0:=hSw.2.cell (o:=0) rfl;have sb1:=hSw.2.cell (o:=1) rfl;have si0:=hSw.1.i.cell (o:=0) rfl;have si1:=hSw.1.i.cell (o:=1) rfl;have si2:=hSw.1.i.cell (o:=2) rfl;go_simp;first|with_reducible rfl|exact if_pos hmT|exact if_pos hmS|exact if_pos hmU)
     (try simp only[Act.put,lA,lB,lC])
     refine dL 6 (fun K hK=>?_)
     go_simp
     (go_at_call 103;have HF:=scopeFits_any vs lo hi k p _ ta (sc-m) tc lo1 hi1 lo w2.heap.size (st.drop m) T w2.drew (H.out.keep (BD.mono hgl)) HP.out (by have:=hm.out;omega) (by omega) (Nat.le_trans hh1 BD.size) (Nat.le_refl _) HX2 TR.out)
     rw[hdl] at HF
     refine HF.mono ?_
     rintro e w3 ⟨rfl,b3⟩
     have B4:=hide (BD.trans (b3.mono BD.size))
     have HH:=And.intro (hHeld.1.below b3) (hHeld.2.below b3 hHeld.2.lt)
     have TR3:=hide (show FieldsIn w3 lo w3.heap.size ta T from(FieldsIn.keepB (w:=w2.drew) TR.out b3).wid (Nat.le_refl _) b3.size)
     have GR3:=hide (show FieldsIn w3 lo w3.heap.size ga G from(FieldsIn.keepB (w:=w2.drew) GR.out b3).wid (Nat.le_refl _) b3.size)
     refine hK.out _ _ HH (fun hHeld=>?_)
     clear hK K HH b3
     cases hf:fitsL p.types (st.drop m) T
     ·(try simp only[Act.put,lA,lB,lC])
      refine tL 7 (v:=?v7h706) hHeld ?y7h706 ?r7h706
      case y7h706=>(intro w _;go_simp;first|with_reducible rfl|exact if_pos hmT|exact if_pos hmS|exact if_pos hmU)
      (try simp only[Act.put,lA,lB,lC])
      refine tL 8 (v:=?v8h707) hHeld ?y8h707 ?r8h707
      case y8h707=>(intro w _;go_simp;first|with_reducible rfl|exact if_pos hmT|exact if_pos hmS|exact if_pos hmU)
      (try simp only[Act.put,lA,lB,lC])
      refine sL 9 hHeld ?_
      (try simp only[Act.put,lA,lB,lC])
      refine sL 10 hHeld ?_
      (try simp only[Act.put,lA,lB,lC])
      refine sL 11 hHeld ?_
      (try simp only[Act.put,lA,lB,lC])
      refine sL 12 hHeld ?_
      (try simp only[Act.put,lA,lB,lC])
      refine tL 13 (v:=?v13h708) hHeld ?y13h708 ?r13h708
      case y13h708=>(intro w _;go_simp;first|with_reducible rfl|exact if_pos hmT|exact if_pos hmS|exact if_pos hmU)
      (try simp only[Act.put,lA,lB,lC])
      refine wpAnyH_done (by kernel_rfl) ?_ _
      refine NoPanic.normal ?_
      have HS:=hHeld
      clear hHeld
      go_wp2_with (fail)
      go_meet
      exact⟨by rw[hf];rfl,HS.1,HS.2,TR3,GR3,B4⟩
     ·(try simp only[Act.put,lA,lB,lC])
      refine tL 7 (v:=?v7h709) hHeld ?y7h709 ?r7h709
      case y7h709=>(intro w _;go_simp;first|with_reducible rfl|exact if_pos hmT|exact if_pos hmS|exact if_pos hmU)
      (try simp only[Act.put,lA,lB,lC])
      refine tL 8 (v:=?v8h710) hHeld ?y8h710 ?r8h710
      case y8h710=>(intro w _;go_simp;first|with_reducible rfl|exact if_pos hmT|exact if_pos hmS|exact if_pos hmU)
      (try simp only[Act.put,lA,lB,lC])
      refine wpAnyH_take (i:=9) (oi:=_) (v:=.agg vs.toArray) rfl (by kernel_rfl) (by kernel_rfl) (by kernel_rfl) (fun _ _ _ h=>h) (yieldsIf_load_mid (by rfl) 94 _ rfl w.heap.size 0 rfl vs _ (fun w hS=>hS.1.v.range) Tryz.underlying94 rfl hsz) hHeld ?_
      (try simp only[Act.put,lA,lB,lC])
      refine tL 10 (v:=?v10h711) hHeld ?y10h711 ?r10h711
      case y10h711=>(intro w hSw;have sb0:=hSw.2.cell (o:=0) rfl;have sb1:=hSw.2.cell (o:=1) rfl;have si0:=hSw.1.i.cell (o:=0) rfl;have si1:=hSw.1.i.cell (o:=1) rfl;have si2:=hSw.1.i.cell (o:=2) rfl;go_simp;first|with_reducible rfl|exact if_pos hmT|exact if_pos hmS|exact if_pos hmU)
      (try simp only[Act.put,lA,lB,lC])
      refine dL 11 (fun K hK=>?_)
      go_simp
      (go_at_call 104;refine(scopePasses_any vs lo hi k p o ia ib w3 (H.out.keep (B4.out.mono hgl)) HP.out (hpass rfl)).mono ?_)
      rintro e w4 ⟨rfl,b4⟩
      have B5:=hide (B4.out.trans (b4.mono B4.out.size))
      have HH:=And.intro (hHeld.1.below b4) (hHeld.2.below b4 hHeld.2.lt)
      have TR4:=hide ((TR3.out.keepB b4).wid (Nat.le_refl lo) b4.size)
      have GR4:=hide ((GR3.out.keepB b4).wid (Nat.le_refl lo) b4.size)
      refine hK.out _ _ HH (fun hHeld=>?_)
      clear hK K HH b4
      (try simp only[Act.put,lA,lB,lC])
      refine tL 12 (v:=?v12h712) hHeld ?y12h712 ?r12h712
      case y12h712=>(intro w _;go_simp;first|with_reducible rfl|exact if_pos hmT|exact if_pos hmS|exact if_pos hmU)
      (try simp only[Act.put,lA,lB,lC])
      refine tL 13 (v:=?v13h713) hHeld ?y13h713 ?r13h713
      case y13h713=>(intro w _;go_simp;first|with_reducible rfl|exact if_pos hmT|exact if_pos hmS|exact if_pos hmU)
      (try simp only[Act.put,lA,lB,lC])
      refine wpAnyH_done (by kernel_rfl) ?_ _
      refine NoPanic.normal ?_
      have HS:=hHeld
      clear hHeld
      go_wp2_with (fail)
      go_meet
      exact⟨by rw[hf];rfl,HS.1,HS.2,TR4,GR4,B5⟩
    ·have hst:st=[]:=by
      rcases hx with e|⟨sb,so,e,_⟩
      ·exact e
      ·exact absurd ⟨sb,so,e⟩ hnil
     subst hst
     have hmo:=hm.out
     simp only[List.length_nil] at hmo
     obtain rfl:m=0:=by omega
     obtain rfl:T=[]:=List.eq_nil_of_length_eq_zero (by omega)
     clear hmo hm
     have hf:fitsL p.types (List.drop 0 ([]:List Fd)) []=true:=by simp[fitsL,upTo]
     rcases sa with _|⟨sb,so,sp⟩
     ·have BD:=B3.out.drew
      refine wp_region_noPanic ?_
      refine wp_region_held_drew (S:=fun w'=>SB w.heap.size vs [.int .i64 (o:Int),.int .i64 ia,.int .i64 ib] [.int .i64 top.kind,.int .i64 top.of,.bool top.mt] w'∧Rec w' bd 160 [.slice ta 0 tc,.slice ga G.length gc]) (by kernel_rfl) SLd.out (fun hHeld=>?_)
      (try simp only[Act.put,lA,lB,lC])
      refine wpAnyH_take (i:=0) (oi:=_) (v:=.agg vs.toArray) rfl (by kernel_rfl) (by kernel_rfl) (by kernel_rfl) (fun _ _ _ h=>h) (yieldsIf_load_mid (by rfl) 94 _ rfl w.heap.size 0 rfl vs _ (fun w hS=>hS.1.v.range) Tryz.underlying94 rfl hsz) hHeld ?_
      (try simp only[Act.put,lA,lB,lC])
      refine tL 1 (v:=?v1h728) hHeld ?y1h728 ?r1h728
      case y1h728=>(intro w _;go_simp;first|with_reducible rfl|exact if_pos hmT|exact if_pos hmS|exact if_pos hmU)
      (try simp only[Act.put,lA,lB,lC])
      refine tL 2 (v:=?v2h729) hHeld ?y2h729 ?r2h729
      case y2h729=>(intro w _;go_simp;first|with_reducible rfl|exact if_pos hmT|exact if_pos hmS|exact if_pos hmU)
      (try simp only[Act.put,lA,lB,lC])
      refine tL 3 (v:=?v3h727) hHeld ?y3h727 ?r3h727
      case y3h727=>(intro w _;go_simp;first|with_reducible rfl|exact if_pos hmT|exact if_pos hmS|exact if_pos hmU)
      (try simp only[Act.put,lA,lB,lC])
      refine tL 4 (v:=?v4h730) hHeld ?y4h730 ?r4h730
      case y4h730=>(intro w _;go_simp;first|with_reducible rfl|exact if_pos hmT|exact if_pos hmS|exact if_pos hmU)
      (try simp only[Act.put,lA,lB,lC])
      refine tL 5 (v:=?v5h731) hHeld ?y5h731 ?r5h731
      case y5h731=>(intro w hSw;have sb0:=hSw.2.cell (o:=0) rfl;have sb1:=hSw.2.cell (o:=1) rfl;have si0:=hSw.1.i.cell (o:=0) rfl;have si1:=hSw.1.i.cell (o:=1) rfl;have si2:=hSw.1.i.cell (o:=2) rfl;go_simp;first|with_reducible rfl|exact if_pos hmT|exact if_pos hmS|exact if_pos hmU)
      (try simp only[Act.put,lA,lB,lC])
      refine dL 6 (fun K hK=>?_)
      go_simp
      (go_at_call 103;refine(scopeFits_any vs lo hi k p _ ta _ tc lo1 hi1 lo w2.heap.size [] [] w2.drew (H.out.keep (BD.mono hgl)) HP.out (by simp) (by simp) (Nat.le_trans hh1 BD.size) (Nat.le_refl _) (.inl rfl) TR.out).mono ?_)
      rintro e w3 ⟨rfl,b3⟩
      have B4:=hide (BD.trans (b3.mono BD.size))
      have HH:=And.intro (hHeld.1.below b3) (hHeld.2.below b3 hHeld.2.lt)
      have TR3:=hide (show FieldsIn w3 lo w3.heap.size ta [] from .inl rfl)
      have GR3:=hide (show FieldsIn w3 lo w3.heap.size ga G from(FieldsIn.keepB (w:=w2.drew) GR.out b3).wid (Nat.le_refl _) b3.size)
      refine hK.out _ _ HH (fun hHeld=>?_)
      clear hK K HH b3
      have hfe:fitsL p.types ([]:List Fd) []=true:=hf
      rw[hfe]
      (try simp only[Act.put,lA,lB,lC])
      refine tL 7 (v:=?v7h732) hHeld ?y7h732 ?r7h732
      case y7h732=>(intro w _;go_simp;first|with_reducible rfl|exact if_pos hmT|exact if_pos hmS|exact if_pos hmU)
      (try simp only[Act.put,lA,lB,lC])
      refine tL 8 (v:=?v8h733) hHeld ?y8h733 ?r8h733
      case y8h733=>(intro w _;go_simp;first|with_reducible rfl|exact if_pos hmT|exact if_pos hmS|exact if_pos hmU)
      (try simp only[Act.put,lA,lB,lC])
      refine wpAnyH_take (i:=9) (oi:=_) (v:=.agg vs.toArray) rfl (by kernel_rfl) (by kernel_rfl) (by kernel_rfl) (fun _ _ _ h=>h) (yieldsIf_load_mid (by rfl) 94 _ rfl w.heap.size 0 rfl vs _ (fun w hS=>hS.1.v.range) Tryz.underlying94 rfl hsz) hHeld ?_
      (try simp only[Act.put,lA,lB,lC])
      refine tL 10 (v:=?v10h734) hHeld ?y10h734 ?r10h734
      case y10h734=>(intro w hSw;have sb0:=hSw.2.cell (o:=0) rfl;have sb1:=hSw.2.cell (o:=1) rfl;have si0:=hSw.1.i.cell (o:=0) rfl;have si1:=hSw.1.i.cell (o:=1) rfl;have si2:=hSw.1.i.cell (o:=2) rfl;go_simp;first|with_reducible rfl|exact if_pos hmT|exact if_pos hmS|exact if_pos hmU)
      (try simp only[Act.put,lA,lB,lC])
      refine dL 11 (fun K hK=>?_)
      go_simp
      (go_at_call 104;refine(scopePasses_any vs lo hi k p o ia ib w3 (H.out.keep (B4.out.mono hgl)) HP.out (hpass rfl)).mono ?_)
      rintro e w4 ⟨rfl,b4⟩
      have B5:=hide (B4.out.trans (b4.mono B4.out.size))
      have HH:=And.intro (hHeld.1.below b4) (hHeld.2.below b4 hHeld.2.lt)
      have TR4:=hide (show FieldsIn w4 lo w4.heap.size ta [] from .inl rfl)
      have GR4:=hide ((GR3.out.keepB b4).wid (Nat.le_refl lo) b4.size)
      refine hK.out _ _ HH (fun hHeld=>?_)
      clear hK K HH b4
      (try simp only[Act.put,lA,lB,lC])
      refine tL 12 (v:=?v12h735) hHeld ?y12h735 ?r12h735
      case y12h735=>(intro w _;go_simp;first|with_reducible rfl|exact if_pos hmT|exact if_pos hmS|exact if_pos hmU)
      (try simp only[Act.put,lA,lB,lC])
      refine tL 13 (v:=?v13h736) hHeld ?y13h736 ?r13h736
      case y13h736=>(intro w _;go_simp;first|with_reducible rfl|exact if_pos hmT|exact if_pos hmS|exact if_pos hmU)
      (try simp only[Act.put,lA,lB,lC])
      refine wpAnyH_done (by kernel_rfl) ?_ _
      refine NoPanic.normal ?_
      have HS:=hHeld
      clear hHeld
      go_wp2_with (fail)
      go_meet
      exact⟨by rw[hf];rfl,HS.1,HS.2,TR4,GR4,B5⟩
     ·have BD:=B3.out.drew
      refine wp_region_noPanic ?_
      refine wp_region_held_drew (S:=fun w'=>SB w.heap.size vs [.int .i64 (o:Int),.int .i64 ia,.int .i64 ib] [.int .i64 top.kind,.int .i64 top.of,.bool top.mt] w'∧Rec w' bd 160 [.slice ta 0 tc,.slice ga G.length gc]) (by kernel_rfl) SLd.out (fun hHeld=>?_)
      (try simp only[Act.put,lA,lB,lC])
      refine wpAnyH_take (i:=0) (oi:=_) (v:=.agg vs.toArray) rfl (by kernel_rfl) (by kernel_rfl) (by kernel_rfl) (fun _ _ _ h=>h) (yieldsIf_load_mid (by rfl) 94 _ rfl w.heap.size 0 rfl vs _ (fun w hS=>hS.1.v.range) Tryz.underlying94 rfl hsz) hHeld ?_
      (try simp only[Act.put,lA,lB,lC])
      refine tL 1 (v:=?v1h738) hHeld ?y1h738 ?r1h738
      case y1h738=>(intro w _;go_simp;first|with_reducible rfl|exact if_pos hmT|exact if_pos hmS|exact if_pos hmU)
      (try simp only[Act.put,lA,lB,lC])
      refine tL 2 (v:=?v2h739) hHeld ?y2h739 ?r2h739
      case y2h739=>(intro w _;go_simp;first|with_reducible rfl|exact if_pos hmT|exact if_pos hmS|exact if_pos hmU)
      (try simp only[Act.put,lA,lB,lC])
      refine tL 3 (v:=?v3h737) hHeld ?y3h737 ?r3h737
      case y3h737=>(intro w _;go_simp;first|with_reducible rfl|exact if_pos hmT|exact if_pos hmS|exact if_pos hmU)
      (try simp only[Act.put,lA,lB,lC])
      refine tL 4 (v:=?v4h740) hHeld ?y4h740 ?r4h740
      case y4h740=>(intro w _;go_simp;first|with_reducible rfl|exact if_pos hmT|exact if_pos hmS|exact if_pos hmU)
      (try simp only[Act.put,lA,lB,lC])
      refine tL 5 (v:=?v5h741) hHeld ?y5h741 ?r5h741
      case y5h741=>(intro w hSw;have sb0:=hSw.2.cell (o:=0) rfl;have sb1:=hSw.2.cell (o:=1) rfl;have si0:=hSw.1.i.cell (o:=0) rfl;have si1:=hSw.1.i.cell (o:=1) rfl;have si2:=hSw.1.i.cell (o:=2) rfl;go_simp;first|with_reducible rfl|exact if_pos hmT|exact if_pos hmS|exact if_pos hmU)
      (try simp only[Act.put,lA,lB,lC])
      refine dL 6 (fun K hK=>?_)
      go_simp
      (go_at_call 103;refine(scopeFits_any vs lo hi k p _ ta _ tc lo1 hi1 lo w2.heap.size [] [] w2.drew (H.out.keep (BD.mono hgl)) HP.out (by simp) (by simp) (Nat.le_trans hh1 BD.size) (Nat.le_refl _) (.inl rfl) TR.out).mono ?_)
      rintro e w3 ⟨rfl,b3⟩
      have B4:=hide (BD.trans (b3.mono BD.size))
      have HH:=And.intro (hHeld.1.below b3) (hHeld.2.below b3 hHeld.2.lt)
      have TR3:=hide (show FieldsIn w3 lo w3.heap.size ta [] from .inl rfl)
      have GR3:=hide (show FieldsIn w3 lo w3.heap.size ga G from(FieldsIn.keepB (w:=w2.drew) GR.out b3).wid (Nat.le_refl _) b3.size)
      refine hK.out _ _ HH (fun hHeld=>?_)
      clear hK K HH b3
      have hfe:fitsL p.types ([]:List Fd) []=true:=hf
      rw[hfe]
      (try simp only[Act.put,lA,lB,lC])
      refine tL 7 (v:=?v7h742) hHeld ?y7h742 ?r7h742
      case y7h742=>(intro w _;go_simp;first|with_reducible rfl|exact if_pos hmT|exact if_pos hmS|exact if_pos hmU)
      (try simp only[Act.put,lA,lB,lC])
      refine tL 8 (v:=?v8h743) hHeld ?y8h743 ?r8h743
      case y8h743=>(intro w _;go_simp;first|with_reducible rfl|exact if_pos hmT|exact if_pos hmS|exact if_pos hmU)
      (try simp only[Act.put,lA,lB,lC])
      refine wpAnyH_take (i:=9) (oi:=_) (v:=.agg vs.toArray) rfl (by kernel_rfl) (by kernel_rfl) (by kernel_rfl) (fun _ _ _ h=>h) (yieldsIf_load_mid (by rfl) 94 _ rfl w.heap.size 0 rfl vs _ (fun w hS=>hS.1.v.range) Tryz.underlying94 rfl hsz) hHeld ?_
      (try simp only[Act.put,lA,lB,lC])
      refine tL 10 (v:=?v10h744) hHeld ?y10h744 ?r10h744
      case y10h744=>(intro w hSw;have sb0:=hSw.2.cell (o:=0) rfl;have sb1:=hSw.2.cell (o:=1) rfl;have si0:=hSw.1.i.cell (o:=0) rfl;have si1:=hSw.1.i.cell (o:=1) rfl;have si2:=hSw.1.i.cell (o:=2) rfl;go_simp;first|with_reducible rfl|exact if_pos hmT|exact if_pos hmS|exact if_pos hmU)
      (try simp only[Act.put,lA,lB,lC])
      refine dL 11 (fun K hK=>?_)
      go_simp
      (go_at_call 104;refine(scopePasses_any vs lo hi k p o ia ib w3 (H.out.keep (B4.out.mono hgl)) HP.out (hpass rfl)).mono ?_)
      rintro e w4 ⟨rfl,b4⟩
      have B5:=hide (B4.out.trans (b4.mono B4.out.size))
      have HH:=And.intro (hHeld.1.below b4) (hHeld.2.below b4 hHeld.2.lt)
      have TR4:=hide (show FieldsIn w4 lo w4.heap.size ta [] from .inl rfl)
      have GR4:=hide ((GR3.out.keepB b4).wid (Nat.le_refl lo) b4.size)
      refine hK.out _ _ HH (fun hHeld=>?_)
      clear hK K HH b4
      (try simp only[Act.put,lA,lB,lC])
      refine tL 12 (v:=?v12h745) hHeld ?y12h745 ?r12h745
      case y12h745=>(intro w _;go_simp;first|with_reducible rfl|exact if_pos hmT|exact if_pos hmS|exact if_pos hmU)
      (try simp only[Act.put,lA,lB,lC])
      refine tL 13 (v:=?v13h746) hHeld ?y13h746 ?r13h746
      case y13h746=>(intro w _;go_simp;first|with_reducible rfl|exact if_pos hmT|exact if_pos hmS|exact if_pos hmU)
      (try simp only[Act.put,lA,lB,lC])
      refine wpAnyH_done (by kernel_rfl) ?_ _
      refine NoPanic.normal ?_
      have HS:=hHeld
      clear hHeld
      go_wp2_with (fail)
      go_meet
      exact⟨by rw[hf];rfl,HS.1,HS.2,TR4,GR4,B5⟩
   case rest =>
    obtain⟨rfl,S4,E4,T4,G4,B4⟩:=hcut
    clear S3 ER TR GR B3 er0 er1 l3
    obtain⟨fb,hfb⟩:∃fb,(fitsL p.types (st.drop m) T&&passF p k o ia)=fb:=⟨_,rfl⟩
    rw[hfb] at HR ⊢
    clear hfb
    cases fb
    ·go_wp2_with (first|(refine wpList_load_rec rfl 94 _ rfl w.heap.size 94 vs _ rfl S4.out.v Tryz.underlying94 rfl hsz ?_)|(go_at_call 102;refine(scopeFault_any vs k pc 3 _ hpl).mono ?_;rintro e w9 ⟨rfl,b9⟩;have B9:=hide (B4.out.trans (b9.mono B4.out.size));clear b9))
     have hr:r=([],3):=by rw[←HR.out];simp only[if_true]
     subst hr
     exact bodyPost_ret (results_tmp2 rfl _ _ _) rfl ⟨.inr ⟨by decide,rfl⟩,B9.out⟩
    rw[if_neg (by decide)] at HR
    go_upto_region 12 with(fail)
    go_cut [79] from 69 to 79 (fun v wx=>v=.bool (decide (T.length<st.length)&&(decide ((o:Int)=25∨(o:Int)=28∨(o:Int)=29)||decide ((o:Int)=26)))∧Hid (SB w.heap.size vs [.int .i64 (o:Int),.int .i64 ia,.int .i64 ib] [.int .i64 top.kind,.int .i64 top.of,.bool top.mt] wx)∧Hid (Rec wx bd 160 [.slice ta T.length tc,.slice ga G.length gc])∧Hid (FieldsIn wx lo wx.heap.size ga G)∧Hid (Below w.heap.size w wx))
    case first =>
     generalize wc=w2 at *
     have si0:=S4.out.i.cell (o:=0) rfl
     have si1:=S4.out.i.cell (o:=1) rfl
     have si2:=S4.out.i.cell (o:=2) rfl
     have hmo:=hm.out
     by_cases hm0:0<m
     ·have hmi:(0:Int)<(m:Int):=by omega
      have hd0:decide (T.length<st.length)=true:=by simp;omega
      clear hmo
      skip
      by_cases hlv:((o:Int)=25∨(o:Int)=28∨(o:Int)=29)
      ·have hld:decide ((o:Int)=25∨(o:Int)=28∨(o:Int)=29)=true:=decide_eq_true hlv
       clear hlv
       go_wp2_with (go_at_call 105;refine(implInsLeaves_any o ia ib _).mono ?_;rintro e w3 ⟨rfl,b3⟩;rw[hld];have B5:=hide (B4.out.trans (b3.mono B4.out.size));have S5:=hide (S4.out.below b3);have E5:=hide (E4.out.below b3 E4.out.lt);have G5:=hide ((G4.out.keepB b3).wid (Nat.le_refl lo) b3.size);have si9:=S5.out.i.cell (o:=0) rfl;clear b3)
       go_meet
       exact⟨by rw[hd0,hld];rfl,S5,E5,G5,B5⟩
      ·have hld:decide ((o:Int)=25∨(o:Int)=28∨(o:Int)=29)=false:=decide_eq_false hlv
       clear hlv
       by_cases h26:(o:Int)=26
       ·have hb26:((o:Int)==26)=true:=by simp[h26]
        have hd26:decide ((o:Int)=26)=true:=decide_eq_true h26
        clear h26
        go_wp2_with (go_at_call 105;refine(implInsLeaves_any o ia ib _).mono ?_;rintro e w3 ⟨rfl,b3⟩;rw[hld];have B5:=hide (B4.out.trans (b3.mono B4.out.size));have S5:=hide (S4.out.below b3);have E5:=hide (E4.out.below b3 E4.out.lt);have G5:=hide ((G4.out.keepB b3).wid (Nat.le_refl lo) b3.size);have si9:=S5.out.i.cell (o:=0) rfl;clear b3)
        go_meet
        exact⟨by rw[hd0,hld,hd26];rfl,S5,E5,G5,B5⟩
       ·have hb26:((o:Int)==26)=false:=by simp[h26]
        have hd26:decide ((o:Int)=26)=false:=decide_eq_false h26
        clear h26
        go_wp2_with (go_at_call 105;refine(implInsLeaves_any o ia ib _).mono ?_;rintro e w3 ⟨rfl,b3⟩;rw[hld];have B5:=hide (B4.out.trans (b3.mono B4.out.size));have S5:=hide (S4.out.below b3);have E5:=hide (E4.out.below b3 E4.out.lt);have G5:=hide ((G4.out.keepB b3).wid (Nat.le_refl lo) b3.size);have si9:=S5.out.i.cell (o:=0) rfl;clear b3)
        go_meet
        exact⟨by rw[hd0,hld,hd26];rfl,S5,E5,G5,B5⟩
     ·have hmi:¬(0:Int)<(m:Int):=by omega
      have hd0:decide (T.length<st.length)=false:=by simp;omega
      clear hmo
      go_wp2_with (fail)
      go_meet
      exact⟨by rw[hd0];rfl,S4,E4,G4,B4⟩
    case rest =>
     obtain⟨rfl,S5,E5,G5,B5⟩:=hcut
     clear S4 E4 T4 G4 B4
     obtain⟨fb,hfb⟩:∃fb,(decide (T.length<st.length)&&(decide ((o:Int)=25∨(o:Int)=28∨(o:Int)=29)||decide ((o:Int)=26)))=fb:=⟨_,rfl⟩
     rw[hfb] at HR ⊢
     clear hfb
     cases fb
     rotate_left
     ·go_wp2_with (first|(refine wpList_load_rec rfl 94 _ rfl w.heap.size 94 vs _ rfl S5.out.v Tryz.underlying94 rfl hsz ?_)|(go_at_call 102;refine(scopeFault_any vs k pc 4 _ hpl).mono ?_;rintro e w9 ⟨rfl,b9⟩;have B9:=hide (B5.out.trans (b9.mono B5.out.size));clear b9))
      have hr:r=([],4):=by rw[←HR.out];simp only[if_true]
      subst hr
      exact bodyPost_ret (results_tmp2 rfl _ _ _) rfl ⟨.inr ⟨by decide,rfl⟩,B9.out⟩
     rw[if_neg (by decide)] at HR
     have eb1:=E5.out.cell (o:=1) rfl
     by_cases h8:8<m+G.length
     ·have h8i:(8:Int)<(m:Int)+(G.length:Int):=by omega
      have h8j:(m:Int)≤1000:=by have:=hm.out;omega
      go_wp2_with (first|(refine wpList_load_rec rfl 94 _ rfl w.heap.size 94 vs _ rfl S5.out.v Tryz.underlying94 rfl hsz ?_)|(go_at_call 102;refine(scopeFault_any vs k pc 5 _ hpl).mono ?_;rintro e w9 ⟨rfl,b9⟩;have B9:=hide (B5.out.trans (b9.mono B5.out.size));clear b9))
      have hr:r=([],5):=by rw[←HR.out];rw[if_pos h8]
      subst hr
      exact bodyPost_ret (results_tmp2 rfl _ _ _) rfl ⟨.inr ⟨by decide,rfl⟩,B9.out⟩
     have h8i:¬(8:Int)<(m:Int)+(G.length:Int):=by omega
     rw[if_neg h8] at HR
     go_upto_region 16 with(fail)
     clear eb1
     generalize wc=w2 at *
     have BD:=B5.out.drew
     have SLd:=hide (And.intro S5.out.drew (Rec.drew' E5.out))
     have hx9:Hid (FieldsIn w2.drew lo1 hi1 sa (st.take m)):=hide ((hx.keepB (BD.mono hh1)).takeL m)
     have hmS:(m:Int)≤(sc:Int):=by have:=hm.out;omega
     have htl:(st.take m).length=m:=by have:=hm.out;simp;omega
     have hmo:=hm.out
     have hr:r=(st.take m++G,0):=HR.out.symm
     subst hr
     clear HR
     rcases sa with _|⟨sb,so,sp⟩
     ·refine wp_region_noPanic ?_
      refine wp_region_held_drew (S:=fun w'=>SB w.heap.size vs [.int .i64 (o:Int),.int .i64 ia,.int .i64 ib] [.int .i64 top.kind,.int .i64 top.of,.bool top.mt] w'∧Rec w' bd 160 [.slice ta T.length tc,.slice ga G.length gc]) (by kernel_rfl) SLd.out (fun hHeld=>?_)
      (try simp only[Act.put,lA,lB,lC])
      refine tL 0 (v:=?v0h901) hHeld ?y0h901 ?r0h901
      case y0h901=>(intro w _;go_simp;first|with_reducible rfl|exact if_pos hmT|exact if_pos hmS|exact if_pos hmU)
      (try simp only[Act.put,lA,lB,lC])
      refine tL 1 (v:=?v1h902) hHeld ?y1h902 ?r1h902
      case y1h902=>(intro w _;go_simp;first|with_reducible rfl|exact if_pos hmT|exact if_pos hmS|exact if_pos hmU)
      (try simp only[Act.put,lA,lB,lC])
      refine tL 2 (v:=?v2h903) hHeld ?y2h903 ?r2h903
      case y2h903=>(intro w _;go_simp;first|with_reducible rfl|exact if_pos hmT|exact if_pos hmS|exact if_pos hmU)
      (try simp only[Act.put,lA,lB,lC])
      refine tL 3 (v:=?v3h904) hHeld ?y3h904 ?r3h904
      case y3h904=>(intro w _;go_simp;first|with_reducible rfl|exact if_pos hmT|exact if_pos hmS|exact if_pos hmU)
      (try simp only[Act.put,lA,lB,lC])
      refine tL 4 (v:=?v4h905) hHeld ?y4h905 ?r4h905
      case y4h905=>(intro w hSw;have sb0:=hSw.2.cell (o:=0) rfl;have sb1:=hSw.2.cell (o:=1) rfl;have si0:=hSw.1.i.cell (o:=0) rfl;have si1:=hSw.1.i.cell (o:=1) rfl;have si2:=hSw.1.i.cell (o:=2) rfl;go_simp;first|with_reducible rfl|exact if_pos hmT|exact if_pos hmS|exact if_pos hmU)
      (try simp only[Act.put,lA,lB,lC])
      refine dL 5 (fun K hK=>?_)
      go_simp
      refine hK.out _ _ ⟨(S5.out.alloc (.cells #[.slice none m sc,.slice ga G.length gc] 31)).drew,Rec.drew' (E5.out.alloc (.cells #[.slice none m sc,.slice ga G.length gc] 31))⟩ (fun hHeld=>?_)
      clear hK K
      (try simp only[Act.put,lA,lB,lC])
      refine dL 6 (fun K hK=>?_)
      have NR:Rec (w2.alloc (.cells #[.slice none m sc,.slice ga G.length gc] 31)).drew w2.heap.size 31 [.slice none m sc,.slice ga G.length gc]:=Rec.drew' (Rec.new _ _ _)
      have BA:=(B5.out.alloc B5.out.size (.cells #[.slice none m sc,.slice ga G.length gc] 31)).drew
      have BN:=((Below.refl w2.heap.size w2).alloc (Nat.le_refl _) (.cells #[.slice none m sc,.slice ga G.length gc] 31)).drew
      have lw:=B5.out.size
      have HC:=concatF_any w2.heap.size none ga sc gc 0 w2.heap.size (st.take m) G (w2.alloc (.cells #[.slice none m sc,.slice ga G.length gc] 31)).drew (by rw[htl];exact NR.cell (o:=0) rfl) (NR.cell (o:=1) rfl) NR.lt (((hx.keepB (BA.mono hh1)).takeL m).wid (Nat.zero_le _) (Nat.le_trans hh1 lw)) ((G5.out.keepB BN).wid (Nat.zero_le _) (Nat.le_refl _)) BN.size (by omega) (by omega)
      go_simp
      (go_at_call 106;refine HC.mono ?_)
      rintro e w3 ⟨za,zc,rfl,z1,b3⟩
      have B6:=hide (BA.trans (b3.mono BA.size))
      refine hK.out _ _ ⟨hHeld.1.below b3,hHeld.2.below b3 hHeld.2.lt⟩ (fun hHeld=>?_)
      clear hK K b3
      (try simp only[Act.put,lA,lB,lC])
      refine tL 7 (v:=?v7h906) hHeld ?y7h906 ?r7h906
      case y7h906=>(intro w _;go_simp;first|with_reducible rfl|exact if_pos hmT|exact if_pos hmS|exact if_pos hmU)
      (try simp only[Act.put,lA,lB,lC])
      refine tL 8 (v:=?v8h907) hHeld ?y8h907 ?r8h907
      case y8h907=>(intro w _;go_simp;first|with_reducible rfl|exact if_pos hmT|exact if_pos hmS|exact if_pos hmU)
      (try simp only[Act.put,lA,lB,lC])
      refine wpAnyH_done (by kernel_rfl) ?_ _
      refine NoPanic.normal ?_
      go_wp2_with (fail)
      exact bodyPost_ret (results_tmp2 rfl _ _ _) rfl ⟨.inl ⟨rfl,za,zc,by show _=Ending.returned (.tuple #[.slice za (st.take m++G).length zc,.nilIface]);rw[List.length_append,htl];rfl,z1.lower BA.size⟩,B6.out⟩
     ·refine wp_region_noPanic ?_
      refine wp_region_held_drew (S:=fun w'=>SB w.heap.size vs [.int .i64 (o:Int),.int .i64 ia,.int .i64 ib] [.int .i64 top.kind,.int .i64 top.of,.bool top.mt] w'∧Rec w' bd 160 [.slice ta T.length tc,.slice ga G.length gc]) (by kernel_rfl) SLd.out (fun hHeld=>?_)
      (try simp only[Act.put,lA,lB,lC])
      refine tL 0 (v:=?v0h908) hHeld ?y0h908 ?r0h908
      case y0h908=>(intro w _;go_simp;first|with_reducible rfl|exact if_pos hmT|exact if_pos hmS|exact if_pos hmU)
      (try simp only[Act.put,lA,lB,lC])
      refine tL 1 (v:=?v1h909) hHeld ?y1h909 ?r1h909
      case y1h909=>(intro w _;go_simp;first|with_reducible rfl|exact if_pos hmT|exact if_pos hmS|exact if_pos hmU)
      (try simp only[Act.put,lA,lB,lC])
      refine tL 2 (v:=?v2h910) hHeld ?y2h910 ?r2h910
      case y2h910=>(intro w _;go_simp;first|with_reducible rfl|exact if_pos hmT|exact if_pos hmS|exact if_pos hmU)
      (try simp only[Act.put,lA,lB,lC])
      refine tL 3 (v:=?v3h911) hHeld ?y3h911 ?r3h911
      case y3h911=>(intro w _;go_simp;first|with_reducible rfl|exact if_pos hmT|exact if_pos hmS|exact if_pos hmU)
      (try simp only[Act.put,lA,lB,lC])
      refine tL 4 (v:=?v4h912) hHeld ?y4h912 ?r4h912
      case y4h912=>(intro w hSw;have sb0:=hSw.2.cell (o:=0) rfl;have sb1:=hSw.2.cell (o:=1) rfl;have si0:=hSw.1.i.cell (o:=0) rfl;have si1:=hSw.1.i.cell (o:=1) rfl;have si2:=hSw.1.i.cell (o:=2) rfl;go_simp;first|with_reducible rfl|exact if_pos hmT|exact if_pos hmS|exact if_pos hmU)
      (try simp only[Act.put,lA,lB,lC])
      refine dL 5 (fun K hK=>?_)
      go_simp
      refine hK.out _ _ ⟨(S5.out.alloc (.cells #[.slice (some ⟨sb,so,sp⟩) m sc,.slice ga G.length gc] 31)).drew,Rec.drew' (E5.out.alloc (.cells #[.slice (some ⟨sb,so,sp⟩) m sc,.slice ga G.length gc] 31))⟩ (fun hHeld=>?_)
      clear hK K
      (try simp only[Act.put,lA,lB,lC])
      refine dL 6 (fun K hK=>?_)
      have NR:Rec (w2.alloc (.cells #[.slice (some ⟨sb,so,sp⟩) m sc,.slice ga G.length gc] 31)).drew w2.heap.size 31 [.slice (some ⟨sb,so,sp⟩) m sc,.slice ga G.length gc]:=Rec.drew' (Rec.new _ _ _)
      have BA:=(B5.out.alloc B5.out.size (.cells #[.slice (some ⟨sb,so,sp⟩) m sc,.slice ga G.length gc] 31)).drew
      have BN:=((Below.refl w2.heap.size w2).alloc (Nat.le_refl _) (.cells #[.slice (some ⟨sb,so,sp⟩) m sc,.slice ga G.length gc] 31)).drew
      have lw:=B5.out.size
      have HC:=concatF_any w2.heap.size (some ⟨sb,so,sp⟩) ga sc gc 0 w2.heap.size (st.take m) G (w2.alloc (.cells #[.slice (some ⟨sb,so,sp⟩) m sc,.slice ga G.length gc] 31)).drew (by rw[htl];exact NR.cell (o:=0) rfl) (NR.cell (o:=1) rfl) NR.lt (((hx.keepB (BA.mono hh1)).takeL m).wid (Nat.zero_le _) (Nat.le_trans hh1 lw)) ((G5.out.keepB BN).wid (Nat.zero_le _) (Nat.le_refl _)) BN.size (by omega) (by omega)
      go_simp
      (go_at_call 106;refine HC.mono ?_)
      rintro e w3 ⟨za,zc,rfl,z1,b3⟩
      have B6:=hide (BA.trans (b3.mono BA.size))
      refine hK.out _ _ ⟨hHeld.1.below b3,hHeld.2.below b3 hHeld.2.lt⟩ (fun hHeld=>?_)
      clear hK K b3
      (try simp only[Act.put,lA,lB,lC])
      refine tL 7 (v:=?v7h913) hHeld ?y7h913 ?r7h913
      case y7h913=>(intro w _;go_simp;first|with_reducible rfl|exact if_pos hmT|exact if_pos hmS|exact if_pos hmU)
      (try simp only[Act.put,lA,lB,lC])
      refine tL 8 (v:=?v8h914) hHeld ?y8h914 ?r8h914
      case y8h914=>(intro w _;go_simp;first|with_reducible rfl|exact if_pos hmT|exact if_pos hmS|exact if_pos hmU)
      (try simp only[Act.put,lA,lB,lC])
      refine wpAnyH_done (by kernel_rfl) ?_ _
      refine NoPanic.normal ?_
      go_wp2_with (fail)
      exact bodyPost_ret (results_tmp2 rfl _ _ _) rfl ⟨.inl ⟨rfl,za,zc,by show _=Ending.returned (.tuple #[.slice za (st.take m++G).length zc,.nilIface]);rw[List.length_append,htl];rfl,z1.lower BA.size⟩,B6.out⟩
end Go.Proofs.YtpaneomkphjpcaaGreatDoor
