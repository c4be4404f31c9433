/- What an instruction takes and gives, as data; each rule off the scope's table. Written by tools/made/ckdo.py. -/
import Derived.Test.YtpaneomkphjpcaaGreatDoorCkFits
import Derived.Test.YtpaneomkphjpcaaGreatDoorPaOk
namespace Go.Proofs.YtpaneomkphjpcaaGreatDoor
open Go.ChangeShapes Go.WideShapes Go.ChangeAt Go.RowKit
set_option linter.unusedVariables false
set_option linter.unusedSimpArgs false
def nF:Fd:=⟨1,0,false⟩
def rF (a:Int):Fd:=⟨2,a,false⟩
def uF (a:Int):Fd:=⟨3,a,false⟩
def ruleT (p:GProg) (k:Nat) (top:Fd) (i:GIns):List Fd :=
 let F:=funAt' p.funs k
 match i.op.toNat with
 | 3=>[plFd (F.takes++F.own) i.a]
 | 5=>[plFd p.glob i.a]
 | 6=>[top]
 | 7=>[nF,nF]
 | 8=>[nF,nF]
 | 9=>[nF,nF]
 | 10=>[nF]
 | 11=>[rF (-2)]
 | 13=>(tyF p.types i.a).fields.map sOf
 | 14=>[rF i.a]
 | 15=>[rF i.a,sOf (bxF p.types i.a i.b)]
 | 16=>[nF,sOf (rwF p.types i.a)]
 | 17=>[rF i.a,nF]
 | 18=>[rF i.a,nF,sOf (rwF p.types i.a)]
 | 19=>[rF i.a]
 | 20=>[rF (-1),rF (-1)]
 | 21=>[rF (-1)]
 | 22=>[rF (-1)]
 | 23=>[rF (-1)]
 | 24=>[rF (-1)]
 | 26=>[nF]
 | 27=>caT p i.a
 | 28=>caT p i.a
 | 29=>[F.gives]
 | 30=>[nF]
 | 31=>[rF (-1)]
 | 32=>[nF]
 | _=>[]
def ruleG (p:GProg) (k:Nat) (top:Fd) (i:GIns):List Fd :=
 let F:=funAt' p.funs k
 match i.op.toNat with
 | 1=>[nF]
 | 2=>[plFd (F.takes++F.own) i.a]
 | 4=>[plFd p.glob i.a]
 | 7=>[nF]
 | 8=>[nF]
 | 9=>[nF]
 | 10=>[uF (-2)]
 | 11=>[nF]
 | 12=>[rF i.a]
 | 13=>[uF i.a]
 | 14=>[sOf (bxF p.types i.a i.b)]
 | 16=>[uF i.a]
 | 17=>[sOf (rwF p.types i.a)]
 | 19=>[nF]
 | 20=>[nF]
 | 21=>[nF]
 | 22=>[nF]
 | 23=>[uF i.a]
 | 24=>[uF top.of]
 | 27=>caG p i.a
 | 32=>[nF]
 | _=>[]
def ruleN (p:GProg) (k:Nat) (i:GIns):Bool :=
 let F:=funAt' p.funs k
 match i.op.toNat with
 | 2=>decide (i.a<((F.takes++F.own).length:Int))
 | 3=>decide (i.a<((F.takes++F.own).length:Int))
 | 4=>decide (i.a<(p.glob.length:Int))
 | 5=>decide (i.a<(p.glob.length:Int))
 | 12=>isRefF p.types i.a
 | 13=>tyIs p.types i.a 1
 | 14=>bxIs p.types i.a i.b
 | 15=>(bxIs p.types i.a i.b&&(bxF p.types i.a i.b).mt)
 | 16=>tyIs p.types i.a 2
 | 17=>tyIs p.types i.a 2
 | 18=>(tyIs p.types i.a 2&&(rwF p.types i.a).mt)
 | 19=>tyIs p.types i.a 2
 | 22=>isRefF p.types i.a
 | 23=>isRefF p.types i.a
 | 25=>decide (i.a<(F.body.length:Int))
 | 26=>decide (i.a<(F.body.length:Int))
 | 27=>decide (i.a<(p.funs.length:Int))
 | 28=>decide (i.a<(p.funs.length:Int))
 | _=>true
theorem ins_bounds {op a b:Int} (h:insOk op a b=true):(1≤op∧op≤33)∧-2≤a∧a≤9973∧(op≠12→op≠22→op≠23→0≤a)∧0≤b∧b≤4:=by
 unfold insOk at h
 simp only[Bool.and_eq_true,decide_eq_true_eq] at h
 obtain⟨h1,h2⟩:=h
 refine⟨h1,?_⟩
 split at h2
 ·simp only[decide_eq_true_eq] at h2;omega
 ·split at h2
  ·simp only[decide_eq_true_eq] at h2
   have hs:spanLo op=-2∧(op=12∨op=22∨op=23)∨spanLo op=0:=by
    unfold spanLo
    split
    ·exact .inl ⟨rfl,by assumption⟩
    ·exact .inr rfl
   have hh:spanHi op≤9973:=by
    unfold spanHi
    repeat' split
    all_goals omega
   omega
  ·simp only[decide_eq_true_eq] at h2;omega
theorem tyF_small {gs:List (List Ty)} (hP:Parts gs) (a:Int):(tyF gs a).fields.length≤4:=by
 unfold tyF
 split
 ·rename_i h
  unfold isTypeF at h
  simp only[Bool.and_eq_true,decide_eq_true_eq] at h
  exact(parts_flat hP (show a.toNat<kinCount gs by omega)).1
 ·simp
theorem rule_call (vs:List Value) (lo hi k:Nat) (p:GProg) (i:GIns) (top:Fd) (h1:insOk i.op i.a i.b=true) (hP:Parts p.types) :
  ∃fn,(∀w,Scp w lo hi p k vs→vs[5+i.op.toNat]?=some (.func (.func fn) #[] #[]))∧∀w,Scp w lo hi p k vs→lo≤w.heap.size →
   Calls Tryz.prog fn #[.agg vs.toArray,.agg #[.int .i64 i.op,.int .i64 i.a,.int .i64 i.b],.agg #[.int .i64 top.kind,.int .i64 top.of,.bool top.mt]] w fun e w'=>EffP lo w (ruleT p k top i) (ruleG p k top i) (ruleN p k i) e w':=by
 obtain⟨op,a,b⟩:=i
 obtain⟨⟨g1,g2⟩,g3,g4,g5,g6,g7⟩:=ins_bounds h1
 simp only at g1 g2 g3 g4 g5 g6 g7
 have hn:kinCount p.types≤1099511627776:=by have:=hP.2.1;omega
 have hop:op=1∨op=2∨op=3∨op=4∨op=5∨op=6∨op=7∨op=8∨op=9∨op=10∨op=11∨op=12∨op=13∨op=14∨op=15∨op=16∨op=17∨op=18∨op=19∨op=20∨op=21∨op=22∨op=23∨op=24∨op=25∨op=26∨op=27∨op=28∨op=29∨op=30∨op=31∨op=32∨op=33:=by omega
 have hl4:=tyF_small hP a
 clear h1 g1 g2
 rcases hop with rfl|rfl|rfl|rfl|rfl|rfl|rfl|rfl|rfl|rfl|rfl|rfl|rfl|rfl|rfl|rfl|rfl|rfl|rfl|rfl|rfl|rfl|rfl|rfl|rfl|rfl|rfl|rfl|rfl|rfl|rfl|rfl|rfl
 ·refine⟨141,fun w h=>(h.rul 1 (by omega)).trans rfl,fun w h hl=>?_⟩
  exact(checkNum_any vs 1 a b top.kind top.of top.mt w).mono fun e w' h=>h.low hl
 ·refine⟨142,fun w h=>(h.rul 2 (by omega)).trans rfl,fun w h hl=>?_⟩
  obtain⟨sa,sc,e,hf⟩:=h.sl
  exact(checkGet_any vs 2 a b top.kind top.of top.mt sa sc lo hi _ w (by omega) e hf h.hh).mono fun e w' h=>h.low hl
 ·refine⟨143,fun w h=>(h.rul 3 (by omega)).trans rfl,fun w h hl=>?_⟩
  obtain⟨sa,sc,e,hf⟩:=h.sl
  exact(checkSet_any vs 3 a b top.kind top.of top.mt sa sc lo hi _ w (by omega) e hf h.hh).mono fun e w' h=>h.low hl
 ·refine⟨144,fun w h=>(h.rul 4 (by omega)).trans rfl,fun w h hl=>?_⟩
  obtain⟨sa,sc,e,hf⟩:=h.gl
  exact(checkTake_any vs 4 a b top.kind top.of top.mt sa sc lo hi _ w (by omega) e hf h.hh).mono fun e w' h=>h.low hl
 ·refine⟨145,fun w h=>(h.rul 5 (by omega)).trans rfl,fun w h hl=>?_⟩
  obtain⟨sa,sc,e,hf⟩:=h.gl
  exact(checkKeep_any vs 5 a b top.kind top.of top.mt sa sc lo hi _ w (by omega) e hf h.hh).mono fun e w' h=>h.low hl
 ·refine⟨146,fun w h=>(h.rul 6 (by omega)).trans rfl,fun w h hl=>?_⟩
  exact(checkDrop_any vs 6 a b top.kind top.of top.mt w).mono fun e w' h=>h.low hl
 ·refine⟨147,fun w h=>(h.rul 7 (by omega)).trans rfl,fun w h hl=>?_⟩
  exact(checkReckon_any vs 7 a b top.kind top.of top.mt w).mono fun e w' h=>h.low hl
 ·refine⟨147,fun w h=>(h.rul 8 (by omega)).trans rfl,fun w h hl=>?_⟩
  exact(checkReckon_any vs 8 a b top.kind top.of top.mt w).mono fun e w' h=>h.low hl
 ·refine⟨147,fun w h=>(h.rul 9 (by omega)).trans rfl,fun w h hl=>?_⟩
  exact(checkReckon_any vs 9 a b top.kind top.of top.mt w).mono fun e w' h=>h.low hl
 ·refine⟨148,fun w h=>(h.rul 10 (by omega)).trans rfl,fun w h hl=>?_⟩
  exact(checkChip_any vs 10 a b top.kind top.of top.mt w).mono fun e w' h=>h.low hl
 ·refine⟨149,fun w h=>(h.rul 11 (by omega)).trans rfl,fun w h hl=>?_⟩
  exact(checkBack_any vs 11 a b top.kind top.of top.mt w).mono fun e w' h=>h.low hl
 ·refine⟨150,fun w h=>(h.rul 12 (by omega)).trans rfl,fun w h hl=>?_⟩
  exact(checkNull_any vs 12 a b top.kind top.of top.mt w lo hi k p h hn).mono fun e w' h=>h.low hl
 ·refine⟨151,fun w h=>(h.rul 13 (by omega)).trans rfl,fun w h hl=>?_⟩
  exact(checkNew_any vs 13 a b top.kind top.of top.mt w lo hi k p h hn (by omega)).mono fun e w' h=>h.low hl
 ·refine⟨152,fun w h=>(h.rul 14 (by omega)).trans rfl,fun w h hl=>?_⟩
  exact(checkLook_any vs 14 a b top.kind top.of top.mt w lo hi k p h hn g6).mono fun e w' h=>h.low hl
 ·refine⟨153,fun w h=>(h.rul 15 (by omega)).trans rfl,fun w h hl=>?_⟩
  exact(checkPut_any vs 15 a b top.kind top.of top.mt w lo hi k p h hn g6).mono fun e w' h=>h.low hl
 ·refine⟨154,fun w h=>(h.rul 16 (by omega)).trans rfl,fun w h hl=>?_⟩
  exact(checkRow_any vs 16 a b top.kind top.of top.mt w lo hi k p h hn hP).mono fun e w' h=>h.low hl
 ·refine⟨155,fun w h=>(h.rul 17 (by omega)).trans rfl,fun w h hl=>?_⟩
  exact(checkAt_any vs 17 a b top.kind top.of top.mt w lo hi k p h hn hP).mono fun e w' h=>h.low hl
 ·refine⟨156,fun w h=>(h.rul 18 (by omega)).trans rfl,fun w h hl=>?_⟩
  exact(checkLay_any vs 18 a b top.kind top.of top.mt w lo hi k p h hn hP).mono fun e w' h=>h.low hl
 ·refine⟨157,fun w h=>(h.rul 19 (by omega)).trans rfl,fun w h hl=>?_⟩
  exact(checkLen_any vs 19 a b top.kind top.of top.mt w lo hi k p h hn hP).mono fun e w' h=>h.low hl
 ·refine⟨158,fun w h=>(h.rul 20 (by omega)).trans rfl,fun w h hl=>?_⟩
  exact(checkSame_any vs 20 a b top.kind top.of top.mt w).mono fun e w' h=>h.low hl
 ·refine⟨159,fun w h=>(h.rul 21 (by omega)).trans rfl,fun w h hl=>?_⟩
  exact(checkNone_any vs 21 a b top.kind top.of top.mt w).mono fun e w' h=>h.low hl
 ·refine⟨160,fun w h=>(h.rul 22 (by omega)).trans rfl,fun w h hl=>?_⟩
  exact(checkTest_any vs 22 a b top.kind top.of top.mt w lo hi k p h hn).mono fun e w' h=>h.low hl
 ·refine⟨161,fun w h=>(h.rul 23 (by omega)).trans rfl,fun w h hl=>?_⟩
  exact(checkCast_any vs 23 a b top.kind top.of top.mt w lo hi k p h hn).mono fun e w' h=>h.low hl
 ·refine⟨162,fun w h=>(h.rul 24 (by omega)).trans rfl,fun w h hl=>?_⟩
  exact(checkSure_any vs 24 a b top.kind top.of top.mt w).mono fun e w' h=>h.low hl
 ·refine⟨163,fun w h=>(h.rul 25 (by omega)).trans rfl,fun w h hl=>?_⟩
  exact(checkJump_any vs 25 a b top.kind top.of top.mt w lo hi k p h).mono fun e w' h=>h.low hl
 ·refine⟨164,fun w h=>(h.rul 26 (by omega)).trans rfl,fun w h hl=>?_⟩
  exact(checkIf_any vs 26 a b top.kind top.of top.mt w lo hi k p h).mono fun e w' h=>h.low hl
 ·refine⟨165,fun w h=>(h.rul 27 (by omega)).trans rfl,fun w h hl=>?_⟩
  exact(checkCall_any vs 27 a b top.kind top.of top.mt w lo hi k p h (by omega) hl)
 ·refine⟨166,fun w h=>(h.rul 28 (by omega)).trans rfl,fun w h hl=>?_⟩
  exact(checkPass_any vs 28 a b top.kind top.of top.mt w lo hi k p h (by omega) hl)
 ·refine⟨167,fun w h=>(h.rul 29 (by omega)).trans rfl,fun w h hl=>?_⟩
  exact(checkRet_any vs 29 a b top.kind top.of top.mt w _ _ _ h.g0 h.g1 h.g2).mono fun e w' h=>h.low hl
 ·refine⟨168,fun w h=>(h.rul 30 (by omega)).trans rfl,fun w h hl=>?_⟩
  exact(checkSay_any vs 30 a b top.kind top.of top.mt w).mono fun e w' h=>h.low hl
 ·refine⟨169,fun w h=>(h.rul 31 (by omega)).trans rfl,fun w h hl=>?_⟩
  exact(checkShow_any vs 31 a b top.kind top.of top.mt w).mono fun e w' h=>h.low hl
 ·refine⟨170,fun w h=>(h.rul 32 (by omega)).trans rfl,fun w h hl=>?_⟩
  exact(checkAsk_any vs 32 a b top.kind top.of top.mt w).mono fun e w' h=>h.low hl
 ·refine⟨171,fun w h=>(h.rul 33 (by omega)).trans rfl,fun w h hl=>?_⟩
  exact(checkSweep_any vs 33 a b top.kind top.of top.mt w).mono fun e w' h=>h.low hl
end Go.Proofs.YtpaneomkphjpcaaGreatDoor
