/- Lists of lists of fields, compared by the laws. -/
import Derived.Test.YtpaneomkphjpcaaGreatDoorCkWalkS
import Derived.Test.YtpaneomkphjpcaaGreatDoorCkFunS
namespace Go.Proofs.YtpaneomkphjpcaaGreatDoor
open Go.ChangeShapes Go.WideShapes Go.ChangeAt Go.RowKit Go.Deep
set_option linter.unusedVariables false
set_option linter.unusedSimpArgs false
def StkIn (w:World) (lo hi:Nat) (st:Nat→List Fd×Int) (n:Nat) (a:Option Addr):Prop:=n=0∨∃g,a=some ⟨g,0,none⟩∧lo≤g∧g<hi∧∀j,j<n→∃aj cj,w.cell? ⟨g,j,none⟩=some (.slice aj (st j).1.length cj)∧FieldsIn w lo hi aj (st j).1
theorem StkIn.same {w w':World} {lo hi lo' hi' n:Nat} {st:Nat→List Fd×Int} {a:Option Addr} (h:StkIn w lo hi st n a) (hs:Same lo hi w w') (h1:lo'≤lo) (h2:hi≤hi'):StkIn w' lo' hi' st n a:=by
 rcases h with h|⟨g,e,g1,g2,g3⟩
 ·exact .inl h
 ·refine .inr ⟨g,e,by omega,by omega,fun j hj=>?_⟩
  obtain⟨aj,cj,q1,q2⟩:=g3 j hj
  exact⟨aj,cj,(hs.cell g1 g2).trans q1,q2.same hs h1 h2⟩
theorem StkIn.of {w:World} {S n c:Nat} {a:Option Addr} {vs:List Value} {st:Nat→List Fd×Int} (h:LRow w S (.slice a n c) vs) (hs:Stks w S st vs) (hn:vs.length=n):StkIn w S w.heap.size st n a:=by
 by_cases h0:n=0
 ·exact .inl h0
 ·rcases h.1.2 with⟨_,h1⟩|⟨g,c',cur,e,hS,hg,_⟩
  ·omega
  obtain⟨g',e1,hlt,hc⟩:=LRow.blk h (by omega)
  injection e with e2 _ _
  rw[e1] at e2
  injection e2 with e3
  injection e3 with e4 _ _
  subst e4
  refine .inr ⟨_,e1,hS,hlt,fun j hj=>?_⟩
  obtain⟨aj,cj,q1,q2⟩:=hs j (by omega)
  exact⟨aj,cj,hc j _ q1,(FdRow.own q2).1⟩
set_option maxHeartbeats 4000000 in
set_option maxRecDepth 100000 in
theorem eqFieldSS_any (a a':Option Addr) (n c c' lo hi lo' hi':Nat) (st:Nat→List Fd×Int) (w:World) (hn:n≤1000000) (h8:∀j,j<n→(st j).1.length≤1000000) (hx:StkIn w lo hi st n a) (hy:StkIn w lo' hi' st n a') (hh:hi≤w.heap.size) (hh':hi'≤w.heap.size) :
 Calls Tryz.prog 21 #[.slice a n c,.slice a' n c'] w fun e w'=>e=.returned (.bool true)∧Below w.heap.size w w':=by
 have HX:=hide hx
 have HY:=hide hy
 have H8:=hide h8
 clear hx hy h8
 go_enter Tryz.func21,Tryz.ntmps21
 go_wp2_with fail
 go_loopw [5] (fun v wr=>∃j:Nat,j≤n∧v=.int .i64 j∧Hid (Below w.heap.size w wr)) (fun v wr=>n-(intOf v).toNat)
 case atStart=>exact⟨0,Nat.zero_le _,rfl,Below.refl _ _⟩
 case round =>
  obtain⟨j,hj,rfl,HB⟩:=hrel
  by_cases hlt:j<n
  ·have g1:(j:Int)<(n:Int):=by omega
   have g2:(0:Int)≤(j:Int):=by omega
   rcases HX.out with h0|⟨g,rfl,x1,x2,x3⟩
   ·omega
   rcases HY.out with h0|⟨g',rfl,y1,y2,y3⟩
   ·omega
   obtain⟨aj,cj,q1,q2⟩:=x3 j hlt
   obtain⟨bj,dj,r1,r2⟩:=y3 j hlt
   have q1:=(HB.out.cell (p:=⟨g,j,none⟩) (by show g<_;omega)).trans q1
   have r1:=(HB.out.cell (p:=⟨g',j,none⟩) (by show g'<_;omega)).trans r1
   have sz:=HB.out.size
   have BD:=HB.out.drew
   have HC:=hide (eqFieldS_same aj bj cj dj lo hi lo' hi' (st j).1 wr.drew (Nat.le_trans (H8.out j hlt) (by decide)) (q2.keepB (BD.mono hh)) (r2.keepB (BD.mono hh')) (Nat.le_trans hh sz) (Nat.le_trans hh' sz))
   clear x3 y3 q2 r2
   go_wp2_with fail
   go_region_held3 (fun w'=>w'.cell? ⟨g,j,none⟩=some (.slice aj (st j).1.length cj)∧w'.cell? ⟨g',j,none⟩=some (.slice bj (st j).1.length dj)) (go_keep) ((go_at_call 14;refine HC.out.mono ?_;rintro e w3 ⟨rfl,b3⟩;have q1:=(b3.cell (p:=⟨g,j,none⟩) (by show g<wr.heap.size;omega)).trans q1;have r1:=(b3.cell (p:=⟨g',j,none⟩) (by show g'<wr.heap.size;omega)).trans r1))
   have B3:=hide (BD.trans (b3.mono sz))
   clear b3
   go_wp2_with fail
   exact⟨⟨j+1,by omega,by go_num,B3⟩,by simp[intOf];omega⟩
  ·obtain rfl:j=n:=by omega
   have hq:¬(j:Int)<(j:Int):=by omega
   go_wp2_with fail
   go_ret
   exact⟨rfl,HB.out⟩
end Go.Proofs.YtpaneomkphjpcaaGreatDoor
