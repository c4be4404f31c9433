/- PaGen: GenBase, GenIns, GenFun, GenProg, GenOpen. -/
import Derived.Test.YtpaneomkphjpcaaGreatDoorGenProg0
import Derived.Test.YtpaneomkphjpcaaGreatDoorPaOne
import Derived.Handy
namespace Go.Proofs.YtpaneomkphjpcaaGreatDoor
open Go.ChangeShapes Go.WideShapes Go.ChangeAt Go.RowKit Go.Joins Go.Deep
set_option linter.unusedVariables false
theorem toFieldS_g {md:Bool} (a:Option Addr) (cap lo hi:Nat) (xs:List Fd) (w:World) (hn:FieldsB 1048576 xs) (hx:FieldsM md w lo hi a xs) (hh:hi≤w.heap.size) :
  Calls Tryz.prog 11 #[.slice a xs.length cap] w fun e w'=>∃na,e=.returned (.slice na xs.length xs.length)∧FieldsM true w' w.heap.size w'.heap.size na xs∧Below w.heap.size w w':=by
 refine(toFieldS_any a cap lo hi xs w hn hx.1 hh).mono ?_
 rintro e w' ⟨na,rfl,h,hb⟩
 exact⟨na,rfl,⟨h.1,fun _=>h.2⟩,hb⟩
theorem toTypeSS_g {md:Bool} (a:Option Addr) (cap lo hi:Nat) (xs:List (List Ty)) (w:World) (hn:GroupsB 1048576 xs) (hx:GroupsM md w lo hi a xs) (hh:hi≤w.heap.size) :
  Calls Tryz.prog 36 #[.slice a xs.length cap] w fun e w'=>∃na,e=.returned (.slice na xs.length xs.length)∧GroupsM true w' w.heap.size w'.heap.size na xs∧Below w.heap.size w w':=by
 refine(toTypeSS_any a cap lo hi xs w hn hx.1 hh).mono ?_
 rintro e w' ⟨na,rfl,h,hb⟩
 exact⟨na,rfl,⟨h.plain,fun _=>h⟩,hb⟩
theorem szFieldS_g {md:Bool} (a:Option Addr) (cap lo hi:Nat) (xs:List Fd) (left:Int) (w:World) (hl:FieldsB 9223372036854775807 xs) (hx:FieldsM md w lo hi a xs) (hh:hi≤w.heap.size) (l0:0≤left) (l1:left≤1048576) :
  Calls Tryz.prog 8 #[.slice a xs.length cap,.int .i64 left] w fun e w'=>∃r:Int,e=.returned (.int .i64 r)∧-1≤r∧r≤left∧(0≤r→FieldsB 1048576 xs)∧Below w.heap.size w w':=by
 refine(szFieldS_any a xs.length cap left w hl l0 l1).mono ?_
 rintro e w' ⟨r,rfl,r1,r2,r3,rfl⟩
 exact⟨r,rfl,r1,r2,r3,Below.refl _ _⟩
theorem szTypeSS_g {md:Bool} (a:Option Addr) (cap lo hi:Nat) (xs:List (List Ty)) (left:Int) (w:World) (hl:GroupsB 9223372036854775807 xs) (hx:GroupsM md w lo hi a xs) (hh:hi≤w.heap.size) (l0:0≤left) (l1:left≤1048576) :
  Calls Tryz.prog 29 #[.slice a xs.length cap,.int .i64 left] w fun e w'=>∃r:Int,e=.returned (.int .i64 r)∧-1≤r∧r≤left∧(0≤r→GroupsB 1048576 xs)∧Below w.heap.size w w' :=
 szTypeSS_any a cap lo hi xs left w hl hx.1 hh l0 l1
theorem eqFieldS_g {md md':Bool} (a a':Option Addr) (cap cap' lo hi lo' hi':Nat) (xs:List Fd) (w:World) (hn:FieldsB 1048576 xs) (hx:FieldsM md w lo hi a xs) (hy:FieldsM md' w lo' hi' a' xs) (hh:hi≤w.heap.size) (hh':hi'≤w.heap.size) :
  Calls Tryz.prog 14 #[.slice a xs.length cap,.slice a' xs.length cap'] w fun e w'=>e=.returned (.bool true)∧Below w.heap.size w w' :=
 eqFieldS_same a a' cap cap' lo hi lo' hi' xs w (Nat.le_trans hn (by decide)) hx.1 hy.1 hh hh'
theorem eqTypeSS_g {md md':Bool} (a a':Option Addr) (cap cap' lo hi lo' hi':Nat) (xs:List (List Ty)) (w:World) (hn:GroupsB 1048576 xs) (hx:GroupsM md w lo hi a xs) (hy:GroupsM md' w lo' hi' a' xs) (hh:hi≤w.heap.size) (hh':hi'≤w.heap.size) :
  Calls Tryz.prog 42 #[.slice a xs.length cap,.slice a' xs.length cap'] w fun e w'=>e=.returned (.bool true)∧Below w.heap.size w w' :=
 eqTypeSS_same a a' cap cap' lo hi lo' hi' xs w hn hx.1 hy.1 hh hh'
theorem eqField_g (x:Fd) (w:World) :
  Calls Tryz.prog 41 #[.agg #[.int .i64 x.kind,.int .i64 x.of,.bool x.mt],.agg #[.int .i64 x.kind,.int .i64 x.of,.bool x.mt]] w fun e w'=>e=.returned (.bool true)∧Below w.heap.size w w':=eqField_same _ _ _ _
set_option maxHeartbeats 400000 in
theorem toIns_any (x:GIns) (w:World) :
    Calls Tryz.prog 12 #[.agg #[.int .i64 x.op,.int .i64 x.a,.int .i64 x.b]] w fun e w'=>e=.returned (.agg #[.int .i64 x.op,.int .i64 x.a,.int .i64 x.b])∧Below w.heap.size w w':=by
  go_enter Tryz.func12,Tryz.ntmps12
  go_wp2
  refine bodyPost_ret (v:=.agg #[.int .i64 x.op,.int .i64 x.a,.int .i64 x.b]) (by simp[results,Tryz.results12,go_sem]) rfl ⟨rfl,?_⟩
  repeat (first|exact Below.refl _ _|refine Below.alloc ?_ (by simp<;>omega) _)
theorem ins_set {w:World} {b n lo hi:Nat} {T':TypeId} (h:Own w b n T') (F:Nat→GIns) (k:Nat) (hk:k*3+2<n) (hlo:b<lo) (hF:∀j,j<k→InsAt true w lo hi b (j*3) (F j)) :
    ∀j,j<k+1→InsAt true ((((w).setCell ⟨b,k*3,none⟩ (.int .i64 (F k).op)).setCell ⟨b,k*3+1,none⟩ (.int .i64 (F k).a)).setCell ⟨b,k*3+2,none⟩ (.int .i64 (F k).b)) lo hi b (j*3) (F j):=by
  intro j hj
  have h1:=h.set b (k*3) (.int .i64 (F k).op)
  have h2:=h1.set b (k*3+1) (.int .i64 (F k).a)
  have hs:Same lo hi w ((((w).setCell ⟨b,k*3,none⟩ (.int .i64 (F k).op)).setCell ⟨b,k*3+1,none⟩ (.int .i64 (F k).a)).setCell ⟨b,k*3+2,none⟩ (.int .i64 (F k).b)):=(((Same.refl _ _ _).set (.inl hlo) _ _).set (.inl hlo) _ _).set (.inl hlo) _ _
  unfold InsAt
  simp only[h2.cell_set (o:=k*3+2) (by omega:k*3+2<n),h1.cell_set (o:=k*3+1) (by omega:k*3+1<n),h.cell_set (o:=k*3) (by omega:k*3<n)]
  by_cases e:j=k
  · subst e
    exact⟨by simp,by simp,by simp⟩
  · obtain⟨e0,e1,e2⟩:=hF j (by omega)
    refine⟨?_,?_,?_⟩
    all_goals rw[if_neg (by omega),if_neg (by omega),if_neg (by omega)];assumption
set_option maxHeartbeats 800000 in
theorem toInsS_core (a:Option Addr) (cap n lo hi:Nat) (F:Nat→GIns) (w:World) (hn:n≤1048576) (hh:hi≤w.heap.size)
    (hx:n≤0∨∃b off,a=some ⟨b,off,none⟩∧lo≤b∧b<hi∧∀i,i<n→InsAt false w lo hi b (off+i*3) (F i)) :
    Calls Tryz.prog 97 #[.slice a n cap] w fun e w'=>e=.returned (.slice (some ⟨w.heap.size,0,none⟩) n n)∧Own w' w.heap.size (n*3) 40∧(∀j,j<n→InsAt true w' (w.heap.size+1) w'.heap.size w.heap.size (j*3) (F j))∧Below w.heap.size w w':=by
  have hmk:=run_make_any (P:=Tryz.prog) 90 40 _ 3 24 Tryz.underlying90 Tryz.infoIns n (by omega) (by omega)
  rcases hx with h0|⟨b,off,rfl,h1,h2,h3⟩
  all_goals
    go_enter Tryz.func97,Tryz.ntmps97
    go_wp2_with fail
    go_loopw [4] (fun i wr=>∃k:Nat,k≤n∧i=.int .i64 k∧Own wr w.heap.size (n*3) 40∧(∀j,j<k→InsAt true wr (w.heap.size+1) wr.heap.size w.heap.size (j*3) (F j))∧Below w.heap.size w wr) (fun i wr=>n-(intOf i).toNat)
    case atStart=>exact⟨0,Nat.zero_le _,rfl,Own.made _ _ _ _,fun j hj=>absurd hj (Nat.not_lt_zero _),(Below.refl _ _).alloc (Nat.le_refl _) _⟩
    case round =>
      obtain⟨k,hk,rfl,ho,hF,hb⟩:=hrel
      have HF:=hide hF
      have HO:=hide ho
      clear hF ho
      by_cases hlt:k<n
      · first
        | (exfalso;omega)
        | (have sb:=hb.size
           have hx:=(h3 k hlt).same (.of_below (hb.mono hh) (Nat.le_refl _)) (Nat.le_refl _) (Nat.le_refl _) h1 h2
           obtain⟨e0,e1,e2⟩:=hx
           clear h3
           go_wp2_with fail
           refine(toIns_any (F k) _).mono ?_
           rintro e w1 ⟨rfl,hb1⟩
           have HO1:=hide (HO.out.below hb1 HO.out.lt)
           have f0:=HO1.out.frozen (k*3)
           have f1:=HO1.out.frozen (k*3+1)
           have f2:=HO1.out.frozen (k*3+2)
           obtain⟨v0,d0⟩:=HO1.out.cell (o:=k*3) (by omega)
           obtain⟨v1,d1⟩:=HO1.out.cell (o:=k*3+1) (by omega)
           obtain⟨v2,d2⟩:=HO1.out.cell (o:=k*3+2) (by omega)
           have hs1:=Own.lt HO.out
           go_wp2_with fail
           have hF1:∀j,j<k→InsAt true w1 (w.heap.size+1) w1.heap.size w.heap.size (j*3) (F j):=fun j hj=>by
             obtain⟨e0,e1,e2⟩:=HF.out j hj
             exact⟨(hb1.cell (by exact hs1)).trans e0,(hb1.cell (by exact hs1)).trans e1,(hb1.cell (by exact hs1)).trans e2⟩
           refine⟨⟨k+1,by omega,by go_num,(((HO1.out).set _ _ _).set _ _ _).set _ _ _,?_,(((hb.trans (hb1.mono hb.size)).setCell (Nat.le_refl _) _).setCell (Nat.le_refl _) _).setCell (Nat.le_refl _) _⟩,by simp[intOf];omega⟩
           have:=ins_set HO1.out F k (by omega) (Nat.lt_succ_self _) hF1
           simpa using this)
      · have hkn:Hid (k=n):=Nat.le_antisymm hk (Nat.le_of_not_lt hlt)
        go_wp2_with fail
        go_ret
        exact⟨rfl,HO.out,hkn.out▸HF.out,hb⟩
theorem toInsS_g {md:Bool} (a:Option Addr) (cap lo hi:Nat) (xs:List GIns) (w:World) (hn:InssB 1048576 xs) (hx:InssM md w lo hi a xs) (hh:hi≤w.heap.size) :
    Calls Tryz.prog 97 #[.slice a xs.length cap] w fun e w'=>∃na,e=.returned (.slice na xs.length xs.length)∧InssM true w' w.heap.size w'.heap.size na xs∧Below w.heap.size w w':=by
  refine(toInsS_core a cap xs.length lo hi (insAt' xs) w hn hh ?_).mono ?_
  · rcases hx.plain with rfl|⟨b,off,rfl,h1,h2,_,h3⟩
    · exact .inl (Nat.le_refl _)
    · exact .inr ⟨b,off,rfl,h1,h2,h3⟩
  · rintro e w' ⟨rfl,ho,hF,hb⟩
    refine⟨_,rfl,.inr ⟨_,0,rfl,Nat.le_refl _,ho.lt,fun _=>⟨rfl,_,ho,Nat.le_refl _⟩,fun i hi=>?_⟩,hb⟩
    obtain⟨e0,e1,e2⟩:=hF i hi
    rw[Nat.zero_add]
    exact⟨e0,e1,e2⟩
set_option maxHeartbeats 800000 in
theorem szInsS_g {md:Bool} (a:Option Addr) (cap lo hi:Nat) (xs:List GIns) (left:Int) (w:World) (hl:InssB 9223372036854775807 xs) (hx:InssM md w lo hi a xs) (hh:hi≤w.heap.size) (l0:0≤left) (l1:left≤1048576) :
    Calls Tryz.prog 81 #[.slice a xs.length cap,.int .i64 left] w fun e w'=>∃r:Int,e=.returned (.int .i64 r)∧-1≤r∧r≤left∧(0≤r→InssB 1048576 xs)∧Below w.heap.size w w':=by
  have hn:xs.length≤9223372036854775807:=hl
  clear hl hx
  by_cases hlt:left-(xs.length:Int)<0
  · go_enter Tryz.func81,Tryz.ntmps81
    go_wp2_with fail
    go_ret
    exact⟨-1,rfl,by omega,by omega,fun _=>(by unfold InssB;omega),Below.refl _ _⟩
  · go_enter Tryz.func81,Tryz.ntmps81
    go_wp2_with fail
    go_ret
    exact⟨left-xs.length,rfl,by omega,by omega,fun _=>(by unfold InssB;omega),Below.refl _ _⟩
set_option maxHeartbeats 400000 in
theorem eqIns_g (x:GIns) (w:World) :
    Calls Tryz.prog 131 #[.agg #[.int .i64 x.op,.int .i64 x.a,.int .i64 x.b],.agg #[.int .i64 x.op,.int .i64 x.a,.int .i64 x.b]] w fun e w'=>e=.returned (.bool true)∧Below w.heap.size w w':=by
  go_enter Tryz.func131,Tryz.ntmps131
  go_wp2_with fail
  go_ret
  exact⟨rfl,((Below.refl _ _).alloc (Nat.le_refl _) _).alloc (by simp) _⟩
set_option maxHeartbeats 800000 in
theorem eqInsS_core (a a':Option Addr) (cap cap' n lo hi lo' hi':Nat) (F:Nat→GIns) (w:World) (hh:hi≤w.heap.size) (hh':hi'≤w.heap.size)
    (hx:n≤0∨∃b off b' off',a=some ⟨b,off,none⟩∧a'=some ⟨b',off',none⟩∧lo≤b∧b<hi∧lo'≤b'∧b'<hi'∧(∀i,i<n→InsAt false w lo hi b (off+i*3) (F i))∧(∀i,i<n→InsAt false w lo' hi' b' (off'+i*3) (F i))) (hn:n≤1048576) :
    Calls Tryz.prog 112 #[.slice a n cap,.slice a' n cap'] w fun e w'=>e=.returned (.bool true)∧Below w.heap.size w w':=by
  rcases hx with h0|⟨b,off,b',off',rfl,rfl,g1,g2,g3,g4,h3,h4⟩
  all_goals
    go_enter Tryz.func112,Tryz.ntmps112
    go_wp2_with fail
    go_loopw [5] (fun i wr=>∃k:Nat,k≤n∧i=.int .i64 k∧Below w.heap.size w wr) (fun i wr=>n-(intOf i).toNat)
    case atStart=>exact⟨0,Nat.zero_le _,rfl,Below.refl _ _⟩
    case round =>
      obtain⟨k,hk,rfl,hb⟩:=hrel
      by_cases hlt:k<n
      · first
        | (exfalso;omega)
        | (have x1:=(h3 k hlt).same (.of_below (hb.mono hh) (Nat.le_refl _)) (Nat.le_refl _) (Nat.le_refl _) g1 g2
           have x2:=(h4 k hlt).same (.of_below (hb.mono hh') (Nat.le_refl _)) (Nat.le_refl _) (Nat.le_refl _) g3 g4
           obtain⟨e0,e1,e2⟩:=x1
           obtain⟨f0,f1,f2⟩:=x2
           clear h3 h4
           have k1:(0:Int)≤(k:Int):=by omega
           have k2:(k:Int)<(n:Int):=by omega
           have s1:=hb.size
           go_wp2_with fail
           go_region_held3 (fun w'=>(w'.cell? ⟨b,off+k*3,none⟩=some (.int .i64 (F k).op)∧w'.cell? ⟨b,off+k*3+1,none⟩=some (.int .i64 (F k).a)∧w'.cell? ⟨b,off+k*3+2,none⟩=some (.int .i64 (F k).b))∧(w'.cell? ⟨b',off'+k*3,none⟩=some (.int .i64 (F k).op)∧w'.cell? ⟨b',off'+k*3+1,none⟩=some (.int .i64 (F k).a)∧w'.cell? ⟨b',off'+k*3+2,none⟩=some (.int .i64 (F k).b))) (go_keep)
             ((go_at_call 131;refine(eqIns_g (F k) _).mono ?_;rintro e w1 ⟨rfl,hb1⟩;have y1:∀o,w1.cell? ⟨b,o,none⟩=wr.cell? ⟨b,o,none⟩:=fun o=>hb1.cell (Nat.lt_of_lt_of_le g2 (Nat.le_trans hh s1));have y2:∀o,w1.cell? ⟨b',o,none⟩=wr.cell? ⟨b',o,none⟩:=fun o=>hb1.cell (Nat.lt_of_lt_of_le g4 (Nat.le_trans hh' s1))))
           go_wp2_with fail
           exact⟨⟨k+1,by omega,by go_num,hb.drew.trans (hb1.mono s1)⟩,by simp[intOf];omega⟩)
      · go_wp2_with fail
        go_ret
        exact⟨rfl,hb⟩
theorem eqInsS_g {md md':Bool} (a a':Option Addr) (cap cap' lo hi lo' hi':Nat) (xs:List GIns) (w:World) (hn:InssB 1048576 xs) (hx:InssM md w lo hi a xs) (hy:InssM md' w lo' hi' a' xs) (hh:hi≤w.heap.size) (hh':hi'≤w.heap.size) :
    Calls Tryz.prog 112 #[.slice a xs.length cap,.slice a' xs.length cap'] w fun e w'=>e=.returned (.bool true)∧Below w.heap.size w w':=by
  refine eqInsS_core a a' cap cap' xs.length lo hi lo' hi' (insAt' xs) w hh hh' ?_ hn
  rcases hx.plain with rfl|⟨b,off,rfl,h1,h2,_,h3⟩
  · exact .inl (Nat.le_refl _)
  · rcases hy.plain with rfl|⟨b',off',rfl,h1',h2',_,h3'⟩
    · exact .inl (Nat.le_refl _)
    · exact .inr ⟨b,off,b',off',rfl,rfl,h1,h2,h1',h2',h3,h3'⟩
set_option maxHeartbeats 1600000 in
theorem toFun_any {md:Bool} (a0:Option Addr) (c0:Nat) (a4:Option Addr) (c4:Nat) (a5:Option Addr) (c5:Nat) (lo hi:Nat) (x:GFun) (w:World) (hl:FunB 1048576 x) (g0:FieldsM md w lo hi a0 x.takes) (g4:FieldsM md w lo hi a4 x.own) (g5:InssM md w lo hi a5 x.body) (hh:hi≤w.heap.size) :
    Calls Tryz.prog 66 #[.agg #[.slice a0 x.takes.length c0,.int .i64 x.gives.kind,.int .i64 x.gives.of,.bool x.gives.mt,.slice a4 x.own.length c4,.slice a5 x.body.length c5]] w fun e w'=>∃n0 n4 n5,e=.returned (.agg #[.slice n0 x.takes.length x.takes.length,.int .i64 x.gives.kind,.int .i64 x.gives.of,.bool x.gives.mt,.slice n4 x.own.length x.own.length,.slice n5 x.body.length x.body.length])∧FieldsM true w' w.heap.size w'.heap.size n0 x.takes∧FieldsM true w' w.heap.size w'.heap.size n4 x.own∧InssM true w' w.heap.size w'.heap.size n5 x.body∧Below w.heap.size w w':=by
  have HL:=hide hl
  clear hl
  have G0:=hide g0
  have G4:=hide g4
  have G5:=hide g5
  clear g0 g4 g5
  go_enter Tryz.func66,Tryz.ntmps66
  go_wp2_with fail
  refine(toFieldS_g a0 c0 lo hi x.takes _ HL.out.1 (G0.out.keep (Below.mono (by(repeat (first|refine Below.al ?_ (Nat.le_refl _) _|exact Below.refl _ _))) hh)) (by go_size)).mono ?_
  rintro e w0 ⟨n0,rfl,q0,hb0⟩
  have B0:Hid (Below w.heap.size w w0):=by
    refine Below.trans ?_ (hb0.mono (by go_size))
    (repeat (first|refine Below.al ?_ (Nat.le_refl _) _|exact Below.refl _ _))
  have sz0:w.heap.size+3≤w0.heap.size:=by
    have:=hb0.size
    simp only[World.size_alloc] at this
    omega
  have P0:Hid (Rec w0 w.heap.size 106 [.slice a0 x.takes.length c0,.int .i64 x.gives.kind,.int .i64 x.gives.of,.bool x.gives.mt,.slice a4 x.own.length c4,.slice a5 x.body.length c5]):=((((Rec.new' w _ _ _ rfl).alloc _).alloc _).below hb0 (by go_size))
  have R0:Hid (Rec w0 (w.heap.size+1) 92 [.slice none 0 0,.int .i64 0,.int .i64 0,.bool false,.slice none 0 0,.slice none 0 0]):=(((Rec.new' _ _ _ _ (by simp)).alloc _).below hb0 (by go_size))
  have O0:Hid (Rec w0 (w.heap.size+1+1) 92 [.slice none 0 0,.int .i64 0,.int .i64 0,.bool false,.slice none 0 0,.slice none 0 0]):=((Rec.new' _ _ _ _ (by simp)).below hb0 (by go_size))
  have p0_0:=P0.out.cell (o:=0) rfl
  have o0_0:=O0.out.cell (o:=0) rfl
  have f0_0:=O0.out.frozen 0
  have r0_0:=R0.out.cell (o:=0) rfl
  have s0_0:=R0.out.frozen 0
  have p1_0:=P0.out.cell (o:=1) rfl
  have o1_0:=O0.out.cell (o:=1) rfl
  have f1_0:=O0.out.frozen 1
  have r1_0:=R0.out.cell (o:=1) rfl
  have s1_0:=R0.out.frozen 1
  have p2_0:=P0.out.cell (o:=2) rfl
  have o2_0:=O0.out.cell (o:=2) rfl
  have f2_0:=O0.out.frozen 2
  have r2_0:=R0.out.cell (o:=2) rfl
  have s2_0:=R0.out.frozen 2
  have p3_0:=P0.out.cell (o:=3) rfl
  have o3_0:=O0.out.cell (o:=3) rfl
  have f3_0:=O0.out.frozen 3
  have r3_0:=R0.out.cell (o:=3) rfl
  have s3_0:=R0.out.frozen 3
  have p4_0:=P0.out.cell (o:=4) rfl
  have o4_0:=O0.out.cell (o:=4) rfl
  have f4_0:=O0.out.frozen 4
  have r4_0:=R0.out.cell (o:=4) rfl
  have s4_0:=R0.out.frozen 4
  have p5_0:=P0.out.cell (o:=5) rfl
  have o5_0:=O0.out.cell (o:=5) rfl
  have f5_0:=O0.out.frozen 5
  have r5_0:=R0.out.cell (o:=5) rfl
  have s5_0:=R0.out.frozen 5
  have Q0_0:=hide (q0.wide (lo':=w.heap.size+3) (hi':=w0.heap.size) (by go_size) (Nat.le_refl _))
  clear q0 hb0
  go_wp2_with fail
  refine(toField_any _ _ _ _).mono ?_
  rintro e w1 ⟨rfl,hb1⟩
  have B1:Hid (Below w.heap.size w w1):=by
    refine Below.trans ?_ (hb1.mono (by go_size))
    (repeat (first|exact B0.out|refine Below.setCell ?_ (by simp<;>omega) _))
  have sz1:w.heap.size+3≤w1.heap.size∧w0.heap.size≤w1.heap.size:=by
    have:=hb1.size
    simp only[World.size_setCell] at this
    omega
  have P1:Hid (Rec w1 w.heap.size 106 [.slice a0 x.takes.length c0,.int .i64 x.gives.kind,.int .i64 x.gives.of,.bool x.gives.mt,.slice a4 x.own.length c4,.slice a5 x.body.length c5]):=by
    refine Rec.below ?_ hb1 (by go_size)
    (repeat (first|exact P0.out|refine Rec.other ?_ (by omega) _ _))
  have R1:Hid (Rec w1 (w.heap.size+1) 92 [.slice none 0 0,.int .i64 0,.int .i64 0,.bool false,.slice none 0 0,.slice none 0 0]):=by
    refine Rec.below ?_ hb1 (by go_size)
    (repeat (first|exact R0.out|refine Rec.other ?_ (by omega) _ _))
  have O1:Hid (Rec w1 (w.heap.size+1+1) 92 [.slice n0 x.takes.length x.takes.length,.int .i64 0,.int .i64 0,.bool false,.slice none 0 0,.slice none 0 0]):=Rec.below ((O0.out).set _ _) hb1 (by go_size)
  have SM1:Same (w.heap.size+3) w0.heap.size w0 w1:=by
    refine Same.trans ?_ (Same.of_below hb1 (by go_size))
    (repeat (first|refine Same.set ?_ (.inl (by omega)) _ _|exact Same.refl _ _ _))
  have Q0_1:=hide (Q0_0.out.same SM1 (Nat.le_refl _) sz1.2)
  clear Q0_0 SM1
  clear p0_0 o0_0 f0_0 r0_0 s0_0 p1_0 o1_0 f1_0 r1_0 s1_0 p2_0 o2_0 f2_0 r2_0 s2_0 p3_0 o3_0 f3_0 r3_0 s3_0 p4_0 o4_0 f4_0 r4_0 s4_0 p5_0 o5_0 f5_0 r5_0 s5_0
  have p0_1:=P1.out.cell (o:=0) rfl
  have o0_1:=O1.out.cell (o:=0) rfl
  have f0_1:=O1.out.frozen 0
  have r0_1:=R1.out.cell (o:=0) rfl
  have s0_1:=R1.out.frozen 0
  have p1_1:=P1.out.cell (o:=1) rfl
  have o1_1:=O1.out.cell (o:=1) rfl
  have f1_1:=O1.out.frozen 1
  have r1_1:=R1.out.cell (o:=1) rfl
  have s1_1:=R1.out.frozen 1
  have p2_1:=P1.out.cell (o:=2) rfl
  have o2_1:=O1.out.cell (o:=2) rfl
  have f2_1:=O1.out.frozen 2
  have r2_1:=R1.out.cell (o:=2) rfl
  have s2_1:=R1.out.frozen 2
  have p3_1:=P1.out.cell (o:=3) rfl
  have o3_1:=O1.out.cell (o:=3) rfl
  have f3_1:=O1.out.frozen 3
  have r3_1:=R1.out.cell (o:=3) rfl
  have s3_1:=R1.out.frozen 3
  have p4_1:=P1.out.cell (o:=4) rfl
  have o4_1:=O1.out.cell (o:=4) rfl
  have f4_1:=O1.out.frozen 4
  have r4_1:=R1.out.cell (o:=4) rfl
  have s4_1:=R1.out.frozen 4
  have p5_1:=P1.out.cell (o:=5) rfl
  have o5_1:=O1.out.cell (o:=5) rfl
  have f5_1:=O1.out.frozen 5
  have r5_1:=R1.out.cell (o:=5) rfl
  have s5_1:=R1.out.frozen 5
  go_wp2_with fail
  refine(toFieldS_g a4 c4 lo hi x.own _ HL.out.2.1 (G4.out.keep (Below.mono (by(repeat (first|exact B1.out|refine Below.setCell ?_ (by simp<;>omega) _))) hh)) (by go_size)).mono ?_
  rintro e w2 ⟨n4,rfl,q4,hb2⟩
  have B2:Hid (Below w.heap.size w w2):=by
    refine Below.trans ?_ (hb2.mono (by go_size))
    (repeat (first|exact B1.out|refine Below.setCell ?_ (by simp<;>omega) _))
  have sz2:w.heap.size+3≤w2.heap.size∧w1.heap.size≤w2.heap.size:=by
    have:=hb2.size
    simp only[World.size_setCell] at this
    omega
  have P2:Hid (Rec w2 w.heap.size 106 [.slice a0 x.takes.length c0,.int .i64 x.gives.kind,.int .i64 x.gives.of,.bool x.gives.mt,.slice a4 x.own.length c4,.slice a5 x.body.length c5]):=by
    refine Rec.below ?_ hb2 (by go_size)
    (repeat (first|exact P1.out|refine Rec.other ?_ (by omega) _ _))
  have R2:Hid (Rec w2 (w.heap.size+1) 92 [.slice none 0 0,.int .i64 0,.int .i64 0,.bool false,.slice none 0 0,.slice none 0 0]):=by
    refine Rec.below ?_ hb2 (by go_size)
    (repeat (first|exact R1.out|refine Rec.other ?_ (by omega) _ _))
  have O2:Hid (Rec w2 (w.heap.size+1+1) 92 [.slice n0 x.takes.length x.takes.length,.int .i64 x.gives.kind,.int .i64 x.gives.of,.bool x.gives.mt,.slice none 0 0,.slice none 0 0]):=Rec.below ((((O1.out).set _ _).set _ _).set _ _) hb2 (by go_size)
  have SM2:Same (w.heap.size+3) w1.heap.size w1 w2:=by
    refine Same.trans ?_ (Same.of_below hb2 (by go_size))
    (repeat (first|refine Same.set ?_ (.inl (by omega)) _ _|exact Same.refl _ _ _))
  have Q0_2:=hide (Q0_1.out.same SM2 (Nat.le_refl _) sz2.2)
  clear Q0_1 SM2
  clear p0_1 o0_1 f0_1 r0_1 s0_1 p1_1 o1_1 f1_1 r1_1 s1_1 p2_1 o2_1 f2_1 r2_1 s2_1 p3_1 o3_1 f3_1 r3_1 s3_1 p4_1 o4_1 f4_1 r4_1 s4_1 p5_1 o5_1 f5_1 r5_1 s5_1
  have p0_2:=P2.out.cell (o:=0) rfl
  have o0_2:=O2.out.cell (o:=0) rfl
  have f0_2:=O2.out.frozen 0
  have r0_2:=R2.out.cell (o:=0) rfl
  have s0_2:=R2.out.frozen 0
  have p1_2:=P2.out.cell (o:=1) rfl
  have o1_2:=O2.out.cell (o:=1) rfl
  have f1_2:=O2.out.frozen 1
  have r1_2:=R2.out.cell (o:=1) rfl
  have s1_2:=R2.out.frozen 1
  have p2_2:=P2.out.cell (o:=2) rfl
  have o2_2:=O2.out.cell (o:=2) rfl
  have f2_2:=O2.out.frozen 2
  have r2_2:=R2.out.cell (o:=2) rfl
  have s2_2:=R2.out.frozen 2
  have p3_2:=P2.out.cell (o:=3) rfl
  have o3_2:=O2.out.cell (o:=3) rfl
  have f3_2:=O2.out.frozen 3
  have r3_2:=R2.out.cell (o:=3) rfl
  have s3_2:=R2.out.frozen 3
  have p4_2:=P2.out.cell (o:=4) rfl
  have o4_2:=O2.out.cell (o:=4) rfl
  have f4_2:=O2.out.frozen 4
  have r4_2:=R2.out.cell (o:=4) rfl
  have s4_2:=R2.out.frozen 4
  have p5_2:=P2.out.cell (o:=5) rfl
  have o5_2:=O2.out.cell (o:=5) rfl
  have f5_2:=O2.out.frozen 5
  have r5_2:=R2.out.cell (o:=5) rfl
  have s5_2:=R2.out.frozen 5
  have Q4_2:=hide (q4.wide (lo':=w.heap.size+3) (hi':=w2.heap.size) (by go_size) (Nat.le_refl _))
  clear q4 hb2
  go_wp2_with fail
  refine(toInsS_g a5 c5 lo hi x.body _ HL.out.2.2 (G5.out.keep (Below.mono (by(repeat (first|exact B2.out|refine Below.setCell ?_ (by simp<;>omega) _))) hh)) (by go_size)).mono ?_
  rintro e w3 ⟨n5,rfl,q5,hb3⟩
  have B3:Hid (Below w.heap.size w w3):=by
    refine Below.trans ?_ (hb3.mono (by go_size))
    (repeat (first|exact B2.out|refine Below.setCell ?_ (by simp<;>omega) _))
  have sz3:w.heap.size+3≤w3.heap.size∧w2.heap.size≤w3.heap.size:=by
    have:=hb3.size
    simp only[World.size_setCell] at this
    omega
  have P3:Hid (Rec w3 w.heap.size 106 [.slice a0 x.takes.length c0,.int .i64 x.gives.kind,.int .i64 x.gives.of,.bool x.gives.mt,.slice a4 x.own.length c4,.slice a5 x.body.length c5]):=by
    refine Rec.below ?_ hb3 (by go_size)
    (repeat (first|exact P2.out|refine Rec.other ?_ (by omega) _ _))
  have R3:Hid (Rec w3 (w.heap.size+1) 92 [.slice none 0 0,.int .i64 0,.int .i64 0,.bool false,.slice none 0 0,.slice none 0 0]):=by
    refine Rec.below ?_ hb3 (by go_size)
    (repeat (first|exact R2.out|refine Rec.other ?_ (by omega) _ _))
  have O3:Hid (Rec w3 (w.heap.size+1+1) 92 [.slice n0 x.takes.length x.takes.length,.int .i64 x.gives.kind,.int .i64 x.gives.of,.bool x.gives.mt,.slice n4 x.own.length x.own.length,.slice none 0 0]):=Rec.below ((O2.out).set _ _) hb3 (by go_size)
  have SM3:Same (w.heap.size+3) w2.heap.size w2 w3:=by
    refine Same.trans ?_ (Same.of_below hb3 (by go_size))
    (repeat (first|refine Same.set ?_ (.inl (by omega)) _ _|exact Same.refl _ _ _))
  have Q0_3:=hide (Q0_2.out.same SM3 (Nat.le_refl _) sz3.2)
  have Q4_3:=hide (Q4_2.out.same SM3 (Nat.le_refl _) sz3.2)
  clear Q0_2 Q4_2 SM3
  clear p0_2 o0_2 f0_2 r0_2 s0_2 p1_2 o1_2 f1_2 r1_2 s1_2 p2_2 o2_2 f2_2 r2_2 s2_2 p3_2 o3_2 f3_2 r3_2 s3_2 p4_2 o4_2 f4_2 r4_2 s4_2 p5_2 o5_2 f5_2 r5_2 s5_2
  have p0_3:=P3.out.cell (o:=0) rfl
  have o0_3:=O3.out.cell (o:=0) rfl
  have f0_3:=O3.out.frozen 0
  have r0_3:=R3.out.cell (o:=0) rfl
  have s0_3:=R3.out.frozen 0
  have p1_3:=P3.out.cell (o:=1) rfl
  have o1_3:=O3.out.cell (o:=1) rfl
  have f1_3:=O3.out.frozen 1
  have r1_3:=R3.out.cell (o:=1) rfl
  have s1_3:=R3.out.frozen 1
  have p2_3:=P3.out.cell (o:=2) rfl
  have o2_3:=O3.out.cell (o:=2) rfl
  have f2_3:=O3.out.frozen 2
  have r2_3:=R3.out.cell (o:=2) rfl
  have s2_3:=R3.out.frozen 2
  have p3_3:=P3.out.cell (o:=3) rfl
  have o3_3:=O3.out.cell (o:=3) rfl
  have f3_3:=O3.out.frozen 3
  have r3_3:=R3.out.cell (o:=3) rfl
  have s3_3:=R3.out.frozen 3
  have p4_3:=P3.out.cell (o:=4) rfl
  have o4_3:=O3.out.cell (o:=4) rfl
  have f4_3:=O3.out.frozen 4
  have r4_3:=R3.out.cell (o:=4) rfl
  have s4_3:=R3.out.frozen 4
  have p5_3:=P3.out.cell (o:=5) rfl
  have o5_3:=O3.out.cell (o:=5) rfl
  have f5_3:=O3.out.frozen 5
  have r5_3:=R3.out.cell (o:=5) rfl
  have s5_3:=R3.out.frozen 5
  have Q5_3:=hide (q5.wide (lo':=w.heap.size+3) (hi':=w3.heap.size) (by go_size) (Nat.le_refl _))
  clear q5 hb3
  go_wp2_with fail
  refine bodyPost_ret (v:=.agg #[.slice n0 x.takes.length x.takes.length,.int .i64 x.gives.kind,.int .i64 x.gives.of,.bool x.gives.mt,.slice n4 x.own.length x.own.length,.slice n5 x.body.length x.body.length]) (by simp[results,Tryz.results66,go_sem,r0_3,r1_3,r2_3,r3_3,r4_3,r5_3]) rfl ⟨n0,n4,n5,rfl,?_,?_,?_,?_⟩
  · refine Q0_3.out.same ?_ (by omega) (by go_size)
    (repeat (first|refine Same.set ?_ (.inl (by omega)) _ _|exact Same.refl _ _ _))
  · refine Q4_3.out.same ?_ (by omega) (by go_size)
    (repeat (first|refine Same.set ?_ (.inl (by omega)) _ _|exact Same.refl _ _ _))
  · refine Q5_3.out.same ?_ (by omega) (by go_size)
    (repeat (first|refine Same.set ?_ (.inl (by omega)) _ _|exact Same.refl _ _ _))
  · (repeat (first|refine Below.setCell ?_ (by simp<;>omega) _|exact B3.out))
theorem fun_set {w:World} {b n lo hi m0 m4 m5:Nat} {T':TypeId} {n0:Option Addr} {n4:Option Addr} {n5:Option Addr} (h:Own w b n T') (F:Nat→GFun) (k:Nat) (hk:k*6+5<n) (hlo:b<lo) (hF:∀j,j<k→FunAt true w lo hi b (j*6) (F j)) (q0:FieldsM true w lo hi n0 (F k).takes) (q4:FieldsM true w lo hi n4 (F k).own) (q5:InssM true w lo hi n5 (F k).body) :
    ∀j,j<k+1→FunAt true (((((((w).setCell ⟨b,k*6,none⟩ (.slice n0 (F k).takes.length m0)).setCell ⟨b,k*6+1,none⟩ (.int .i64 (F k).gives.kind)).setCell ⟨b,k*6+2,none⟩ (.int .i64 (F k).gives.of)).setCell ⟨b,k*6+3,none⟩ (.bool (F k).gives.mt)).setCell ⟨b,k*6+4,none⟩ (.slice n4 (F k).own.length m4)).setCell ⟨b,k*6+5,none⟩ (.slice n5 (F k).body.length m5)) lo hi b (j*6) (F j):=by
  intro j hj
  have h1:=h.set b (k*6) (.slice n0 (F k).takes.length m0)
  have h2:=h1.set b (k*6+1) (.int .i64 (F k).gives.kind)
  have h3:=h2.set b (k*6+2) (.int .i64 (F k).gives.of)
  have h4:=h3.set b (k*6+3) (.bool (F k).gives.mt)
  have h5:=h4.set b (k*6+4) (.slice n4 (F k).own.length m4)
  have hs:Same lo hi w (((((((w).setCell ⟨b,k*6,none⟩ (.slice n0 (F k).takes.length m0)).setCell ⟨b,k*6+1,none⟩ (.int .i64 (F k).gives.kind)).setCell ⟨b,k*6+2,none⟩ (.int .i64 (F k).gives.of)).setCell ⟨b,k*6+3,none⟩ (.bool (F k).gives.mt)).setCell ⟨b,k*6+4,none⟩ (.slice n4 (F k).own.length m4)).setCell ⟨b,k*6+5,none⟩ (.slice n5 (F k).body.length m5)):=((((((Same.refl _ _ _).set (.inl hlo) _ _).set (.inl hlo) _ _).set (.inl hlo) _ _).set (.inl hlo) _ _).set (.inl hlo) _ _).set (.inl hlo) _ _
  unfold FunAt
  simp only[h5.cell_set (o:=k*6+5) (by omega:k*6+5<n),h4.cell_set (o:=k*6+4) (by omega:k*6+4<n),h3.cell_set (o:=k*6+3) (by omega:k*6+3<n),h2.cell_set (o:=k*6+2) (by omega:k*6+2<n),h1.cell_set (o:=k*6+1) (by omega:k*6+1<n),h.cell_set (o:=k*6) (by omega:k*6<n)]
  by_cases e:j=k
  · subst e
    exact⟨n0,m0,n4,m4,n5,m5,by simp,by simp,by simp,by simp,by simp,by simp,q0.same hs (Nat.le_refl _) (Nat.le_refl _),q4.same hs (Nat.le_refl _) (Nat.le_refl _),q5.same hs (Nat.le_refl _) (Nat.le_refl _)⟩
  · obtain⟨a0,c0,a4,c4,a5,c5,e0,e1,e2,e3,e4,e5,l0,l4,l5⟩:=hF j (by omega)
    refine⟨a0,c0,a4,c4,a5,c5,?_,?_,?_,?_,?_,?_,l0.same hs (Nat.le_refl _) (Nat.le_refl _),l4.same hs (Nat.le_refl _) (Nat.le_refl _),l5.same hs (Nat.le_refl _) (Nat.le_refl _)⟩
    all_goals rw[if_neg (by omega),if_neg (by omega),if_neg (by omega),if_neg (by omega),if_neg (by omega),if_neg (by omega)];assumption
set_option maxHeartbeats 800000 in
theorem toFunS_core (a:Option Addr) (cap n lo hi:Nat) (F:Nat→GFun) (w:World) (hn:n≤1048576) (hm:∀i,i<n→FunB 1048576 (F i)) (hh:hi≤w.heap.size)
    (hx:n≤0∨∃b off,a=some ⟨b,off,none⟩∧lo≤b∧b<hi∧∀i,i<n→FunAt false w lo hi b (off+i*6) (F i)) :
    Calls Tryz.prog 37 #[.slice a n cap] w fun e w'=>e=.returned (.slice (some ⟨w.heap.size,0,none⟩) n n)∧Own w' w.heap.size (n*6) 92∧(∀j,j<n→FunAt true w' (w.heap.size+1) w'.heap.size w.heap.size (j*6) (F j))∧Below w.heap.size w w':=by
  have hmk:=run_make_any (P:=Tryz.prog) 35 92 _ 6 96 Tryz.underlying35 Tryz.infoFun n (by omega) (by omega)
  have HM:=hide hm
  clear hm
  rcases hx with h0|⟨b,off,rfl,h1,h2,h3⟩
  all_goals
    go_enter Tryz.func37,Tryz.ntmps37
    go_wp2_with fail
    go_loopw [4] (fun i wr=>∃k:Nat,k≤n∧i=.int .i64 k∧Own wr w.heap.size (n*6) 92∧(∀j,j<k→FunAt true wr (w.heap.size+1) wr.heap.size w.heap.size (j*6) (F j))∧Below w.heap.size w wr) (fun i wr=>n-(intOf i).toNat)
    case atStart=>exact⟨0,Nat.zero_le _,rfl,Own.made _ _ _ _,fun j hj=>absurd hj (Nat.not_lt_zero _),(Below.refl _ _).alloc (Nat.le_refl _) _⟩
    case round =>
      obtain⟨k,hk,rfl,ho,hF,hb⟩:=hrel
      have HF:=hide hF
      have HO:=hide ho
      clear hF ho
      by_cases hlt:k<n
      · first
        | (exfalso;omega)
        | (have sb:=hb.size
           have hx:=(h3 k hlt).same (.of_below (hb.mono hh) (Nat.le_refl _)) (Nat.le_refl _) (Nat.le_refl _) h1 h2
           obtain⟨a0,c0,a4,c4,a5,c5,e0,e1,e2,e3,e4,e5,l0,l4,l5⟩:=hx
           have L0:=hide l0
           have L4:=hide l4
           have L5:=hide l5
           clear h3 l0 l4 l5
           go_wp2_with fail
           refine(toFun_any a0 c0 a4 c4 a5 c5 lo hi (F k) _ (HM.out k hlt) L0.out L4.out L5.out ?_).mono ?_
           · omega
           rintro e w1 ⟨n0,n4,n5,rfl,q0,q4,q5,hb1⟩
           have Q0:=hide q0
           have Q4:=hide q4
           have Q5:=hide q5
           clear q0 q4 q5
           have HO1:=hide (HO.out.below hb1 HO.out.lt)
           have f0:=HO1.out.frozen (k*6)
           have f1:=HO1.out.frozen (k*6+1)
           have f2:=HO1.out.frozen (k*6+2)
           have f3:=HO1.out.frozen (k*6+3)
           have f4:=HO1.out.frozen (k*6+4)
           have f5:=HO1.out.frozen (k*6+5)
           obtain⟨v0,d0⟩:=HO1.out.cell (o:=k*6) (by omega)
           obtain⟨v1,d1⟩:=HO1.out.cell (o:=k*6+1) (by omega)
           obtain⟨v2,d2⟩:=HO1.out.cell (o:=k*6+2) (by omega)
           obtain⟨v3,d3⟩:=HO1.out.cell (o:=k*6+3) (by omega)
           obtain⟨v4,d4⟩:=HO1.out.cell (o:=k*6+4) (by omega)
           obtain⟨v5,d5⟩:=HO1.out.cell (o:=k*6+5) (by omega)
           have hs1:=Own.lt HO.out
           go_wp2_with fail
           have hF1:∀j,j<k→FunAt true w1 (w.heap.size+1) w1.heap.size w.heap.size (j*6) (F j):=fun j hj=>by
             obtain⟨a0,c0,a4,c4,a5,c5,e0,e1,e2,e3,e4,e5,l0,l4,l5⟩:=HF.out j hj
             exact⟨a0,c0,a4,c4,a5,c5,(hb1.cell (by exact hs1)).trans e0,(hb1.cell (by exact hs1)).trans e1,(hb1.cell (by exact hs1)).trans e2,(hb1.cell (by exact hs1)).trans e3,(hb1.cell (by exact hs1)).trans e4,(hb1.cell (by exact hs1)).trans e5,l0.same (.of_below hb1 (Nat.le_refl _)) (Nat.le_refl _) hb1.size,l4.same (.of_below hb1 (Nat.le_refl _)) (Nat.le_refl _) hb1.size,l5.same (.of_below hb1 (Nat.le_refl _)) (Nat.le_refl _) hb1.size⟩
           refine⟨⟨k+1,by omega,by go_num,((((((HO1.out).set _ _ _).set _ _ _).set _ _ _).set _ _ _).set _ _ _).set _ _ _,?_,((((((hb.trans (hb1.mono hb.size)).setCell (Nat.le_refl _) _).setCell (Nat.le_refl _) _).setCell (Nat.le_refl _) _).setCell (Nat.le_refl _) _).setCell (Nat.le_refl _) _).setCell (Nat.le_refl _) _⟩,by simp[intOf];omega⟩
           have:=fun_set (m0:=(F k).takes.length) (m4:=(F k).own.length) (m5:=(F k).body.length) HO1.out F k (by omega) (Nat.lt_succ_self _) hF1 (Q0.out.wide (by omega) (Nat.le_refl _)) (Q4.out.wide (by omega) (Nat.le_refl _)) (Q5.out.wide (by omega) (Nat.le_refl _))
           simpa using this)
      · have hkn:Hid (k=n):=Nat.le_antisymm hk (Nat.le_of_not_lt hlt)
        go_wp2_with fail
        go_ret
        exact⟨rfl,HO.out,hkn.out▸HF.out,hb⟩
theorem toFunS_g {md:Bool} (a:Option Addr) (cap lo hi:Nat) (xs:List GFun) (w:World) (hn:FunsB 1048576 xs) (hx:FunsM md w lo hi a xs) (hh:hi≤w.heap.size) :
    Calls Tryz.prog 37 #[.slice a xs.length cap] w fun e w'=>∃na,e=.returned (.slice na xs.length xs.length)∧FunsM true w' w.heap.size w'.heap.size na xs∧Below w.heap.size w w':=by
  refine(toFunS_core a cap xs.length lo hi (funAt' xs) w hn.1 hn.2 hh ?_).mono ?_
  · rcases hx.plain with rfl|⟨b,off,rfl,h1,h2,_,h3⟩
    · exact .inl (Nat.le_refl _)
    · exact .inr ⟨b,off,rfl,h1,h2,h3⟩
  · rintro e w' ⟨rfl,ho,hF,hb⟩
    refine⟨_,rfl,.inr ⟨_,0,rfl,Nat.le_refl _,ho.lt,fun _=>⟨rfl,_,ho,Nat.le_refl _⟩,fun i hi=>?_⟩,hb⟩
    obtain⟨a0,c0,a4,c4,a5,c5,e0,e1,e2,e3,e4,e5,l0,l4,l5⟩:=hF i hi
    rw[Nat.zero_add]
    exact⟨a0,c0,a4,c4,a5,c5,e0,e1,e2,e3,e4,e5,l0.wide (by omega) (Nat.le_refl _),l4.wide (by omega) (Nat.le_refl _),l5.wide (by omega) (Nat.le_refl _)⟩
set_option maxHeartbeats 800000 in
theorem szFun_any {md:Bool} (a0 a4 a5:Option Addr) (c0 c4 c5 lo hi:Nat) (x:GFun) (left:Int) (w:World) (hl:FunB 9223372036854775807 x) (g0:FieldsM md w lo hi a0 x.takes) (g4:FieldsM md w lo hi a4 x.own) (g5:InssM md w lo hi a5 x.body) (hh:hi≤w.heap.size) (l0:0≤left) (l1:left≤1048576) :
    Calls Tryz.prog 53 #[.agg #[.slice a0 x.takes.length c0,.int .i64 x.gives.kind,.int .i64 x.gives.of,.bool x.gives.mt,.slice a4 x.own.length c4,.slice a5 x.body.length c5],.int .i64 left] w fun e w'=>∃r:Int,e=.returned (.int .i64 r)∧-1≤r∧r≤left∧(0≤r→FunB 1048576 x)∧Below w.heap.size w w':=by
  have HL:=hide hl
  clear hl
  have G0:=hide g0
  have G4:=hide g4
  have G5:=hide g5
  clear g0 g4 g5
  go_enter Tryz.func53,Tryz.ntmps53
  go_wp2_with fail
  refine(szFieldS_g a0 c0 lo hi x.takes left _ HL.out.1 (G0.out.keep (Below.mono (by(repeat (first|refine Below.al ?_ (Nat.le_refl _) _|exact Below.refl _ _))) hh)) (by simp only[World.size_alloc];omega) (by omega) (by omega)).mono ?_
  rintro e w0 ⟨r0,rfl,s0,t0,u0,hb0⟩
  have U0:=hide u0
  have HB0:Hid (Below w.heap.size w w0):=by
    refine Below.trans ?_ (hb0.mono ?_)
    · (repeat (first|refine Below.al ?_ (Nat.le_refl _) _|exact Below.refl _ _))
    · simp
  have P0:Hid (Rec w0 w.heap.size 106 [.slice a0 x.takes.length c0,.int .i64 x.gives.kind,.int .i64 x.gives.of,.bool x.gives.mt,.slice a4 x.own.length c4,.slice a5 x.body.length c5]):=(Rec.new' w _ _ _ rfl).below hb0 (by go_size)
  clear u0 hb0
  have p0_0:=P0.out.cell (o:=0) rfl
  have p1_0:=P0.out.cell (o:=1) rfl
  have p2_0:=P0.out.cell (o:=2) rfl
  have p3_0:=P0.out.cell (o:=3) rfl
  have p4_0:=P0.out.cell (o:=4) rfl
  have p5_0:=P0.out.cell (o:=5) rfl
  by_cases hr0:r0<0
  · go_wp2_with fail
    go_ret
    exact⟨-1,rfl,by omega,by omega,by omega,HB0.out⟩
  go_wp2_with fail
  refine(szFieldS_g a4 c4 lo hi x.own r0 _ HL.out.2.1 (G4.out.keep (Below.mono (by exact HB0.out) hh)) (Nat.le_trans hh HB0.out.size) (by omega) (by omega)).mono ?_
  rintro e w1 ⟨r1,rfl,s1,t1,u1,hb1⟩
  have U1:=hide u1
  have HB1:Hid (Below w.heap.size w w1):=by
    refine Below.trans ?_ (hb1.mono ?_)
    · exact HB0.out
    · exact HB0.out.size
  have P1:Hid (Rec w1 w.heap.size 106 [.slice a0 x.takes.length c0,.int .i64 x.gives.kind,.int .i64 x.gives.of,.bool x.gives.mt,.slice a4 x.own.length c4,.slice a5 x.body.length c5]):=P0.out.below hb1 P0.out.lt
  clear u1 hb1 p0_0 p1_0 p2_0 p3_0 p4_0 p5_0
  have p0_1:=P1.out.cell (o:=0) rfl
  have p1_1:=P1.out.cell (o:=1) rfl
  have p2_1:=P1.out.cell (o:=2) rfl
  have p3_1:=P1.out.cell (o:=3) rfl
  have p4_1:=P1.out.cell (o:=4) rfl
  have p5_1:=P1.out.cell (o:=5) rfl
  by_cases hr1:r1<0
  · go_wp2_with fail
    go_ret
    exact⟨-1,rfl,by omega,by omega,by omega,HB1.out⟩
  go_wp2_with fail
  refine(szInsS_g a5 c5 lo hi x.body r1 _ HL.out.2.2 (G5.out.keep (Below.mono (by exact HB1.out) hh)) (Nat.le_trans hh HB1.out.size) (by omega) (by omega)).mono ?_
  rintro e w2 ⟨r2,rfl,s2,t2,u2,hb2⟩
  have U2:=hide u2
  have HB2:Hid (Below w.heap.size w w2):=by
    refine Below.trans ?_ (hb2.mono ?_)
    · exact HB1.out
    · exact HB1.out.size
  have P2:Hid (Rec w2 w.heap.size 106 [.slice a0 x.takes.length c0,.int .i64 x.gives.kind,.int .i64 x.gives.of,.bool x.gives.mt,.slice a4 x.own.length c4,.slice a5 x.body.length c5]):=P1.out.below hb2 P1.out.lt
  clear u2 hb2 p0_1 p1_1 p2_1 p3_1 p4_1 p5_1
  have p0_2:=P2.out.cell (o:=0) rfl
  have p1_2:=P2.out.cell (o:=1) rfl
  have p2_2:=P2.out.cell (o:=2) rfl
  have p3_2:=P2.out.cell (o:=3) rfl
  have p4_2:=P2.out.cell (o:=4) rfl
  have p5_2:=P2.out.cell (o:=5) rfl
  by_cases hr2:r2<0
  · go_wp2_with fail
    go_ret
    exact⟨-1,rfl,by omega,by omega,by omega,HB2.out⟩
  go_wp2_with fail
  go_ret
  exact⟨r2,rfl,by omega,by omega,fun _=>⟨U0.out (by omega),U1.out (by omega),U2.out (by omega)⟩,HB2.out⟩
set_option maxHeartbeats 800000 in
theorem szFunS_core (a:Option Addr) (cap n lo hi:Nat) (F:Nat→GFun) (left:Int) (w:World) (hn:n≤9223372036854775807) (hm:∀i,i<n→FunB 9223372036854775807 (F i)) (hh:hi≤w.heap.size) (l0:0≤left) (l1:left≤1048576)
    (hx:n≤0∨∃b off,a=some ⟨b,off,none⟩∧lo≤b∧b<hi∧∀i,i<n→FunAt false w lo hi b (off+i*6) (F i)) :
    Calls Tryz.prog 30 #[.slice a n cap,.int .i64 left] w fun e w'=>∃r:Int,e=.returned (.int .i64 r)∧-1≤r∧r≤left∧(0≤r→n≤1048576∧∀i,i<n→FunB 1048576 (F i))∧Below w.heap.size w w':=by
  have HM:=hide hm
  clear hm
  by_cases hlt:left-(n:Int)<0
  · go_enter Tryz.func30,Tryz.ntmps30
    go_wp2_with fail
    go_ret
    exact⟨-1,rfl,by omega,by omega,by omega,Below.refl _ _⟩
  rcases hx with h0|⟨b,off,rfl,h1,h2,h3⟩
  all_goals
    go_enter Tryz.func30,Tryz.ntmps30
    go_wp2_with fail
    go_loopw [1,5] (fun l i wr=>∃(k:Nat) (r:Int),k≤n∧i=.int .i64 k∧l=.int .i64 r∧0≤r∧r≤left∧(∀j,j<k→FunB 1048576 (F j))∧Below w.heap.size w wr) (fun l i wr=>n-(intOf i).toNat)
    case atStart=>exact⟨0,left-n,Nat.zero_le _,rfl,rfl,by omega,by omega,fun j hj=>absurd hj (Nat.not_lt_zero _),Below.refl _ _⟩
    case round =>
      obtain⟨k,r,hk,rfl,rfl,r0,r1,hF,hb⟩:=hrel
      have HF:=hide hF
      clear hF
      by_cases hkn:k<n
      · first
        | (exfalso;omega)
        | (have sb:=hb.size
           have hx:=(h3 k hkn).same (.of_below (hb.mono hh) (Nat.le_refl _)) (Nat.le_refl _) (Nat.le_refl _) h1 h2
           obtain⟨a0,c0,a4,c4,a5,c5,e0,e1,e2,e3,e4,e5,g0,g4,g5⟩:=hx
           have G0:=hide g0
           have G4:=hide g4
           have G5:=hide g5
           clear h3 g0 g4 g5
           go_wp2_with fail
           refine(szFun_any a0 a4 a5 c0 c4 c5 lo hi (F k) r _ (HM.out k hkn) G0.out G4.out G5.out (by omega) r0 (by omega)).mono ?_
           rintro e w1 ⟨r',rfl,s0,s1,s2,hb1⟩
           have S2:=hide s2
           clear s2
           by_cases hr:r'<0
           · go_wp2_with fail
             go_ret
             exact⟨-1,rfl,by omega,by omega,by omega,hb.trans (hb1.mono hb.size)⟩
           · go_wp2_with fail
             refine⟨⟨k+1,r',by omega,by go_num,rfl,by omega,by omega,fun j hj=>?_,hb.trans (hb1.mono hb.size)⟩,by simp[intOf];omega⟩
             by_cases e:j=k
             · subst e;exact S2.out (by omega)
             · exact HF.out j (by omega))
      · have hkn':Hid (k=n):=Nat.le_antisymm hk (Nat.le_of_not_lt hkn)
        go_wp2_with fail
        go_ret
        exact⟨r,rfl,by omega,by omega,fun _=>⟨by omega,hkn'.out▸HF.out⟩,hb⟩
theorem szFunS_g {md:Bool} (a:Option Addr) (cap lo hi:Nat) (xs:List GFun) (left:Int) (w:World) (hl:FunsB 9223372036854775807 xs) (hx:FunsM md w lo hi a xs) (hh:hi≤w.heap.size) (l0:0≤left) (l1:left≤1048576) :
    Calls Tryz.prog 30 #[.slice a xs.length cap,.int .i64 left] w fun e w'=>∃r:Int,e=.returned (.int .i64 r)∧-1≤r∧r≤left∧(0≤r→FunsB 1048576 xs)∧Below w.heap.size w w':=by
  refine szFunS_core a cap xs.length lo hi (funAt' xs) left w hl.1 hl.2 hh l0 l1 ?_
  rcases hx.plain with rfl|⟨b,off,rfl,h1,h2,_,h3⟩
  · exact .inl (Nat.le_refl _)
  · exact .inr ⟨b,off,rfl,h1,h2,h3⟩
set_option maxHeartbeats 800000 in
theorem eqFun_g {md md':Bool} (a0 b0 a4 b4 a5 b5:Option Addr) (c0 d0 c4 d4 c5 d5 lo hi lo' hi':Nat) (x:GFun) (w:World) (hl:FunB 1048576 x) (g0:FieldsM md w lo hi a0 x.takes) (g4:FieldsM md w lo hi a4 x.own) (g5:InssM md w lo hi a5 x.body) (k0:FieldsM md' w lo' hi' b0 x.takes) (k4:FieldsM md' w lo' hi' b4 x.own) (k5:InssM md' w lo' hi' b5 x.body) (hh:hi≤w.heap.size) (hh':hi'≤w.heap.size) :
    Calls Tryz.prog 73 #[.agg #[.slice a0 x.takes.length c0,.int .i64 x.gives.kind,.int .i64 x.gives.of,.bool x.gives.mt,.slice a4 x.own.length c4,.slice a5 x.body.length c5],.agg #[.slice b0 x.takes.length d0,.int .i64 x.gives.kind,.int .i64 x.gives.of,.bool x.gives.mt,.slice b4 x.own.length d4,.slice b5 x.body.length d5]] w fun e w'=>e=.returned (.bool true)∧Below w.heap.size w w':=by
  have HL:=hide hl
  clear hl
  have G0:=hide g0
  have K0:=hide k0
  have G4:=hide g4
  have K4:=hide k4
  have G5:=hide g5
  have K5:=hide k5
  clear g0 k0 g4 k4 g5 k5
  go_enter Tryz.func73,Tryz.ntmps73
  go_wp2_with fail
  refine(eqFieldS_g a0 b0 c0 d0 lo hi lo' hi' x.takes _ HL.out.1 (G0.out.keep (Below.mono (by(repeat (first|refine Below.al ?_ (Nat.le_refl _) _|exact Below.refl _ _))) hh)) (K0.out.keep (Below.mono (by(repeat (first|refine Below.al ?_ (Nat.le_refl _) _|exact Below.refl _ _))) hh')) (by simp only[World.size_alloc];omega) (by simp only[World.size_alloc];omega)).mono ?_
  rintro e w0 ⟨rfl,hb0⟩
  have HB0:Hid (Below w.heap.size w w0):=by
    refine Below.trans ?_ (hb0.mono ?_)
    · (repeat (first|refine Below.al ?_ (Nat.le_refl _) _|exact Below.refl _ _))
    · simp<;>omega
  have P0:Hid (Rec w0 w.heap.size 92 [.slice a0 x.takes.length c0,.int .i64 x.gives.kind,.int .i64 x.gives.of,.bool x.gives.mt,.slice a4 x.own.length c4,.slice a5 x.body.length c5]):=((Rec.new' w _ _ _ rfl).alloc _).below hb0 (by go_size)
  have R0:Hid (Rec w0 (w.heap.size+1) 92 [.slice b0 x.takes.length d0,.int .i64 x.gives.kind,.int .i64 x.gives.of,.bool x.gives.mt,.slice b4 x.own.length d4,.slice b5 x.body.length d5]):=(Rec.new' _ _ _ _ (by simp)).below hb0 (by go_size)
  clear hb0
  have p0_0:=P0.out.cell (o:=0) rfl
  have r0_0:=R0.out.cell (o:=0) rfl
  have p1_0:=P0.out.cell (o:=1) rfl
  have r1_0:=R0.out.cell (o:=1) rfl
  have p2_0:=P0.out.cell (o:=2) rfl
  have r2_0:=R0.out.cell (o:=2) rfl
  have p3_0:=P0.out.cell (o:=3) rfl
  have r3_0:=R0.out.cell (o:=3) rfl
  have p4_0:=P0.out.cell (o:=4) rfl
  have r4_0:=R0.out.cell (o:=4) rfl
  have p5_0:=P0.out.cell (o:=5) rfl
  have r5_0:=R0.out.cell (o:=5) rfl
  go_wp2_with fail
  refine(eqField_g x.gives _).mono ?_
  rintro e w1 ⟨rfl,hb1⟩
  have HB1:Hid (Below w.heap.size w w1):=by
    refine Below.trans ?_ (hb1.mono ?_)
    · exact HB0.out
    · exact HB0.out.size
  have P1:Hid (Rec w1 w.heap.size 92 [.slice a0 x.takes.length c0,.int .i64 x.gives.kind,.int .i64 x.gives.of,.bool x.gives.mt,.slice a4 x.own.length c4,.slice a5 x.body.length c5]):=P0.out.below hb1 P0.out.lt
  have R1:Hid (Rec w1 (w.heap.size+1) 92 [.slice b0 x.takes.length d0,.int .i64 x.gives.kind,.int .i64 x.gives.of,.bool x.gives.mt,.slice b4 x.own.length d4,.slice b5 x.body.length d5]):=R0.out.below hb1 R0.out.lt
  clear hb1 p0_0 r0_0 p1_0 r1_0 p2_0 r2_0 p3_0 r3_0 p4_0 r4_0 p5_0 r5_0
  have p0_1:=P1.out.cell (o:=0) rfl
  have r0_1:=R1.out.cell (o:=0) rfl
  have p1_1:=P1.out.cell (o:=1) rfl
  have r1_1:=R1.out.cell (o:=1) rfl
  have p2_1:=P1.out.cell (o:=2) rfl
  have r2_1:=R1.out.cell (o:=2) rfl
  have p3_1:=P1.out.cell (o:=3) rfl
  have r3_1:=R1.out.cell (o:=3) rfl
  have p4_1:=P1.out.cell (o:=4) rfl
  have r4_1:=R1.out.cell (o:=4) rfl
  have p5_1:=P1.out.cell (o:=5) rfl
  have r5_1:=R1.out.cell (o:=5) rfl
  go_wp2_with fail
  refine(eqFieldS_g a4 b4 c4 d4 lo hi lo' hi' x.own _ HL.out.2.1 (G4.out.keep (Below.mono (by exact HB1.out) hh)) (K4.out.keep (Below.mono (by exact HB1.out) hh')) (Nat.le_trans hh HB1.out.size) (Nat.le_trans hh' HB1.out.size)).mono ?_
  rintro e w2 ⟨rfl,hb2⟩
  have HB2:Hid (Below w.heap.size w w2):=by
    refine Below.trans ?_ (hb2.mono ?_)
    · exact HB1.out
    · exact HB1.out.size
  have P2:Hid (Rec w2 w.heap.size 92 [.slice a0 x.takes.length c0,.int .i64 x.gives.kind,.int .i64 x.gives.of,.bool x.gives.mt,.slice a4 x.own.length c4,.slice a5 x.body.length c5]):=P1.out.below hb2 P1.out.lt
  have R2:Hid (Rec w2 (w.heap.size+1) 92 [.slice b0 x.takes.length d0,.int .i64 x.gives.kind,.int .i64 x.gives.of,.bool x.gives.mt,.slice b4 x.own.length d4,.slice b5 x.body.length d5]):=R1.out.below hb2 R1.out.lt
  clear hb2 p0_1 r0_1 p1_1 r1_1 p2_1 r2_1 p3_1 r3_1 p4_1 r4_1 p5_1 r5_1
  have p0_2:=P2.out.cell (o:=0) rfl
  have r0_2:=R2.out.cell (o:=0) rfl
  have p1_2:=P2.out.cell (o:=1) rfl
  have r1_2:=R2.out.cell (o:=1) rfl
  have p2_2:=P2.out.cell (o:=2) rfl
  have r2_2:=R2.out.cell (o:=2) rfl
  have p3_2:=P2.out.cell (o:=3) rfl
  have r3_2:=R2.out.cell (o:=3) rfl
  have p4_2:=P2.out.cell (o:=4) rfl
  have r4_2:=R2.out.cell (o:=4) rfl
  have p5_2:=P2.out.cell (o:=5) rfl
  have r5_2:=R2.out.cell (o:=5) rfl
  go_wp2_with fail
  refine(eqInsS_g a5 b5 c5 d5 lo hi lo' hi' x.body _ HL.out.2.2 (G5.out.keep (Below.mono (by exact HB2.out) hh)) (K5.out.keep (Below.mono (by exact HB2.out) hh')) (Nat.le_trans hh HB2.out.size) (Nat.le_trans hh' HB2.out.size)).mono ?_
  rintro e w3 ⟨rfl,hb3⟩
  have HB3:Hid (Below w.heap.size w w3):=by
    refine Below.trans ?_ (hb3.mono ?_)
    · exact HB2.out
    · exact HB2.out.size
  have P3:Hid (Rec w3 w.heap.size 92 [.slice a0 x.takes.length c0,.int .i64 x.gives.kind,.int .i64 x.gives.of,.bool x.gives.mt,.slice a4 x.own.length c4,.slice a5 x.body.length c5]):=P2.out.below hb3 P2.out.lt
  have R3:Hid (Rec w3 (w.heap.size+1) 92 [.slice b0 x.takes.length d0,.int .i64 x.gives.kind,.int .i64 x.gives.of,.bool x.gives.mt,.slice b4 x.own.length d4,.slice b5 x.body.length d5]):=R2.out.below hb3 R2.out.lt
  clear hb3 p0_2 r0_2 p1_2 r1_2 p2_2 r2_2 p3_2 r3_2 p4_2 r4_2 p5_2 r5_2
  have p0_3:=P3.out.cell (o:=0) rfl
  have r0_3:=R3.out.cell (o:=0) rfl
  have p1_3:=P3.out.cell (o:=1) rfl
  have r1_3:=R3.out.cell (o:=1) rfl
  have p2_3:=P3.out.cell (o:=2) rfl
  have r2_3:=R3.out.cell (o:=2) rfl
  have p3_3:=P3.out.cell (o:=3) rfl
  have r3_3:=R3.out.cell (o:=3) rfl
  have p4_3:=P3.out.cell (o:=4) rfl
  have r4_3:=R3.out.cell (o:=4) rfl
  have p5_3:=P3.out.cell (o:=5) rfl
  have r5_3:=R3.out.cell (o:=5) rfl
  go_wp2_with fail
  go_ret
  exact⟨rfl,HB3.out⟩
set_option maxHeartbeats 800000 in
theorem eqFunS_core (a a':Option Addr) (cap cap' n lo hi lo' hi':Nat) (F:Nat→GFun) (w:World) (hm:∀i,i<n→FunB 1048576 (F i)) (hh:hi≤w.heap.size) (hh':hi'≤w.heap.size)
    (hx:n≤0∨∃b off b' off',a=some ⟨b,off,none⟩∧a'=some ⟨b',off',none⟩∧lo≤b∧b<hi∧lo'≤b'∧b'<hi'∧(∀i,i<n→FunAt false w lo hi b (off+i*6) (F i))∧(∀i,i<n→FunAt false w lo' hi' b' (off'+i*6) (F i))) (hn:n≤1048576) :
    Calls Tryz.prog 43 #[.slice a n cap,.slice a' n cap'] w fun e w'=>e=.returned (.bool true)∧Below w.heap.size w w':=by
  have HM:=hide hm
  clear hm
  rcases hx with h0|⟨b,off,b',off',rfl,rfl,g1,g2,g3,g4,h3,h4⟩
  all_goals
    go_enter Tryz.func43,Tryz.ntmps43
    go_wp2_with fail
    go_loopw [5] (fun i wr=>∃k:Nat,k≤n∧i=.int .i64 k∧Below w.heap.size w wr) (fun i wr=>n-(intOf i).toNat)
    case atStart=>exact⟨0,Nat.zero_le _,rfl,Below.refl _ _⟩
    case round =>
      obtain⟨k,hk,rfl,hb⟩:=hrel
      by_cases hlt:k<n
      · first
        | (exfalso;omega)
        | (have x1:=(h3 k hlt).same (.of_below (hb.mono hh) (Nat.le_refl _)) (Nat.le_refl _) (Nat.le_refl _) g1 g2
           have x2:=(h4 k hlt).same (.of_below (hb.mono hh') (Nat.le_refl _)) (Nat.le_refl _) (Nat.le_refl _) g3 g4
           obtain⟨a0,c0,a4,c4,a5,c5,e0,e1,e2,e3,e4,e5,l0,l4,l5⟩:=x1
           obtain⟨b0,d0,b4,d4,b5,d5,f0,f1,f2,f3,f4,f5,m0,m4,m5⟩:=x2
           have L0:=hide l0
           have M0:=hide m0
           have L4:=hide l4
           have M4:=hide m4
           have L5:=hide l5
           have M5:=hide m5
           clear h3 h4 l0 m0 l4 m4 l5 m5
           have k1:(0:Int)≤(k:Int):=by omega
           have k2:(k:Int)<(n:Int):=by omega
           have s1:=hb.size
           go_wp2_with fail
           go_region_held3 (fun w'=>(w'.cell? ⟨b,off+k*6,none⟩=some (.slice a0 (F k).takes.length c0)∧w'.cell? ⟨b,off+k*6+1,none⟩=some (.int .i64 (F k).gives.kind)∧w'.cell? ⟨b,off+k*6+2,none⟩=some (.int .i64 (F k).gives.of)∧w'.cell? ⟨b,off+k*6+3,none⟩=some (.bool (F k).gives.mt)∧w'.cell? ⟨b,off+k*6+4,none⟩=some (.slice a4 (F k).own.length c4)∧w'.cell? ⟨b,off+k*6+5,none⟩=some (.slice a5 (F k).body.length c5))∧(w'.cell? ⟨b',off'+k*6,none⟩=some (.slice b0 (F k).takes.length d0)∧w'.cell? ⟨b',off'+k*6+1,none⟩=some (.int .i64 (F k).gives.kind)∧w'.cell? ⟨b',off'+k*6+2,none⟩=some (.int .i64 (F k).gives.of)∧w'.cell? ⟨b',off'+k*6+3,none⟩=some (.bool (F k).gives.mt)∧w'.cell? ⟨b',off'+k*6+4,none⟩=some (.slice b4 (F k).own.length d4)∧w'.cell? ⟨b',off'+k*6+5,none⟩=some (.slice b5 (F k).body.length d5))) (go_keep)
             ((go_at_call 73;refine(eqFun_g a0 b0 a4 b4 a5 b5 c0 d0 c4 d4 c5 d5 lo hi lo' hi' (F k) wr.drew (HM.out k hlt) L0.out L4.out L5.out M0.out M4.out M5.out (Nat.le_trans hh s1) (Nat.le_trans hh' s1)).mono ?_;rintro e w1 ⟨rfl,hb1⟩;have y1:∀o,w1.cell? ⟨b,o,none⟩=wr.cell? ⟨b,o,none⟩:=fun o=>hb1.cell (Nat.lt_of_lt_of_le g2 (Nat.le_trans hh s1));have y2:∀o,w1.cell? ⟨b',o,none⟩=wr.cell? ⟨b',o,none⟩:=fun o=>hb1.cell (Nat.lt_of_lt_of_le g4 (Nat.le_trans hh' s1))))
           go_wp2_with fail
           exact⟨⟨k+1,by omega,by go_num,hb.drew.trans (hb1.mono s1)⟩,by simp[intOf];omega⟩)
      · go_wp2_with fail
        go_ret
        exact⟨rfl,hb⟩
theorem eqFunS_g {md md':Bool} (a a':Option Addr) (cap cap' lo hi lo' hi':Nat) (xs:List GFun) (w:World) (hn:FunsB 1048576 xs) (hx:FunsM md w lo hi a xs) (hy:FunsM md' w lo' hi' a' xs) (hh:hi≤w.heap.size) (hh':hi'≤w.heap.size) :
    Calls Tryz.prog 43 #[.slice a xs.length cap,.slice a' xs.length cap'] w fun e w'=>e=.returned (.bool true)∧Below w.heap.size w w':=by
  refine eqFunS_core a a' cap cap' xs.length lo hi lo' hi' (funAt' xs) w hn.2 hh hh' ?_ hn.1
  rcases hx.plain with rfl|⟨b,off,rfl,h1,h2,_,h3⟩
  · exact .inl (Nat.le_refl _)
  · rcases hy.plain with rfl|⟨b',off',rfl,h1',h2',_,h3'⟩
    · exact .inl (Nat.le_refl _)
    · exact .inr ⟨b,off,b',off',rfl,rfl,h1,h2,h1',h2',h3,h3'⟩
set_option maxHeartbeats 1600000 in
theorem toProg_any {md:Bool} (a0:Option Addr) (c0:Nat) (a1:Option Addr) (c1:Nat) (a2:Option Addr) (c2:Nat) (lo hi:Nat) (x:GProg) (w:World) (hl:ProgB 1048576 x) (g0:GroupsM md w lo hi a0 x.types) (g1:FieldsM md w lo hi a1 x.glob) (g2:FunsM md w lo hi a2 x.funs) (hh:hi≤w.heap.size) :
  Calls Tryz.prog 10 #[.agg #[.slice a0 x.types.length c0,.slice a1 x.glob.length c1,.slice a2 x.funs.length c2]] w fun e w'=>∃n0 n1 n2,e=.returned (.agg #[.slice n0 x.types.length x.types.length,.slice n1 x.glob.length x.glob.length,.slice n2 x.funs.length x.funs.length])∧GroupsM true w' w.heap.size w'.heap.size n0 x.types∧FieldsM true w' w.heap.size w'.heap.size n1 x.glob∧FunsM true w' w.heap.size w'.heap.size n2 x.funs∧Below w.heap.size w w':=by
 have HL:=hide hl
 clear hl
 have G0:=hide g0
 have G1:=hide g1
 have G2:=hide g2
 clear g0 g1 g2
 go_enter Tryz.func10,Tryz.ntmps10
 go_wp2_with fail
 refine(toTypeSS_g a0 c0 lo hi x.types _ HL.out.1 (G0.out.keep (Below.mono (by(repeat (first|refine Below.al ?_ (Nat.le_refl _) _|exact Below.refl _ _))) hh)) (by go_size)).mono ?_
 rintro e w0 ⟨n0,rfl,q0,hb0⟩
 have B0:Hid (Below w.heap.size w w0):=by
  refine Below.trans ?_ (hb0.mono (by go_size))
  (repeat (first|refine Below.al ?_ (Nat.le_refl _) _|exact Below.refl _ _))
 have sz0:w.heap.size+3≤w0.heap.size:=by
  have:=hb0.size
  simp only[World.size_alloc] at this
  omega
 have P0:Hid (Rec w0 w.heap.size 26 [.slice a0 x.types.length c0,.slice a1 x.glob.length c1,.slice a2 x.funs.length c2]):=((((Rec.new' w _ _ _ rfl).alloc _).alloc _).below hb0 (by go_size))
 have R0:Hid (Rec w0 (w.heap.size+1) 37 [.slice none 0 0,.slice none 0 0,.slice none 0 0]):=(((Rec.new' _ _ _ _ (by simp)).alloc _).below hb0 (by go_size))
 have O0:Hid (Rec w0 (w.heap.size+1+1) 37 [.slice none 0 0,.slice none 0 0,.slice none 0 0]):=((Rec.new' _ _ _ _ (by simp)).below hb0 (by go_size))
 have p0_0:=P0.out.cell (o:=0) rfl
 have o0_0:=O0.out.cell (o:=0) rfl
 have f0_0:=O0.out.frozen 0
 have r0_0:=R0.out.cell (o:=0) rfl
 have s0_0:=R0.out.frozen 0
 have p1_0:=P0.out.cell (o:=1) rfl
 have o1_0:=O0.out.cell (o:=1) rfl
 have f1_0:=O0.out.frozen 1
 have r1_0:=R0.out.cell (o:=1) rfl
 have s1_0:=R0.out.frozen 1
 have p2_0:=P0.out.cell (o:=2) rfl
 have o2_0:=O0.out.cell (o:=2) rfl
 have f2_0:=O0.out.frozen 2
 have r2_0:=R0.out.cell (o:=2) rfl
 have s2_0:=R0.out.frozen 2
 have Q0_0:=hide (q0.wide (lo':=w.heap.size+3) (hi':=w0.heap.size) (by go_size) (Nat.le_refl _))
 clear q0 hb0
 go_wp2_with fail
 refine(toFieldS_g a1 c1 lo hi x.glob _ HL.out.2.1 (G1.out.keep (Below.mono (by(repeat (first|exact B0.out|refine Below.setCell ?_ (by simp<;>omega) _))) hh)) (by go_size)).mono ?_
 rintro e w1 ⟨n1,rfl,q1,hb1⟩
 have B1:Hid (Below w.heap.size w w1):=by
  refine Below.trans ?_ (hb1.mono (by go_size))
  (repeat (first|exact B0.out|refine Below.setCell ?_ (by simp<;>omega) _))
 have sz1:w.heap.size+3≤w1.heap.size∧w0.heap.size≤w1.heap.size:=by
  have:=hb1.size
  simp only[World.size_setCell] at this
  omega
 have P1:Hid (Rec w1 w.heap.size 26 [.slice a0 x.types.length c0,.slice a1 x.glob.length c1,.slice a2 x.funs.length c2]):=by
  refine Rec.below ?_ hb1 (by go_size)
  (repeat (first|exact P0.out|refine Rec.other ?_ (by omega) _ _))
 have R1:Hid (Rec w1 (w.heap.size+1) 37 [.slice none 0 0,.slice none 0 0,.slice none 0 0]):=by
  refine Rec.below ?_ hb1 (by go_size)
  (repeat (first|exact R0.out|refine Rec.other ?_ (by omega) _ _))
 have O1:Hid (Rec w1 (w.heap.size+1+1) 37 [.slice n0 x.types.length x.types.length,.slice none 0 0,.slice none 0 0]):=Rec.below ((O0.out).set _ _) hb1 (by go_size)
 have SM1:Same (w.heap.size+3) w0.heap.size w0 w1:=by
  refine Same.trans ?_ (Same.of_below hb1 (by go_size))
  (repeat (first|refine Same.set ?_ (.inl (by omega)) _ _|exact Same.refl _ _ _))
 have Q0_1:=hide (Q0_0.out.same SM1 (Nat.le_refl _) sz1.2)
 clear Q0_0 SM1
 clear p0_0 o0_0 f0_0 r0_0 s0_0 p1_0 o1_0 f1_0 r1_0 s1_0 p2_0 o2_0 f2_0 r2_0 s2_0
 have p0_1:=P1.out.cell (o:=0) rfl
 have o0_1:=O1.out.cell (o:=0) rfl
 have f0_1:=O1.out.frozen 0
 have r0_1:=R1.out.cell (o:=0) rfl
 have s0_1:=R1.out.frozen 0
 have p1_1:=P1.out.cell (o:=1) rfl
 have o1_1:=O1.out.cell (o:=1) rfl
 have f1_1:=O1.out.frozen 1
 have r1_1:=R1.out.cell (o:=1) rfl
 have s1_1:=R1.out.frozen 1
 have p2_1:=P1.out.cell (o:=2) rfl
 have o2_1:=O1.out.cell (o:=2) rfl
 have f2_1:=O1.out.frozen 2
 have r2_1:=R1.out.cell (o:=2) rfl
 have s2_1:=R1.out.frozen 2
 have Q1_1:=hide (q1.wide (lo':=w.heap.size+3) (hi':=w1.heap.size) (by go_size) (Nat.le_refl _))
 clear q1 hb1
 go_wp2_with fail
 refine(toFunS_g a2 c2 lo hi x.funs _ HL.out.2.2 (G2.out.keep (Below.mono (by(repeat (first|exact B1.out|refine Below.setCell ?_ (by simp<;>omega) _))) hh)) (by go_size)).mono ?_
 rintro e w2 ⟨n2,rfl,q2,hb2⟩
 have B2:Hid (Below w.heap.size w w2):=by
  refine Below.trans ?_ (hb2.mono (by go_size))
  (repeat (first|exact B1.out|refine Below.setCell ?_ (by simp<;>omega) _))
 have sz2:w.heap.size+3≤w2.heap.size∧w1.heap.size≤w2.heap.size:=by
  have:=hb2.size
  simp only[World.size_setCell] at this
  omega
 have P2:Hid (Rec w2 w.heap.size 26 [.slice a0 x.types.length c0,.slice a1 x.glob.length c1,.slice a2 x.funs.length c2]):=by
  refine Rec.below ?_ hb2 (by go_size)
  (repeat (first|exact P1.out|refine Rec.other ?_ (by omega) _ _))
 have R2:Hid (Rec w2 (w.heap.size+1) 37 [.slice none 0 0,.slice none 0 0,.slice none 0 0]):=by
  refine Rec.below ?_ hb2 (by go_size)
  (repeat (first|exact R1.out|refine Rec.other ?_ (by omega) _ _))
 have O2:Hid (Rec w2 (w.heap.size+1+1) 37 [.slice n0 x.types.length x.types.length,.slice n1 x.glob.length x.glob.length,.slice none 0 0]):=Rec.below ((O1.out).set _ _) hb2 (by go_size)
 have SM2:Same (w.heap.size+3) w1.heap.size w1 w2:=by
  refine Same.trans ?_ (Same.of_below hb2 (by go_size))
  (repeat (first|refine Same.set ?_ (.inl (by omega)) _ _|exact Same.refl _ _ _))
 have Q0_2:=hide (Q0_1.out.same SM2 (Nat.le_refl _) sz2.2)
 have Q1_2:=hide (Q1_1.out.same SM2 (Nat.le_refl _) sz2.2)
 clear Q0_1 Q1_1 SM2
 clear p0_1 o0_1 f0_1 r0_1 s0_1 p1_1 o1_1 f1_1 r1_1 s1_1 p2_1 o2_1 f2_1 r2_1 s2_1
 have p0_2:=P2.out.cell (o:=0) rfl
 have o0_2:=O2.out.cell (o:=0) rfl
 have f0_2:=O2.out.frozen 0
 have r0_2:=R2.out.cell (o:=0) rfl
 have s0_2:=R2.out.frozen 0
 have p1_2:=P2.out.cell (o:=1) rfl
 have o1_2:=O2.out.cell (o:=1) rfl
 have f1_2:=O2.out.frozen 1
 have r1_2:=R2.out.cell (o:=1) rfl
 have s1_2:=R2.out.frozen 1
 have p2_2:=P2.out.cell (o:=2) rfl
 have o2_2:=O2.out.cell (o:=2) rfl
 have f2_2:=O2.out.frozen 2
 have r2_2:=R2.out.cell (o:=2) rfl
 have s2_2:=R2.out.frozen 2
 have Q2_2:=hide (q2.wide (lo':=w.heap.size+3) (hi':=w2.heap.size) (by go_size) (Nat.le_refl _))
 clear q2 hb2
 go_wp2_with fail
 refine bodyPost_ret (v:=.agg #[.slice n0 x.types.length x.types.length,.slice n1 x.glob.length x.glob.length,.slice n2 x.funs.length x.funs.length]) (by simp[results,Tryz.results10,go_sem,r0_2,r1_2,r2_2]) rfl ⟨n0,n1,n2,rfl,?_,?_,?_,?_⟩
 ·refine Q0_2.out.same ?_ (by omega) (by go_size)
  (repeat (first|refine Same.set ?_ (.inl (by omega)) _ _|exact Same.refl _ _ _))
 ·refine Q1_2.out.same ?_ (by omega) (by go_size)
  (repeat (first|refine Same.set ?_ (.inl (by omega)) _ _|exact Same.refl _ _ _))
 ·refine Q2_2.out.same ?_ (by omega) (by go_size)
  (repeat (first|refine Same.set ?_ (.inl (by omega)) _ _|exact Same.refl _ _ _))
 ·(repeat (first|refine Below.setCell ?_ (by simp<;>omega) _|exact B2.out))
set_option maxHeartbeats 800000 in
theorem szProg_any {md:Bool} (a0 a1 a2:Option Addr) (c0 c1 c2 lo hi:Nat) (x:GProg) (left:Int) (w:World) (hl:ProgB 9223372036854775807 x) (g0:GroupsM md w lo hi a0 x.types) (g1:FieldsM md w lo hi a1 x.glob) (g2:FunsM md w lo hi a2 x.funs) (hh:hi≤w.heap.size) (l0:0≤left) (l1:left≤1048576) :
  Calls Tryz.prog 7 #[.agg #[.slice a0 x.types.length c0,.slice a1 x.glob.length c1,.slice a2 x.funs.length c2],.int .i64 left] w fun e w'=>∃r:Int,e=.returned (.int .i64 r)∧-1≤r∧r≤left∧(0≤r→ProgB 1048576 x)∧Below w.heap.size w w':=by
 have HL:=hide hl
 clear hl
 have G0:=hide g0
 have G1:=hide g1
 have G2:=hide g2
 clear g0 g1 g2
 go_enter Tryz.func7,Tryz.ntmps7
 go_wp2_with fail
 refine(szTypeSS_g a0 c0 lo hi x.types left _ HL.out.1 (G0.out.keep (Below.mono (by(repeat (first|refine Below.al ?_ (Nat.le_refl _) _|exact Below.refl _ _))) hh)) (by simp only[World.size_alloc];omega) (by omega) (by omega)).mono ?_
 rintro e w0 ⟨r0,rfl,s0,t0,u0,hb0⟩
 have U0:=hide u0
 have HB0:Hid (Below w.heap.size w w0):=by
  refine Below.trans ?_ (hb0.mono ?_)
  ·(repeat (first|refine Below.al ?_ (Nat.le_refl _) _|exact Below.refl _ _))
  ·simp
 have P0:Hid (Rec w0 w.heap.size 26 [.slice a0 x.types.length c0,.slice a1 x.glob.length c1,.slice a2 x.funs.length c2]):=(Rec.new' w _ _ _ rfl).below hb0 (by go_size)
 clear u0 hb0
 have p0_0:=P0.out.cell (o:=0) rfl
 have p1_0:=P0.out.cell (o:=1) rfl
 have p2_0:=P0.out.cell (o:=2) rfl
 by_cases hr0:r0<0
 ·go_wp2_with fail
  go_ret
  exact⟨-1,rfl,by omega,by omega,by omega,HB0.out⟩
 go_wp2_with fail
 refine(szFieldS_g a1 c1 lo hi x.glob r0 _ HL.out.2.1 (G1.out.keep (Below.mono (by exact HB0.out) hh)) (Nat.le_trans hh HB0.out.size) (by omega) (by omega)).mono ?_
 rintro e w1 ⟨r1,rfl,s1,t1,u1,hb1⟩
 have U1:=hide u1
 have HB1:Hid (Below w.heap.size w w1):=by
  refine Below.trans ?_ (hb1.mono ?_)
  ·exact HB0.out
  ·exact HB0.out.size
 have P1:Hid (Rec w1 w.heap.size 26 [.slice a0 x.types.length c0,.slice a1 x.glob.length c1,.slice a2 x.funs.length c2]):=P0.out.below hb1 P0.out.lt
 clear u1 hb1 p0_0 p1_0 p2_0
 have p0_1:=P1.out.cell (o:=0) rfl
 have p1_1:=P1.out.cell (o:=1) rfl
 have p2_1:=P1.out.cell (o:=2) rfl
 by_cases hr1:r1<0
 ·go_wp2_with fail
  go_ret
  exact⟨-1,rfl,by omega,by omega,by omega,HB1.out⟩
 go_wp2_with fail
 refine(szFunS_g a2 c2 lo hi x.funs r1 _ HL.out.2.2 (G2.out.keep (Below.mono (by exact HB1.out) hh)) (Nat.le_trans hh HB1.out.size) (by omega) (by omega)).mono ?_
 rintro e w2 ⟨r2,rfl,s2,t2,u2,hb2⟩
 have U2:=hide u2
 have HB2:Hid (Below w.heap.size w w2):=by
  refine Below.trans ?_ (hb2.mono ?_)
  ·exact HB1.out
  ·exact HB1.out.size
 have P2:Hid (Rec w2 w.heap.size 26 [.slice a0 x.types.length c0,.slice a1 x.glob.length c1,.slice a2 x.funs.length c2]):=P1.out.below hb2 P1.out.lt
 clear u2 hb2 p0_1 p1_1 p2_1
 have p0_2:=P2.out.cell (o:=0) rfl
 have p1_2:=P2.out.cell (o:=1) rfl
 have p2_2:=P2.out.cell (o:=2) rfl
 by_cases hr2:r2<0
 ·go_wp2_with fail
  go_ret
  exact⟨-1,rfl,by omega,by omega,by omega,HB2.out⟩
 go_wp2_with fail
 go_ret
 exact⟨r2,rfl,by omega,by omega,fun _=>⟨U0.out (by omega),U1.out (by omega),U2.out (by omega)⟩,HB2.out⟩
set_option maxHeartbeats 800000 in
theorem eqProg_g {md md':Bool} (a0 b0 a1 b1 a2 b2:Option Addr) (c0 d0 c1 d1 c2 d2 lo hi lo' hi':Nat) (x:GProg) (w:World) (hl:ProgB 1048576 x) (g0:GroupsM md w lo hi a0 x.types) (g1:FieldsM md w lo hi a1 x.glob) (g2:FunsM md w lo hi a2 x.funs) (k0:GroupsM md' w lo' hi' b0 x.types) (k1:FieldsM md' w lo' hi' b1 x.glob) (k2:FunsM md' w lo' hi' b2 x.funs) (hh:hi≤w.heap.size) (hh':hi'≤w.heap.size) :
  Calls Tryz.prog 15 #[.agg #[.slice a0 x.types.length c0,.slice a1 x.glob.length c1,.slice a2 x.funs.length c2],.agg #[.slice b0 x.types.length d0,.slice b1 x.glob.length d1,.slice b2 x.funs.length d2]] w fun e w'=>e=.returned (.bool true)∧Below w.heap.size w w':=by
 have HL:=hide hl
 clear hl
 have G0:=hide g0
 have K0:=hide k0
 have G1:=hide g1
 have K1:=hide k1
 have G2:=hide g2
 have K2:=hide k2
 clear g0 k0 g1 k1 g2 k2
 go_enter Tryz.func15,Tryz.ntmps15
 go_wp2_with fail
 refine(eqTypeSS_g a0 b0 c0 d0 lo hi lo' hi' x.types _ HL.out.1 (G0.out.keep (Below.mono (by(repeat (first|refine Below.al ?_ (Nat.le_refl _) _|exact Below.refl _ _))) hh)) (K0.out.keep (Below.mono (by(repeat (first|refine Below.al ?_ (Nat.le_refl _) _|exact Below.refl _ _))) hh')) (by simp only[World.size_alloc];omega) (by simp only[World.size_alloc];omega)).mono ?_
 rintro e w0 ⟨rfl,hb0⟩
 have HB0:Hid (Below w.heap.size w w0):=by
  refine Below.trans ?_ (hb0.mono ?_)
  ·(repeat (first|refine Below.al ?_ (Nat.le_refl _) _|exact Below.refl _ _))
  ·simp<;>omega
 have P0:Hid (Rec w0 w.heap.size 37 [.slice a0 x.types.length c0,.slice a1 x.glob.length c1,.slice a2 x.funs.length c2]):=((Rec.new' w _ _ _ rfl).alloc _).below hb0 (by go_size)
 have R0:Hid (Rec w0 (w.heap.size+1) 37 [.slice b0 x.types.length d0,.slice b1 x.glob.length d1,.slice b2 x.funs.length d2]):=(Rec.new' _ _ _ _ (by simp)).below hb0 (by go_size)
 clear hb0
 have p0_0:=P0.out.cell (o:=0) rfl
 have r0_0:=R0.out.cell (o:=0) rfl
 have p1_0:=P0.out.cell (o:=1) rfl
 have r1_0:=R0.out.cell (o:=1) rfl
 have p2_0:=P0.out.cell (o:=2) rfl
 have r2_0:=R0.out.cell (o:=2) rfl
 go_wp2_with fail
 refine(eqFieldS_g a1 b1 c1 d1 lo hi lo' hi' x.glob _ HL.out.2.1 (G1.out.keep (Below.mono (by exact HB0.out) hh)) (K1.out.keep (Below.mono (by exact HB0.out) hh')) (Nat.le_trans hh HB0.out.size) (Nat.le_trans hh' HB0.out.size)).mono ?_
 rintro e w1 ⟨rfl,hb1⟩
 have HB1:Hid (Below w.heap.size w w1):=by
  refine Below.trans ?_ (hb1.mono ?_)
  ·exact HB0.out
  ·exact HB0.out.size
 have P1:Hid (Rec w1 w.heap.size 37 [.slice a0 x.types.length c0,.slice a1 x.glob.length c1,.slice a2 x.funs.length c2]):=P0.out.below hb1 P0.out.lt
 have R1:Hid (Rec w1 (w.heap.size+1) 37 [.slice b0 x.types.length d0,.slice b1 x.glob.length d1,.slice b2 x.funs.length d2]):=R0.out.below hb1 R0.out.lt
 clear hb1 p0_0 r0_0 p1_0 r1_0 p2_0 r2_0
 have p0_1:=P1.out.cell (o:=0) rfl
 have r0_1:=R1.out.cell (o:=0) rfl
 have p1_1:=P1.out.cell (o:=1) rfl
 have r1_1:=R1.out.cell (o:=1) rfl
 have p2_1:=P1.out.cell (o:=2) rfl
 have r2_1:=R1.out.cell (o:=2) rfl
 go_wp2_with fail
 refine(eqFunS_g a2 b2 c2 d2 lo hi lo' hi' x.funs _ HL.out.2.2 (G2.out.keep (Below.mono (by exact HB1.out) hh)) (K2.out.keep (Below.mono (by exact HB1.out) hh')) (Nat.le_trans hh HB1.out.size) (Nat.le_trans hh' HB1.out.size)).mono ?_
 rintro e w2 ⟨rfl,hb2⟩
 have HB2:Hid (Below w.heap.size w w2):=by
  refine Below.trans ?_ (hb2.mono ?_)
  ·exact HB1.out
  ·exact HB1.out.size
 have P2:Hid (Rec w2 w.heap.size 37 [.slice a0 x.types.length c0,.slice a1 x.glob.length c1,.slice a2 x.funs.length c2]):=P1.out.below hb2 P1.out.lt
 have R2:Hid (Rec w2 (w.heap.size+1) 37 [.slice b0 x.types.length d0,.slice b1 x.glob.length d1,.slice b2 x.funs.length d2]):=R1.out.below hb2 R1.out.lt
 clear hb2 p0_1 r0_1 p1_1 r1_1 p2_1 r2_1
 have p0_2:=P2.out.cell (o:=0) rfl
 have r0_2:=R2.out.cell (o:=0) rfl
 have p1_2:=P2.out.cell (o:=1) rfl
 have r1_2:=R2.out.cell (o:=1) rfl
 have p2_2:=P2.out.cell (o:=2) rfl
 have r2_2:=R2.out.cell (o:=2) rfl
 go_wp2_with fail
 go_ret
 exact⟨rfl,HB2.out⟩
end Go.Proofs.YtpaneomkphjpcaaGreatDoor
/- A reading of a program that came in, as the walks want it. -/
namespace Go.Proofs.YtpaneomkphjpcaaGreatDoor
open Go.ChangeShapes Go.WideShapes Go.ChangeAt Go.RowKit Go.Joins Go.Deep
set_option linter.unusedVariables false
section
variable {H:Type} {enc:TypeId×Value→H} {W:World} {hd:Bool} {fuel:Nat}
set_option maxRecDepth 100000 in
theorem inss_open {v:Value} {x:DataW H×List MemPlace} (h:DataW.trod enc Tryz.prog W 0 (fun _=>true) hd fuel 104 [v]=some x) :
  ∃fa fs fc,v=.slice fa fs.length fc∧InssM false W 0 W.heap.size fa fs∧InssB 9223372036854775807 fs:=by
 rcases open_slice Tryz.underlying104 h with⟨hcs,_⟩|⟨a,len,cap,m,n,D,Pl,hcs,_,hl,hm,hmm,_,hx⟩
 ·simp at hcs
  exact⟨none,[],0,hcs,.inl rfl,Nat.zero_le _⟩
 ·simp at hcs
  subst hcs
  simp at hmm
  subst hmm
  unfold maxLen at hm
  have ce:Tryz.prog.cellsOf 28=3:=by kernel_rfl
  by_cases h0:len=0
  ·subst h0
   exact⟨some a,[],m,rfl,.inl rfl,Nat.zero_le _⟩
  obtain⟨b,off,spot⟩:=a
  obtain⟨rfl,s1⟩:spot=none∧b<W.heap.size:=by
   obtain⟨cs0,h10,_⟩:=hx 0 (by omega)
   exact head_plain h10 (by omega)
  have each:∀i,i<len→∃f:GIns,InsAt false W 0 W.heap.size b (off+i*3) f:=by
   intro i hi
   obtain⟨cs',h1,h2⟩:=hx i (by omega)
   rw[ce] at h1
   obtain⟨_,hlen,hcell⟩:=World.cells?_some h1
   obtain⟨y0,y1,y2,k,_,_,t0,t1,t2⟩:=trod_struct3 Tryz.underlying28 h2
   match cs',hlen with
   | [v0,v1,v2],_ =>
    have e0:=hcell 0 (by omega)
    have e1:=hcell 1 (by omega)
    have e2:=hcell 2 (by omega)
    rw[add_add] at e0 e1 e2
    obtain⟨a0,g0,_,_⟩:=DataW.trod_int Tryz.underlying3 t0
    obtain⟨a1,g1,_,_⟩:=DataW.trod_int Tryz.underlying3 t1
    obtain⟨a2,g2,_,_⟩:=DataW.trod_int Tryz.underlying3 t2
    have c1:Tryz.prog.cellsOf 3=1:=by kernel_rfl
    simp[c1] at g0 g1 g2
    subst g0 g1 g2
    simp at e0 e1 e2
    refine⟨⟨a0,a1,a2⟩,?_,?_,?_⟩
    ·exact add_none e0 rfl
    ·have:=add_none e1 rfl;rwa [←Nat.add_assoc] at this
    ·have:=add_none e2 rfl;rwa [←Nat.add_assoc] at this
  obtain⟨fs,hfl,hfs⟩:=list_of GIns.d each
  subst hfl
  exact⟨_,fs,m,rfl,.inr ⟨b,off,rfl,Nat.zero_le _,s1,(fun e=>by cases e),hfs⟩,(by unfold InssB;omega)⟩
set_option maxRecDepth 100000 in
theorem funs_open {v:Value} {x:DataW H×List MemPlace} (h:DataW.trod enc Tryz.prog W 0 (fun _=>true) hd fuel 24 [v]=some x) :
  ∃fa fs fc,v=.slice fa fs.length fc∧FunsM false W 0 W.heap.size fa fs∧FunsB 9223372036854775807 fs:=by
 rcases open_slice Tryz.underlying24 h with⟨hcs,_⟩|⟨a,len,cap,m,n,D,Pl,hcs,_,hl,hm,hmm,_,hx⟩
 ·simp at hcs
  exact⟨none,[],0,hcs,.inl rfl,Nat.zero_le _,fun i hi=>absurd hi (Nat.not_lt_zero _)⟩
 ·simp at hcs
  subst hcs
  simp at hmm
  subst hmm
  unfold maxLen at hm
  have ce:Tryz.prog.cellsOf 106=6:=by kernel_rfl
  by_cases h0:len=0
  ·subst h0
   exact⟨some a,[],m,rfl,.inl rfl,Nat.zero_le _,fun i hi=>absurd hi (Nat.not_lt_zero _)⟩
  obtain⟨b,off,spot⟩:=a
  obtain⟨rfl,s1⟩:spot=none∧b<W.heap.size:=by
   obtain⟨cs0,h10,_⟩:=hx 0 (by omega)
   exact head_plain h10 (by omega)
  have each:∀i,i<len→∃f:GFun,FunAt false W 0 W.heap.size b (off+i*6) f∧FunB 9223372036854775807 f:=by
   intro i hi
   obtain⟨cs',h1,h2⟩:=hx i (by omega)
   rw[ce] at h1
   obtain⟨_,hlen,hcell⟩:=World.cells?_some h1
   obtain⟨y0,y1,y2,y3,k,_,_,t0,t1,t2,t3⟩:=trod_struct4 Tryz.underlying106 h2
   match cs',hlen with
   | [v0,v1,v2,v3,v4,v5],_ =>
    have e0:=hcell 0 (by omega)
    have e1:=hcell 1 (by omega)
    have e2:=hcell 2 (by omega)
    have e3:=hcell 3 (by omega)
    have e4:=hcell 4 (by omega)
    have e5:=hcell 5 (by omega)
    rw[add_add] at e0 e1 e2 e3 e4 e5
    have c1:Tryz.prog.cellsOf 3=1:=by kernel_rfl
    have c2:Tryz.prog.cellsOf 4=1:=by kernel_rfl
    have c3:Tryz.prog.cellsOf 23=1:=by kernel_rfl
    have c4:Tryz.prog.cellsOf 104=1:=by kernel_rfl
    have c5:Tryz.prog.cellsOf 70=3:=by kernel_rfl
    simp[c3,c4,c5] at t0 t1 t2 t3
    obtain⟨z0,z1,z2,k',_,_,u0,u1,u2⟩:=trod_struct3 Tryz.underlying70 t1
    obtain⟨a1,g1,_,_⟩:=DataW.trod_int Tryz.underlying3 u0
    obtain⟨a2,g2,_,_⟩:=DataW.trod_int Tryz.underlying3 u1
    obtain⟨a3,g3,_⟩:=DataW.trod_bool Tryz.underlying4 u2
    simp[c1,c2] at g1 g2 g3
    obtain⟨fa,fs,fc,g0,hfs,hfl⟩:=fields_open t0
    obtain⟨fa',fs',fc',g4,hfs',hfl'⟩:=fields_open t2
    obtain⟨fb,is,fd,g5,his,hil⟩:=inss_open t3
    subst g0 g1 g2 g3 g4 g5
    simp at e0 e1 e2 e3 e4 e5
    refine⟨⟨fs,⟨a1,a2,a3⟩,fs',is⟩,⟨fa,fc,fa',fc',fb,fd,?_,?_,?_,?_,?_,?_,⟨hfs,fun e=>by cases e⟩,⟨hfs',fun e=>by cases e⟩,his⟩,hfl,hfl',hil⟩
    ·exact add_none e0 rfl
    ·have:=add_none e1 rfl;rwa [←Nat.add_assoc] at this
    ·have:=add_none e2 rfl;rwa [←Nat.add_assoc] at this
    ·have:=add_none e3 rfl;rwa [←Nat.add_assoc] at this
    ·have:=add_none e4 rfl;rwa [←Nat.add_assoc] at this
    ·have:=add_none e5 rfl;rwa [←Nat.add_assoc] at this
  obtain⟨fs,hfl,hfs⟩:=list_of GFun.d each
  subst hfl
  exact⟨_,fs,m,rfl,.inr ⟨b,off,rfl,Nat.zero_le _,s1,(fun e=>by cases e),fun i hi=>(hfs i hi).1⟩,by omega,fun i hi=>(hfs i hi).2⟩
set_option maxRecDepth 100000 in
theorem groupsM_open {v:Value} {x:DataW H×List MemPlace} (h:DataW.trod enc Tryz.prog W 0 (fun _=>true) hd fuel 22 [v]=some x) :
  ∃ga gs gc,v=.slice ga gs.length gc∧GroupsM false W 0 W.heap.size ga gs∧GroupsB 9223372036854775807 gs:=by
 have h':=h
 rcases open_slice1 Tryz.underlying22 (by kernel_rfl) h with⟨hcs,_⟩|⟨y,l,c,m,n,V,D,Pl,hcs,_,hl,hm,hmm,_,hx⟩
 ·simp at hcs
  exact⟨none,[],0,hcs,⟨.inl rfl,fun e=>by cases e⟩,Nat.zero_le _,fun i hi=>absurd hi (Nat.not_lt_zero _)⟩
 ·simp at hcs
  subst hcs
  have hT:DataW.Trod enc Tryz.prog W 0 (fun _=>true) hd 22 (.slice (some y) l c) x.1 x.2:=⟨fuel,by simpa[Value.cells] using h'⟩
  obtain⟨gs,rfl,hg,hL⟩:=groups_open hT
  exact⟨_,gs,c,rfl,⟨hg,fun e=>by cases e⟩,hL⟩
theorem fieldsM_open {v:Value} {x:DataW H×List MemPlace} (h:DataW.trod enc Tryz.prog W 0 (fun _=>true) hd fuel 23 [v]=some x) :
  ∃fa fs fc,v=.slice fa fs.length fc∧FieldsM false W 0 W.heap.size fa fs∧FieldsB 9223372036854775807 fs:=by
 obtain⟨fa,fs,fc,e,h1,h2⟩:=fields_open h
 exact⟨fa,fs,fc,e,⟨h1,fun e=>by cases e⟩,h2⟩
end
end Go.Proofs.YtpaneomkphjpcaaGreatDoor
