/- PcR1: CkRule1, CkRule2, CkRule3. -/
import Derived.Test.YtpaneomkphjpcaaGreatDoorPcScp
import Derived.Test.YtpaneomkphjpcaaGreatDoorPcNd
import Derived.Deep.Cut
namespace Go.Proofs.YtpaneomkphjpcaaGreatDoor
open Go.ChangeShapes Go.WideShapes Go.ChangeAt Go.RowKit
set_option linter.unusedVariables false
set_option linter.unusedSimpArgs false
def EffPost (W:World) (T G:List Fd) (nm:Bool) (e:Ending) (w':World):Prop :=
 ∃(ta:Option Addr) (tc:Nat) (ga:Option Addr) (gc:Nat),e=.returned (.tuple #[.agg #[.slice ta T.length tc,.slice ga G.length gc],.bool nm])∧FieldsIn w' W.heap.size w'.heap.size ta T∧FieldsIn w' W.heap.size w'.heap.size ga G∧Below W.heap.size W w'
theorem rec_fields {w:World} {b lo hi:Nat} {fs:List Fd} (h:Rec w b 68 (fcells fs)) (h1:lo≤b) (h2:b<hi):FieldsIn w lo hi (some ⟨b,0,none⟩) fs :=
 .inr ⟨b,0,rfl,h1,h2,fieldAt_of fun j hj=>by rw[Nat.zero_add];exact h.cell (fcells_get fs j hj)⟩
set_option maxHeartbeats 400000 in
theorem sortNum_any (w:World):Calls Tryz.prog 181 #[] w fun e w'=>e=.returned (.agg #[.int .i64 1,.int .i64 0,.bool false])∧Below w.heap.size w w':=by
 go_enter Tryz.func181,Tryz.ntmps181
 go_wp2_with fail
 refine bodyPost_ret (v:=.agg #[.int .i64 1,.int .i64 0,.bool false]) (by simp[results,Tryz.results181,go_sem]) rfl ⟨rfl,?_⟩
 exact(Below.refl _ _).alloc (Nat.le_refl _) _
set_option maxHeartbeats 400000 in
theorem sortRef_any (o:Int) (w:World):Calls Tryz.prog 184 #[.int .i64 o] w fun e w'=>e=.returned (.agg #[.int .i64 2,.int .i64 o,.bool false])∧Below w.heap.size w w':=by
 go_enter Tryz.func184,Tryz.ntmps184
 go_wp2_with fail
 refine bodyPost_ret (v:=.agg #[.int .i64 2,.int .i64 o,.bool false]) (by simp[results,Tryz.results184,go_sem]) rfl ⟨rfl,?_⟩
 exact(Below.refl _ _).alloc (Nat.le_refl _) _
set_option maxHeartbeats 400000 in
theorem sortSure_any (o:Int) (w:World):Calls Tryz.prog 183 #[.int .i64 o] w fun e w'=>e=.returned (.agg #[.int .i64 3,.int .i64 o,.bool false])∧Below w.heap.size w w':=by
 go_enter Tryz.func183,Tryz.ntmps183
 go_wp2_with fail
 refine bodyPost_ret (v:=.agg #[.int .i64 3,.int .i64 o,.bool false]) (by simp[results,Tryz.results183,go_sem]) rfl ⟨rfl,?_⟩
 exact(Below.refl _ _).alloc (Nat.le_refl _) _
set_option maxHeartbeats 1000000 in
theorem checkNum_any (vs:List Value) (op a b tk to:Int) (tm:Bool) (w:World) :
  Calls Tryz.prog 141 #[.agg vs.toArray,.agg #[.int .i64 op,.int .i64 a,.int .i64 b],.agg #[.int .i64 tk,.int .i64 to,.bool tm]] w fun e w'=>EffPost w [] [⟨1,0,false⟩] true e w':=by
 have B0:Hid (Below w.heap.size w ((((w.alloc (.cells vs.toArray 94)).alloc (.cells #[.int .i64 op,.int .i64 a,.int .i64 b] 40)).alloc (.cells #[.int .i64 tk,.int .i64 to,.bool tm] 68)).alloc (.cells #[.slice none 0 0,.slice none 0 0] 160))) :=
  ((((Below.refl _ _).alloc (Nat.le_refl _) _).alloc (by simp) _).alloc (by simp;omega) _).alloc (by simp;omega) _
 have E0:Hid (Rec ((((w.alloc (.cells vs.toArray 94)).alloc (.cells #[.int .i64 op,.int .i64 a,.int .i64 b] 40)).alloc (.cells #[.int .i64 tk,.int .i64 to,.bool tm] 68)).alloc (.cells #[.slice none 0 0,.slice none 0 0] 160)) (w.heap.size+1+1+1) 160 [.slice none 0 0,.slice none 0 0]):=Rec.new' _ _ _ _ (by simp)
 go_enter Tryz.func141,Tryz.ntmps141
 go_wp2_with fail
 refine(sortNum_any _).mono ?_
 rintro e w1 ⟨rfl,b1⟩
 have B1:=hide (B0.out.trans (b1.mono B0.out.size))
 have E1:=hide (E0.out.below b1 E0.out.lt)
 clear b1
 have hlt:=E1.out.lt
 have s1:=B1.out.size
 have c0:=E1.out.cell (o:=0) rfl
 have c1:=E1.out.cell (o:=1) rfl
 have f0:=E1.out.frozen 0
 have f1:=E1.out.frozen 1
 obtain⟨W9,hW9⟩:∃x,x=(((w1.setCell ⟨w.heap.size+1+1+1,0,none⟩ (.slice none 0 0)).setCell ⟨w.heap.size+1+1+1,1,none⟩ (.slice (some ⟨w1.heap.size,0,none⟩) 1 1)).alloc (.cells #[.int .i64 1,.int .i64 0,.bool false] 68)):=⟨_,rfl⟩
 have NR:Hid (Rec W9 w1.heap.size 68 (fcells [⟨1,0,false⟩])):=by subst hW9;exact Rec.new' _ _ _ _ (by simp)
 have ER:Hid (Rec W9 (w.heap.size+1+1+1) 160 [.slice none 0 0,.slice (some ⟨w1.heap.size,0,none⟩) 1 1]):=by subst hW9;exact((E1.out.set 0 _).set 1 _).alloc _
 have BR:Hid (Below w.heap.size w W9):=by subst hW9;exact((B1.out.setCell (by show w.heap.size≤w.heap.size+1+1+1;omega) _).setCell (by show w.heap.size≤w.heap.size+1+1+1;omega) _).alloc (by simp;exact s1) _
 subst hW9
 go_wp2_with fail
 exact bodyPost_ret (results_ct rfl rfl ER.out Tryz.underlying160 rfl (by kernel_rfl)) rfl ⟨_,_,_,_,rfl,.inl rfl,rec_fields NR.out s1 NR.out.lt,BR.out⟩
set_option maxHeartbeats 1000000 in
theorem checkReckon_any (vs:List Value) (op a b tk to:Int) (tm:Bool) (w:World) :
  Calls Tryz.prog 147 #[.agg vs.toArray,.agg #[.int .i64 op,.int .i64 a,.int .i64 b],.agg #[.int .i64 tk,.int .i64 to,.bool tm]] w fun e w'=>EffPost w [⟨1,0,false⟩,⟨1,0,false⟩] [⟨1,0,false⟩] true e w':=by
 have B0:Hid (Below w.heap.size w ((((w.alloc (.cells vs.toArray 94)).alloc (.cells #[.int .i64 op,.int .i64 a,.int .i64 b] 40)).alloc (.cells #[.int .i64 tk,.int .i64 to,.bool tm] 68)).alloc (.cells #[.slice none 0 0,.slice none 0 0] 160))) :=
  ((((Below.refl _ _).alloc (Nat.le_refl _) _).alloc (by simp) _).alloc (by simp;omega) _).alloc (by simp;omega) _
 have E0:Hid (Rec ((((w.alloc (.cells vs.toArray 94)).alloc (.cells #[.int .i64 op,.int .i64 a,.int .i64 b] 40)).alloc (.cells #[.int .i64 tk,.int .i64 to,.bool tm] 68)).alloc (.cells #[.slice none 0 0,.slice none 0 0] 160)) (w.heap.size+1+1+1) 160 [.slice none 0 0,.slice none 0 0]):=Rec.new' _ _ _ _ (by simp)
 go_enter Tryz.func147,Tryz.ntmps147
 go_wp2_with fail
 refine(sortNum_any _).mono ?_
 rintro e w1 ⟨rfl,b1⟩
 have B1:=hide (B0.out.trans (b1.mono B0.out.size))
 have E1:=hide (E0.out.below b1 E0.out.lt)
 clear b1
 go_wp2_with fail
 refine(sortNum_any _).mono ?_
 rintro e w2 ⟨rfl,b2⟩
 have B2:=hide (B1.out.trans (b2.mono B1.out.size))
 have E2:=hide (E1.out.below b2 E1.out.lt)
 clear b2
 have BA:=hide (B2.out.alloc B2.out.size (.cells #[.int .i64 1,.int .i64 0,.bool false,.int .i64 1,.int .i64 0,.bool false] 68))
 have EA:=hide (E2.out.alloc (.cells #[.int .i64 1,.int .i64 0,.bool false,.int .i64 1,.int .i64 0,.bool false] 68))
 have TR:Hid (Rec (w2.alloc (.cells #[.int .i64 1,.int .i64 0,.bool false,.int .i64 1,.int .i64 0,.bool false] 68)) w2.heap.size 68 (fcells [⟨1,0,false⟩,⟨1,0,false⟩])):=Rec.new _ _ _
 have tlo:w.heap.size≤w2.heap.size:=B2.out.size
 have tlt:w.heap.size+1+1+1<w2.heap.size:=E2.out.lt
 go_wp2_with fail
 refine(sortNum_any _).mono ?_
 rintro e w3 ⟨rfl,b3⟩
 have B3:=hide (BA.out.trans (b3.mono BA.out.size))
 have E3:=hide (EA.out.below b3 EA.out.lt)
 have TR':=hide (TR.out.below b3 TR.out.lt)
 clear TR
 have TR:=TR'
 clear b3
 have hlt:=E3.out.lt
 have s3:=B3.out.size
 have c0:=E3.out.cell (o:=0) rfl
 have c1:=E3.out.cell (o:=1) rfl
 have f0:=E3.out.frozen 0
 have f1:=E3.out.frozen 1
 obtain⟨W9,hW9⟩:∃x,x=(((w3.setCell ⟨w.heap.size+1+1+1,0,none⟩ (.slice (some ⟨w2.heap.size,0,none⟩) 2 2)).setCell ⟨w.heap.size+1+1+1,1,none⟩ (.slice (some ⟨w3.heap.size,0,none⟩) 1 1)).alloc (.cells #[.int .i64 1,.int .i64 0,.bool false] 68)):=⟨_,rfl⟩
 have NR:Hid (Rec W9 w3.heap.size 68 (fcells [⟨1,0,false⟩])):=by subst hW9;exact Rec.new' _ _ _ _ (by simp)
 have ER:Hid (Rec W9 (w.heap.size+1+1+1) 160 [.slice (some ⟨w2.heap.size,0,none⟩) 2 2,.slice (some ⟨w3.heap.size,0,none⟩) 1 1]):=by subst hW9;exact((E3.out.set 0 _).set 1 _).alloc _
 have BR:Hid (Below w.heap.size w W9):=by subst hW9;exact((B3.out.setCell (by show w.heap.size≤w.heap.size+1+1+1;omega) _).setCell (by show w.heap.size≤w.heap.size+1+1+1;omega) _).alloc (by simp;exact s3) _
 have TRR:Hid (Rec W9 w2.heap.size 68 (fcells [⟨1,0,false⟩,⟨1,0,false⟩])):=by subst hW9;exact((TR.out.other (by omega) 0 _).other (by omega) 1 _).alloc _
 subst hW9
 go_wp2_with fail
 exact bodyPost_ret (results_ct rfl rfl ER.out Tryz.underlying160 rfl (by kernel_rfl)) rfl ⟨_,_,_,_,rfl,rec_fields TRR.out tlo TRR.out.lt,rec_fields NR.out s3 NR.out.lt,BR.out⟩
set_option maxHeartbeats 1000000 in
theorem checkChip_any (vs:List Value) (op a b tk to:Int) (tm:Bool) (w:World) :
  Calls Tryz.prog 148 #[.agg vs.toArray,.agg #[.int .i64 op,.int .i64 a,.int .i64 b],.agg #[.int .i64 tk,.int .i64 to,.bool tm]] w fun e w'=>EffPost w [⟨1,0,false⟩] [⟨3,-2,false⟩] true e w':=by
 have B0:Hid (Below w.heap.size w ((((w.alloc (.cells vs.toArray 94)).alloc (.cells #[.int .i64 op,.int .i64 a,.int .i64 b] 40)).alloc (.cells #[.int .i64 tk,.int .i64 to,.bool tm] 68)).alloc (.cells #[.slice none 0 0,.slice none 0 0] 160))) :=
  ((((Below.refl _ _).alloc (Nat.le_refl _) _).alloc (by simp) _).alloc (by simp;omega) _).alloc (by simp;omega) _
 have E0:Hid (Rec ((((w.alloc (.cells vs.toArray 94)).alloc (.cells #[.int .i64 op,.int .i64 a,.int .i64 b] 40)).alloc (.cells #[.int .i64 tk,.int .i64 to,.bool tm] 68)).alloc (.cells #[.slice none 0 0,.slice none 0 0] 160)) (w.heap.size+1+1+1) 160 [.slice none 0 0,.slice none 0 0]):=Rec.new' _ _ _ _ (by simp)
 go_enter Tryz.func148,Tryz.ntmps148
 go_wp2_with fail
 refine(sortNum_any _).mono ?_
 rintro e w1 ⟨rfl,b1⟩
 have B1:=hide (B0.out.trans (b1.mono B0.out.size))
 have E1:=hide (E0.out.below b1 E0.out.lt)
 clear b1
 have BA:=hide (B1.out.alloc B1.out.size (.cells #[.int .i64 1,.int .i64 0,.bool false] 68))
 have EA:=hide (E1.out.alloc (.cells #[.int .i64 1,.int .i64 0,.bool false] 68))
 have TR:Hid (Rec (w1.alloc (.cells #[.int .i64 1,.int .i64 0,.bool false] 68)) w1.heap.size 68 (fcells [⟨1,0,false⟩])):=Rec.new _ _ _
 have tlo:w.heap.size≤w1.heap.size:=B1.out.size
 have tlt:w.heap.size+1+1+1<w1.heap.size:=E1.out.lt
 go_wp2_with fail
 refine(sortSure_any (-2) _).mono ?_
 rintro e w2 ⟨rfl,b2⟩
 have B2:=hide (BA.out.trans (b2.mono BA.out.size))
 have E2:=hide (EA.out.below b2 EA.out.lt)
 have TR':=hide (TR.out.below b2 TR.out.lt)
 clear TR
 have TR:=TR'
 clear b2
 have hlt:=E2.out.lt
 have s2:=B2.out.size
 have c0:=E2.out.cell (o:=0) rfl
 have c1:=E2.out.cell (o:=1) rfl
 have f0:=E2.out.frozen 0
 have f1:=E2.out.frozen 1
 obtain⟨W9,hW9⟩:∃x,x=(((w2.setCell ⟨w.heap.size+1+1+1,0,none⟩ (.slice (some ⟨w1.heap.size,0,none⟩) 1 1)).setCell ⟨w.heap.size+1+1+1,1,none⟩ (.slice (some ⟨w2.heap.size,0,none⟩) 1 1)).alloc (.cells #[.int .i64 3,.int .i64 (-2),.bool false] 68)):=⟨_,rfl⟩
 have NR:Hid (Rec W9 w2.heap.size 68 (fcells [⟨3,-2,false⟩])):=by subst hW9;exact Rec.new' _ _ _ _ (by simp)
 have ER:Hid (Rec W9 (w.heap.size+1+1+1) 160 [.slice (some ⟨w1.heap.size,0,none⟩) 1 1,.slice (some ⟨w2.heap.size,0,none⟩) 1 1]):=by subst hW9;exact((E2.out.set 0 _).set 1 _).alloc _
 have BR:Hid (Below w.heap.size w W9):=by subst hW9;exact((B2.out.setCell (by show w.heap.size≤w.heap.size+1+1+1;omega) _).setCell (by show w.heap.size≤w.heap.size+1+1+1;omega) _).alloc (by simp;exact s2) _
 have TRR:Hid (Rec W9 w1.heap.size 68 (fcells [⟨1,0,false⟩])):=by subst hW9;exact((TR.out.other (by omega) 0 _).other (by omega) 1 _).alloc _
 subst hW9
 go_wp2_with fail
 exact bodyPost_ret (results_ct rfl rfl ER.out Tryz.underlying160 rfl (by kernel_rfl)) rfl ⟨_,_,_,_,rfl,rec_fields TRR.out tlo TRR.out.lt,rec_fields NR.out s2 NR.out.lt,BR.out⟩
set_option maxHeartbeats 1000000 in
theorem checkBack_any (vs:List Value) (op a b tk to:Int) (tm:Bool) (w:World) :
  Calls Tryz.prog 149 #[.agg vs.toArray,.agg #[.int .i64 op,.int .i64 a,.int .i64 b],.agg #[.int .i64 tk,.int .i64 to,.bool tm]] w fun e w'=>EffPost w [⟨2,-2,false⟩] [⟨1,0,false⟩] true e w':=by
 have B0:Hid (Below w.heap.size w ((((w.alloc (.cells vs.toArray 94)).alloc (.cells #[.int .i64 op,.int .i64 a,.int .i64 b] 40)).alloc (.cells #[.int .i64 tk,.int .i64 to,.bool tm] 68)).alloc (.cells #[.slice none 0 0,.slice none 0 0] 160))) :=
  ((((Below.refl _ _).alloc (Nat.le_refl _) _).alloc (by simp) _).alloc (by simp;omega) _).alloc (by simp;omega) _
 have E0:Hid (Rec ((((w.alloc (.cells vs.toArray 94)).alloc (.cells #[.int .i64 op,.int .i64 a,.int .i64 b] 40)).alloc (.cells #[.int .i64 tk,.int .i64 to,.bool tm] 68)).alloc (.cells #[.slice none 0 0,.slice none 0 0] 160)) (w.heap.size+1+1+1) 160 [.slice none 0 0,.slice none 0 0]):=Rec.new' _ _ _ _ (by simp)
 go_enter Tryz.func149,Tryz.ntmps149
 go_wp2_with fail
 refine(sortRef_any (-2) _).mono ?_
 rintro e w1 ⟨rfl,b1⟩
 have B1:=hide (B0.out.trans (b1.mono B0.out.size))
 have E1:=hide (E0.out.below b1 E0.out.lt)
 clear b1
 have BA:=hide (B1.out.alloc B1.out.size (.cells #[.int .i64 2,.int .i64 (-2),.bool false] 68))
 have EA:=hide (E1.out.alloc (.cells #[.int .i64 2,.int .i64 (-2),.bool false] 68))
 have TR:Hid (Rec (w1.alloc (.cells #[.int .i64 2,.int .i64 (-2),.bool false] 68)) w1.heap.size 68 (fcells [⟨2,-2,false⟩])):=Rec.new _ _ _
 have tlo:w.heap.size≤w1.heap.size:=B1.out.size
 have tlt:w.heap.size+1+1+1<w1.heap.size:=E1.out.lt
 go_wp2_with fail
 refine(sortNum_any _).mono ?_
 rintro e w2 ⟨rfl,b2⟩
 have B2:=hide (BA.out.trans (b2.mono BA.out.size))
 have E2:=hide (EA.out.below b2 EA.out.lt)
 have TR':=hide (TR.out.below b2 TR.out.lt)
 clear TR
 have TR:=TR'
 clear b2
 have hlt:=E2.out.lt
 have s2:=B2.out.size
 have c0:=E2.out.cell (o:=0) rfl
 have c1:=E2.out.cell (o:=1) rfl
 have f0:=E2.out.frozen 0
 have f1:=E2.out.frozen 1
 obtain⟨W9,hW9⟩:∃x,x=(((w2.setCell ⟨w.heap.size+1+1+1,0,none⟩ (.slice (some ⟨w1.heap.size,0,none⟩) 1 1)).setCell ⟨w.heap.size+1+1+1,1,none⟩ (.slice (some ⟨w2.heap.size,0,none⟩) 1 1)).alloc (.cells #[.int .i64 1,.int .i64 0,.bool false] 68)):=⟨_,rfl⟩
 have NR:Hid (Rec W9 w2.heap.size 68 (fcells [⟨1,0,false⟩])):=by subst hW9;exact Rec.new' _ _ _ _ (by simp)
 have ER:Hid (Rec W9 (w.heap.size+1+1+1) 160 [.slice (some ⟨w1.heap.size,0,none⟩) 1 1,.slice (some ⟨w2.heap.size,0,none⟩) 1 1]):=by subst hW9;exact((E2.out.set 0 _).set 1 _).alloc _
 have BR:Hid (Below w.heap.size w W9):=by subst hW9;exact((B2.out.setCell (by show w.heap.size≤w.heap.size+1+1+1;omega) _).setCell (by show w.heap.size≤w.heap.size+1+1+1;omega) _).alloc (by simp;exact s2) _
 have TRR:Hid (Rec W9 w1.heap.size 68 (fcells [⟨2,-2,false⟩])):=by subst hW9;exact((TR.out.other (by omega) 0 _).other (by omega) 1 _).alloc _
 subst hW9
 go_wp2_with fail
 exact bodyPost_ret (results_ct rfl rfl ER.out Tryz.underlying160 rfl (by kernel_rfl)) rfl ⟨_,_,_,_,rfl,rec_fields TRR.out tlo TRR.out.lt,rec_fields NR.out s2 NR.out.lt,BR.out⟩
set_option maxHeartbeats 1000000 in
theorem checkSame_any (vs:List Value) (op a b tk to:Int) (tm:Bool) (w:World) :
  Calls Tryz.prog 158 #[.agg vs.toArray,.agg #[.int .i64 op,.int .i64 a,.int .i64 b],.agg #[.int .i64 tk,.int .i64 to,.bool tm]] w fun e w'=>EffPost w [⟨2,-1,false⟩,⟨2,-1,false⟩] [⟨1,0,false⟩] true e w':=by
 have B0:Hid (Below w.heap.size w ((((w.alloc (.cells vs.toArray 94)).alloc (.cells #[.int .i64 op,.int .i64 a,.int .i64 b] 40)).alloc (.cells #[.int .i64 tk,.int .i64 to,.bool tm] 68)).alloc (.cells #[.slice none 0 0,.slice none 0 0] 160))) :=
  ((((Below.refl _ _).alloc (Nat.le_refl _) _).alloc (by simp) _).alloc (by simp;omega) _).alloc (by simp;omega) _
 have E0:Hid (Rec ((((w.alloc (.cells vs.toArray 94)).alloc (.cells #[.int .i64 op,.int .i64 a,.int .i64 b] 40)).alloc (.cells #[.int .i64 tk,.int .i64 to,.bool tm] 68)).alloc (.cells #[.slice none 0 0,.slice none 0 0] 160)) (w.heap.size+1+1+1) 160 [.slice none 0 0,.slice none 0 0]):=Rec.new' _ _ _ _ (by simp)
 go_enter Tryz.func158,Tryz.ntmps158
 go_wp2_with fail
 refine(sortRef_any (-1) _).mono ?_
 rintro e w1 ⟨rfl,b1⟩
 have B1:=hide (B0.out.trans (b1.mono B0.out.size))
 have E1:=hide (E0.out.below b1 E0.out.lt)
 clear b1
 go_wp2_with fail
 refine(sortRef_any (-1) _).mono ?_
 rintro e w2 ⟨rfl,b2⟩
 have B2:=hide (B1.out.trans (b2.mono B1.out.size))
 have E2:=hide (E1.out.below b2 E1.out.lt)
 clear b2
 have BA:=hide (B2.out.alloc B2.out.size (.cells #[.int .i64 2,.int .i64 (-1),.bool false,.int .i64 2,.int .i64 (-1),.bool false] 68))
 have EA:=hide (E2.out.alloc (.cells #[.int .i64 2,.int .i64 (-1),.bool false,.int .i64 2,.int .i64 (-1),.bool false] 68))
 have TR:Hid (Rec (w2.alloc (.cells #[.int .i64 2,.int .i64 (-1),.bool false,.int .i64 2,.int .i64 (-1),.bool false] 68)) w2.heap.size 68 (fcells [⟨2,-1,false⟩,⟨2,-1,false⟩])):=Rec.new _ _ _
 have tlo:w.heap.size≤w2.heap.size:=B2.out.size
 have tlt:w.heap.size+1+1+1<w2.heap.size:=E2.out.lt
 go_wp2_with fail
 refine(sortNum_any _).mono ?_
 rintro e w3 ⟨rfl,b3⟩
 have B3:=hide (BA.out.trans (b3.mono BA.out.size))
 have E3:=hide (EA.out.below b3 EA.out.lt)
 have TR':=hide (TR.out.below b3 TR.out.lt)
 clear TR
 have TR:=TR'
 clear b3
 have hlt:=E3.out.lt
 have s3:=B3.out.size
 have c0:=E3.out.cell (o:=0) rfl
 have c1:=E3.out.cell (o:=1) rfl
 have f0:=E3.out.frozen 0
 have f1:=E3.out.frozen 1
 obtain⟨W9,hW9⟩:∃x,x=(((w3.setCell ⟨w.heap.size+1+1+1,0,none⟩ (.slice (some ⟨w2.heap.size,0,none⟩) 2 2)).setCell ⟨w.heap.size+1+1+1,1,none⟩ (.slice (some ⟨w3.heap.size,0,none⟩) 1 1)).alloc (.cells #[.int .i64 1,.int .i64 0,.bool false] 68)):=⟨_,rfl⟩
 have NR:Hid (Rec W9 w3.heap.size 68 (fcells [⟨1,0,false⟩])):=by subst hW9;exact Rec.new' _ _ _ _ (by simp)
 have ER:Hid (Rec W9 (w.heap.size+1+1+1) 160 [.slice (some ⟨w2.heap.size,0,none⟩) 2 2,.slice (some ⟨w3.heap.size,0,none⟩) 1 1]):=by subst hW9;exact((E3.out.set 0 _).set 1 _).alloc _
 have BR:Hid (Below w.heap.size w W9):=by subst hW9;exact((B3.out.setCell (by show w.heap.size≤w.heap.size+1+1+1;omega) _).setCell (by show w.heap.size≤w.heap.size+1+1+1;omega) _).alloc (by simp;exact s3) _
 have TRR:Hid (Rec W9 w2.heap.size 68 (fcells [⟨2,-1,false⟩,⟨2,-1,false⟩])):=by subst hW9;exact((TR.out.other (by omega) 0 _).other (by omega) 1 _).alloc _
 subst hW9
 go_wp2_with fail
 exact bodyPost_ret (results_ct rfl rfl ER.out Tryz.underlying160 rfl (by kernel_rfl)) rfl ⟨_,_,_,_,rfl,rec_fields TRR.out tlo TRR.out.lt,rec_fields NR.out s3 NR.out.lt,BR.out⟩
set_option maxHeartbeats 1000000 in
theorem checkNone_any (vs:List Value) (op a b tk to:Int) (tm:Bool) (w:World) :
  Calls Tryz.prog 159 #[.agg vs.toArray,.agg #[.int .i64 op,.int .i64 a,.int .i64 b],.agg #[.int .i64 tk,.int .i64 to,.bool tm]] w fun e w'=>EffPost w [⟨2,-1,false⟩] [⟨1,0,false⟩] true e w':=by
 have B0:Hid (Below w.heap.size w ((((w.alloc (.cells vs.toArray 94)).alloc (.cells #[.int .i64 op,.int .i64 a,.int .i64 b] 40)).alloc (.cells #[.int .i64 tk,.int .i64 to,.bool tm] 68)).alloc (.cells #[.slice none 0 0,.slice none 0 0] 160))) :=
  ((((Below.refl _ _).alloc (Nat.le_refl _) _).alloc (by simp) _).alloc (by simp;omega) _).alloc (by simp;omega) _
 have E0:Hid (Rec ((((w.alloc (.cells vs.toArray 94)).alloc (.cells #[.int .i64 op,.int .i64 a,.int .i64 b] 40)).alloc (.cells #[.int .i64 tk,.int .i64 to,.bool tm] 68)).alloc (.cells #[.slice none 0 0,.slice none 0 0] 160)) (w.heap.size+1+1+1) 160 [.slice none 0 0,.slice none 0 0]):=Rec.new' _ _ _ _ (by simp)
 go_enter Tryz.func159,Tryz.ntmps159
 go_wp2_with fail
 refine(sortRef_any (-1) _).mono ?_
 rintro e w1 ⟨rfl,b1⟩
 have B1:=hide (B0.out.trans (b1.mono B0.out.size))
 have E1:=hide (E0.out.below b1 E0.out.lt)
 clear b1
 have BA:=hide (B1.out.alloc B1.out.size (.cells #[.int .i64 2,.int .i64 (-1),.bool false] 68))
 have EA:=hide (E1.out.alloc (.cells #[.int .i64 2,.int .i64 (-1),.bool false] 68))
 have TR:Hid (Rec (w1.alloc (.cells #[.int .i64 2,.int .i64 (-1),.bool false] 68)) w1.heap.size 68 (fcells [⟨2,-1,false⟩])):=Rec.new _ _ _
 have tlo:w.heap.size≤w1.heap.size:=B1.out.size
 have tlt:w.heap.size+1+1+1<w1.heap.size:=E1.out.lt
 go_wp2_with fail
 refine(sortNum_any _).mono ?_
 rintro e w2 ⟨rfl,b2⟩
 have B2:=hide (BA.out.trans (b2.mono BA.out.size))
 have E2:=hide (EA.out.below b2 EA.out.lt)
 have TR':=hide (TR.out.below b2 TR.out.lt)
 clear TR
 have TR:=TR'
 clear b2
 have hlt:=E2.out.lt
 have s2:=B2.out.size
 have c0:=E2.out.cell (o:=0) rfl
 have c1:=E2.out.cell (o:=1) rfl
 have f0:=E2.out.frozen 0
 have f1:=E2.out.frozen 1
 obtain⟨W9,hW9⟩:∃x,x=(((w2.setCell ⟨w.heap.size+1+1+1,0,none⟩ (.slice (some ⟨w1.heap.size,0,none⟩) 1 1)).setCell ⟨w.heap.size+1+1+1,1,none⟩ (.slice (some ⟨w2.heap.size,0,none⟩) 1 1)).alloc (.cells #[.int .i64 1,.int .i64 0,.bool false] 68)):=⟨_,rfl⟩
 have NR:Hid (Rec W9 w2.heap.size 68 (fcells [⟨1,0,false⟩])):=by subst hW9;exact Rec.new' _ _ _ _ (by simp)
 have ER:Hid (Rec W9 (w.heap.size+1+1+1) 160 [.slice (some ⟨w1.heap.size,0,none⟩) 1 1,.slice (some ⟨w2.heap.size,0,none⟩) 1 1]):=by subst hW9;exact((E2.out.set 0 _).set 1 _).alloc _
 have BR:Hid (Below w.heap.size w W9):=by subst hW9;exact((B2.out.setCell (by show w.heap.size≤w.heap.size+1+1+1;omega) _).setCell (by show w.heap.size≤w.heap.size+1+1+1;omega) _).alloc (by simp;exact s2) _
 have TRR:Hid (Rec W9 w1.heap.size 68 (fcells [⟨2,-1,false⟩])):=by subst hW9;exact((TR.out.other (by omega) 0 _).other (by omega) 1 _).alloc _
 subst hW9
 go_wp2_with fail
 exact bodyPost_ret (results_ct rfl rfl ER.out Tryz.underlying160 rfl (by kernel_rfl)) rfl ⟨_,_,_,_,rfl,rec_fields TRR.out tlo TRR.out.lt,rec_fields NR.out s2 NR.out.lt,BR.out⟩
set_option maxHeartbeats 1000000 in
theorem checkSay_any (vs:List Value) (op a b tk to:Int) (tm:Bool) (w:World) :
  Calls Tryz.prog 168 #[.agg vs.toArray,.agg #[.int .i64 op,.int .i64 a,.int .i64 b],.agg #[.int .i64 tk,.int .i64 to,.bool tm]] w fun e w'=>EffPost w [⟨1,0,false⟩] [] true e w':=by
 have B0:Hid (Below w.heap.size w ((((w.alloc (.cells vs.toArray 94)).alloc (.cells #[.int .i64 op,.int .i64 a,.int .i64 b] 40)).alloc (.cells #[.int .i64 tk,.int .i64 to,.bool tm] 68)).alloc (.cells #[.slice none 0 0,.slice none 0 0] 160))) :=
  ((((Below.refl _ _).alloc (Nat.le_refl _) _).alloc (by simp) _).alloc (by simp;omega) _).alloc (by simp;omega) _
 have E0:Hid (Rec ((((w.alloc (.cells vs.toArray 94)).alloc (.cells #[.int .i64 op,.int .i64 a,.int .i64 b] 40)).alloc (.cells #[.int .i64 tk,.int .i64 to,.bool tm] 68)).alloc (.cells #[.slice none 0 0,.slice none 0 0] 160)) (w.heap.size+1+1+1) 160 [.slice none 0 0,.slice none 0 0]):=Rec.new' _ _ _ _ (by simp)
 go_enter Tryz.func168,Tryz.ntmps168
 go_wp2_with fail
 refine(sortNum_any _).mono ?_
 rintro e w1 ⟨rfl,b1⟩
 have B1:=hide (B0.out.trans (b1.mono B0.out.size))
 have E1:=hide (E0.out.below b1 E0.out.lt)
 clear b1
 have hlt:=E1.out.lt
 have s1:=B1.out.size
 have c0:=E1.out.cell (o:=0) rfl
 have c1:=E1.out.cell (o:=1) rfl
 have f0:=E1.out.frozen 0
 have f1:=E1.out.frozen 1
 obtain⟨W9,hW9⟩:∃x,x=(((w1.setCell ⟨w.heap.size+1+1+1,0,none⟩ (.slice (some ⟨w1.heap.size,0,none⟩) 1 1)).setCell ⟨w.heap.size+1+1+1,1,none⟩ (.slice none 0 0)).alloc (.cells #[.int .i64 1,.int .i64 0,.bool false] 68)):=⟨_,rfl⟩
 have NR:Hid (Rec W9 w1.heap.size 68 (fcells [⟨1,0,false⟩])):=by subst hW9;exact Rec.new' _ _ _ _ (by simp)
 have ER:Hid (Rec W9 (w.heap.size+1+1+1) 160 [.slice (some ⟨w1.heap.size,0,none⟩) 1 1,.slice none 0 0]):=by subst hW9;exact((E1.out.set 0 _).set 1 _).alloc _
 have BR:Hid (Below w.heap.size w W9):=by subst hW9;exact((B1.out.setCell (by show w.heap.size≤w.heap.size+1+1+1;omega) _).setCell (by show w.heap.size≤w.heap.size+1+1+1;omega) _).alloc (by simp;exact s1) _
 subst hW9
 go_wp2_with fail
 exact bodyPost_ret (results_ct rfl rfl ER.out Tryz.underlying160 rfl (by kernel_rfl)) rfl ⟨_,_,_,_,rfl,rec_fields NR.out s1 NR.out.lt,.inl rfl,BR.out⟩
set_option maxHeartbeats 1000000 in
theorem checkShow_any (vs:List Value) (op a b tk to:Int) (tm:Bool) (w:World) :
  Calls Tryz.prog 169 #[.agg vs.toArray,.agg #[.int .i64 op,.int .i64 a,.int .i64 b],.agg #[.int .i64 tk,.int .i64 to,.bool tm]] w fun e w'=>EffPost w [⟨2,-1,false⟩] [] true e w':=by
 have B0:Hid (Below w.heap.size w ((((w.alloc (.cells vs.toArray 94)).alloc (.cells #[.int .i64 op,.int .i64 a,.int .i64 b] 40)).alloc (.cells #[.int .i64 tk,.int .i64 to,.bool tm] 68)).alloc (.cells #[.slice none 0 0,.slice none 0 0] 160))) :=
  ((((Below.refl _ _).alloc (Nat.le_refl _) _).alloc (by simp) _).alloc (by simp;omega) _).alloc (by simp;omega) _
 have E0:Hid (Rec ((((w.alloc (.cells vs.toArray 94)).alloc (.cells #[.int .i64 op,.int .i64 a,.int .i64 b] 40)).alloc (.cells #[.int .i64 tk,.int .i64 to,.bool tm] 68)).alloc (.cells #[.slice none 0 0,.slice none 0 0] 160)) (w.heap.size+1+1+1) 160 [.slice none 0 0,.slice none 0 0]):=Rec.new' _ _ _ _ (by simp)
 go_enter Tryz.func169,Tryz.ntmps169
 go_wp2_with fail
 refine(sortRef_any (-1) _).mono ?_
 rintro e w1 ⟨rfl,b1⟩
 have B1:=hide (B0.out.trans (b1.mono B0.out.size))
 have E1:=hide (E0.out.below b1 E0.out.lt)
 clear b1
 have hlt:=E1.out.lt
 have s1:=B1.out.size
 have c0:=E1.out.cell (o:=0) rfl
 have c1:=E1.out.cell (o:=1) rfl
 have f0:=E1.out.frozen 0
 have f1:=E1.out.frozen 1
 obtain⟨W9,hW9⟩:∃x,x=(((w1.setCell ⟨w.heap.size+1+1+1,0,none⟩ (.slice (some ⟨w1.heap.size,0,none⟩) 1 1)).setCell ⟨w.heap.size+1+1+1,1,none⟩ (.slice none 0 0)).alloc (.cells #[.int .i64 2,.int .i64 (-1),.bool false] 68)):=⟨_,rfl⟩
 have NR:Hid (Rec W9 w1.heap.size 68 (fcells [⟨2,-1,false⟩])):=by subst hW9;exact Rec.new' _ _ _ _ (by simp)
 have ER:Hid (Rec W9 (w.heap.size+1+1+1) 160 [.slice (some ⟨w1.heap.size,0,none⟩) 1 1,.slice none 0 0]):=by subst hW9;exact((E1.out.set 0 _).set 1 _).alloc _
 have BR:Hid (Below w.heap.size w W9):=by subst hW9;exact((B1.out.setCell (by show w.heap.size≤w.heap.size+1+1+1;omega) _).setCell (by show w.heap.size≤w.heap.size+1+1+1;omega) _).alloc (by simp;exact s1) _
 subst hW9
 go_wp2_with fail
 exact bodyPost_ret (results_ct rfl rfl ER.out Tryz.underlying160 rfl (by kernel_rfl)) rfl ⟨_,_,_,_,rfl,rec_fields NR.out s1 NR.out.lt,.inl rfl,BR.out⟩
set_option maxHeartbeats 1000000 in
theorem checkAsk_any (vs:List Value) (op a b tk to:Int) (tm:Bool) (w:World) :
  Calls Tryz.prog 170 #[.agg vs.toArray,.agg #[.int .i64 op,.int .i64 a,.int .i64 b],.agg #[.int .i64 tk,.int .i64 to,.bool tm]] w fun e w'=>EffPost w [⟨1,0,false⟩] [⟨1,0,false⟩] true e w':=by
 have B0:Hid (Below w.heap.size w ((((w.alloc (.cells vs.toArray 94)).alloc (.cells #[.int .i64 op,.int .i64 a,.int .i64 b] 40)).alloc (.cells #[.int .i64 tk,.int .i64 to,.bool tm] 68)).alloc (.cells #[.slice none 0 0,.slice none 0 0] 160))) :=
  ((((Below.refl _ _).alloc (Nat.le_refl _) _).alloc (by simp) _).alloc (by simp;omega) _).alloc (by simp;omega) _
 have E0:Hid (Rec ((((w.alloc (.cells vs.toArray 94)).alloc (.cells #[.int .i64 op,.int .i64 a,.int .i64 b] 40)).alloc (.cells #[.int .i64 tk,.int .i64 to,.bool tm] 68)).alloc (.cells #[.slice none 0 0,.slice none 0 0] 160)) (w.heap.size+1+1+1) 160 [.slice none 0 0,.slice none 0 0]):=Rec.new' _ _ _ _ (by simp)
 go_enter Tryz.func170,Tryz.ntmps170
 go_wp2_with fail
 refine(sortNum_any _).mono ?_
 rintro e w1 ⟨rfl,b1⟩
 have B1:=hide (B0.out.trans (b1.mono B0.out.size))
 have E1:=hide (E0.out.below b1 E0.out.lt)
 clear b1
 have BA:=hide (B1.out.alloc B1.out.size (.cells #[.int .i64 1,.int .i64 0,.bool false] 68))
 have EA:=hide (E1.out.alloc (.cells #[.int .i64 1,.int .i64 0,.bool false] 68))
 have TR:Hid (Rec (w1.alloc (.cells #[.int .i64 1,.int .i64 0,.bool false] 68)) w1.heap.size 68 (fcells [⟨1,0,false⟩])):=Rec.new _ _ _
 have tlo:w.heap.size≤w1.heap.size:=B1.out.size
 have tlt:w.heap.size+1+1+1<w1.heap.size:=E1.out.lt
 go_wp2_with fail
 refine(sortNum_any _).mono ?_
 rintro e w2 ⟨rfl,b2⟩
 have B2:=hide (BA.out.trans (b2.mono BA.out.size))
 have E2:=hide (EA.out.below b2 EA.out.lt)
 have TR':=hide (TR.out.below b2 TR.out.lt)
 clear TR
 have TR:=TR'
 clear b2
 have hlt:=E2.out.lt
 have s2:=B2.out.size
 have c0:=E2.out.cell (o:=0) rfl
 have c1:=E2.out.cell (o:=1) rfl
 have f0:=E2.out.frozen 0
 have f1:=E2.out.frozen 1
 obtain⟨W9,hW9⟩:∃x,x=(((w2.setCell ⟨w.heap.size+1+1+1,0,none⟩ (.slice (some ⟨w1.heap.size,0,none⟩) 1 1)).setCell ⟨w.heap.size+1+1+1,1,none⟩ (.slice (some ⟨w2.heap.size,0,none⟩) 1 1)).alloc (.cells #[.int .i64 1,.int .i64 0,.bool false] 68)):=⟨_,rfl⟩
 have NR:Hid (Rec W9 w2.heap.size 68 (fcells [⟨1,0,false⟩])):=by subst hW9;exact Rec.new' _ _ _ _ (by simp)
 have ER:Hid (Rec W9 (w.heap.size+1+1+1) 160 [.slice (some ⟨w1.heap.size,0,none⟩) 1 1,.slice (some ⟨w2.heap.size,0,none⟩) 1 1]):=by subst hW9;exact((E2.out.set 0 _).set 1 _).alloc _
 have BR:Hid (Below w.heap.size w W9):=by subst hW9;exact((B2.out.setCell (by show w.heap.size≤w.heap.size+1+1+1;omega) _).setCell (by show w.heap.size≤w.heap.size+1+1+1;omega) _).alloc (by simp;exact s2) _
 have TRR:Hid (Rec W9 w1.heap.size 68 (fcells [⟨1,0,false⟩])):=by subst hW9;exact((TR.out.other (by omega) 0 _).other (by omega) 1 _).alloc _
 subst hW9
 go_wp2_with fail
 exact bodyPost_ret (results_ct rfl rfl ER.out Tryz.underlying160 rfl (by kernel_rfl)) rfl ⟨_,_,_,_,rfl,rec_fields TRR.out tlo TRR.out.lt,rec_fields NR.out s2 NR.out.lt,BR.out⟩
theorem fcells_single (k o:Int) (m:Bool):fcells [(⟨k,o,m⟩:Fd)]=[.int .i64 k,.int .i64 o,.bool m]:=by
 simp[fcells,List.range,List.range.loop,fdAt,fcell]
theorem entB (vs:List Value) (op a b tk to:Int) (tm:Bool) (w:World):∃w1,w1=((((w.alloc (.cells vs.toArray 94)).alloc (.cells #[.int .i64 op,.int .i64 a,.int .i64 b] 40)).alloc (.cells #[.int .i64 tk,.int .i64 to,.bool tm] 68)).alloc (.cells #[.slice none 0 0,.slice none 0 0] 160))∧Hid (Below w.heap.size w w1)∧Hid (Rec w1 (w.heap.size+1+1+1) 160 [.slice none 0 0,.slice none 0 0]) :=
 ⟨_,rfl,((((Below.refl _ _).alloc (Nat.le_refl _) _).alloc (by simp) _).alloc (by simp;omega) _).alloc (by simp;omega) _,Rec.new' _ _ _ _ (by simp)⟩
set_option maxHeartbeats 1000000 in
theorem checkSweep_any (vs:List Value) (op a b tk to:Int) (tm:Bool) (w:World) :
  Calls Tryz.prog 171 #[.agg vs.toArray,.agg #[.int .i64 op,.int .i64 a,.int .i64 b],.agg #[.int .i64 tk,.int .i64 to,.bool tm]] w fun e w'=>EffPost w [] [] true e w':=by
 obtain⟨w1,hw1,B1,E1⟩:=entB vs op a b tk to tm w
 have TP:Hid (Rec w1 (w.heap.size+1+1) 68 [.int .i64 tk,.int .i64 to,.bool tm]):=by show Rec _ _ _ _;rw[hw1];exact(Rec.new' _ _ _ _ (by simp)).alloc _
 have VR:Hid (Rec w1 w.heap.size 94 vs):=by show Rec _ _ _ _;rw[hw1];exact(((Rec.new _ _ _).alloc _).alloc _).alloc _
 have hlt:=E1.out.lt
 have s1:=B1.out.size
 have c0:=E1.out.cell (o:=0) rfl
 have c1:=E1.out.cell (o:=1) rfl
 have f0:=E1.out.frozen 0
 have f1:=E1.out.frozen 1
 obtain⟨W9,hW9⟩:∃x,x=((w1.setCell ⟨w.heap.size+1+1+1,0,none⟩ (.slice none 0 0)).setCell ⟨w.heap.size+1+1+1,1,none⟩ (.slice none 0 0)):=⟨_,rfl⟩
 have ER:Hid (Rec W9 (w.heap.size+1+1+1) 160 [.slice none 0 0,.slice none 0 0]):=by subst hW9;exact(E1.out.set 0 _).set 1 _
 have BR:Hid (Below w.heap.size w W9):=by subst hW9;exact(B1.out.setCell (by show w.heap.size≤w.heap.size+1+1+1;omega) _).setCell (by show w.heap.size≤w.heap.size+1+1+1;omega) _
 subst hW9
 go_enter Tryz.func171,Tryz.ntmps171
 go_upto_region 1 with(fail)
 rw[←hw1]
 clear hw1
 go_wp2_with fail
 exact bodyPost_ret (results_ct rfl rfl ER.out Tryz.underlying160 rfl (by kernel_rfl)) rfl ⟨_,_,_,_,rfl,.inl rfl,.inl rfl,BR.out⟩
set_option maxHeartbeats 1000000 in
theorem checkDrop_any (vs:List Value) (op a b tk to:Int) (tm:Bool) (w:World) :
  Calls Tryz.prog 146 #[.agg vs.toArray,.agg #[.int .i64 op,.int .i64 a,.int .i64 b],.agg #[.int .i64 tk,.int .i64 to,.bool tm]] w fun e w'=>EffPost w [(⟨tk,to,tm⟩:Fd)] [] true e w':=by
 obtain⟨w1,hw1,B1,E1⟩:=entB vs op a b tk to tm w
 have TP:Hid (Rec w1 (w.heap.size+1+1) 68 [.int .i64 tk,.int .i64 to,.bool tm]):=by show Rec _ _ _ _;rw[hw1];exact(Rec.new' _ _ _ _ (by simp)).alloc _
 have VR:Hid (Rec w1 w.heap.size 94 vs):=by show Rec _ _ _ _;rw[hw1];exact(((Rec.new _ _ _).alloc _).alloc _).alloc _
 have d0:=TP.out.cell (o:=0) rfl
 have d1:=TP.out.cell (o:=1) rfl
 have d2:=TP.out.cell (o:=2) rfl
 have hlt:=E1.out.lt
 have s1:=B1.out.size
 have c0:=E1.out.cell (o:=0) rfl
 have c1:=E1.out.cell (o:=1) rfl
 have f0:=E1.out.frozen 0
 have f1:=E1.out.frozen 1
 obtain⟨W9,hW9⟩:∃x,x=(((w1.setCell ⟨w.heap.size+1+1+1,0,none⟩ (.slice (some ⟨w1.heap.size,0,none⟩) 1 1)).setCell ⟨w.heap.size+1+1+1,1,none⟩ (.slice none 0 0)).alloc (.cells #[.int .i64 tk,.int .i64 to,.bool tm] 68)):=⟨_,rfl⟩
 have NR:Hid (Rec W9 w1.heap.size 68 (fcells [(⟨tk,to,tm⟩:Fd)])):=by subst hW9;show Rec _ _ _ _;rw[fcells_single];exact Rec.new' _ _ _ _ (by simp)
 have ER:Hid (Rec W9 (w.heap.size+1+1+1) 160 [.slice (some ⟨w1.heap.size,0,none⟩) 1 1,.slice none 0 0]):=by subst hW9;exact((E1.out.set 0 _).set 1 _).alloc _
 have BR:Hid (Below w.heap.size w W9):=by subst hW9;exact((B1.out.setCell (by show w.heap.size≤w.heap.size+1+1+1;omega) _).setCell (by show w.heap.size≤w.heap.size+1+1+1;omega) _).alloc (by simp;exact s1) _
 subst hW9
 go_enter Tryz.func146,Tryz.ntmps146
 go_upto_region 1 with(fail)
 rw[←hw1]
 clear hw1
 go_wp2_with fail
 exact bodyPost_ret (results_ct rfl rfl ER.out Tryz.underlying160 rfl (by kernel_rfl)) rfl ⟨_,_,_,_,rfl,rec_fields NR.out s1 NR.out.lt,.inl rfl,BR.out⟩
set_option maxHeartbeats 1000000 in
theorem checkRet_any (vs:List Value) (op a b tk to:Int) (tm:Bool) (w:World) (gk go:Int) (gm:Bool) (h1:vs[41]?=some (.int .i64 gk)) (h2:vs[42]?=some (.int .i64 go)) (h3:vs[43]?=some (.bool gm)) :
  Calls Tryz.prog 167 #[.agg vs.toArray,.agg #[.int .i64 op,.int .i64 a,.int .i64 b],.agg #[.int .i64 tk,.int .i64 to,.bool tm]] w fun e w'=>EffPost w [(⟨gk,go,gm⟩:Fd)] [] true e w':=by
 obtain⟨w1,hw1,B1,E1⟩:=entB vs op a b tk to tm w
 have TP:Hid (Rec w1 (w.heap.size+1+1) 68 [.int .i64 tk,.int .i64 to,.bool tm]):=by show Rec _ _ _ _;rw[hw1];exact(Rec.new' _ _ _ _ (by simp)).alloc _
 have VR:Hid (Rec w1 w.heap.size 94 vs):=by show Rec _ _ _ _;rw[hw1];exact(((Rec.new _ _ _).alloc _).alloc _).alloc _
 have d0:=VR.out.cell h1
 have d1:=VR.out.cell h2
 have d2:=VR.out.cell h3
 have hlt:=E1.out.lt
 have s1:=B1.out.size
 have c0:=E1.out.cell (o:=0) rfl
 have c1:=E1.out.cell (o:=1) rfl
 have f0:=E1.out.frozen 0
 have f1:=E1.out.frozen 1
 obtain⟨W9,hW9⟩:∃x,x=(((w1.setCell ⟨w.heap.size+1+1+1,0,none⟩ (.slice (some ⟨w1.heap.size,0,none⟩) 1 1)).setCell ⟨w.heap.size+1+1+1,1,none⟩ (.slice none 0 0)).alloc (.cells #[.int .i64 gk,.int .i64 go,.bool gm] 68)):=⟨_,rfl⟩
 have NR:Hid (Rec W9 w1.heap.size 68 (fcells [(⟨gk,go,gm⟩:Fd)])):=by subst hW9;show Rec _ _ _ _;rw[fcells_single];exact Rec.new' _ _ _ _ (by simp)
 have ER:Hid (Rec W9 (w.heap.size+1+1+1) 160 [.slice (some ⟨w1.heap.size,0,none⟩) 1 1,.slice none 0 0]):=by subst hW9;exact((E1.out.set 0 _).set 1 _).alloc _
 have BR:Hid (Below w.heap.size w W9):=by subst hW9;exact((B1.out.setCell (by show w.heap.size≤w.heap.size+1+1+1;omega) _).setCell (by show w.heap.size≤w.heap.size+1+1+1;omega) _).alloc (by simp;exact s1) _
 subst hW9
 go_enter Tryz.func167,Tryz.ntmps167
 go_upto_region 1 with(fail)
 rw[←hw1]
 clear hw1
 go_wp2_with fail
 exact bodyPost_ret (results_ct rfl rfl ER.out Tryz.underlying160 rfl (by kernel_rfl)) rfl ⟨_,_,_,_,rfl,rec_fields NR.out s1 NR.out.lt,.inl rfl,BR.out⟩
set_option maxHeartbeats 800000 in
theorem checkPlace_any (sa:Option Addr) (c lo hi:Nat) (fs:List Fd) (n:Int) (w:World) (h0:0≤n) (hx:FieldsIn w lo hi sa fs) (hh:hi≤w.heap.size) :
  Calls Tryz.prog 182 #[.slice sa fs.length c,.int .i64 n] w fun e w'=>e=.returned (.tuple #[.agg #[.int .i64 (plFd fs n).kind,.int .i64 (plFd fs n).of,.bool (plFd fs n).mt],.bool (decide (n<(fs.length:Int)))])∧Below w.heap.size w w':=by
 by_cases hn:n<(fs.length:Int)
 ·have HP:Hid (plFd fs n=fdAt fs n.toNat):=if_pos hn
  have HD:Hid (decide (n<(fs.length:Int))=true):=by show _=_;simp[hn]
  rw[HP.out,HD.out]
  have hk:n.toNat<fs.length:=by omega
  have hfk:((n.toNat:Nat):Int)=n:=by omega
  obtain⟨k,hkk⟩:∃k,n.toNat=k:=⟨_,rfl⟩
  rw[hkk] at hk hfk ⊢
  clear HP HD hkk
  subst hfk
  rcases hx with hnil|⟨b,off,rfl,g1,g2,g3⟩
  ·rw[hnil] at hk;exact absurd hk (Nat.not_lt_zero _)
  obtain⟨f0,f1,f2⟩:=g3 k hk
  clear g3
  generalize fdAt fs k=f at f0 f1 f2 ⊢
  obtain⟨fk,fo,fm⟩:=f
  simp only at f0 f1 f2 ⊢
  have hbw:b<w.heap.size:=by omega
  have j1:(0:Int)≤(k:Int):=by omega
  have j2:(k:Int)<(fs.length:Int):=by omega
  have j3:¬(fs.length:Int)≤(k:Int):=by omega
  go_enter Tryz.func182,Tryz.ntmps182
  go_wp2_with fail
  exact bodyPost_ret (results_ct rfl rfl (Rec.new w 68 [.int .i64 fk,.int .i64 fo,.bool fm]) Tryz.underlying68 rfl (by kernel_rfl)) rfl ⟨rfl,(Below.refl _ _).alloc (Nat.le_refl _) _⟩
 ·have HP:Hid (plFd fs n=⟨0,0,false⟩):=if_neg hn
  have HD:Hid (decide (n<(fs.length:Int))=false):=by show _=_;simp[hn]
  rw[HP.out,HD.out]
  have j3:(fs.length:Int)≤n:=by omega
  clear HP HD hx
  go_enter Tryz.func182,Tryz.ntmps182
  go_wp2_with fail
  exact bodyPost_ret (results_ct rfl rfl (Rec.new w 68 [.int .i64 0,.int .i64 0,.bool false]) Tryz.underlying68 rfl (by kernel_rfl)) rfl ⟨rfl,(Below.refl _ _).alloc (Nat.le_refl _) _⟩
set_option maxHeartbeats 1000000 in
theorem checkGet_any (vs:List Value) (op a b tk to:Int) (tm:Bool) (sa:Option Addr) (c lo hi:Nat) (fs:List Fd) (w:World) (h0:0≤a) (hv:vs[46]?=some (.slice sa fs.length c)) (hx:FieldsIn w lo hi sa fs) (hh:hi≤w.heap.size) :
  Calls Tryz.prog 142 #[.agg vs.toArray,.agg #[.int .i64 op,.int .i64 a,.int .i64 b],.agg #[.int .i64 tk,.int .i64 to,.bool tm]] w fun e w'=>EffPost w [] [plFd fs a] (decide (a<(fs.length:Int))) e w':=by
 obtain⟨w1,hw1,B1,E1⟩:=entB vs op a b tk to tm w
 have IP:Hid (Rec w1 (w.heap.size+1) 40 [.int .i64 op,.int .i64 a,.int .i64 b]):=by show Rec _ _ _ _;rw[hw1];exact((Rec.new' _ _ _ _ (by simp)).alloc _).alloc _
 have VR:Hid (Rec w1 w.heap.size 94 vs):=by show Rec _ _ _ _;rw[hw1];exact(((Rec.new _ _ _).alloc _).alloc _).alloc _
 have d0:=VR.out.cell hv
 have d1:=IP.out.cell (o:=1) rfl
 have HC:=hide (checkPlace_any sa c lo hi fs a w1 h0 (hx.same (Same.of_below B1.out hh) (Nat.le_refl _) (Nat.le_refl _)) (Nat.le_trans hh B1.out.size))
 generalize decide (a<(fs.length:Int))=nm at HC ⊢
 generalize plFd fs a=f at HC ⊢
 obtain⟨fk,fo,fm⟩:=f
 simp only at HC
 go_enter Tryz.func142,Tryz.ntmps142
 go_upto_region 1 with(fail)
 rw[←hw1]
 clear hw1
 go_wp2_with fail
 refine HC.out.mono ?_
 rintro e w2 ⟨rfl,b2⟩
 have B2:=hide (B1.out.trans (b2.mono B1.out.size))
 have E2:=hide (E1.out.below b2 E1.out.lt)
 clear b2 d0 d1
 have hlt:=E2.out.lt
 have hlt2:w.heap.size+1+1+1<w2.heap.size+1:=by omega
 have s2:=B2.out.size
 have c0:=E2.out.cell (o:=0) rfl
 have c1:=E2.out.cell (o:=1) rfl
 have f0:=E2.out.frozen 0
 have f1:=E2.out.frozen 1
 obtain⟨W9,hW9⟩:∃x,x=((((w2.setCell ⟨w.heap.size+1+1+1,0,none⟩ (.slice none 0 0)).setCell ⟨w.heap.size+1+1+1,1,none⟩ (.slice (some ⟨w2.heap.size+1,0,none⟩) 1 1)).alloc (.cells #[.int .i64 fk,.int .i64 fo,.bool fm] 68)).alloc (.cells #[.int .i64 fk,.int .i64 fo,.bool fm] 68)):=⟨_,rfl⟩
 have NR:Hid (Rec W9 (w2.heap.size+1) 68 (fcells [(⟨fk,fo,fm⟩:Fd)])):=by subst hW9;show Rec _ _ _ _;rw[fcells_single];exact Rec.new' _ _ _ _ (by simp)
 have ER:Hid (Rec W9 (w.heap.size+1+1+1) 160 [.slice none 0 0,.slice (some ⟨w2.heap.size+1,0,none⟩) 1 1]):=by subst hW9;exact(((E2.out.set 0 _).set 1 _).alloc _).alloc _
 have BR:Hid (Below w.heap.size w W9):=by subst hW9;exact(((B2.out.setCell (by show w.heap.size≤w.heap.size+1+1+1;omega) _).setCell (by show w.heap.size≤w.heap.size+1+1+1;omega) _).alloc (by simp;exact s2) _).alloc (by simp;omega) _
 subst hW9
 go_wp2_with fail
 exact bodyPost_ret (results_ct rfl rfl ER.out Tryz.underlying160 rfl (by kernel_rfl)) rfl ⟨_,_,_,_,rfl,.inl rfl,rec_fields NR.out (by omega) NR.out.lt,BR.out⟩
set_option maxHeartbeats 1000000 in
theorem checkSet_any (vs:List Value) (op a b tk to:Int) (tm:Bool) (sa:Option Addr) (c lo hi:Nat) (fs:List Fd) (w:World) (h0:0≤a) (hv:vs[46]?=some (.slice sa fs.length c)) (hx:FieldsIn w lo hi sa fs) (hh:hi≤w.heap.size) :
  Calls Tryz.prog 143 #[.agg vs.toArray,.agg #[.int .i64 op,.int .i64 a,.int .i64 b],.agg #[.int .i64 tk,.int .i64 to,.bool tm]] w fun e w'=>EffPost w [plFd fs a] [] (decide (a<(fs.length:Int))) e w':=by
 obtain⟨w1,hw1,B1,E1⟩:=entB vs op a b tk to tm w
 have IP:Hid (Rec w1 (w.heap.size+1) 40 [.int .i64 op,.int .i64 a,.int .i64 b]):=by show Rec _ _ _ _;rw[hw1];exact((Rec.new' _ _ _ _ (by simp)).alloc _).alloc _
 have VR:Hid (Rec w1 w.heap.size 94 vs):=by show Rec _ _ _ _;rw[hw1];exact(((Rec.new _ _ _).alloc _).alloc _).alloc _
 have d0:=VR.out.cell hv
 have d1:=IP.out.cell (o:=1) rfl
 have HC:=hide (checkPlace_any sa c lo hi fs a w1 h0 (hx.same (Same.of_below B1.out hh) (Nat.le_refl _) (Nat.le_refl _)) (Nat.le_trans hh B1.out.size))
 generalize decide (a<(fs.length:Int))=nm at HC ⊢
 generalize plFd fs a=f at HC ⊢
 obtain⟨fk,fo,fm⟩:=f
 simp only at HC
 go_enter Tryz.func143,Tryz.ntmps143
 go_upto_region 1 with(fail)
 rw[←hw1]
 clear hw1
 go_wp2_with fail
 refine HC.out.mono ?_
 rintro e w2 ⟨rfl,b2⟩
 have B2:=hide (B1.out.trans (b2.mono B1.out.size))
 have E2:=hide (E1.out.below b2 E1.out.lt)
 clear b2 d0 d1
 have hlt:=E2.out.lt
 have hlt2:w.heap.size+1+1+1<w2.heap.size+1:=by omega
 have s2:=B2.out.size
 have c0:=E2.out.cell (o:=0) rfl
 have c1:=E2.out.cell (o:=1) rfl
 have f0:=E2.out.frozen 0
 have f1:=E2.out.frozen 1
 obtain⟨W9,hW9⟩:∃x,x=((((w2.setCell ⟨w.heap.size+1+1+1,0,none⟩ (.slice (some ⟨w2.heap.size+1,0,none⟩) 1 1)).setCell ⟨w.heap.size+1+1+1,1,none⟩ (.slice none 0 0)).alloc (.cells #[.int .i64 fk,.int .i64 fo,.bool fm] 68)).alloc (.cells #[.int .i64 fk,.int .i64 fo,.bool fm] 68)):=⟨_,rfl⟩
 have NR:Hid (Rec W9 (w2.heap.size+1) 68 (fcells [(⟨fk,fo,fm⟩:Fd)])):=by subst hW9;show Rec _ _ _ _;rw[fcells_single];exact Rec.new' _ _ _ _ (by simp)
 have ER:Hid (Rec W9 (w.heap.size+1+1+1) 160 [.slice (some ⟨w2.heap.size+1,0,none⟩) 1 1,.slice none 0 0]):=by subst hW9;exact(((E2.out.set 0 _).set 1 _).alloc _).alloc _
 have BR:Hid (Below w.heap.size w W9):=by subst hW9;exact(((B2.out.setCell (by show w.heap.size≤w.heap.size+1+1+1;omega) _).setCell (by show w.heap.size≤w.heap.size+1+1+1;omega) _).alloc (by simp;exact s2) _).alloc (by simp;omega) _
 subst hW9
 go_wp2_with fail
 exact bodyPost_ret (results_ct rfl rfl ER.out Tryz.underlying160 rfl (by kernel_rfl)) rfl ⟨_,_,_,_,rfl,rec_fields NR.out (by omega) NR.out.lt,.inl rfl,BR.out⟩
set_option maxHeartbeats 1000000 in
theorem checkTake_any (vs:List Value) (op a b tk to:Int) (tm:Bool) (sa:Option Addr) (c lo hi:Nat) (fs:List Fd) (w:World) (h0:0≤a) (hv:vs[1]?=some (.slice sa fs.length c)) (hx:FieldsIn w lo hi sa fs) (hh:hi≤w.heap.size) :
  Calls Tryz.prog 144 #[.agg vs.toArray,.agg #[.int .i64 op,.int .i64 a,.int .i64 b],.agg #[.int .i64 tk,.int .i64 to,.bool tm]] w fun e w'=>EffPost w [] [plFd fs a] (decide (a<(fs.length:Int))) e w':=by
 obtain⟨w1,hw1,B1,E1⟩:=entB vs op a b tk to tm w
 have IP:Hid (Rec w1 (w.heap.size+1) 40 [.int .i64 op,.int .i64 a,.int .i64 b]):=by show Rec _ _ _ _;rw[hw1];exact((Rec.new' _ _ _ _ (by simp)).alloc _).alloc _
 have VR:Hid (Rec w1 w.heap.size 94 vs):=by show Rec _ _ _ _;rw[hw1];exact(((Rec.new _ _ _).alloc _).alloc _).alloc _
 have d0:=VR.out.cell hv
 have d1:=IP.out.cell (o:=1) rfl
 have HC:=hide (checkPlace_any sa c lo hi fs a w1 h0 (hx.same (Same.of_below B1.out hh) (Nat.le_refl _) (Nat.le_refl _)) (Nat.le_trans hh B1.out.size))
 generalize decide (a<(fs.length:Int))=nm at HC ⊢
 generalize plFd fs a=f at HC ⊢
 obtain⟨fk,fo,fm⟩:=f
 simp only at HC
 go_enter Tryz.func144,Tryz.ntmps144
 go_upto_region 1 with(fail)
 rw[←hw1]
 clear hw1
 go_wp2_with fail
 refine HC.out.mono ?_
 rintro e w2 ⟨rfl,b2⟩
 have B2:=hide (B1.out.trans (b2.mono B1.out.size))
 have E2:=hide (E1.out.below b2 E1.out.lt)
 clear b2 d0 d1
 have hlt:=E2.out.lt
 have hlt2:w.heap.size+1+1+1<w2.heap.size+1:=by omega
 have s2:=B2.out.size
 have c0:=E2.out.cell (o:=0) rfl
 have c1:=E2.out.cell (o:=1) rfl
 have f0:=E2.out.frozen 0
 have f1:=E2.out.frozen 1
 obtain⟨W9,hW9⟩:∃x,x=((((w2.setCell ⟨w.heap.size+1+1+1,0,none⟩ (.slice none 0 0)).setCell ⟨w.heap.size+1+1+1,1,none⟩ (.slice (some ⟨w2.heap.size+1,0,none⟩) 1 1)).alloc (.cells #[.int .i64 fk,.int .i64 fo,.bool fm] 68)).alloc (.cells #[.int .i64 fk,.int .i64 fo,.bool fm] 68)):=⟨_,rfl⟩
 have NR:Hid (Rec W9 (w2.heap.size+1) 68 (fcells [(⟨fk,fo,fm⟩:Fd)])):=by subst hW9;show Rec _ _ _ _;rw[fcells_single];exact Rec.new' _ _ _ _ (by simp)
 have ER:Hid (Rec W9 (w.heap.size+1+1+1) 160 [.slice none 0 0,.slice (some ⟨w2.heap.size+1,0,none⟩) 1 1]):=by subst hW9;exact(((E2.out.set 0 _).set 1 _).alloc _).alloc _
 have BR:Hid (Below w.heap.size w W9):=by subst hW9;exact(((B2.out.setCell (by show w.heap.size≤w.heap.size+1+1+1;omega) _).setCell (by show w.heap.size≤w.heap.size+1+1+1;omega) _).alloc (by simp;exact s2) _).alloc (by simp;omega) _
 subst hW9
 go_wp2_with fail
 exact bodyPost_ret (results_ct rfl rfl ER.out Tryz.underlying160 rfl (by kernel_rfl)) rfl ⟨_,_,_,_,rfl,.inl rfl,rec_fields NR.out (by omega) NR.out.lt,BR.out⟩
set_option maxHeartbeats 1000000 in
theorem checkKeep_any (vs:List Value) (op a b tk to:Int) (tm:Bool) (sa:Option Addr) (c lo hi:Nat) (fs:List Fd) (w:World) (h0:0≤a) (hv:vs[1]?=some (.slice sa fs.length c)) (hx:FieldsIn w lo hi sa fs) (hh:hi≤w.heap.size) :
  Calls Tryz.prog 145 #[.agg vs.toArray,.agg #[.int .i64 op,.int .i64 a,.int .i64 b],.agg #[.int .i64 tk,.int .i64 to,.bool tm]] w fun e w'=>EffPost w [plFd fs a] [] (decide (a<(fs.length:Int))) e w':=by
 obtain⟨w1,hw1,B1,E1⟩:=entB vs op a b tk to tm w
 have IP:Hid (Rec w1 (w.heap.size+1) 40 [.int .i64 op,.int .i64 a,.int .i64 b]):=by show Rec _ _ _ _;rw[hw1];exact((Rec.new' _ _ _ _ (by simp)).alloc _).alloc _
 have VR:Hid (Rec w1 w.heap.size 94 vs):=by show Rec _ _ _ _;rw[hw1];exact(((Rec.new _ _ _).alloc _).alloc _).alloc _
 have d0:=VR.out.cell hv
 have d1:=IP.out.cell (o:=1) rfl
 have HC:=hide (checkPlace_any sa c lo hi fs a w1 h0 (hx.same (Same.of_below B1.out hh) (Nat.le_refl _) (Nat.le_refl _)) (Nat.le_trans hh B1.out.size))
 generalize decide (a<(fs.length:Int))=nm at HC ⊢
 generalize plFd fs a=f at HC ⊢
 obtain⟨fk,fo,fm⟩:=f
 simp only at HC
 go_enter Tryz.func145,Tryz.ntmps145
 go_upto_region 1 with(fail)
 rw[←hw1]
 clear hw1
 go_wp2_with fail
 refine HC.out.mono ?_
 rintro e w2 ⟨rfl,b2⟩
 have B2:=hide (B1.out.trans (b2.mono B1.out.size))
 have E2:=hide (E1.out.below b2 E1.out.lt)
 clear b2 d0 d1
 have hlt:=E2.out.lt
 have hlt2:w.heap.size+1+1+1<w2.heap.size+1:=by omega
 have s2:=B2.out.size
 have c0:=E2.out.cell (o:=0) rfl
 have c1:=E2.out.cell (o:=1) rfl
 have f0:=E2.out.frozen 0
 have f1:=E2.out.frozen 1
 obtain⟨W9,hW9⟩:∃x,x=((((w2.setCell ⟨w.heap.size+1+1+1,0,none⟩ (.slice (some ⟨w2.heap.size+1,0,none⟩) 1 1)).setCell ⟨w.heap.size+1+1+1,1,none⟩ (.slice none 0 0)).alloc (.cells #[.int .i64 fk,.int .i64 fo,.bool fm] 68)).alloc (.cells #[.int .i64 fk,.int .i64 fo,.bool fm] 68)):=⟨_,rfl⟩
 have NR:Hid (Rec W9 (w2.heap.size+1) 68 (fcells [(⟨fk,fo,fm⟩:Fd)])):=by subst hW9;show Rec _ _ _ _;rw[fcells_single];exact Rec.new' _ _ _ _ (by simp)
 have ER:Hid (Rec W9 (w.heap.size+1+1+1) 160 [.slice (some ⟨w2.heap.size+1,0,none⟩) 1 1,.slice none 0 0]):=by subst hW9;exact(((E2.out.set 0 _).set 1 _).alloc _).alloc _
 have BR:Hid (Below w.heap.size w W9):=by subst hW9;exact(((B2.out.setCell (by show w.heap.size≤w.heap.size+1+1+1;omega) _).setCell (by show w.heap.size≤w.heap.size+1+1+1;omega) _).alloc (by simp;exact s2) _).alloc (by simp;omega) _
 subst hW9
 go_wp2_with fail
 exact bodyPost_ret (results_ct rfl rfl ER.out Tryz.underlying160 rfl (by kernel_rfl)) rfl ⟨_,_,_,_,rfl,rec_fields NR.out (by omega) NR.out.lt,.inl rfl,BR.out⟩
end Go.Proofs.YtpaneomkphjpcaaGreatDoor
