/- PcScp: CkScope, CkScope2, CkScp, CkScope3. -/
import Derived.Test.YtpaneomkphjpcaaGreatDoorPcTab
import Derived.Test.YtpaneomkphjpcaaGreatDoorPaOk
import Derived.Test.YtpaneomkphjpcaaGreatDoorPcFd
import Derived.Laws.ResultCell
import Derived.Deep.RegionHeld3
import Derived.Deep.RegionLaw
import Derived.Deep.Cut
namespace Go.Proofs.YtpaneomkphjpcaaGreatDoor
open Go.ChangeShapes Go.WideShapes Go.ChangeAt Go.RowKit
set_option linter.unusedVariables false
set_option linter.unusedSimpArgs false
def scope0:List Value:=[.slice none 0 0,.slice none 0 0,.slice none 0 0,.slice none 0 0,.slice none 0 0,.nilFunc,.nilFunc,.nilFunc,.nilFunc,.nilFunc,.nilFunc,.nilFunc,.nilFunc,.nilFunc,.nilFunc,.nilFunc,.nilFunc,.nilFunc,.nilFunc,.nilFunc,.nilFunc,.nilFunc,.nilFunc,.nilFunc,.nilFunc,.nilFunc,.nilFunc,.nilFunc,.nilFunc,.nilFunc,.nilFunc,.nilFunc,.nilFunc,.nilFunc,.nilFunc,.nilFunc,.nilFunc,.nilFunc,.nilFunc,.int .i64 0,.slice none 0 0,.int .i64 0,.int .i64 0,.bool false,.slice none 0 0,.slice none 0 0,.slice none 0 0]
theorem scope0_one:scope0.toArray.all (·.oneCell')=true:=by simp[scope0,Value.oneCell']
def scope1 (x0 x1 x2 rv cv:Value):List Value:=[x0,x1,x2,rv,cv]++ruleVs++[.int .i64 0,.slice none 0 0,.int .i64 0,.int .i64 0,.bool false,.slice none 0 0,.slice none 0 0,.slice none 0 0]
theorem scope1_lit (x0 x1 x2 rv cv:Value):(scope1 x0 x1 x2 rv cv)=[x0,x1,x2,rv,cv,.nilFunc,.func (.func 141) #[] #[],.func (.func 142) #[] #[],.func (.func 143) #[] #[],.func (.func 144) #[] #[],.func (.func 145) #[] #[],.func (.func 146) #[] #[],.func (.func 147) #[] #[],.func (.func 147) #[] #[],.func (.func 147) #[] #[],.func (.func 148) #[] #[],.func (.func 149) #[] #[],.func (.func 150) #[] #[],.func (.func 151) #[] #[],.func (.func 152) #[] #[],.func (.func 153) #[] #[],.func (.func 154) #[] #[],.func (.func 155) #[] #[],.func (.func 156) #[] #[],.func (.func 157) #[] #[],.func (.func 158) #[] #[],.func (.func 159) #[] #[],.func (.func 160) #[] #[],.func (.func 161) #[] #[],.func (.func 162) #[] #[],.func (.func 163) #[] #[],.func (.func 164) #[] #[],.func (.func 165) #[] #[],.func (.func 166) #[] #[],.func (.func 167) #[] #[],.func (.func 168) #[] #[],.func (.func 169) #[] #[],.func (.func 170) #[] #[],.func (.func 171) #[] #[],.int .i64 0,.slice none 0 0,.int .i64 0,.int .i64 0,.bool false,.slice none 0 0,.slice none 0 0,.slice none 0 0]:=rfl
theorem checkRules_lit (w:World) :
  Calls Tryz.prog 115 #[] w fun e w'=>e=.returned (.agg #[.nilFunc,.func (.func 141) #[] #[],.func (.func 142) #[] #[],.func (.func 143) #[] #[],.func (.func 144) #[] #[],.func (.func 145) #[] #[],.func (.func 146) #[] #[],.func (.func 147) #[] #[],.func (.func 147) #[] #[],.func (.func 147) #[] #[],.func (.func 148) #[] #[],.func (.func 149) #[] #[],.func (.func 150) #[] #[],.func (.func 151) #[] #[],.func (.func 152) #[] #[],.func (.func 153) #[] #[],.func (.func 154) #[] #[],.func (.func 155) #[] #[],.func (.func 156) #[] #[],.func (.func 157) #[] #[],.func (.func 158) #[] #[],.func (.func 159) #[] #[],.func (.func 160) #[] #[],.func (.func 161) #[] #[],.func (.func 162) #[] #[],.func (.func 163) #[] #[],.func (.func 164) #[] #[],.func (.func 165) #[] #[],.func (.func 166) #[] #[],.func (.func 167) #[] #[],.func (.func 168) #[] #[],.func (.func 169) #[] #[],.func (.func 170) #[] #[],.func (.func 171) #[] #[]])∧Below w.heap.size w w':=checkRules_any w
def ScPost (R:Bool) (gs:List (List Ty)) (lo:Nat) (x0 x1 x2:Value) (e:Ending) (w':World):Prop:=(R=false∧e=.returned (.tuple #[.agg scope0.toArray,notOkV]))∨(R=true∧∃ra rc cb,e=.returned (.tuple #[.agg (scope1 x0 x1 x2 (.slice ra (kinCount gs) rc) (.slice (some ⟨cb,0,none⟩) (kinCount gs) (kinCount gs))).toArray,.nilIface])∧TabIn w' lo w'.heap.size ra cb 0 gs)
theorem scope0_nz:∀k v,Value.int k v∈scope0→v=0:=by
 intro k v h
 simp[scope0] at h
 exact h.2
theorem cell_blk {w w':World} {b o:Nat} (h:w'.heap[b]?=w.heap[b]?):w'.cell? ⟨b,o,none⟩=w.cell? ⟨b,o,none⟩:=World.cell?_of_block (w:=w) (a:=⟨b,o,none⟩) h
theorem results_ct {fn:Func} {p u:Tmp} {a:Act} {w:World} {g:Nat} {T ty:TypeId} {vs:List Value} {d:TypeDesc} (h:fn.results=#[.cell p ty,.tmp u]) (hp:a.tmps.getD p undef=.pointer (some ⟨g,0,none⟩)) (hr:Rec w g T vs)
  (hu:Tryz.prog.underlying ty=some d) (hd:d.isRow=true) (hi:(Tryz.prog.info? ty).map (·.size)=some vs.length):(results fn a.tmps).run Tryz.prog w=.ok (.tuple #[.agg vs.toArray,a.tmps.getD u undef]) w:=by
 have hld:=run_loadVar_mid (P:=Tryz.prog) w g 0 ty vs d hr.range hu hd hi
 rw[results_cell_tmp h,hp]
 simp[asAddr,Result.andThen,hld]
set_option maxHeartbeats 3200000 in
set_option maxRecDepth 100000 in
theorem checkProgScope_any {md:Bool} (a0 a1 a2:Option Addr) (c0 c1 c2 lo hi:Nat) (p:GProg) (w:World) (hB:ProgB 1048576 p) (hx:PM md w lo hi a0 a1 a2 p) (hl:lo≤hi) (hh:hi≤w.heap.size) (hp:pow10 w) :
  Calls Tryz.prog 76 #[.agg #[.slice a0 p.types.length c0,.slice a1 p.glob.length c1,.slice a2 p.funs.length c2]] w fun e w' =>
   ScPost (progOkF p) p.types lo (.slice a0 p.types.length c0) (.slice a1 p.glob.length c1) (.slice a2 p.funs.length c2) e w'∧Below w.heap.size w w':=by
 have HOk:=hide (fun W (hb:Below w.heap.size w W)=>implProgOk_any a0 a1 a2 c0 c1 c2 lo hi p W hB (hx.keep (hb.mono hh)) hl (Nat.le_trans hh hb.size) (pow10_keep hp hb))
 have HK:=hide (fun W (hb:Below w.heap.size w W)=>kinTableOf_any a0 c0 lo hi p.types W hB.1 hl (Nat.le_trans hh hb.size) (hx.1.1.keep (hb.mono hh)) (pow10_keep hp hb))
 have HKK:Hid (progOkF p=true→kinOkF p.types=true):=fun h=>by
  unfold progOkF at h
  simp only[Bool.and_eq_true] at h
  exact h.1.1
 clear hx hB hp
 generalize progOkF p=R at HOk HKK ⊢
 obtain⟨gs,gl,fs⟩:=p
 simp only at HOk HK HKK ⊢
 have B0:Hid (Below w.heap.size w ((w.alloc (.cells #[.slice a0 gs.length c0,.slice a1 gl.length c1,.slice a2 fs.length c2] 37)).alloc (.cells scope0.toArray 94))):=((Below.refl _ _).alloc (Nat.le_refl _) _).alloc (by simp) _
 have R0:Hid (Rec ((w.alloc (.cells #[.slice a0 gs.length c0,.slice a1 gl.length c1,.slice a2 fs.length c2] 37)).alloc (.cells scope0.toArray 94)) w.heap.size 37 [.slice a0 gs.length c0,.slice a1 gl.length c1,.slice a2 fs.length c2]):=(Rec.new _ _ _).alloc _
 have G0:Hid (Rec ((w.alloc (.cells #[.slice a0 gs.length c0,.slice a1 gl.length c1,.slice a2 fs.length c2] 37)).alloc (.cells scope0.toArray 94)) (w.heap.size+1) 94 scope0):=Rec.new' _ _ _ _ (by simp)
 go_enter Tryz.func76,Tryz.ntmps76
 go_wp2_with fail
 refine(HOk.out _ B0.out).mono ?_
 rintro e w1 ⟨rfl,b1⟩
 have B1:=hide (B0.out.trans (b1.mono B0.out.size))
 have R1:=hide (R0.out.below b1 R0.out.lt)
 have G1:=hide (G0.out.below b1 G0.out.lt)
 clear b1 R0 B0 G0 HOk
 cases R with
 | false =>
  go_wp2_with (first|(go_at_call 69;refine(checkNotOk_any w1).mono ?_;rintro e w' ⟨rfl,rfl⟩)|(refine wpList_store_rec rfl 94 _ _ rfl (w.heap.size+1) scope0.toArray 94 scope0 rfl rfl G1.out (by kernel_rfl) (by rfl) scope0_one ?_))
  intro w2 r2 k2 s2 b2
  have G2:=hide r2
  have B2:=hide (B1.out.trans (b2.mono (Nat.le_succ _)))
  clear r2 k2 s2 b2
  go_wp2_with fail
  exact bodyPost_ret (results_ct rfl rfl G2.out Tryz.underlying94 rfl (by kernel_rfl)) rfl ⟨.inl ⟨rfl,rfl⟩,B2.out⟩
 | true =>
  have hk:=HKK.out rfl
  have p0:=R1.out.cell (o:=0) rfl
  go_wp2_with fail
  refine(HK.out _ B1.out).mono ?_
  rintro e w2 ⟨hT,b2⟩
  rcases hT with⟨hf,_⟩|⟨_,hPar,ra,rc,cb,rfl,hTab⟩
  ·rw[hk] at hf;cases hf
  have TA:=hide (hTab.keep ((Below.refl _ w2).alloc (Nat.le_refl _) (.cells #[.slice ra (kinCount gs) rc,.slice (some ⟨cb,0,none⟩) (kinCount gs) (kinCount gs)] 86)))
  have HPar:=hide hPar
  have w2lo:w2.heap.size≤(w2.alloc (.cells #[.slice ra (kinCount gs) rc,.slice (some ⟨cb,0,none⟩) (kinCount gs) (kinCount gs)] 86)).heap.size:=by simp
  clear hTab hPar
  have B2:=hide (B1.out.trans (b2.mono B1.out.size))
  have R2:=hide (R1.out.below b2 R1.out.lt)
  have G2:=hide (G1.out.below b2 G1.out.lt)
  clear b2 hk HKK HK R1 G1 B1 p0
  obtain⟨n,hn⟩:∃n,kinCount gs=n:=⟨_,rfl⟩
  have HN:=hide hn
  rw[hn] at TA w2lo ⊢
  clear hn
  have BA:=hide (B2.out.alloc B2.out.size (.cells #[.slice ra n rc,.slice (some ⟨cb,0,none⟩) n n] 86))
  have RA:=hide (R2.out.alloc (.cells #[.slice ra n rc,.slice (some ⟨cb,0,none⟩) n n] 86))
  have GA:=hide (G2.out.alloc (.cells #[.slice ra n rc,.slice (some ⟨cb,0,none⟩) n n] 86))
  have KA:Hid (Rec (w2.alloc (.cells #[.slice ra n rc,.slice (some ⟨cb,0,none⟩) n n] 86)) w2.heap.size 86 [.slice ra n rc,.slice (some ⟨cb,0,none⟩) n n]):=Rec.new _ _ _
  have hg1:=G2.out.lt
  have pa0:=RA.out.cell (o:=0) rfl
  have pa1:=RA.out.cell (o:=1) rfl
  have pa2:=RA.out.cell (o:=2) rfl
  go_wp2_with fail
  refine wp_region_noPanic ?_
  refine wp_region_held_drew (S:=fun w'=>Rec w' w.heap.size 37 [.slice a0 gs.length c0,.slice a1 gl.length c1,.slice a2 fs.length c2]∧Rec w' w2.heap.size 86 [.slice ra n rc,.slice (some ⟨cb,0,none⟩) n n]) (by kernel_rfl) ⟨RA.out,KA.out⟩ (fun hHeld=>?_)
  refine wpAnyH_take (i:=0) (oi:=_) (v:=.agg #[.slice a0 gs.length c0,.slice a1 gl.length c1,.slice a2 fs.length c2]) rfl (by kernel_rfl) (by kernel_rfl) (by kernel_rfl) (fun _ _ _ h=>h) (yieldsIf_load_mid (by rfl) 37 _ rfl w.heap.size 0 rfl [.slice a0 gs.length c0,.slice a1 gl.length c1,.slice a2 fs.length c2] _ (fun w hS=>hS.1.range) Tryz.underlying37 rfl (by kernel_rfl)) hHeld ?_
  try simp only[Act.put,List.setIfInBounds_toArray,List.set_cons_zero,List.set_cons_succ]
  refine wpAnyH_take (i:=1) (oi:=_) (v:=.agg #[.slice ra n rc,.slice (some ⟨cb,0,none⟩) n n]) rfl (by kernel_rfl) (by kernel_rfl) (by kernel_rfl) (fun _ _ _ h=>h) (yieldsIf_load_mid (by rfl) 86 _ rfl w2.heap.size 0 rfl [.slice ra n rc,.slice (some ⟨cb,0,none⟩) n n] _ (fun w hS=>hS.2.range) Tryz.underlying86 rfl (by kernel_rfl)) hHeld ?_
  try simp only[Act.put,List.setIfInBounds_toArray,List.set_cons_zero,List.set_cons_succ]
  refine wpAnyH_ready (rs:=[2]) (by kernel_rfl) (by simp) ?_
  refine AllReadyH.cons (o:=_) rfl (fun K hK=>?_) AllReadyH.nil
  go_simp
  refine(checkRules_lit _).mono ?_
  rintro e w3 ⟨rfl,b3⟩
  have B3:=hide (BA.out.drew.trans (b3.mono BA.out.size))
  have R3:Hid (Rec w3 w.heap.size 37 [.slice a0 gs.length c0,.slice a1 gl.length c1,.slice a2 fs.length c2]):=Rec.below (w:=(w2.alloc (.cells #[.slice ra n rc,.slice (some ⟨cb,0,none⟩) n n] 86)).drew) RA.out b3 RA.out.lt
  have G3:Hid (Rec w3 (w.heap.size+1) 94 scope0):=Rec.below (w:=(w2.alloc (.cells #[.slice ra n rc,.slice (some ⟨cb,0,none⟩) n n] 86)).drew) GA.out b3 GA.out.lt
  have K3:Hid (Rec w3 w2.heap.size 86 [.slice ra n rc,.slice (some ⟨cb,0,none⟩) n n]):=Rec.below (w:=(w2.alloc (.cells #[.slice ra n rc,.slice (some ⟨cb,0,none⟩) n n] 86)).drew) KA.out b3 KA.out.lt
  have T3:Hid (TabIn w3 lo w2.heap.size ra cb 0 gs):=TabIn.keep (w:=(w2.alloc (.cells #[.slice ra n rc,.slice (some ⟨cb,0,none⟩) n n] 86)).drew) TA.out (b3.mono w2lo)
  have w23:w2.heap.size≤w3.heap.size:=Nat.le_trans w2lo b3.size
  clear b3 TA
  go_wp2_with fail
  refine hK.out _ _ ⟨R3.out,K3.out⟩ (fun hHeld2=>?_)
  clear hK K hHeld
  try simp only[Act.put,List.setIfInBounds_toArray,List.set_cons_zero,List.set_cons_succ]
  refine wpAnyH_take (i:=3) (oi:=_) (v:=.agg #[.slice a0 gs.length c0,.slice a1 gl.length c1,.slice a2 fs.length c2,.slice ra n rc,.slice (some ⟨cb,0,none⟩) n n,.nilFunc,.func (.func 141) #[] #[],.func (.func 142) #[] #[],.func (.func 143) #[] #[],.func (.func 144) #[] #[],.func (.func 145) #[] #[],.func (.func 146) #[] #[],.func (.func 147) #[] #[],.func (.func 147) #[] #[],.func (.func 147) #[] #[],.func (.func 148) #[] #[],.func (.func 149) #[] #[],.func (.func 150) #[] #[],.func (.func 151) #[] #[],.func (.func 152) #[] #[],.func (.func 153) #[] #[],.func (.func 154) #[] #[],.func (.func 155) #[] #[],.func (.func 156) #[] #[],.func (.func 157) #[] #[],.func (.func 158) #[] #[],.func (.func 159) #[] #[],.func (.func 160) #[] #[],.func (.func 161) #[] #[],.func (.func 162) #[] #[],.func (.func 163) #[] #[],.func (.func 164) #[] #[],.func (.func 165) #[] #[],.func (.func 166) #[] #[],.func (.func 167) #[] #[],.func (.func 168) #[] #[],.func (.func 169) #[] #[],.func (.func 170) #[] #[],.func (.func 171) #[] #[],.int .i64 0,.slice none 0 0,.int .i64 0,.int .i64 0,.bool false,.slice none 0 0,.slice none 0 0,.slice none 0 0]) rfl (by kernel_rfl) (by kernel_rfl) (by kernel_rfl) (fun _ _ _ h=>h) (Or.inl ⟨by rfl,?yb⟩) hHeld2 ?_
  case yb =>
   intro W hW
   go_simp
  try simp only[Act.put,List.setIfInBounds_toArray,List.set_cons_zero,List.set_cons_succ]
  refine wpAnyH_ready (rs:=[4]) (by kernel_rfl) (by simp) ?_
  refine AllReadyH.cons (o:=_) rfl (fun K hK=>?_) AllReadyH.nil
  refine step_store_rec (by rfl) 94 _ _ (by rfl) (w.heap.size+1) #[.slice a0 gs.length c0,.slice a1 gl.length c1,.slice a2 fs.length c2,.slice ra n rc,.slice (some ⟨cb,0,none⟩) n n,.nilFunc,.func (.func 141) #[] #[],.func (.func 142) #[] #[],.func (.func 143) #[] #[],.func (.func 144) #[] #[],.func (.func 145) #[] #[],.func (.func 146) #[] #[],.func (.func 147) #[] #[],.func (.func 147) #[] #[],.func (.func 147) #[] #[],.func (.func 148) #[] #[],.func (.func 149) #[] #[],.func (.func 150) #[] #[],.func (.func 151) #[] #[],.func (.func 152) #[] #[],.func (.func 153) #[] #[],.func (.func 154) #[] #[],.func (.func 155) #[] #[],.func (.func 156) #[] #[],.func (.func 157) #[] #[],.func (.func 158) #[] #[],.func (.func 159) #[] #[],.func (.func 160) #[] #[],.func (.func 161) #[] #[],.func (.func 162) #[] #[],.func (.func 163) #[] #[],.func (.func 164) #[] #[],.func (.func 165) #[] #[],.func (.func 166) #[] #[],.func (.func 167) #[] #[],.func (.func 168) #[] #[],.func (.func 169) #[] #[],.func (.func 170) #[] #[],.func (.func 171) #[] #[],.int .i64 0,.slice none 0 0,.int .i64 0,.int .i64 0,.bool false,.slice none 0 0,.slice none 0 0,.slice none 0 0] 94 scope0 (by rfl) (by rfl) G3.out (by kernel_rfl) (by rfl) (by simp[Value.oneCell']) ?_
  intro w4 r4 k4 s4 b4
  refine hK.out _ _ ⟨(k4 _ (by omega)).trans R3.out,(k4 _ (by omega)).trans K3.out⟩ (fun hHeld3=>?_)
  clear hK K hHeld2
  try simp only[Act.put,List.setIfInBounds_toArray,List.set_cons_zero,List.set_cons_succ]
  refine wpAnyH_take (i:=5) (oi:=_) (v:=.nilIface) rfl (by kernel_rfl) (by kernel_rfl) (by kernel_rfl) (fun _ _ _ h=>h) (Or.inl ⟨by rfl,?yc⟩) hHeld3 ?_
  case yc =>
   intro W hW
   go_simp
  try simp only[Act.put,List.setIfInBounds_toArray,List.set_cons_zero,List.set_cons_succ]
  refine wpAnyH_done (by kernel_rfl) ?_ _
  refine NoPanic.normal ?_
  have G4:=hide r4
  have B4:=hide (B3.out.trans (b4.mono (Nat.le_succ _)))
  have T4:=hide ((T3.out.keepZ (w':=w4) HPar.out (G3.out.noNz scope0_nz) (G3.out.cell (o:=0) rfl) (fun k hk=>k4 k hk)).wide (Nat.le_refl _) (show w2.heap.size≤w4.heap.size by omega))
  clear r4 k4 s4 b4
  go_wp2_with fail
  refine bodyPost_ret (results_ct rfl rfl G4.out Tryz.underlying94 rfl (by kernel_rfl)) rfl ⟨.inr ⟨rfl,ra,rc,cb,?_,T4.out⟩,B4.out⟩
  rw[HN.out]
  rfl
theorem all_set {l:List Value} (h:l.toArray.all (·.oneCell')=true) (i:Nat) {x:Value} (hx:x.oneCell'=true):(l.set i x).toArray.all (·.oneCell')=true:=by
 refine all_oneCell_toArray fun v hv=>?_
 rcases List.mem_or_eq_of_mem_set hv with h1|rfl
 ·exact(Array.all_eq_true_iff_forall_mem.1 h) v (by simpa using h1)
 ·exact hx
theorem scope1_one (a0 a1 a2 ra ca:Option Addr) (n0 c0 n1 c1 n2 c2 rn rc cn cc:Nat):(scope1 (.slice a0 n0 c0) (.slice a1 n1 c1) (.slice a2 n2 c2) (.slice ra rn rc) (.slice ca cn cc)).toArray.all (·.oneCell')=true:=by
 rw[scope1_lit]
 simp[Value.oneCell']
theorem scope1_len (x0 x1 x2 rv cv:Value):(scope1 x0 x1 x2 rv cv).length=47:=rfl
def scopeIn (L:List Value) (f:Int) (x0 x1 x2 x3 x4 x5 s:Value):List Value:=((((((((L.set 39 (.int .i64 f)).set 40 x0).set 41 x1).set 42 x2).set 43 x3).set 44 x4).set 45 x5).set 46 s)
set_option maxHeartbeats 1000000 in
set_option maxRecDepth 100000 in
theorem scopeIn_any {md:Bool} (a0 a1 a2 ra ca:Option Addr) (n0 c0 n1 c1 c2 rn rc cn cc lo hi k:Nat) (fs:List GFun) (w:World) (hk:k<fs.length) (hB:FunsB 1048576 fs) (hx:FunsM md w lo hi a2 fs) (hh:hi≤w.heap.size) :
  Calls Tryz.prog 77 #[.agg (scope1 (.slice a0 n0 c0) (.slice a1 n1 c1) (.slice a2 fs.length c2) (.slice ra rn rc) (.slice ca cn cc)).toArray,.int .i64 (k:Int)] w fun e w' =>
   ∃(vs:List Value) (a:Option Addr) (cap:Nat) (p0 p4 p5:Option Addr) (q0 q4 q5:Nat),e=.returned (.agg vs.toArray)∧vs.length=47∧vs.toArray.all (·.oneCell')=true∧vs[46]?=some (.slice a ((funAt' fs k).takes++(funAt' fs k).own).length cap)∧FdRow w' w.heap.size (.slice a ((funAt' fs k).takes++(funAt' fs k).own).length cap) ((funAt' fs k).takes++(funAt' fs k).own)∧Below w.heap.size w w' ∧
    vs=scopeIn (scope1 (.slice a0 n0 c0) (.slice a1 n1 c1) (.slice a2 fs.length c2) (.slice ra rn rc) (.slice ca cn cc)) (k:Int) (.slice p0 (funAt' fs k).takes.length q0) (.int .i64 (funAt' fs k).gives.kind) (.int .i64 (funAt' fs k).gives.of) (.bool (funAt' fs k).gives.mt) (.slice p4 (funAt' fs k).own.length q4) (.slice p5 (funAt' fs k).body.length q5) (.slice a ((funAt' fs k).takes++(funAt' fs k).own).length cap) ∧
    FieldsIn w lo hi p0 (funAt' fs k).takes∧InssM md w lo hi p5 (funAt' fs k).body:=by
 rcases hx with hnil|⟨b,off,rfl,g1,g2,_,g3⟩
 ·rw[hnil] at hk;exact absurd hk (Nat.not_lt_zero _)
 have hBk:=hB.2 k hk
 have hFA:=g3 k hk
 clear g3 hB
 generalize funAt' fs k=F at hBk hFA ⊢
 obtain⟨ts,⟨gk,go,gm⟩,os,bs⟩:=F
 obtain⟨p0,q0,p4,q4,p5,q5,y0,y1,y2,y3,y4,y5,z0,z4,z5⟩:=hFA
 simp only at y0 y1 y2 y3 y4 y5 z0 z4 z5 ⊢
 have l0:ts.length≤1048576:=hBk.1
 have l1:os.length≤1048576:=hBk.2.1
 have Z0:=hide z0.1
 have Z4:=hide z4.1
 have Z5:=hide z5
 clear z0 z4 z5 hBk
 obtain⟨L,hL⟩:∃L,L=scope1 (.slice a0 n0 c0) (.slice a1 n1 c1) (.slice (some ⟨b,off,none⟩) fs.length c2) (.slice ra rn rc) (.slice ca cn cc):=⟨_,rfl⟩
 have hone:L.toArray.all (·.oneCell')=true:=by rw[hL];exact scope1_one _ _ _ _ _ _ _ _ _ _ _ _ _ _ _
 have hlen:L.length=47:=by rw[hL];rfl
 have h2:L[2]?=some (.slice (some ⟨b,off,none⟩) fs.length c2):=by rw[hL];rfl
 rw[←hL]
 have HLL:=hide hL
 clear hL
 have hone2:(scopeIn L (k:Int) (.slice p0 ts.length q0) (.int .i64 gk) (.int .i64 go) (.bool gm) (.slice p4 os.length q4) (.slice p5 bs.length q5) (.slice none 0 0)).length=47:=by simp[scopeIn,hlen]
 obtain⟨Z0L,hZ0L⟩:∃z,z=scope0:=⟨_,rfl⟩
 obtain⟨w1,hw1⟩:∃w1,w1=(w.alloc (.cells L.toArray 94)).alloc (.cells scope0.toArray 94):=⟨_,rfl⟩
 have hZl:Z0L.length=47:=by rw[hZ0L];rfl
 have R1:Hid (Rec w1 w.heap.size 94 L):=by show Rec _ _ _ _;rw[hw1];exact(Rec.new _ _ _).alloc _
 have G1:Hid (Rec w1 (w.heap.size+1) 94 Z0L):=by show Rec _ _ _ _;rw[hw1,hZ0L];exact Rec.new' _ _ _ _ (by simp)
 have B1:Hid (Below w.heap.size w w1):=by show Below _ _ _;rw[hw1];exact((Below.refl _ _).alloc (Nat.le_refl _) _).alloc (by simp) _
 have e0:=y0
 have hbw:b<w.heap.size:=by omega
 have c0':w1.cell? ⟨b,off+k*6,none⟩=some (.slice p0 ts.length q0):=by rw[B1.out.cell (p:=⟨b,off+k*6,none⟩) hbw];exact y0
 have c1':w1.cell? ⟨b,off+k*6+1,none⟩=some (.int .i64 gk):=by rw[B1.out.cell (p:=⟨b,off+k*6+1,none⟩) hbw];exact y1
 have c2':w1.cell? ⟨b,off+k*6+2,none⟩=some (.int .i64 go):=by rw[B1.out.cell (p:=⟨b,off+k*6+2,none⟩) hbw];exact y2
 have c3':w1.cell? ⟨b,off+k*6+3,none⟩=some (.bool gm):=by rw[B1.out.cell (p:=⟨b,off+k*6+3,none⟩) hbw];exact y3
 have c4':w1.cell? ⟨b,off+k*6+4,none⟩=some (.slice p4 os.length q4):=by rw[B1.out.cell (p:=⟨b,off+k*6+4,none⟩) hbw];exact y4
 have c5':w1.cell? ⟨b,off+k*6+5,none⟩=some (.slice p5 bs.length q5):=by rw[B1.out.cell (p:=⟨b,off+k*6+5,none⟩) hbw];exact y5
 clear y0 y1 y2 y3 y4 y5 e0
 have d2:=R1.out.cell h2
 have hbne:¬b=w.heap.size:=by omega
 have hbne2:¬w.heap.size=b:=by omega
 have j1:(0:Int)≤(k:Int):=by omega
 have j2:(k:Int)<(fs.length:Int):=by omega
 have f39:=R1.out.frozen 39
 obtain⟨v39,hv39⟩:∃v,L[39]?=some v:=⟨_,List.getElem?_eq_getElem (by omega)⟩
 have e39:=R1.out.cell hv39
 have f40:=R1.out.frozen 40
 obtain⟨v40,hv40⟩:∃v,L[40]?=some v:=⟨_,List.getElem?_eq_getElem (by omega)⟩
 have e40:=R1.out.cell hv40
 have f41:=R1.out.frozen 41
 obtain⟨v41,hv41⟩:∃v,L[41]?=some v:=⟨_,List.getElem?_eq_getElem (by omega)⟩
 have e41:=R1.out.cell hv41
 have f42:=R1.out.frozen 42
 obtain⟨v42,hv42⟩:∃v,L[42]?=some v:=⟨_,List.getElem?_eq_getElem (by omega)⟩
 have e42:=R1.out.cell hv42
 have f43:=R1.out.frozen 43
 obtain⟨v43,hv43⟩:∃v,L[43]?=some v:=⟨_,List.getElem?_eq_getElem (by omega)⟩
 have e43:=R1.out.cell hv43
 have f44:=R1.out.frozen 44
 obtain⟨v44,hv44⟩:∃v,L[44]?=some v:=⟨_,List.getElem?_eq_getElem (by omega)⟩
 have e44:=R1.out.cell hv44
 have f45:=R1.out.frozen 45
 obtain⟨v45,hv45⟩:∃v,L[45]?=some v:=⟨_,List.getElem?_eq_getElem (by omega)⟩
 have e45:=R1.out.cell hv45
 have f46:=R1.out.frozen 46
 obtain⟨v46,hv46⟩:∃v,L[46]?=some v:=⟨_,List.getElem?_eq_getElem (by omega)⟩
 have e46:=R1.out.cell hv46
 go_enter Tryz.func77,Tryz.ntmps77
 go_upto_region 1 with(fail)
 unfold scope0 at hw1
 rw[←hw1]
 clear hw1 hZ0L
 obtain⟨wc,hwc⟩:∃wc,wc=(((((((w1.setCell ⟨w.heap.size,39,none⟩ (.int .i64 (k:Int))).setCell ⟨w.heap.size,40,none⟩ (.slice p0 ts.length q0)).setCell ⟨w.heap.size,41,none⟩ (.int .i64 gk)).setCell ⟨w.heap.size,42,none⟩ (.int .i64 go)).setCell ⟨w.heap.size,43,none⟩ (.bool gm)).setCell ⟨w.heap.size,44,none⟩ (.slice p4 os.length q4)).setCell ⟨w.heap.size,45,none⟩ (.slice p5 bs.length q5)):=⟨_,rfl⟩
 obtain⟨Lc,hLc⟩:∃Lc,Lc=((((((L.set 39 (.int .i64 (k:Int))).set 40 (.slice p0 ts.length q0)).set 41 (.int .i64 gk)).set 42 (.int .i64 go)).set 43 (.bool gm)).set 44 (.slice p4 os.length q4)).set 45 (.slice p5 bs.length q5):=⟨_,rfl⟩
 have RC:Hid (Rec wc w.heap.size 94 Lc):=by show Rec _ _ _ _;rw[hwc,hLc];exact((((((R1.out.set 39 _).set 40 _).set 41 _).set 42 _).set 43 _).set 44 _).set 45 _
 have GC:Hid (Rec wc (w.heap.size+1) 94 Z0L):=by
  have hne:w.heap.size+1≠w.heap.size:=by omega
  show wc.heap[w.heap.size+1]?=_
  rw[hwc,Below.heap_setCell _ _ _ _ hne,Below.heap_setCell _ _ _ _ hne,Below.heap_setCell _ _ _ _ hne,Below.heap_setCell _ _ _ _ hne,Below.heap_setCell _ _ _ _ hne,Below.heap_setCell _ _ _ _ hne,Below.heap_setCell _ _ _ _ hne]
  exact G1.out
 have BC:Hid (Below w.heap.size w wc):=by
  show Below _ _ _;rw[hwc]
  exact((((((B1.out.setCell (Nat.le_refl _) _).setCell (Nat.le_refl _) _).setCell (Nat.le_refl _) _).setCell (Nat.le_refl _) _).setCell (Nat.le_refl _) _).setCell (Nat.le_refl _) _).setCell (Nat.le_refl _) _
 have hone3:Lc.toArray.all (·.oneCell')=true:=by rw[hLc];exact all_set (all_set (all_set (all_set (all_set (all_set (all_set hone 39 rfl) 40 rfl) 41 rfl) 42 rfl) 43 rfl) 44 rfl) 45 rfl
 have hlen3:Lc.length=47:=by rw[hLc];simp[hlen]
 have h46:Lc[46]?=some v46:=by rw[hLc];simp[hv46]
 have szc:wc.heap.size=w1.heap.size:=by rw[hwc];simp
 have z1:w.heap.size+1<w1.heap.size:=G1.out.lt
 have HLc:=hide hLc
 clear hLc
 go_wp2_with fail
 rw[←hwc]
 clear hwc
 have RD:=hide (RC.out.alloc (.cells #[.slice p0 ts.length q0,.slice p4 os.length q4] 31))
 have GD:=hide (GC.out.alloc (.cells #[.slice p0 ts.length q0,.slice p4 os.length q4] 31))
 have BD:=hide (BC.out.alloc BC.out.size (.cells #[.slice p0 ts.length q0,.slice p4 os.length q4] 31))
 have ND:Hid (Rec (wc.alloc (.cells #[.slice p0 ts.length q0,.slice p4 os.length q4] 31)) w1.heap.size 31 [.slice p0 ts.length q0,.slice p4 os.length q4]):=Rec.new' _ _ _ _ szc.symm
 refine(concatF_any w1.heap.size p0 p4 q0 q4 lo hi ts os _ (ND.out.cell (o:=0) rfl) (ND.out.cell (o:=1) rfl) ND.out.lt (Z0.out.same (Same.of_below BD.out hh) (Nat.le_refl _) (Nat.le_refl _)) (Z4.out.same (Same.of_below BD.out hh) (Nat.le_refl _) (Nat.le_refl _)) (Nat.le_trans hh BD.out.size) l0 l1).mono ?_
 rintro e w5 ⟨a,cap,rfl,hrow,b5⟩
 have R5:=hide (RD.out.below b5 RD.out.lt)
 have G5:=hide (GD.out.below b5 GD.out.lt)
 have B5:=hide (BD.out.trans (b5.mono BD.out.size))
 have HRow:=hide hrow
 have zD:w.heap.size+1<(wc.alloc (.cells #[.slice p0 ts.length q0,.slice p4 os.length q4] 31)).heap.size:=by simp;omega
 have ZD:=hide zD
 clear b5 hrow RD GD BD ND zD RC GC BC B1 R1 G1
 generalize hmm:(ts++os).length=m at *
 have HMM:=hide hmm
 clear hmm
 obtain⟨vs,hvs⟩:∃vs,vs=Lc.set 46 (.slice a m cap):=⟨_,rfl⟩
 have R6:Hid (Rec (w5.setCell ⟨w.heap.size,46,none⟩ (.slice a m cap)) w.heap.size 94 vs):=by show Rec _ _ _ _;rw[hvs];exact R5.out.set 46 _
 have G6:=hide (G5.out.other (b':=w.heap.size) (by omega) 46 (.slice a m cap))
 have B6:Hid (Below w.heap.size w (w5.setCell ⟨w.heap.size,46,none⟩ (.slice a m cap))):=B5.out.setCell (Nat.le_refl _) _
 have hone4:vs.toArray.all (·.oneCell')=true:=by rw[hvs];exact all_set hone3 46 rfl
 have hlen4:vs.length=47:=by rw[hvs];simp[hlen3]
 have h464:vs[46]?=some (.slice a m cap):=by rw[hvs];simp[hlen3]
 have hsz:(Tryz.prog.info? 94).map (·.size)=some vs.length:=by rw[hlen4];kernel_rfl
 have hsz2:(Tryz.prog.info? 94).map (·.size)=some vs.toArray.size:=by simpa using hsz
 have hold:Z0L.length=vs.toArray.size:=by simp[hlen4,hZl]
 have e46':=R5.out.cell h46
 have f46':=R5.out.frozen 46
 have HVS:Hid (vs=scopeIn L (k:Int) (.slice p0 ts.length q0) (.int .i64 gk) (.int .i64 go) (.bool gm) (.slice p4 os.length q4) (.slice p5 bs.length q5) (.slice a m cap)):=by show _=_;rw[hvs,HLc.out];rfl
 clear hvs hone3 hlen3 h46 R5 G5 B5
 go_wp2_with (first|(refine wpList_load_rec rfl 94 _ rfl w.heap.size 94 vs _ rfl R6.out Tryz.underlying94 rfl hsz ?_)|(refine wpList_store_rec rfl 94 _ _ rfl (w.heap.size+1) vs.toArray 94 Z0L rfl rfl G6.out hsz2 hold hone4 ?_))
 intro w7 r7 k7 s7 b7
 have G7:=hide r7
 have B7:=hide (B6.out.trans (b7.mono (Nat.le_succ _)))
 have HRow7:Hid (FdRow w7 w.heap.size (.slice a m cap) (ts++os)):=by
  show FdRow _ _ _ _
  have h1:=HRow.out
  refine owns_lower (owns_of_block h1 fun q hq=>?_) (by have:=ZD.out;omega)
  have hq1:=owns_base h1 q hq
  have:=ZD.out
  rw[k7 q (by omega)]
  exact Below.heap_setCell _ _ _ _ (by show q≠w.heap.size;omega)
 clear r7 k7 s7 b7
 go_wp2_with fail
 exact bodyPost_ret (results_cell_row rfl _ _ (w.heap.size+1) 94 vs.toArray (0,0) _ rfl (by simpa[Rec] using G7.out) Tryz.underlying94 rfl hsz2) rfl ⟨vs,a,cap,p0,p4,p5,q0,q4,q5,rfl,hlen4,hone4,by rw[HMM.out];exact h464,by rw[HMM.out];exact HRow7.out,B7.out,by rw[HMM.out];exact HVS.out,Z0.out,Z5.out⟩
structure Scp (w:World) (lo hi:Nat) (p:GProg) (k:Nat) (vs:List Value):Prop where
 len:vs.length=47
 one:vs.toArray.all (·.oneCell')=true
 hk:k<p.funs.length
 hh:hi≤w.heap.size
 ty:∃a c,vs[0]?=some (.slice a p.types.length c)
 gl:∃a c,vs[1]?=some (.slice a p.glob.length c)∧FieldsIn w lo hi a p.glob
 fu:∃a c,vs[2]?=some (.slice a p.funs.length c)∧FunsM false w lo hi a p.funs
 tab:∃ra rc cb,vs[3]?=some (.slice ra (kinCount p.types) rc)∧vs[4]?=some (.slice (some ⟨cb,0,none⟩) (kinCount p.types) (kinCount p.types))∧TabIn w lo hi ra cb 0 p.types
 rul:∀i,i<34→vs[5+i]?=ruleVs[i]?
 pl:vs[39]?=some (.int .i64 (k:Int))
 tk:∃a c,vs[40]?=some (.slice a (funAt' p.funs k).takes.length c)∧FieldsIn w lo hi a (funAt' p.funs k).takes
 g0:vs[41]?=some (.int .i64 (funAt' p.funs k).gives.kind)
 g1:vs[42]?=some (.int .i64 (funAt' p.funs k).gives.of)
 g2:vs[43]?=some (.bool (funAt' p.funs k).gives.mt)
 bd:∃a c,vs[45]?=some (.slice a (funAt' p.funs k).body.length c)∧InssM false w lo hi a (funAt' p.funs k).body
 sl:∃a c,vs[46]?=some (.slice a ((funAt' p.funs k).takes++(funAt' p.funs k).own).length c)∧FieldsIn w lo hi a ((funAt' p.funs k).takes++(funAt' p.funs k).own)
theorem FieldsIn.keepB {w w':World} {lo hi:Nat} {a:Option Addr} {fs:List Fd} (h:FieldsIn w lo hi a fs) (hb:Below hi w w'):FieldsIn w' lo hi a fs:=h.same (.of_below hb (Nat.le_refl _)) (Nat.le_refl _) (Nat.le_refl _)
theorem Scp.keep {w w':World} {lo hi:Nat} {p:GProg} {k:Nat} {vs:List Value} (h:Scp w lo hi p k vs) (hb:Below hi w w'):Scp w' lo hi p k vs:=by
 obtain⟨h1,h2,h3,h4,h5,⟨a1,c1,e1,y1⟩,⟨a2,c2,e2,y2⟩,⟨ra,rc,cb,e3,e4,y4⟩,h6,h7,⟨a5,c5,e5,y5⟩,h8,h9,h10,⟨a6,c6,e6,y6⟩,⟨a7,c7,e7,y7⟩⟩:=h
 exact⟨h1,h2,h3,Nat.le_trans h4 hb.size,h5,⟨a1,c1,e1,y1.keepB hb⟩,⟨a2,c2,e2,y2.keep hb⟩,⟨ra,rc,cb,e3,e4,y4.keep hb⟩,h6,h7,⟨a5,c5,e5,y5.keepB hb⟩,h8,h9,h10,⟨a6,c6,e6,y6.keep hb⟩,⟨a7,c7,e7,y7.keepB hb⟩⟩
theorem Scp.keepW {w w':World} {lo hi:Nat} {p:GProg} {k:Nat} {vs:List Value} (h:Scp w lo hi p k vs) (hb:Below w.heap.size w w'):Scp w' lo hi p k vs:=h.keep (hb.mono h.hh)
set_option maxHeartbeats 4000000 in
theorem scp_of {md:Bool} {w:World} {lo hi lo' hi' S c0 c1 c2 rc cb k q0 q4 q5 cap:Nat} {a0 a1 a2 ra p0 p4 p5 a:Option Addr} {p:GProg} {vs:List Value} (hk:k<p.funs.length) (hl:vs.length=47) (ho:vs.toArray.all (·.oneCell')=true)
  (hv:vs=scopeIn (scope1 (.slice a0 p.types.length c0) (.slice a1 p.glob.length c1) (.slice a2 p.funs.length c2) (.slice ra (kinCount p.types) rc) (.slice (some ⟨cb,0,none⟩) (kinCount p.types) (kinCount p.types))) (k:Int) (.slice p0 (funAt' p.funs k).takes.length q0) (.int .i64 (funAt' p.funs k).gives.kind) (.int .i64 (funAt' p.funs k).gives.of) (.bool (funAt' p.funs k).gives.mt) (.slice p4 (funAt' p.funs k).own.length q4) (.slice p5 (funAt' p.funs k).body.length q5) (.slice a ((funAt' p.funs k).takes++(funAt' p.funs k).own).length cap))
  (hg:FieldsIn w lo hi a1 p.glob) (hf:FunsM md w lo hi a2 p.funs) (ht:TabIn w lo hi' ra cb 0 p.types) (h0:FieldsIn w lo hi p0 (funAt' p.funs k).takes) (h5:InssM md w lo hi p5 (funAt' p.funs k).body) (hs:FdRow w lo (.slice a ((funAt' p.funs k).takes++(funAt' p.funs k).own).length cap) ((funAt' p.funs k).takes++(funAt' p.funs k).own))
  (hh:hi≤w.heap.size) (hh':hi'≤w.heap.size):Scp w lo w.heap.size p k vs:=by
 have W:=fun(fs:List Fd) (x:Option Addr) (h:FieldsIn w lo hi x fs)=>h.same (lo':=lo) (hi':=w.heap.size) (fun _ _ _=>rfl) (Nat.le_refl _) hh
 have hv2:vs=[.slice a0 p.types.length c0,.slice a1 p.glob.length c1,.slice a2 p.funs.length c2,.slice ra (kinCount p.types) rc,.slice (some ⟨cb,0,none⟩) (kinCount p.types) (kinCount p.types),.nilFunc,.func (.func 141) #[] #[],.func (.func 142) #[] #[],.func (.func 143) #[] #[],.func (.func 144) #[] #[],.func (.func 145) #[] #[],.func (.func 146) #[] #[],.func (.func 147) #[] #[],.func (.func 147) #[] #[],.func (.func 147) #[] #[],.func (.func 148) #[] #[],.func (.func 149) #[] #[],.func (.func 150) #[] #[],.func (.func 151) #[] #[],.func (.func 152) #[] #[],.func (.func 153) #[] #[],.func (.func 154) #[] #[],.func (.func 155) #[] #[],.func (.func 156) #[] #[],.func (.func 157) #[] #[],.func (.func 158) #[] #[],.func (.func 159) #[] #[],.func (.func 160) #[] #[],.func (.func 161) #[] #[],.func (.func 162) #[] #[],.func (.func 163) #[] #[],.func (.func 164) #[] #[],.func (.func 165) #[] #[],.func (.func 166) #[] #[],.func (.func 167) #[] #[],.func (.func 168) #[] #[],.func (.func 169) #[] #[],.func (.func 170) #[] #[],.func (.func 171) #[] #[],.int .i64 (k:Int),.slice p0 (funAt' p.funs k).takes.length q0,.int .i64 (funAt' p.funs k).gives.kind,.int .i64 (funAt' p.funs k).gives.of,.bool (funAt' p.funs k).gives.mt,.slice p4 (funAt' p.funs k).own.length q4,.slice p5 (funAt' p.funs k).body.length q5,.slice a ((funAt' p.funs k).takes++(funAt' p.funs k).own).length cap]:=by
  rw[hv,scopeIn,scope1_lit]
  rfl
 clear hv
 refine⟨hl,ho,hk,Nat.le_refl _,⟨_,_,by rw[hv2];rfl⟩,⟨_,_,by rw[hv2];rfl,W _ _ hg⟩,⟨_,_,by rw[hv2];rfl,hf.plain.wide (Nat.le_refl _) hh⟩,⟨_,_,_,by rw[hv2];rfl,by rw[hv2];rfl,ht.wide (Nat.le_refl _) hh'⟩,fun i hi=>?_,
  by rw[hv2];rfl,⟨_,_,by rw[hv2];rfl,W _ _ h0⟩,by rw[hv2];rfl,by rw[hv2];rfl,by rw[hv2];rfl,⟨_,_,by rw[hv2];rfl,h5.plain.wide (Nat.le_refl _) hh⟩,⟨_,_,by rw[hv2];rfl,hs.own.1⟩⟩
 rw[hv2]
 match i,hi with
 | 0,_=>rfl
 | 1,_=>rfl
 | 2,_=>rfl
 | 3,_=>rfl
 | 4,_=>rfl
 | 5,_=>rfl
 | 6,_=>rfl
 | 7,_=>rfl
 | 8,_=>rfl
 | 9,_=>rfl
 | 10,_=>rfl
 | 11,_=>rfl
 | 12,_=>rfl
 | 13,_=>rfl
 | 14,_=>rfl
 | 15,_=>rfl
 | 16,_=>rfl
 | 17,_=>rfl
 | 18,_=>rfl
 | 19,_=>rfl
 | 20,_=>rfl
 | 21,_=>rfl
 | 22,_=>rfl
 | 23,_=>rfl
 | 24,_=>rfl
 | 25,_=>rfl
 | 26,_=>rfl
 | 27,_=>rfl
 | 28,_=>rfl
 | 29,_=>rfl
 | 30,_=>rfl
 | 31,_=>rfl
 | 32,_=>rfl
 | 33,_=>rfl
 | n+34,h=>exact absurd h (by omega)
def slotsF (p:GProg) (f:Int):List Fd:=if progOkF p=true∧0≤f∧f<(p.funs.length:Int) then(funAt' p.funs f.toNat).takes++(funAt' p.funs f.toNat).own else []
def FunOk (R:Bool) (n:Nat) (f:Int):Prop:=R=true∧0≤f∧f<(n:Int)
def FsPost (R:Bool) (p:GProg) (f:Int) (lo:Nat) (e:Ending) (w':World):Prop :=
 (¬FunOk R p.funs.length f∧e=.returned (.tuple #[.agg scope0.toArray,notOkV])) ∨
 (FunOk R p.funs.length f∧∃(vs:List Value),e=.returned (.tuple #[.agg vs.toArray,.nilIface])∧Scp w' lo w'.heap.size p f.toNat vs)
set_option maxHeartbeats 2000000 in
set_option maxRecDepth 100000 in
theorem checkFunScope_any {md:Bool} (a0 a1 a2:Option Addr) (c0 c1 c2 lo hi:Nat) (p:GProg) (f:Int) (w:World) (hB:ProgB 1048576 p) (hx:PM md w lo hi a0 a1 a2 p) (hl:lo≤hi) (hh:hi≤w.heap.size) (hp:pow10 w) :
  Calls Tryz.prog 47 #[.agg #[.slice a0 p.types.length c0,.slice a1 p.glob.length c1,.slice a2 p.funs.length c2],.int .i64 f] w fun e w' =>
   FsPost (progOkF p) p f lo e w'∧Below w.heap.size w w':=by
 have HPS:=hide (fun W (hb:Below w.heap.size w W)=>checkProgScope_any a0 a1 a2 c0 c1 c2 lo hi p W hB (hx.keep (hb.mono hh)) hl (Nat.le_trans hh hb.size) (pow10_keep hp hb))
 have HIN:=hide (fun W (hb:Below w.heap.size w W) ra ca rn rc cn cc k (hk:k<p.funs.length)=>scopeIn_any a0 a1 a2 ra ca p.types.length c0 p.glob.length c1 c2 rn rc cn cc lo hi k p.funs W hk hB.2.2 (hx.2.2.keep (hb.mono hh)) (Nat.le_trans hh hb.size))
 have HGl:Hid (FieldsIn w lo hi a1 p.glob):=hx.2.1.1
 have HFu:Hid (FunsM md w lo hi a2 p.funs):=hx.2.2
 have HPar:Hid (progOkF p=true→Parts p.types):=fun h=>by
  unfold progOkF at h
  simp only[Bool.and_eq_true] at h
  exact kinOk_parts h.1.1
 have hl2:lo≤w.heap.size:=Nat.le_trans hl hh
 clear hx hB hp
 generalize progOkF p=R at HPS HPar ⊢
 obtain⟨gs,gl,fs⟩:=p
 simp only at HPS HIN HGl HFu HPar ⊢
 obtain⟨ZL,hZL⟩:∃z,z=scope0:=⟨_,rfl⟩
 have hZl:ZL.length=47:=by rw[hZL];rfl
 have hZa:ZL.length=scope0.toArray.size:=by rw[hZL];rfl
 have HZn:Hid (∀k v,Value.int k v∈ZL→v=0):=by show ∀k v,Value.int k v∈ZL→v=0;rw[hZL];exact scope0_nz
 have HZ0:Hid (ZL[0]?=some (.slice none 0 0)):=by show _=_;rw[hZL];rfl
 obtain⟨w1,hw1⟩:∃w1,w1=(w.alloc (.cells #[.slice a0 gs.length c0,.slice a1 gl.length c1,.slice a2 fs.length c2] 37)).alloc (.cells scope0.toArray 94):=⟨_,rfl⟩
 have R1:Hid (Rec w1 w.heap.size 37 [.slice a0 gs.length c0,.slice a1 gl.length c1,.slice a2 fs.length c2]):=by show Rec _ _ _ _;rw[hw1];exact(Rec.new _ _ _).alloc _
 have G1:Hid (Rec w1 (w.heap.size+1) 94 ZL):=by show Rec _ _ _ _;rw[hw1,hZL];exact Rec.new' _ _ _ _ (by simp)
 have B1:Hid (Below w.heap.size w w1):=by show Below _ _ _;rw[hw1];exact((Below.refl _ _).alloc (Nat.le_refl _) _).alloc (by simp) _
 have p0:=R1.out.cell (o:=0) rfl
 have p1:=R1.out.cell (o:=1) rfl
 have p2:=R1.out.cell (o:=2) rfl
 go_enter Tryz.func47,Tryz.ntmps47
 go_upto_region 1 with(fail)
 unfold scope0 at hw1
 rw[←hw1]
 clear hw1
 go_wp2_with fail
 refine(HPS.out w1 B1.out).mono ?_
 rintro e w2 ⟨hP,b2⟩
 have B2:=hide (B1.out.trans (b2.mono B1.out.size))
 have R2:=hide (R1.out.below b2 R1.out.lt)
 have G2:=hide (G1.out.below b2 G1.out.lt)
 clear b2 R1 G1 B1 p0 p1 p2 HPS
 have BA:=hide (B2.out.alloc B2.out.size (.cells scope0.toArray 94))
 have RA:=hide (R2.out.alloc (.cells scope0.toArray 94))
 have GA:=hide (G2.out.alloc (.cells scope0.toArray 94))
 have ZA:Hid (Rec (w2.alloc (.cells scope0.toArray 94)) w2.heap.size 94 ZL):=by show Rec _ _ _ _;rw[hZL];exact Rec.new _ _ _
 have z2:w.heap.size+1<w2.heap.size:=G2.out.lt
 clear hZL R2 G2 B2
 rcases hP with⟨rfl,rfl⟩|⟨rfl,ra,rc,cb,rfl,hTab⟩
 ·have HBAD:¬FunOk false fs.length f:=fun h=>by cases h.1
  go_wp2_with (refine wpList_store_rec rfl 94 _ _ rfl w2.heap.size scope0.toArray 94 ZL rfl rfl ZA.out (by kernel_rfl) hZa scope0_one ?_)
  intro w3 r3 k3 s3 b3
  have B3:=hide (BA.out.trans (b3.mono (by omega)))
  have G3:Hid (Rec w3 (w.heap.size+1) 94 ZL):=(k3 _ (by omega)).trans GA.out
  clear r3 k3 s3 b3 ZA GA RA BA
  unfold notOkV
  go_wp2_with (first|(go_at_call 69;refine(checkNotOk_any w3).mono ?_;rintro e w' ⟨rfl,rfl⟩)|(refine wpList_store_rec rfl 94 _ _ rfl (w.heap.size+1) scope0.toArray 94 ZL rfl rfl G3.out (by kernel_rfl) hZa scope0_one ?_))
  intro w4 r4 k4 s4 b4
  have G4:=hide r4
  have B4:=hide (B3.out.trans (b4.mono (Nat.le_succ _)))
  clear r4 k4 s4 b4
  go_wp2_with fail
  exact bodyPost_ret (results_ct rfl rfl G4.out Tryz.underlying94 rfl (by kernel_rfl)) rfl ⟨.inl ⟨HBAD,rfl⟩,B4.out⟩
 ·have hPar:=HPar.out rfl
  have HPar2:=hide hPar
  have TA:=hide (hTab.keep ((Below.refl _ w2).alloc (Nat.le_refl _) (.cells scope0.toArray 94)))
  clear hTab hPar HPar
  obtain⟨n,hn⟩:∃n,kinCount gs=n:=⟨_,rfl⟩
  have HN:=hide hn
  rw[hn]
  clear hn
  go_wp2_with (refine wpList_store_rec rfl 94 _ _ rfl w2.heap.size (scope1 (.slice a0 gs.length c0) (.slice a1 gl.length c1) (.slice a2 fs.length c2) (.slice ra n rc) (.slice (some ⟨cb,0,none⟩) n n)).toArray 94 ZL rfl rfl ZA.out (by kernel_rfl) hZl (scope1_one _ _ _ _ _ _ _ _ _ _ _ _ _ _ _) ?_)
  intro w3 r3 k3 s3 b3
  have T3:=hide (TA.out.keep b3)
  have w23:w2.heap.size≤w3.heap.size:=by rw[s3];simp
  have B3:=hide (BA.out.trans (b3.mono (by omega)))
  have G3:Hid (Rec w3 (w.heap.size+1) 94 ZL):=(k3 _ (by omega)).trans GA.out
  have R3:Hid (Rec w3 w.heap.size 37 [.slice a0 gs.length c0,.slice a1 gl.length c1,.slice a2 fs.length c2]):=(k3 _ (by omega)).trans RA.out
  have C3:Hid (Rec w3 w2.heap.size 94 (scope1 (.slice a0 gs.length c0) (.slice a1 gl.length c1) (.slice a2 fs.length c2) (.slice ra n rc) (.slice (some ⟨cb,0,none⟩) n n))):=r3
  clear r3 k3 s3 b3 ZA GA RA BA
  have p2:=R3.out.cell (o:=2) rfl
  by_cases h0:f<0
  ·have HBAD:¬FunOk true fs.length f:=fun h=>by have:=h.2.1;omega
   go_wp2_with (first|(go_at_call 69;refine(checkNotOk_any w3).mono ?_;rintro e w' ⟨rfl,rfl⟩)|(refine wpList_store_rec rfl 94 _ _ rfl (w.heap.size+1) scope0.toArray 94 ZL rfl rfl G3.out (by kernel_rfl) hZa scope0_one ?_))
   intro w4 r4 k4 s4 b4
   have G4:=hide r4
   have B4:=hide (B3.out.trans (b4.mono (Nat.le_succ _)))
   clear r4 k4 s4 b4
   go_wp2_with fail
   exact bodyPost_ret (results_ct rfl rfl G4.out Tryz.underlying94 rfl (by kernel_rfl)) rfl ⟨.inl ⟨HBAD,rfl⟩,B4.out⟩
  by_cases h1:f<(fs.length:Int)
  ·have hok:FunOk true fs.length f:=⟨rfl,by omega,h1⟩
   have HOKK:=hide hok
   have hk:f.toNat<fs.length:=by omega
   have hfk:((f.toNat:Nat):Int)=f:=by omega
   have HC:=hide (HIN.out w3 B3.out ra (some ⟨cb,0,none⟩) n rc n n f.toNat hk)
   rw[hfk] at HC
   have hge:¬(fs.length:Int)≤f:=by omega
   have HK:=hide hk
   have HFK:=hide hfk
   clear hok hk hfk HIN
   go_wp2_with (refine wpList_load_rec rfl 94 _ rfl w2.heap.size 94 _ _ rfl C3.out Tryz.underlying94 rfl (by kernel_rfl) ?_)
   go_wp2_with fail
   refine HC.out.mono ?_
   rintro e w4 ⟨vs,a,cap,p0,p4,p5,q0,q4,q5,rfl,v1,v2,v3,v4,b4,v5,v6,v7⟩
   have V5:=hide v5
   have V6:=hide v6
   have V7:=hide v7
   have T4:=hide (T3.out.keep (b4.mono w23))
   have w34:=b4.size
   have B34:=hide (b4.mono B3.out.size)
   clear v3 v5 v6 v7
   have B4:=hide (B3.out.trans (b4.mono B3.out.size))
   have G4:=hide (G3.out.below b4 G3.out.lt)
   have HRow:=hide v4
   have z3:w.heap.size+1<w3.heap.size:=G3.out.lt
   have hsz2:(Tryz.prog.info? 94).map (·.size)=some vs.toArray.size:=by rw[List.size_toArray,v1];kernel_rfl
   have hold:ZL.length=vs.toArray.size:=by rw[List.size_toArray,v1];exact hZl
   clear b4 v4
   go_wp2_with (refine wpList_store_rec rfl 94 _ _ rfl (w.heap.size+1) vs.toArray 94 ZL rfl rfl G4.out hsz2 hold v2 ?_)
   intro w5 r5 k5 s5 b5
   have G5:Hid (Rec w5 (w.heap.size+1) 94 vs):=by show Rec _ _ _ _;simpa using r5
   have B5:=hide (B4.out.trans (b5.mono (Nat.le_succ _)))
   have B5':=B5
   have BX:=hide (B34.out.trans (b5.mono (Nat.le_succ _)))
   have HRow5:Hid (FdRow w5 lo (.slice a ((funAt' fs f.toNat).takes++(funAt' fs f.toNat).own).length cap) ((funAt' fs f.toNat).takes++(funAt' fs f.toNat).own)):=by
    show FdRow _ _ _ _
    have q:=HRow.out
    exact owns_lower (owns_of_block q fun x hx=>k5 x (by have:=owns_base q x hx;omega)) (by omega)
   have T5:=hide (T4.out.keepZ (w':=w5) HPar2.out (G4.out.noNz HZn.out) (G4.out.cell HZ0.out) (fun k hk=>k5 k hk))
   have w45:w2.heap.size≤w5.heap.size:=by omega
   have HSc:Hid (Scp w5 lo w5.heap.size ⟨gs,gl,fs⟩ f.toNat vs):=by
    have v5:=V5.out
    rw[←HN.out] at v5
    exact scp_of (lo':=lo) (hi':=w2.heap.size) (S:=lo) (p:=⟨gs,gl,fs⟩) (hi:=hi) HK.out v1 v2 (by rw[HFK.out];exact v5) (HGl.out.same (Same.of_below B5'.out hh) (Nat.le_refl _) (Nat.le_refl _)) (HFu.out.keep (B5'.out.mono hh)) T5.out (V6.out.same (Same.of_below BX.out hh) (Nat.le_refl _) (Nat.le_refl _)) (V7.out.keep (BX.out.mono hh)) HRow5.out (Nat.le_trans hh B5'.out.size) w45
   clear r5 k5 s5 b5
   go_wp2_with fail
   exact bodyPost_ret (results_ct rfl rfl G5.out Tryz.underlying94 rfl (by rw[v1];kernel_rfl)) rfl ⟨.inr ⟨HOKK.out,vs,rfl,HSc.out⟩,B5.out⟩
  ·have HBAD:¬FunOk true fs.length f:=fun h=>h1 h.2.2
   go_wp2_with (first|(go_at_call 69;refine(checkNotOk_any w3).mono ?_;rintro e w' ⟨rfl,rfl⟩)|(refine wpList_store_rec rfl 94 _ _ rfl (w.heap.size+1) scope0.toArray 94 ZL rfl rfl G3.out (by kernel_rfl) hZa scope0_one ?_))
   intro w4 r4 k4 s4 b4
   have G4:=hide r4
   have B4:=hide (B3.out.trans (b4.mono (Nat.le_succ _)))
   clear r4 k4 s4 b4
   go_wp2_with fail
   exact bodyPost_ret (results_ct rfl rfl G4.out Tryz.underlying94 rfl (by kernel_rfl)) rfl ⟨.inl ⟨HBAD,rfl⟩,B4.out⟩
end Go.Proofs.YtpaneomkphjpcaaGreatDoor
