/- A range over a function whose body is told what lies in memory at each yield (and leaves by its end alone). -/
import Derived.Test.YtpaneomkphjpcaaGreatDoorLRow
import Derived.RangeFuncNested
import Derived.RangeFuncBound
import Derived.RangeFuncCalls
import Derived.RangeFuncLeaves
import Derived.RangeFuncFrom
import Derived.RangeFuncBox
namespace Go.Proofs.YtpaneomkphjpcaaGreatDoor
open Go.ChangeShapes Go.WideShapes Go.ChangeAt Go.RowKit Go.Deep
set_option linter.unusedVariables false
def SeqG {α:Type} (F:Fence) (n:Nat) (P:Program) (g:Nat) (lb:Array Value) (encs:α→Array Value) (Kp:World→World→Prop) (G:List α→α→World→Prop) (S:List α→Prop) (N:Nat) (w:World):Prop :=
 ∀(l:Nat) (J:List α→World→Prop) (W:World),Below w.heap.size w W→AbidesFrom W.heap.size J →
  (∀pre x W1,J pre W1→pre.length<N→G pre x W1→YieldAt F (n-1) P l (encs x) W1 fun e W'=>e=.returned (.bool true)∧J (pre++[x]) W'∧Kp W1 W') →
  J [] W→CallsIn F n P g (#[.func (.yield l) #[] #[]]++lb) W fun e W'=>(∃v,e=.returned v)∧∃xs,S xs∧J xs W'
section
variable {F:Fence} {n:Nat} {P:Program}
structure LoopAt (w:World) (R:LoopState→Loop) (W:World):Prop where
 lp:W.heap[w.heap.size+1]?=some (.loop (R .ready))
 ds:W.heap[w.heap.size]?=some (.deferred (some []))
theorem range_rows {α:Type} {g:Operand} {ps:Array Tmp} {assign body:Code} {Q:Exit→Act→World→Prop} {a:Act} {w:World}
 (hro:F.round=none) (h1:1≤n) {gf:Nat} {lb:Array Value} (hg:a.eval g=.func (.func gf) #[] lb) (hFg:F.fn gf) (eg:∀args w,(callFunc gf args).run P w=.ok (.enter gf args) w)
 {encs:α→Array Value} {Kp:World→World→Prop} {G:List α→α→World→Prop} {S:List α→Prop} {N:Nat} {w0:World} (hseq:SeqG F (n-1) P gf lb encs Kp G S N w0)
 (hKt:∀{A B C:World},Kp A B→Kp B C→Kp A C) (hKb:∀(W:World) (l:Nat) (o o':Obj),w.heap.size≤l→W.heap[l]?=some o→o.isCells=false→o.isWalk=false→Kp W (W.putObj l o')) (hb0:Below w0.heap.size w0 w) (hps:∀x,(encs x).size=ps.size)
 (I:List α→World→Prop) (hI:OwnFrom w.heap.size I) (hG:∀pre,OwnFrom w.heap.size (G pre)) (h0:I [] w) (a₁:α→Act)
 (hassign:∀(l:Nat) (x:α) (W:World) (K:Act→World→Prop),K (a₁ x) W→assign.wpIn (F.inRound l) (n-1-1) P (Exit.then K (fun _ _ _=>False)) { tmps:=(ps.zip (encs x)).foldl (fun t (p,v)=>t.setIfInBounds p v) a.tmps,defers:=[] } W)
 (hbody:∀(l:Nat) (pre:List α) (x:α) (W:World),I pre W→pre.length<N→G pre x W→body.wpIn (F.inRound l) (n-1-1) P (ownPostK Kp I (fun _ _ _=>False) (pre++[x]) W) (a₁ x) W)
 (hdone:∀(D:Nat) (xs:List α) (W:World),w.heap.size≤D→S xs→I xs W→W.heap[D]?=some (.deferred (some []))→Q .normal { a with defers:={ target:=.collected D,args:=#[] }::a.defers } W) :
 (Code.rangeFunc g ps assign body).wpIn F n P Q a w:=by
 refine wpIn_rangeFunc fun fn hfn=>?_
 rw[hro]
 let R:LoopState→Loop:=fun st=>{ state:=st,pending:=none,fn,tmps:=a.tmps,params:=ps,assign,body,defers:=w.heap.size }
 have hR:∀st,R st={ state:=st,pending:=none,fn,tmps:=a.tmps,params:=ps,assign,body,defers:=w.heap.size }:=fun _=>rfl
 obtain⟨V,hV⟩:∃V,(w.alloc (.deferred (some []))).alloc (.loop (R .ready))=V:=⟨_,rfl⟩
 have hs:V.heap.size=w.heap.size+1+1:=by rw[←hV];simp
 have L0:LoopAt w R V:=by
  rw[←hV]
  exact⟨by have:=World.alloc_heap_new (w.alloc (.deferred (some []))) (.loop (R .ready));rwa [World.size_alloc] at this,(Below.heap_alloc _ _ _ (by simp)).trans (World.alloc_heap_new w _)⟩
 have I0:I [] V:=by rw[←hV];exact hI.alloc _ (hI.alloc _ h0)
 have B0:Below w0.heap.size w0 V:=by
  rw[←hV];exact hb0.trans ((((Below.refl _ w).alloc (Nat.le_refl _) _).alloc (by simp) _).mono hb0.size)
 refine⟨w.heap.size+1,[{ target:=.collected w.heap.size,args:=#[] }],V,{ target:=.fn (.func gf) lb,args:=#[.func (.yield (w.heap.size+1)) #[] #[]] },V,gf,#[.func (.yield (w.heap.size+1)) #[] #[]]++lb,V,by rw[←hV,hR];exact run_enterLoop_outer _ _ _ _ _,by simp only[resolve,hg];simp[go_sem],fun f' hf'=>by simp[Target.leads] at hf';subst hf';exact hFg,by simp[invoke,go_sem,eg],fun _=>h1,?_⟩
 refine(hseq (w.heap.size+1) (fun pre W=>I pre W∧LoopAt w R W) V B0 ?_ ?_ ⟨I0,L0⟩).mono ?_
 ·intro s A B row hh hgr hr
  have hr2:∀r,row=some r→w.heap.size≤r∧∃o:Obj,A.heap[r]?=some o∧o.isCells=false:=fun r e=>by
   obtain⟨q1,o,q2,q3⟩:=hr r e
   exact⟨by omega,o,q2,Obj.not_cells_of_walk q3⟩
  have hr3:=fun r e=>(hr r e).2
  exact⟨hI s A B row hh.1 hgr hr2,⟨(grownBy_keeps hgr hr3 hh.2.lp rfl).trans hh.2.lp,(grownBy_keeps hgr hr3 hh.2.ds rfl).trans hh.2.ds⟩⟩
 ·rintro pre x W ⟨hi,hL⟩ hlen hGx
  have hlt:=(Array.getElem?_eq_some_iff.1 hL.lp).1
  have hy:=run_yield (P:=P) (args:=encs x) hL.lp (by rw[hR];exact hps x)
  rw[hR] at hy
  obtain⟨U,hU⟩:∃U,U=W.putObj (w.heap.size+1) (.loop (R .busy)):=⟨_,rfl⟩
  have hbg:(Instr.beginRound (w.heap.size+1)).run P W=.ok () U:=by rw[hU];exact run_beginRound hL.lp (by rw[hR])
  have u1:U.heap[w.heap.size+1]?=some (.loop (R .busy)):=by rw[hU];exact World.putObj_heap_same hlt
  have u2:U.heap[w.heap.size]?=some (.deferred (some [])):=by rw[hU];exact(World.putObj_heap_other (by omega)).trans hL.ds
  have u3:Kp W U:=by rw[hU];exact hKb _ _ _ _ (by omega) hL.lp rfl rfl
  have u4:I pre U:=by rw[hU];exact hI.putObj _ hi (by omega) hL.lp rfl
  have u5:G pre x U:=by rw[hU];exact(hG pre).putObj _ hGx (by omega) hL.lp rfl
  refine⟨fn,_,assign,body,hy,roundIn_of_wpIn hfn (hassign _ x W _ ⟨U,hbg,wpIn_mono (hbody _ pre x U u4 hlen u5) ?_⟩)⟩
  rintro e a3 W3 hp
  cases e with
  | normal =>
   obtain⟨k3,kp3,i3⟩:=hp
   have r3:=k3.same _ _ u1 rfl
   have he:=run_endRound (P:=P) none r3
   refine⟨_,_,he,rfl,⟨hI.putObj _ i3 (by omega) r3 rfl,⟨World.putObj_heap_same (Array.getElem?_eq_some_iff.1 r3).1,(World.putObj_heap_other (by omega)).trans (k3.same _ _ u2 rfl)⟩⟩,hKt (hKt u3 kp3) (hKb _ _ _ _ (by omega) r3 rfl rfl)⟩
  | ret=>exact hp.2.elim
  | exit id=>exact hp.2.elim
  | goto t=>exact hp.2.elim
  | panic ch=>exact hp.elim
  | outgrown=>exact hp.elim
 ·rintro e W2 ⟨⟨v,rfl⟩,xs,hS,hi,hL⟩
  exact⟨none,_,run_endLoop (P:=P) hL.lp (by rw[hR];simp),hdone _ xs _ (Nat.le_refl _) hS (hI.putObj _ hi (by omega) hL.lp rfl) ((World.putObj_heap_other (by omega)).trans hL.ds)⟩
end
end Go.Proofs.YtpaneomkphjpcaaGreatDoor
