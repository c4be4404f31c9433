/- Lists of lists of fields of the call's own, grown by append of one. -/
import Derived.Test.YtpaneomkphjpcaaGreatDoorPcFd
import Derived.Deep.AppendLies
namespace Go.Proofs.YtpaneomkphjpcaaGreatDoor
open Go.ChangeShapes Go.WideShapes Go.ChangeAt Go.RowKit Go.Deep
set_option linter.unusedVariables false
def KeepT (e:TypeId) (w w':World):Prop:=∀(k:Nat) (cur:Array Value),w.heap[k]?=some (Obj.cells cur e (0,0))→w'.heap[k]?=w.heap[k]?
theorem KeepT.below {e:TypeId} {w w':World} (h:Below w.heap.size w w'):KeepT e w w':=fun k cur hk=>h.block k (Array.getElem?_eq_some_iff.1 hk).1
theorem KeepT.trans {e:TypeId} {a b c:World} (h:KeepT e a b) (k:KeepT e b c):KeepT e a c:=fun i cur hi=>(k i cur ((h i cur hi).trans hi)).trans (h i cur hi)
theorem fdRow_keepT {w w':World} {S:Nat} {v:Value} {xs:List Fd} (h:FdRow w S v xs) (hk:KeepT 68 w w'):FdRow w' S v xs:=by
  refine⟨h.1,?_⟩
  rcases h.2 with h0|⟨g,cap',cur,rfl,hS,hg,h1⟩
  · exact .inl h0
  · exact .inr ⟨g,cap',cur,rfl,hS,(hk g cur hg).trans hg,h1⟩
def LRow (w:World) (S:Nat) (v:Value) (vs:List Value):Prop:=w.ownsRow S 31 1 v vs.length vs∧∀u∈vs,u.oneCell'=true
theorem Tryz.infoFdS:(Tryz.prog.info? 31).map (fun i=>(i.zero,i.size,i.bytes))=some (some (.slice none 0 0),1,24):=by kernel_rfl
theorem LRow.below {w w':World} {S:Nat} {v:Value} {vs:List Value} (h:LRow w S v vs) (hb:Below w.heap.size w w'):LRow w' S v vs:=⟨owns_below h.1 hb,h.2⟩
theorem LRow.alloc {w:World} {S:Nat} {v:Value} {vs:List Value} (h:LRow w S v vs) (o:Obj):LRow (w.alloc o) S v vs:=⟨World.ownsRow.alloc h.1 o,h.2⟩
theorem LRow.lower {w:World} {S S':Nat} {v:Value} {vs:List Value} (h:LRow w S v vs) (hS:S'≤S):LRow w S' v vs:=⟨owns_lower h.1 hS,h.2⟩
theorem FdRow.capl {w:World} {S cap n:Nat} {a:Option Addr} {xs:List Fd} (h:FdRow w S (.slice a n cap) xs):xs.length≤cap:=by
 rcases h.2 with⟨hv,h0⟩|⟨g,cap',cur,hv,hb,hg,h1,h2,h3,_⟩
 ·simp only[Value.slice.injEq] at hv;omega
 ·simp only[Value.slice.injEq] at hv;omega
theorem wpList_snoc_lst {ops:Array Oper} {rest:List Oper} {o:Oper} {a:Act} {Q:Exit→Act→World→Prop} {w0:World} (hgd:o.guard=none) (s x:Operand)
    (ho:o.op=.call { callee:=.builtin .append,args:=#[s,x],argTypes:=#[47,47] })
    (S:Nat) (v:Value) (vs:List Value) (u:Value) (hu:u.oneCell'=true) (hs:a.eval s=v) (hown:LRow w0 S v vs) (hx:a.eval x=.slice (some ⟨w0.heap.size,0,none⟩) 1 1) (hn:vs.length≤1000) (hS:S≤w0.heap.size)
    (h:∀g cap w',LRow w' S (.slice (some ⟨g,0,none⟩) (vs.length+1) cap) (vs++[u])→Below S w0 w'→KeepT 68 w0 w'→(∀k,k<w0.heap.size→v.ownBlock≠some k→w'.heap[k]?=w0.heap[k]?)→wpList Tryz.prog ops Q rest (a.put o.dst (.slice (some ⟨g,0,none⟩) (vs.length+1) cap)) w') :
    wpList Tryz.prog ops Q (o::rest) a (w0.alloc (.cells #[u] 31)):=by
  obtain⟨i0,hi0,hzz⟩:=Option.map_eq_some_iff.1 Tryz.infoFdS
  simp only[Prod.mk.injEq] at hzz
  obtain⟨hz0,hs0,hb0⟩:=hzz
  refine wpList_append_lies _ hgd s x 47 ho S 31 i0 _ 1 24 Tryz.underlying47 hi0 hz0 hs0 hb0 rfl (by decide) v vs.length vs hs (hown.1.alloc _) ⟨w0.heap.size,0,none⟩ 1 1 [u] hx rfl (World.news_of_block (Deep.blk_alloc_new _ _)) (by intro y hy;simp at hy;subst hy;exact hu) (by decide) (by unfold maxLen;omega) (by omega) (by simp;omega) _ rfl ?_
  intro g cap w' h1 h2 h3 h4
  have hfar:∀k,k<w0.heap.size→v.ownBlock≠some k→w'.heap[k]?=w0.heap[k]?:=fun k hk hne=>(h2.block k (by simp;omega) (fun e=>hne e.symm)).trans (Below.heap_alloc _ _ _ hk)
  refine h g cap w' ⟨?_,?_⟩ (((Below.refl S w0).alloc hS _).grown h2 (by simp;omega) (owns_base hown.1)) (fun k cur hk=>hfar k (Array.getElem?_eq_some_iff.1 hk).1 ?_) hfar
  · have e:(vs++[u]).length=vs.length+1:=by simp
    rw[e]
    exact h1
  · intro y hy
    rcases List.mem_append.1 hy with hy|hy
    · exact hown.2 y hy
    · rw[List.mem_singleton.1 hy];exact hu
  · intro e
    rcases hown.1.2 with⟨rfl,_⟩|⟨g',cap',cur',rfl,_,hb,_⟩
    · simp[Value.ownBlock] at e
    · simp[Value.ownBlock] at e
      subst e
      rw[hb] at hk
      simp at hk
end Go.Proofs.YtpaneomkphjpcaaGreatDoor
