/- The iterator of stacks, with what lies in them. -/
import Derived.Test.YtpaneomkphjpcaaGreatDoorCkSound
import Derived.Test.YtpaneomkphjpcaaGreatDoorPcScp
import Derived.Test.YtpaneomkphjpcaaGreatDoorCkWalkS
import Derived.Test.YtpaneomkphjpcaaGreatDoorRangeG
namespace Go.Proofs.YtpaneomkphjpcaaGreatDoor
open Go.ChangeShapes Go.WideShapes Go.ChangeAt Go.RowKit Go.Shelf Go.Deep
set_option linter.unusedVariables false
set_option linter.unusedSimpArgs false
attribute [local go_sem] Oper.semAt_some
theorem stk_seqG (F:Fence) (n:Nat) (hf:F.fn 78) (hro:F.round=none) (hn:1≤n) (HCI:Hid (∀n f args w R,Calls Tryz.prog f args w R→CallsIn F n Tryz.prog f args w R)) (Bs n₁ lo hi k:Nat) (p:GProg) (sv:List Value) (hF:PF p) (hk:k<p.funs.length)
 (w:World) (hs:Scp w lo hi p k sv) (hb:Rec w Bs 94 sv) (hhi:hi≤n₁) (hn₁:n₁≤w.heap.size) (hlo:lo≤hi) (hf2:F.fn 70) :
 SeqG F n Tryz.prog 78 #[.pointer (some ⟨Bs,0,none⟩)] (fun x:Stk=>#[.slice x.a x.n x.c,errO k x.e]) (KpS n₁ Bs) (GRow n₁ (stP p k)) (StkAll (stP p k) (funAt' p.funs k).body.length) (funAt' p.funs k).body.length w:=fun l J W hW hJ hY h0 =>
 (stkIter F n hf hro hn HCI l Bs n₁ lo hi k p sv hF hk J (fun _ _=>False) (fun pre x W h1 h2 h3=>(hY pre x W h1 h2 h3).mono fun _ _ h=>.inl h) W hJ (hs.keepW hW) (hb.below hW hb.lt) hhi (Nat.le_trans hn₁ hW.size) hlo hf2 h0).mono fun e W' h=>⟨h.1,h.2.elim id fun⟨_,_,h⟩=>h.elim⟩
end Go.Proofs.YtpaneomkphjpcaaGreatDoor
