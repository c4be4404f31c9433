/- l4Slots of the model (CkSlotsS, its head). -/
import Derived.Test.YtpaneomkphjpcaaGreatDoorPcScp
import Derived.Test.YtpaneomkphjpcaaGreatDoorPaOk
namespace Go.Proofs.YtpaneomkphjpcaaGreatDoor
open Go.ChangeShapes Go.WideShapes Go.ChangeAt Go.RowKit
set_option linter.unusedVariables false
set_option linter.unusedSimpArgs false
theorem step_app_fields {ops:Array Oper} {o:Oper} {a:Act} {K:Act→World→Prop} {Q:Exit→Act→World→Prop} {E:Prop} {w:World} (hgd:o.guard=none) (s x:Operand)
  (ho:o.op=.call { callee:=.builtin .append,args:=#[s,x],argTypes:=#[31,31] })
  (S:Nat) (v:Value) (xs:List Fd) (fa:Option Addr) (fc lo hi:Nat) (fs:List Fd) (hs:a.eval s=v) (hown:FdRow w S v xs) (hx:a.eval x=.slice fa fs.length fc) (h1:xs.length≤1048576) (hn:fs.length≤1048576) (hf:FieldsIn w lo hi fa fs) (hS:S≤w.heap.size)
  (h:∀a' cap w',FdRow w' S (.slice a' (xs++fs).length cap) (xs++fs)→Below S w w'→K (a.put o.dst (.slice a' (xs++fs).length cap)) w') :
  if Region.wanted o (yielded ops a.tmps)=true then Oper.wp Tryz.prog o a w K Q else E:=by
 have hw:Region.wanted o (yielded ops a.tmps)=true:=by simp[Region.wanted,hgd]
 rw[if_pos hw]
 obtain⟨v',w',hr,h2,h3⟩:=run_append_fields o.type S v xs fa fc lo hi fs w hown h1 hn hf hS
 obtain⟨a',cap,rfl⟩:=h2.val
 unfold Oper.wp execOp
 simp only[ho,resolve,invoke,builtin,Sem.run_bind,Sem.run_pure,Result.andThen_ok,List.map_toArray,List.map_cons,List.map_nil,hs,hx,hr]
 exact h a' cap w' h2 h3
set_option maxHeartbeats 1600000 in
theorem l4Slots_any {md:Bool} (a0 a4 a5:Option Addr) (c0 c4 c5 lo hi:Nat) (f:GFun) (w:World) (hB:FunB 1048576 f) (h0:FieldsM md w lo hi a0 f.takes) (h4:FieldsM md w lo hi a4 f.own) (hh:hi≤w.heap.size) :
  Calls Tryz.prog 88 #[.agg #[.slice a0 f.takes.length c0,.int .i64 f.gives.kind,.int .i64 f.gives.of,.bool f.gives.mt,.slice a4 f.own.length c4,.slice a5 f.body.length c5]] w fun e w'=>∃a c,e=.returned (.slice a (f.takes++f.own).length c)∧FieldsM true w' w.heap.size w'.heap.size a (f.takes++f.own)∧Below w.heap.size w w':=by
 have l0:f.takes.length≤1048576:=hB.1
 have l1:f.own.length≤1048576:=hB.2.1
 have Y0:=hide (fun W (hb:Below w.heap.size w W)=>h0.1.same (lo':=lo) (hi':=hi) (Same.of_below hb hh) (Nat.le_refl _) (Nat.le_refl _))
 have Y4:=hide (fun W (hb:Below w.heap.size w W)=>h4.1.same (lo':=lo) (hi':=hi) (Same.of_below hb hh) (Nat.le_refl _) (Nat.le_refl _))
 clear h0 h4 hB
 obtain⟨ts,⟨gk,go,gm⟩,os,bs⟩:=f
 simp only at l0 l1 Y0 Y4 ⊢
 have B1:Hid (Below w.heap.size w (((w.alloc (.cells #[.slice a0 ts.length c0,.int .i64 gk,.int .i64 go,.bool gm,.slice a4 os.length c4,.slice a5 bs.length c5] 92)).drew).alloc (.cells #[] 68))):=(((Below.refl _ _).alloc (Nat.le_refl _) _).drew).alloc (by simp) _
 have R1:Hid (Rec (((w.alloc (.cells #[.slice a0 ts.length c0,.int .i64 gk,.int .i64 go,.bool gm,.slice a4 os.length c4,.slice a5 bs.length c5] 92)).drew).alloc (.cells #[] 68)) w.heap.size 92 [.slice a0 ts.length c0,.int .i64 gk,.int .i64 go,.bool gm,.slice a4 os.length c4,.slice a5 bs.length c5]):=Rec.alloc (w:=(w.alloc (.cells #[.slice a0 ts.length c0,.int .i64 gk,.int .i64 go,.bool gm,.slice a4 os.length c4,.slice a5 bs.length c5] 92)).drew) (Rec.new w _ _) _
 have S1:Hid (FdRow (((w.alloc (.cells #[.slice a0 ts.length c0,.int .i64 gk,.int .i64 go,.bool gm,.slice a4 os.length c4,.slice a5 bs.length c5] 92)).drew).alloc (.cells #[] 68)) (w.heap.size+1) (.slice (some ⟨w.heap.size+1,0,none⟩) 0 0) []) :=
  ⟨rfl,.inr ⟨w.heap.size+1,0,#[],rfl,Nat.le_refl _,by have:=Deep.blk_alloc_new ((w.alloc (.cells #[.slice a0 ts.length c0,.int .i64 gk,.int .i64 go,.bool gm,.slice a4 os.length c4,.slice a5 bs.length c5] 92)).drew) (.cells #[] 68);simpa using this,Nat.le_refl _,Nat.zero_le _,rfl,rfl⟩⟩
 have z1:w.heap.size+1≤(((w.alloc (.cells #[.slice a0 ts.length c0,.int .i64 gk,.int .i64 go,.bool gm,.slice a4 os.length c4,.slice a5 bs.length c5] 92)).drew).alloc (.cells #[] 68)).heap.size:=by simp
 go_enter Tryz.func88,Tryz.ntmps88
 go_wp2_with fail
 go_region_held3 (fun w'=>w'.cell? ⟨w.heap.size,0,none⟩=some (.slice a0 ts.length c0)∧w'.cell? ⟨w.heap.size,4,none⟩=some (.slice a4 os.length c4))
  (go_keep)
  ((first
   | (refine step_app_fields (by rfl) _ _ (by rfl) (w.heap.size+1) (.slice a1 ([]++ts).length k1) ([]++ts) a4 c4 lo hi os (by rfl) S2.out (by rfl) (by simpa using l0) l1 (Y4.out w2 B2.out) z2 ?_;intro a2 k2 w3 h3 b3;have R3:=hide (R2.out.below b3 (Nat.lt_succ_self _));have q0:=R3.out.cell (o:=0) rfl;have q4:=R3.out.cell (o:=4) rfl)
   | (refine step_app_fields (by rfl) _ _ (by rfl) (w.heap.size+1) (.slice (some ⟨w.heap.size+1,0,none⟩) 0 0) [] a0 c0 lo hi ts (by rfl) S1.out (by rfl) (by simp) l0 (Y0.out _ B1.out) z1 ?_;intro a1 k1 w2 h2 b2;have S2:=hide h2;have B2:=hide (B1.out.trans (b2.mono (Nat.le_succ _)));have R2:=hide (R1.out.below b2 (Nat.lt_succ_self _));have z2:w.heap.size+1≤w2.heap.size:=Nat.le_trans z1 b2.size;clear h2 b2;have q0:=R2.out.cell (o:=0) rfl;have q4:=R2.out.cell (o:=4) rfl)))
 have S3:=hide h3
 have B3:=hide (B2.out.trans (b3.mono (Nat.le_succ _)))
 clear h3 b3
 go_wp2_with fail
 go_ret
 have hq:=S3.out.lower (Nat.le_succ w.heap.size)
 exact⟨a2,k2,by simp,by have:=hq.own;simpa using this,B3.out⟩
end Go.Proofs.YtpaneomkphjpcaaGreatDoor
