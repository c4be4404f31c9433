/- The fault that an error tells. -/
import Derived.Test.YtpaneomkphjpcaaGreatDoorCkAs
import Derived.Test.YtpaneomkphjpcaaGreatDoorCkFits
namespace Go.Proofs.YtpaneomkphjpcaaGreatDoor
open Go.ChangeShapes Go.WideShapes Go.ChangeAt Go.RowKit
set_option linter.unusedVariables false
set_option linter.unusedSimpArgs false

theorem as_hit' (x y z : Int) (t : Nat) (o0 o1 o2 : Value) (w : World) (hg : errT w) (R : Rec w t 125 [o0, o1, o2]) :
  Calls Tryz.prog 71 #[.iface 125 (.agg #[.int .i64 x, .int .i64 y, .int .i64 z]), .iface 127 (.pointer (some ⟨t, 0, none⟩))] w fun ev w' => ev = .returned (.bool true) ∧ Rec w' t 125 [.int .i64 x, .int .i64 y, .int .i64 z] ∧ Below t w w' := by
 have hlt := R.lt
 refine (as_hit x y z t o0 o1 o2 w hg (R.cell (o := 0) rfl) (R.cell (o := 1) rfl) (R.cell (o := 2) rfl) (R.frozen 0) (R.frozen 1) (R.frozen 2)).mono ?_
 rintro e w' ⟨rfl, rfl⟩
 refine ⟨rfl, (((((((R.alloc _).alloc _).alloc _).alloc _).set 0 (.int .i64 x)).set 1 (.int .i64 y)).set 2 (.int .i64 z)), ?_⟩
 refine Below.setCell ?_ (Nat.le_refl t) _
 refine Below.setCell ?_ (Nat.le_refl t) _
 refine Below.setCell ?_ (Nat.le_refl t) _
 exact ((((Below.refl _ _).alloc (by omega) _).alloc (by simp; omega) _).alloc (by simp; omega) _).alloc (by simp; omega) _

set_option maxHeartbeats 1000000 in
theorem checkFault_nil (w : World) : Calls Tryz.prog 40 #[.nilIface] w fun e w' => e = .returned (.agg #[.int .i64 0, .int .i64 0, .int .i64 0]) ∧ Below w.heap.size w w' := by
 go_enter Tryz.func40, Tryz.ntmps40
 go_wp2_with (go_at_call 71; refine (as_nil _ _).mono ?_; rintro e w' ⟨rfl, rfl⟩)
 refine bodyPost_ret (v := .agg #[.int .i64 0, .int .i64 0, .int .i64 0]) (by simp [results, Tryz.results40, go_sem]) rfl ⟨rfl, ?_⟩
 exact ((Below.refl _ _).alloc (Nat.le_refl _) _).alloc (by simp) _
set_option maxHeartbeats 1000000 in
theorem checkFault_hit (x y z : Int) (w : World) (hg : errT w) : Calls Tryz.prog 40 #[faultV x y z] w fun e w' => e = .returned (.agg #[.int .i64 x, .int .i64 y, .int .i64 z]) ∧ Below w.heap.size w w' := by
 unfold faultV
 obtain ⟨w2, hw2⟩ : ∃ w2, w2 = (w.alloc (.cells #[.int .i64 0, .int .i64 0, .int .i64 0] 55)).alloc (.cells #[.int .i64 0, .int .i64 0, .int .i64 0] 125) := ⟨_, rfl⟩
 have B2 : Hid (Below w.heap.size w w2) := by show Below _ _ _; rw [hw2]; exact ((Below.refl _ _).alloc (Nat.le_refl _) _).alloc (by simp) _
 have F2 : Hid (Rec w2 w.heap.size 55 [.int .i64 0, .int .i64 0, .int .i64 0]) := by show Rec _ _ _ _; rw [hw2]; exact (Rec.new _ _ _).alloc _
 have E2 : Hid (Rec w2 (w.heap.size + 1) 125 [.int .i64 0, .int .i64 0, .int .i64 0]) := by show Rec _ _ _ _; rw [hw2]; exact Rec.new' _ _ _ _ (by simp)
 have HG := hide (errT_keep hg B2.out)
 clear hg
 go_enter Tryz.func40, Tryz.ntmps40
 go_upto_region 2 with (fail)
 rw [← hw2]
 clear hw2
 go_wp2_with fail
 refine (as_hit' x y z (w.heap.size + 1) _ _ _ w2 HG.out E2.out).mono ?_
 rintro e w3 ⟨rfl, r3, b3⟩
 have B3 := hide (B2.out.trans (b3.mono (Nat.le_succ _)))
 have F3 : Hid (Rec w3 w.heap.size 55 [.int .i64 0, .int .i64 0, .int .i64 0]) := (b3.block w.heap.size (Nat.lt_succ_self _)).trans F2.out
 have c0 := r3.cell (o := 0) rfl
 have c1 := r3.cell (o := 1) rfl
 have c2 := r3.cell (o := 2) rfl
 have d0 := F3.out.cell (o := 0) rfl
 have d1 := F3.out.cell (o := 1) rfl
 have d2 := F3.out.cell (o := 2) rfl
 have g0 := F3.out.frozen 0
 have g1 := F3.out.frozen 1
 have g2 := F3.out.frozen 2
 have hlt := F3.out.lt
 clear b3 r3
 go_wp2_with fail
 exact bodyPost_ret (rec_res rfl rfl (((F3.out.set 0 (.int .i64 x)).set 1 (.int .i64 y)).set 2 (.int .i64 z)) Tryz.underlying55 rfl (by kernel_rfl)) rfl ⟨rfl, ((B3.out.setCell (Nat.le_refl _) _).setCell (Nat.le_refl _) _).setCell (Nat.le_refl _) _⟩
end Go.Proofs.YtpaneomkphjpcaaGreatDoor
