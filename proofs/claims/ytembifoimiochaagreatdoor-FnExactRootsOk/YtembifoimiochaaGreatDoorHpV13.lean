/- fits of the space. -/
import Derived.Test.YtembifoimiochaaGreatDoorHpV12
namespace Go.Proofs.YtembifoimiochaaGreatDoor
open Go.ChangeShapes Go.WideShapes Go.ChangeAt Go.RowKit Go.Shelf Go.Deep
set_option linter.unusedVariables false
set_option linter.unusedSimpArgs false

set_option maxRecDepth 100000 in
set_option maxHeartbeats 4000000 in
theorem spFits_any (lo hi sb : Nat) (ra : Option Addr) (rc cb co cc : Nat) (gs : List (List Ty)) (h : GHeap) (H : HOk gs h) (k n fk fo : Int) (fm : Bool) (w : World) (hs : SpS w lo hi sb gs h ra rc cb co cc (startsF gs h)) :
 Calls Tryz.prog 39 #[.pointer (some ⟨sb, 0, none⟩), .agg #[.int .i64 k, .int .i64 n], .agg #[.int .i64 fk, .int .i64 fo, .bool fm]] w fun e w' => e = .returned (.bool (fitsV gs (stL h (startsF gs h)) k n ⟨fk, fo, fm⟩)) ∧ Below w.heap.size w w' := by
 obtain ⟨w1, hw1⟩ : ∃ w1, w1 = (w.alloc (.cells #[.int .i64 k, .int .i64 n] 49)).alloc (.cells #[.int .i64 fk, .int .i64 fo, .bool fm] 70) := ⟨_, rfl⟩
 have B1 : Hid (Below w.heap.size w w1) := by show Below _ _ _; rw [hw1]; exact two_below _ _ _
 have RV : Hid (Rec w1 w.heap.size 49 [.int .i64 k, .int .i64 n]) := by show Rec _ _ _ _; rw [hw1]; exact (Rec.new _ _ _).alloc _
 have RF : Hid (Rec w1 (w.heap.size + 1) 70 [.int .i64 fk, .int .i64 fo, .bool fm]) := by show Rec _ _ _ _; rw [hw1]; exact Rec.new' _ _ _ _ (by simp)
 have S1 := hide (hs.keep B1.out)
 have hsl : sb < w1.heap.size := S1.out.lt
 have HC := hide (fun (W : World) (hb : Below w1.heap.size w1 W) => tabValFits_any (md := false) ra rc cb co cc lo hi (some ⟨sb, 168, none⟩) 160 0 (sb + 1) gs (stL h (startsF gs h)) k n fk fo fm W H.pa ((S1.out.keep hb).tab) (Nat.le_trans (S1.out.keep hb).hh (Nat.le_of_lt (S1.out.keep hb).lt)) (by rw [stL_len]; decide) (S1.out.keep hb).st (S1.out.keep hb).lt)
 rw [stL_len] at HC
 generalize fitsV gs (stL h (startsF gs h)) k n ⟨fk, fo, fm⟩ = R at HC ⊢
 have k0 := S1.out.k0
 have k1 := S1.out.k1
 have v0 := RV.out.cell (o := 0) rfl
 have v1 := RV.out.cell (o := 1) rfl
 have f0 := RF.out.cell (o := 0) rfl
 have f1 := RF.out.cell (o := 1) rfl
 have f2 := RF.out.cell (o := 2) rfl
 clear hs
 go_enter Tryz.func39, Tryz.ntmps39
 go_wp2_with fail
 rw [← hw1]
 clear hw1
 go_region_held3 (fun w' => (w'.cell? ⟨sb, 0, none⟩ = some (.slice ra (kinCount gs) rc) ∧ w'.cell? ⟨sb, 1, none⟩ = some (.slice (some ⟨cb, co, none⟩) (kinCount gs) cc)) ∧ (w'.cell? ⟨w.heap.size, 0, none⟩ = some (.int .i64 k) ∧ w'.cell? ⟨w.heap.size, 1, none⟩ = some (.int .i64 n)) ∧ w'.cell? ⟨w.heap.size + 1, 0, none⟩ = some (.int .i64 fk) ∧ w'.cell? ⟨w.heap.size + 1, 1, none⟩ = some (.int .i64 fo) ∧ w'.cell? ⟨w.heap.size + 1, 2, none⟩ = some (.bool fm)) (first | exact ⟨⟨k0, k1⟩, ⟨v0, v1⟩, f0, f1, f2⟩ | go_keep) ((go_at_call 57; refine (HC.out _ ((Below.refl _ _).drew)).mono ?_; rintro e w2 ⟨rfl, b2⟩; have B2 : Hid (Below w1.heap.size w1 w2) := below_drew0 b2; clear b2; have k0 := (B2.out.cell (p := ⟨sb, 0, none⟩) hsl).trans k0; have k1 := (B2.out.cell (p := ⟨sb, 1, none⟩) hsl).trans k1; have v0 := (B2.out.cell (p := ⟨w.heap.size, 0, none⟩) RV.out.lt).trans v0; have v1 := (B2.out.cell (p := ⟨w.heap.size, 1, none⟩) RV.out.lt).trans v1; have f0 := (B2.out.cell (p := ⟨w.heap.size + 1, 0, none⟩) RF.out.lt).trans f0; have f1 := (B2.out.cell (p := ⟨w.heap.size + 1, 1, none⟩) RF.out.lt).trans f1; have f2 := (B2.out.cell (p := ⟨w.heap.size + 1, 2, none⟩) RF.out.lt).trans f2))
 rename_i hHeld
 clear hHeld k0 k1 v0 v1 f0 f1 f2
 go_wp2_with fail
 go_ret
 exact ⟨rfl, B1.out.trans (B2.out.mono B1.out.size)⟩
end Go.Proofs.YtembifoimiochaaGreatDoor
