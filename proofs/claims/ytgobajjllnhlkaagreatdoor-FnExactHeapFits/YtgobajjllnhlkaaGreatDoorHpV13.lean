/- fits of the space. -/
import Derived.Test.YtgobajjllnhlkaaGreatDoorHpV12
namespace Go.Proofs.YtgobajjllnhlkaaGreatDoor
open Go.ChangeShapes Go.WideShapes Go.ChangeAt Go.RowKit Go.Shelf Go.Deep
set_option linter.unusedVariables false
set_option linter.unusedSimpArgs false

set_option maxRecDepth 100000 in
set_option maxHeartbeats 4000000 in
theorem spFits_any (lo hi sb : Nat) (ra : Option Addr) (rc cb co cc : Nat) (gs : List (List Ty)) (h : GHeap) (H : HOk gs h) (k n fk fo : Int) (fm : Bool) (w : World) (hs : SpS w lo hi sb gs h ra rc cb co cc (startsF gs h)) :
 Calls Tryz.prog 65 #[.pointer (some ⟨sb, 0, none⟩), .agg #[.int .i64 k, .int .i64 n], .agg #[.int .i64 fk, .int .i64 fo, .bool fm]] w fun e w' => e = .returned (.bool (fitsV gs (stL h (startsF gs h)) k n ⟨fk, fo, fm⟩)) ∧ Below w.heap.size w w' := by
 obtain ⟨w1, hw1⟩ : ∃ w1, w1 = (w.alloc (.cells #[.int .i64 k, .int .i64 n] 54)).alloc (.cells #[.int .i64 fk, .int .i64 fo, .bool fm] 56) := ⟨_, rfl⟩
 have B1 : Hid (Below w.heap.size w w1) := by show Below _ _ _; rw [hw1]; exact two_below _ _ _
 have RV : Hid (Rec w1 w.heap.size 54 [.int .i64 k, .int .i64 n]) := by show Rec _ _ _ _; rw [hw1]; exact (Rec.new _ _ _).alloc _
 have RF : Hid (Rec w1 (w.heap.size + 1) 56 [.int .i64 fk, .int .i64 fo, .bool fm]) := by show Rec _ _ _ _; rw [hw1]; exact Rec.new' _ _ _ _ (by simp)
 have S1 := hide (hs.keep B1.out)
 have hsl : sb < w1.heap.size := S1.out.lt
 have HC := hide (fun (W : World) (hb : Below w1.heap.size w1 W) => tabValFits_any (md := false) ra rc cb co cc lo hi (some ⟨sb, 168, none⟩) 160 0 (sb + 1) gs (stL h (startsF gs h)) k n fk fo fm W H.pa ((S1.out.keep hb).tab) (Nat.le_trans (S1.out.keep hb).hh (Nat.le_of_lt (S1.out.keep hb).lt)) (by rw [stL_len]; decide) (S1.out.keep hb).st (S1.out.keep hb).lt)
 rw [stL_len] at HC
 generalize fitsV gs (stL h (startsF gs h)) k n ⟨fk, fo, fm⟩ = R at HC ⊢
 have k0 := S1.out.k0
 have k1 := S1.out.k1
 have v0 := RV.out.cell (o := 0) rfl
 have v1 := RV.out.cell (o := 1) rfl
 have f0 := RF.out.cell (o := 0) rfl
 have f1 := RF.out.cell (o := 1) rfl
 have f2 := RF.out.cell (o := 2) rfl
 clear hs
 go_enter Tryz.func65, Tryz.ntmps65
 go_wp2_with fail
 rw [← hw1]
 clear hw1
 go_region_held3 (fun w' => (w'.cell? ⟨sb, 0, none⟩ = some (.slice ra (kinCount gs) rc) ∧ w'.cell? ⟨sb, 1, none⟩ = some (.slice (some ⟨cb, co, none⟩) (kinCount gs) cc)) ∧ (w'.cell? ⟨w.heap.size, 0, none⟩ = some (.int .i64 k) ∧ w'.cell? ⟨w.heap.size, 1, none⟩ = some (.int .i64 n)) ∧ w'.cell? ⟨w.heap.size + 1, 0, none⟩ = some (.int .i64 fk) ∧ w'.cell? ⟨w.heap.size + 1, 1, none⟩ = some (.int .i64 fo) ∧ w'.cell? ⟨w.heap.size + 1, 2, none⟩ = some (.bool fm)) (first | exact ⟨⟨k0, k1⟩, ⟨v0, v1⟩, f0, f1, f2⟩ | go_keep) ((go_at_call 98; refine (HC.out _ ((Below.refl _ _).drew)).mono ?_; rintro e w2 ⟨rfl, b2⟩; have B2 : Hid (Below w1.heap.size w1 w2) := below_drew0 b2; clear b2; have k0 := (B2.out.cell (p := ⟨sb, 0, none⟩) hsl).trans k0; have k1 := (B2.out.cell (p := ⟨sb, 1, none⟩) hsl).trans k1; have v0 := (B2.out.cell (p := ⟨w.heap.size, 0, none⟩) RV.out.lt).trans v0; have v1 := (B2.out.cell (p := ⟨w.heap.size, 1, none⟩) RV.out.lt).trans v1; have f0 := (B2.out.cell (p := ⟨w.heap.size + 1, 0, none⟩) RF.out.lt).trans f0; have f1 := (B2.out.cell (p := ⟨w.heap.size + 1, 1, none⟩) RF.out.lt).trans f1; have f2 := (B2.out.cell (p := ⟨w.heap.size + 1, 2, none⟩) RF.out.lt).trans f2))
 rename_i hHeld
 clear hHeld k0 k1 v0 v1 f0 f1 f2
 go_wp2_with fail
 go_ret
 exact ⟨rfl, B1.out.trans (B2.out.mono B1.out.size)⟩
set_option maxRecDepth 100000 in
set_option maxHeartbeats 4000000 in
theorem implHeapFits_any (ga : Option Addr) (gc lo hi : Nat) (gs : List (List Ty)) (h : GHeap) (wa la : Option Addr) (wc lc hi' : Nat) (k n fk fo : Int) (fm : Bool) (w : World) (hN : Few gs) (hl : lo ≤ hi) (hh : hi ≤ w.heap.size) (hx : GroupsIn w lo hi ga gs) (hp : pow10 w) (hW : HIn w 0 hi' h wa la wc lc) (hh' : hi' ≤ w.heap.size) :
 Calls Tryz.prog 32 #[.slice ga gs.length gc, heapV h wa la wc lc, .agg #[.int .i64 k, .int .i64 n], .agg #[.int .i64 fk, .int .i64 fo, .bool fm]] w fun e w' => e = .returned (.bool (heapOkF gs h && fitsV gs (stL h (startsF gs h)) k n ⟨fk, fo, fm⟩)) ∧ Below w.heap.size w w' := by
 obtain ⟨w1, hw1⟩ : ∃ w1, w1 = ((w.alloc (.cells #[.slice wa h.words.length wc, .int .i64 h.old, .int .i64 h.oldAt, .int .i64 h.youngAt, .slice la h.log.length lc] 31)).alloc (.cells #[.int .i64 k, .int .i64 n] 54)).alloc (.cells #[.int .i64 fk, .int .i64 fo, .bool fm] 56) := ⟨_, rfl⟩
 have B1 : Hid (Below w.heap.size w w1) := by show Below _ _ _; rw [hw1]; exact (((Below.refl _ _).alloc (Nat.le_refl _) _).alloc (by simp) _).alloc (by simp; omega) _
 have RH : Hid (Rec w1 w.heap.size 31 [.slice wa h.words.length wc, .int .i64 h.old, .int .i64 h.oldAt, .int .i64 h.youngAt, .slice la h.log.length lc]) := by show Rec _ _ _ _; rw [hw1]; exact ((Rec.new _ _ _).alloc _).alloc _
 have RV : Hid (Rec w1 (w.heap.size + 1) 54 [.int .i64 k, .int .i64 n]) := by show Rec _ _ _ _; rw [hw1]; exact (Rec.new' _ _ _ _ (by simp)).alloc _
 have RF : Hid (Rec w1 (w.heap.size + 1 + 1) 56 [.int .i64 fk, .int .i64 fo, .bool fm]) := by show Rec _ _ _ _; rw [hw1]; exact Rec.new' _ _ _ _ (by simp)
 have HC := hide (heapSpaceOf_any ga gc lo hi gs h wa la wc lc hi' w1 hN hl (Nat.le_trans hh B1.out.size) (hx.keep (B1.out.mono hh)) (pow10_keep hp B1.out) (hW.keep (B1.out.mono hh')) (Nat.le_trans hh' B1.out.size))
 have HWB : Hid (∀ i, -9223372036854775808 ≤ nAt h.words i ∧ nAt h.words i ≤ 9223372036854775807) := hW.wb
 unfold heapV at HC ⊢
 clear hx hp hN hW
 have h0 := RH.out.cell (o := 0) rfl
 have h1 := RH.out.cell (o := 1) rfl
 have h2 := RH.out.cell (o := 2) rfl
 have h3 := RH.out.cell (o := 3) rfl
 have h4 := RH.out.cell (o := 4) rfl
 rw [hw1] at h0 h1 h2 h3 h4
 go_enter Tryz.func32, Tryz.ntmps32
 go_wp2_with fail
 rw [← hw1]
 clear hw1 h0 h1 h2 h3 h4
 refine HC.out.mono ?_
 rintro e w2 ⟨b2, ⟨hf, rfl⟩ | ⟨hf, sb, S, lo', hi2, ra, rc, cb, cc, rfl, _, hsps, _⟩⟩
 ·have B2 := hide (B1.out.trans (b2.mono B1.out.size))
  have HF := hide hf
  clear b2 hf
  go_wp2_with fail
  go_ret
  exact ⟨ret_bool (by rw [HF.out]; rfl), B2.out⟩
 ·have B2 := hide (B1.out.trans (b2.mono B1.out.size))
  have HO : HOk gs h := by
   have h1 : kinOkF gs = true ∧ sizeF h = true := by
    unfold heapOkF at hf
    simp only [Bool.and_eq_true] at hf
    exact ⟨hf.1.1, hf.1.2.1⟩
   exact ⟨kinOk_parts h1.1, (sizeF_iff h).1 h1.2, HWB.out⟩
  have HF := hide hf
  have HS := hide (spFits_any lo' hi2 sb ra rc cb 0 cc gs h HO k n fk fo fm w2 hsps)
  have v0 := (RV.out.below b2 RV.out.lt).cell (o := 0) rfl
  have v1 := (RV.out.below b2 RV.out.lt).cell (o := 1) rfl
  have f0 := (RF.out.below b2 RF.out.lt).cell (o := 0) rfl
  have f1 := (RF.out.below b2 RF.out.lt).cell (o := 1) rfl
  have f2 := (RF.out.below b2 RF.out.lt).cell (o := 2) rfl
  clear b2 hf hsps HO
  obtain ⟨R, hR⟩ : ∃ R, R = fitsV gs (stL h (startsF gs h)) k n ⟨fk, fo, fm⟩ := ⟨_, rfl⟩
  rw [← hR] at HS
  have HR := hide hR
  clear hR
  go_wp2_with fail
  refine HS.out.mono ?_
  rintro e w3 ⟨rfl, b3⟩
  have B3 := hide (B2.out.trans (b3.mono B2.out.size))
  clear b3 v0 v1 f0 f1 f2
  go_wp2_with fail
  go_ret
  exact ⟨ret_bool (by rw [HF.out, ← HR.out]; rfl), B3.out⟩
end Go.Proofs.YtgobajjllnhlkaaGreatDoor
