/- The law FnExactHeapFits, walked. -/
import Derived.Test.YtgobajjllnhlkaaGreatDoorHpLaw
import Derived.Test.YtgobajjllnhlkaaGreatDoorHpV13
import Derived.Test.YtgobajjllnhlkaaGreatDoorPhS
import Derived.Test.YtgobajjllnhlkaaGreatDoorPaOne
namespace Go.Proofs.YtgobajjllnhlkaaGreatDoor
open Go.ChangeShapes Go.WideShapes Go.ChangeAt Go.RowKit Go.Deep
set_option linter.unusedVariables false
set_option linter.unusedSimpArgs false

theorem toVal_kn (k n : Int) (w : World) : Calls Tryz.prog 30 #[.agg #[.int .i64 k, .int .i64 n]] w fun e w' => e = .returned (.agg #[.int .i64 k, .int .i64 n]) ∧ Below w.heap.size w w' := by
 go_enter Tryz.func30, Tryz.ntmps30
 go_wp2
 refine bodyPost_ret (v := .agg #[.int .i64 k, .int .i64 n]) (by simp [results, Tryz.results30, go_sem]) rfl ⟨rfl, ?_⟩
 repeat (first | exact Below.refl _ _ | refine Below.alloc ?_ (by simp <;> omega) _)
theorem specHeapFits_new (na na4 nb : Option Addr) (lo lo' : Nat) (gs : List (List Ty)) (h : GHeap) (k n fk fo : Int) (fm : Bool) (w : World) (hN : Few gs) (hB : HeapB 1048576 h) (hI : HI h) (hx : GN w lo nb gs) (hy : HN w lo' na na4 h) :
  Calls Tryz.prog 29 #[.slice nb gs.length gs.length, heapV h na na4 h.words.length h.log.length, .agg #[.int .i64 k, .int .i64 n], .agg #[.int .i64 fk, .int .i64 fo, .bool fm]] w fun e w' => e = .returned (.bool (heapFitsF gs h k n ⟨fk, fo, fm⟩)) ∧ Below w.heap.size w w' := by
 obtain ⟨hi, h1, h2, h3⟩ := hx
 obtain ⟨hi2, H2⟩ := hy.hin hB hI
 exact specHeapFits_any nb gs.length lo hi gs h na na4 h.words.length h.log.length 0 hi2 k n fk fo fm w hN (Nat.le_refl _) h1 h2 h3.plain H2
theorem implHeapFits_new (na na4 nb : Option Addr) (lo lo' : Nat) (gs : List (List Ty)) (h : GHeap) (k n fk fo : Int) (fm : Bool) (w : World) (hN : Few gs) (hB : HeapB 1048576 h) (hI : HI h) (hx : GN w lo nb gs) (hy : HN w lo' na na4 h) (hp : pow10 w) :
  Calls Tryz.prog 32 #[.slice nb gs.length gs.length, heapV h na na4 h.words.length h.log.length, .agg #[.int .i64 k, .int .i64 n], .agg #[.int .i64 fk, .int .i64 fo, .bool fm]] w fun e w' => e = .returned (.bool (heapFitsF gs h k n ⟨fk, fo, fm⟩)) ∧ Below w.heap.size w w' := by
 obtain ⟨hi, h1, h2, h3⟩ := hx
 obtain ⟨hi2, H2⟩ := hy.hin hB hI
 exact (implHeapFits_any nb gs.length lo hi gs h na na4 h.words.length h.log.length hi2 k n fk fo fm w hN h1 h2 h3.plain hp H2 H2.hh).mono fun e w' he => by rw [heapFitsF_fits]; exact he

set_option maxHeartbeats 6400000 in
set_option maxRecDepth 100000 in
theorem fnExactHeapFits_walk (a : Option Addr) (cap : Nat) (gs : List (List Ty)) (wa la : Option Addr) (wc lc : Nat) (h : GHeap) (k n fk fo : Int) (fm : Bool) (w : World) (hl : Lens gs) (hx : GroupsIn w 0 w.heap.size a gs) (hlh : HeapB 9223372036854775807 h) (hy : PMh false w 0 w.heap.size wa la h) (hI : HI h) (hp : pow10 w) :
 Calls Tryz.prog 6 #[.slice a gs.length cap, heapV h wa la wc lc, .agg #[.int .i64 k, .int .i64 n], .agg #[.int .i64 fk, .int .i64 fo, .bool fm]] w fun e w' => e = .returned (.bool true) ∧ Below w.heap.size w w' := by
 obtain ⟨W0, hW0⟩ : ∃ W0, W0 = ((w.alloc (.cells #[.slice wa h.words.length wc, .int .i64 h.old, .int .i64 h.oldAt, .int .i64 h.youngAt, .slice la h.log.length lc] 25)).alloc (.cells #[.int .i64 k, .int .i64 n] 50)).alloc (.cells #[.int .i64 fk, .int .i64 fo, .bool fm] 52) := ⟨_, rfl⟩
 have b0 : Below w.heap.size w W0 := by rw [hW0]; exact (((Below.refl _ _).alloc (Nat.le_refl _) _).alloc (by simp) _).alloc (by simp; omega) _
 have r0H : Rec W0 w.heap.size 25 [.slice wa h.words.length wc, .int .i64 h.old, .int .i64 h.oldAt, .int .i64 h.youngAt, .slice la h.log.length lc] := by rw [hW0]; exact ((Rec.new _ _ _).alloc _).alloc _
 have r0V : Rec W0 (w.heap.size + 1) 50 [.int .i64 k, .int .i64 n] := by rw [hW0]; exact (Rec.new' _ _ _ _ (by simp)).alloc _
 have r0F : Rec W0 (w.heap.size + 1 + 1) 52 [.int .i64 fk, .int .i64 fo, .bool fm] := by rw [hW0]; exact Rec.new' _ _ _ _ (by simp)
 have HX := hide hx
 have HP := hide hp
 have HLn := hide hl
 have HLt := hide hlh
 have HY := hide hy
 have HIh := hide hI
 have BB := hide b0
 have RH := hide r0H
 have RV := hide r0V
 have RF := hide r0F
 clear hx hp hl hlh hy hI b0 r0H r0V r0F
 unfold heapV
 go_enter Tryz.func6, Tryz.ntmps6
 go_upto_region 1 with (fail)
 rw [← hW0]
 clear hW0
 go_wp2_with fail
 refine (szTypeSS_any a cap 0 w.heap.size gs 1048576 _ HLn.out (HX.out.keep BB.out) BB.out.size (by omega) (by omega)).mono ?_
 rintro e w0 ⟨r, rfl, r1, r2, r3, hb0⟩
 have B0 := hide (BB.out.trans (hb0.mono BB.out.size))
 have H0 := hide (RH.out.below hb0 RH.out.lt)
 have V0 := hide (RV.out.below hb0 RV.out.lt)
 have F0 := hide (RF.out.below hb0 RF.out.lt)
 clear hb0 BB RH RV RF
 by_cases hr : r < 0
 ·clear r3
  go_wp2_with fail
  go_ret
  exact ⟨rfl, B0.out⟩
 have hf := hide (r3 (by omega))
 clear r3
 have p0 := H0.out.cell (o := 0) rfl
 have p1 := H0.out.cell (o := 1) rfl
 have p2 := H0.out.cell (o := 2) rfl
 have p3 := H0.out.cell (o := 3) rfl
 have p4 := H0.out.cell (o := 4) rfl
 have v0 := V0.out.cell (o := 0) rfl
 have v1 := V0.out.cell (o := 1) rfl
 have f0 := F0.out.cell (o := 0) rfl
 have f1 := F0.out.cell (o := 1) rfl
 have f2 := F0.out.cell (o := 2) rfl
 go_wp2_with fail
 refine (szHeap_any wa la wc lc 0 w.heap.size h r w0 HLt.out (HY.out.1.keep B0.out) (HY.out.2.keep B0.out) B0.out.size (by omega) (by omega)).mono ?_
 rintro e w9 ⟨r', rfl, r4, r5, r6, hb9⟩
 have B9 := hide (B0.out.trans (hb9.mono B0.out.size))
 have H9 := hide (H0.out.below hb9 H0.out.lt)
 have V9 := hide (V0.out.below hb9 V0.out.lt)
 have F9 := hide (F0.out.below hb9 F0.out.lt)
 clear hb9 B0 H0 V0 F0 p0 p1 p2 p3 p4 v0 v1 f0 f1 f2
 by_cases hr' : r' < 0
 ·clear r6
  go_wp2_with fail
  go_ret
  exact ⟨rfl, B9.out⟩
 have hB := hide (r6 (by omega))
 clear r6
 have p0 := H9.out.cell (o := 0) rfl
 have p1 := H9.out.cell (o := 1) rfl
 have p2 := H9.out.cell (o := 2) rfl
 have p3 := H9.out.cell (o := 3) rfl
 have p4 := H9.out.cell (o := 4) rfl
 have v0 := V9.out.cell (o := 0) rfl
 have v1 := V9.out.cell (o := 1) rfl
 have f0 := F9.out.cell (o := 0) rfl
 have f1 := F9.out.cell (o := 1) rfl
 have f2 := F9.out.cell (o := 2) rfl
 go_wp2_with fail
 go_region_held3 (fun w' => (w'.cell? ⟨w.heap.size, 0, none⟩ = some (.slice wa h.words.length wc)) ∧ (w'.cell? ⟨w.heap.size, 1, none⟩ = some (.int .i64 h.old)) ∧ (w'.cell? ⟨w.heap.size, 2, none⟩ = some (.int .i64 h.oldAt)) ∧ (w'.cell? ⟨w.heap.size, 3, none⟩ = some (.int .i64 h.youngAt)) ∧ (w'.cell? ⟨w.heap.size, 4, none⟩ = some (.slice la h.log.length lc)) ∧ (w'.cell? ⟨w.heap.size + 1, 0, none⟩ = some (.int .i64 k)) ∧ (w'.cell? ⟨w.heap.size + 1, 1, none⟩ = some (.int .i64 n)) ∧ (w'.cell? ⟨w.heap.size + 1 + 1, 0, none⟩ = some (.int .i64 fk)) ∧ (w'.cell? ⟨w.heap.size + 1 + 1, 1, none⟩ = some (.int .i64 fo)) ∧ (w'.cell? ⟨w.heap.size + 1 + 1, 2, none⟩ = some (.bool fm)))
  (go_keep)
  ((first
   | (go_at_call 12; refine (toTypeSS_any a cap 0 w.heap.size gs _ hf.out (HX.out.keep B9.out.drew) B9.out.drew.size).mono ?_; rintro e w1 ⟨n1, rfl, hx1, hb1⟩; have B1 := hide (B9.out.drew.trans (hb1.mono B9.out.size)); have H1 : Hid (Rec w1 w.heap.size 25 [.slice wa h.words.length wc, .int .i64 h.old, .int .i64 h.oldAt, .int .i64 h.youngAt, .slice la h.log.length lc]) := Rec.below (w := w9.drew) H9.out hb1 H9.out.lt; have V1 : Hid (Rec w1 (w.heap.size + 1) 50 [.int .i64 k, .int .i64 n]) := Rec.below (w := w9.drew) V9.out hb1 V9.out.lt; have F1 : Hid (Rec w1 (w.heap.size + 1 + 1) 52 [.int .i64 fk, .int .i64 fo, .bool fm]) := Rec.below (w := w9.drew) F9.out hb1 F9.out.lt; have X1 : Hid (GN w1 w9.heap.size n1 gs) := ⟨_, hb1.size, Nat.le_refl _, hx1⟩; clear hx1 hb1; have p0 := H1.out.cell (o := 0) rfl; have p1 := H1.out.cell (o := 1) rfl; have p2 := H1.out.cell (o := 2) rfl; have p3 := H1.out.cell (o := 3) rfl; have p4 := H1.out.cell (o := 4) rfl; have v0 := V1.out.cell (o := 0) rfl; have v1 := V1.out.cell (o := 1) rfl; have f0 := F1.out.cell (o := 0) rfl; have f1 := F1.out.cell (o := 1) rfl; have f2 := F1.out.cell (o := 2) rfl)
   | (go_at_call 13; refine (toHeap_any wa wc la lc 0 w.heap.size h _ hB.out (HY.out.1.keep B1.out) (HY.out.2.keep B1.out) B1.out.size).mono ?_; rintro e w2 ⟨n2, m2, rfl, hy2, hy3, hb2⟩; have B1 := hide (B1.out.trans (hb2.mono B1.out.size)); have H1 := hide (H1.out.below hb2 H1.out.lt); have V1 := hide (V1.out.below hb2 V1.out.lt); have F1 := hide (F1.out.below hb2 F1.out.lt); have X1 := hide (X1.out.below hb2); have Y1 : Hid (HN w2 _ n2 m2 h) := ⟨_, hb2.size, Nat.le_refl _, hy2, hy3⟩; clear hb2 hy2 hy3; have p0 := H1.out.cell (o := 0) rfl; have p1 := H1.out.cell (o := 1) rfl; have p2 := H1.out.cell (o := 2) rfl; have p3 := H1.out.cell (o := 3) rfl; have p4 := H1.out.cell (o := 4) rfl; have v0 := V1.out.cell (o := 0) rfl; have v1 := V1.out.cell (o := 1) rfl; have f0 := F1.out.cell (o := 0) rfl; have f1 := F1.out.cell (o := 1) rfl; have f2 := F1.out.cell (o := 2) rfl)
   | (go_at_call 30; refine (toVal_kn _ _ _).mono ?_; rintro e w2 ⟨rfl, hb2⟩; have B1 := hide (B1.out.trans (hb2.mono B1.out.size)); have H1 := hide (H1.out.below hb2 H1.out.lt); have V1 := hide (V1.out.below hb2 V1.out.lt); have F1 := hide (F1.out.below hb2 F1.out.lt); have X1 := hide (X1.out.below hb2); have Y1 := hide (Y1.out.below hb2); clear hb2; have p0 := H1.out.cell (o := 0) rfl; have p1 := H1.out.cell (o := 1) rfl; have p2 := H1.out.cell (o := 2) rfl; have p3 := H1.out.cell (o := 3) rfl; have p4 := H1.out.cell (o := 4) rfl; have v0 := V1.out.cell (o := 0) rfl; have v1 := V1.out.cell (o := 1) rfl; have f0 := F1.out.cell (o := 0) rfl; have f1 := F1.out.cell (o := 1) rfl; have f2 := F1.out.cell (o := 2) rfl)
   | (go_at_call 31; refine (toField_any _ _ _ _).mono ?_; rintro e w2 ⟨rfl, hb2⟩; have B1 := hide (B1.out.trans (hb2.mono B1.out.size)); have H1 := hide (H1.out.below hb2 H1.out.lt); have V1 := hide (V1.out.below hb2 V1.out.lt); have F1 := hide (F1.out.below hb2 F1.out.lt); have X1 := hide (X1.out.below hb2); have Y1 := hide (Y1.out.below hb2); clear hb2; have p0 := H1.out.cell (o := 0) rfl; have p1 := H1.out.cell (o := 1) rfl; have p2 := H1.out.cell (o := 2) rfl; have p3 := H1.out.cell (o := 3) rfl; have p4 := H1.out.cell (o := 4) rfl; have v0 := V1.out.cell (o := 0) rfl; have v1 := V1.out.cell (o := 1) rfl; have f0 := F1.out.cell (o := 0) rfl; have f1 := F1.out.cell (o := 1) rfl; have f2 := F1.out.cell (o := 2) rfl)
   | (go_at_call 29; refine (specHeapFits_new _ _ _ _ _ gs h _ _ _ _ _ _ hf.out hB.out HIh.out X1.out Y1.out).mono ?_; rintro e w2 ⟨rfl, hb2⟩; have B1 := hide (B1.out.trans (hb2.mono B1.out.size)); have H1 := hide (H1.out.below hb2 H1.out.lt); have V1 := hide (V1.out.below hb2 V1.out.lt); have F1 := hide (F1.out.below hb2 F1.out.lt); have X1 := hide (X1.out.below hb2); have Y1 := hide (Y1.out.below hb2); clear hb2; have p0 := H1.out.cell (o := 0) rfl; have p1 := H1.out.cell (o := 1) rfl; have p2 := H1.out.cell (o := 2) rfl; have p3 := H1.out.cell (o := 3) rfl; have p4 := H1.out.cell (o := 4) rfl; have v0 := V1.out.cell (o := 0) rfl; have v1 := V1.out.cell (o := 1) rfl; have f0 := F1.out.cell (o := 0) rfl; have f1 := F1.out.cell (o := 1) rfl; have f2 := F1.out.cell (o := 2) rfl)))
 rename_i hHeld
 clear hHeld X1 Y1 H9 V9 F9
 go_wp2_with fail
 refine (toTypeSS_any a cap 0 w.heap.size gs _ hf.out (HX.out.keep B1.out) B1.out.size).mono ?_
 rintro e w3 ⟨n3, rfl, hx3, hb3⟩
 have X3 : Hid (GN w3 _ n3 gs) := ⟨_, hb3.size, Nat.le_refl _, hx3⟩
 have B3 := hide (B1.out.trans (hb3.mono B1.out.size))
 have H3 := hide (H1.out.below hb3 H1.out.lt)
 have V3 := hide (V1.out.below hb3 V1.out.lt)
 have F3 := hide (F1.out.below hb3 F1.out.lt)
 clear hx3 hb3 H1 V1 F1 p0 p1 p2 p3 p4 v0 v1 f0 f1 f2
 have p0 := H3.out.cell (o := 0) rfl
 have p1 := H3.out.cell (o := 1) rfl
 have p2 := H3.out.cell (o := 2) rfl
 have p3 := H3.out.cell (o := 3) rfl
 have p4 := H3.out.cell (o := 4) rfl
 have v0 := V3.out.cell (o := 0) rfl
 have v1 := V3.out.cell (o := 1) rfl
 have f0 := F3.out.cell (o := 0) rfl
 have f1 := F3.out.cell (o := 1) rfl
 have f2 := F3.out.cell (o := 2) rfl
 go_wp2_with fail
 refine (toHeap_any wa wc la lc 0 w.heap.size h _ hB.out (HY.out.1.keep B3.out) (HY.out.2.keep B3.out) B3.out.size).mono ?_
 rintro e w4 ⟨n4, m4, rfl, hy4, hy5, hb4⟩
 have Y4 : Hid (HN w4 _ n4 m4 h) := ⟨_, hb4.size, Nat.le_refl _, hy4, hy5⟩
 have X4 := hide (X3.out.below hb4)
 have B4 := hide (B3.out.trans (hb4.mono B3.out.size))
 have H4 := hide (H3.out.below hb4 H3.out.lt)
 have V4 := hide (V3.out.below hb4 V3.out.lt)
 have F4 := hide (F3.out.below hb4 F3.out.lt)
 clear hy4 hy5 hb4 X3 H3 V3 F3 p0 p1 p2 p3 p4 v0 v1 f0 f1 f2
 obtain ⟨W5, hW5⟩ : ∃ W5, W5 = w4.alloc (.cells #[.slice n4 h.words.length h.words.length, .int .i64 h.old, .int .i64 h.oldAt, .int .i64 h.youngAt, .slice m4 h.log.length h.log.length] 31) := ⟨_, rfl⟩
 obtain ⟨xb, hxb⟩ : ∃ xb, xb = w4.heap.size := ⟨_, rfl⟩
 have b5 : Below w4.heap.size w4 W5 := by rw [hW5]; exact (Below.refl _ _).alloc (Nat.le_refl _) _
 have K5 : Hid (Rec W5 xb 31 [.slice n4 h.words.length h.words.length, .int .i64 h.old, .int .i64 h.oldAt, .int .i64 h.youngAt, .slice m4 h.log.length h.log.length]) := by show Rec _ _ _ _; rw [hW5, hxb]; exact Rec.new _ _ _
 have B5 := hide (B4.out.trans (b5.mono B4.out.size))
 have X5 := hide (X4.out.below b5)
 have Y5 := hide (Y4.out.below b5)
 have H5 := hide (H4.out.below b5 H4.out.lt)
 have V5 := hide (V4.out.below b5 V4.out.lt)
 have F5 := hide (F4.out.below b5 F4.out.lt)
 have hxl : w.heap.size ≤ xb := by rw [hxb]; exact B4.out.size
 clear b5 X4 Y4 B4 H4 V4 F4
 have p0 := H5.out.cell (o := 0) rfl
 have p1 := H5.out.cell (o := 1) rfl
 have p2 := H5.out.cell (o := 2) rfl
 have p3 := H5.out.cell (o := 3) rfl
 have p4 := H5.out.cell (o := 4) rfl
 have v0 := V5.out.cell (o := 0) rfl
 have v1 := V5.out.cell (o := 1) rfl
 have f0 := F5.out.cell (o := 0) rfl
 have f1 := F5.out.cell (o := 1) rfl
 have f2 := F5.out.cell (o := 2) rfl
 have x0 := K5.out.cell (o := 0) rfl
 have x1 := K5.out.cell (o := 1) rfl
 have x2 := K5.out.cell (o := 2) rfl
 have x3 := K5.out.cell (o := 3) rfl
 have x4 := K5.out.cell (o := 4) rfl
 go_upto_region 11 with (fail)
 rw [← hW5]
 try rw [← hxb]
 clear hW5 hxb
 have B1 := hide B5.out.drew
 have H1 : Hid (Rec W5.drew w.heap.size 25 [.slice wa h.words.length wc, .int .i64 h.old, .int .i64 h.oldAt, .int .i64 h.youngAt, .slice la h.log.length lc]) := H5.out
 have V1 : Hid (Rec W5.drew (w.heap.size + 1) 50 [.int .i64 k, .int .i64 n]) := V5.out
 have F1 : Hid (Rec W5.drew (w.heap.size + 1 + 1) 52 [.int .i64 fk, .int .i64 fo, .bool fm]) := F5.out
 have K1 : Hid (Rec W5.drew xb 31 [.slice n4 h.words.length h.words.length, .int .i64 h.old, .int .i64 h.oldAt, .int .i64 h.youngAt, .slice m4 h.log.length h.log.length]) := K5.out
 have X1 : Hid (GN W5.drew _ n3 gs) := X5.out
 have Y1 : Hid (HN W5.drew _ n4 m4 h) := Y5.out
 clear B5 X5 Y5 H5 V5 F5 K5
 go_wp2_with fail
 go_region_held3 (fun w' => (w'.cell? ⟨w.heap.size, 0, none⟩ = some (.slice wa h.words.length wc)) ∧ (w'.cell? ⟨w.heap.size, 1, none⟩ = some (.int .i64 h.old)) ∧ (w'.cell? ⟨w.heap.size, 2, none⟩ = some (.int .i64 h.oldAt)) ∧ (w'.cell? ⟨w.heap.size, 3, none⟩ = some (.int .i64 h.youngAt)) ∧ (w'.cell? ⟨w.heap.size, 4, none⟩ = some (.slice la h.log.length lc)) ∧ (w'.cell? ⟨w.heap.size + 1, 0, none⟩ = some (.int .i64 k)) ∧ (w'.cell? ⟨w.heap.size + 1, 1, none⟩ = some (.int .i64 n)) ∧ (w'.cell? ⟨w.heap.size + 1 + 1, 0, none⟩ = some (.int .i64 fk)) ∧ (w'.cell? ⟨w.heap.size + 1 + 1, 1, none⟩ = some (.int .i64 fo)) ∧ (w'.cell? ⟨w.heap.size + 1 + 1, 2, none⟩ = some (.bool fm)) ∧ (w'.cell? ⟨xb, 0, none⟩ = some (.slice n4 h.words.length h.words.length)) ∧ (w'.cell? ⟨xb, 1, none⟩ = some (.int .i64 h.old)) ∧ (w'.cell? ⟨xb, 2, none⟩ = some (.int .i64 h.oldAt)) ∧ (w'.cell? ⟨xb, 3, none⟩ = some (.int .i64 h.youngAt)) ∧ (w'.cell? ⟨xb, 4, none⟩ = some (.slice m4 h.log.length h.log.length)))
  (go_keep)
  ((first
   | (go_at_call 30; refine (toVal_kn _ _ _).mono ?_; rintro e w2 ⟨rfl, hb2⟩; have B1 := hide (B1.out.trans (hb2.mono B1.out.size)); have H1 := hide (H1.out.below hb2 H1.out.lt); have V1 := hide (V1.out.below hb2 V1.out.lt); have F1 := hide (F1.out.below hb2 F1.out.lt); have K1 := hide (K1.out.below hb2 K1.out.lt); have X1 := hide (X1.out.below hb2); have Y1 := hide (Y1.out.below hb2); clear hb2; have p0 := H1.out.cell (o := 0) rfl; have p1 := H1.out.cell (o := 1) rfl; have p2 := H1.out.cell (o := 2) rfl; have p3 := H1.out.cell (o := 3) rfl; have p4 := H1.out.cell (o := 4) rfl; have v0 := V1.out.cell (o := 0) rfl; have v1 := V1.out.cell (o := 1) rfl; have f0 := F1.out.cell (o := 0) rfl; have f1 := F1.out.cell (o := 1) rfl; have f2 := F1.out.cell (o := 2) rfl; have x0 := K1.out.cell (o := 0) rfl; have x1 := K1.out.cell (o := 1) rfl; have x2 := K1.out.cell (o := 2) rfl; have x3 := K1.out.cell (o := 3) rfl; have x4 := K1.out.cell (o := 4) rfl)
   | (go_at_call 31; refine (toField_any _ _ _ _).mono ?_; rintro e w2 ⟨rfl, hb2⟩; have B1 := hide (B1.out.trans (hb2.mono B1.out.size)); have H1 := hide (H1.out.below hb2 H1.out.lt); have V1 := hide (V1.out.below hb2 V1.out.lt); have F1 := hide (F1.out.below hb2 F1.out.lt); have K1 := hide (K1.out.below hb2 K1.out.lt); have X1 := hide (X1.out.below hb2); have Y1 := hide (Y1.out.below hb2); clear hb2; have p0 := H1.out.cell (o := 0) rfl; have p1 := H1.out.cell (o := 1) rfl; have p2 := H1.out.cell (o := 2) rfl; have p3 := H1.out.cell (o := 3) rfl; have p4 := H1.out.cell (o := 4) rfl; have v0 := V1.out.cell (o := 0) rfl; have v1 := V1.out.cell (o := 1) rfl; have f0 := F1.out.cell (o := 0) rfl; have f1 := F1.out.cell (o := 1) rfl; have f2 := F1.out.cell (o := 2) rfl; have x0 := K1.out.cell (o := 0) rfl; have x1 := K1.out.cell (o := 1) rfl; have x2 := K1.out.cell (o := 2) rfl; have x3 := K1.out.cell (o := 3) rfl; have x4 := K1.out.cell (o := 4) rfl)
   | (go_at_call 32; refine (implHeapFits_new _ _ _ _ _ gs h _ _ _ _ _ _ hf.out hB.out HIh.out X1.out Y1.out (pow10_keep HP.out B1.out)).mono ?_; rintro e w2 ⟨rfl, hb2⟩; have B1 := hide (B1.out.trans (hb2.mono B1.out.size)); have H1 := hide (H1.out.below hb2 H1.out.lt); have V1 := hide (V1.out.below hb2 V1.out.lt); have F1 := hide (F1.out.below hb2 F1.out.lt); have K1 := hide (K1.out.below hb2 K1.out.lt); have X1 := hide (X1.out.below hb2); have Y1 := hide (Y1.out.below hb2); clear hb2; have p0 := H1.out.cell (o := 0) rfl; have p1 := H1.out.cell (o := 1) rfl; have p2 := H1.out.cell (o := 2) rfl; have p3 := H1.out.cell (o := 3) rfl; have p4 := H1.out.cell (o := 4) rfl; have v0 := V1.out.cell (o := 0) rfl; have v1 := V1.out.cell (o := 1) rfl; have f0 := F1.out.cell (o := 0) rfl; have f1 := F1.out.cell (o := 1) rfl; have f2 := F1.out.cell (o := 2) rfl; have x0 := K1.out.cell (o := 0) rfl; have x1 := K1.out.cell (o := 1) rfl; have x2 := K1.out.cell (o := 2) rfl; have x3 := K1.out.cell (o := 3) rfl; have x4 := K1.out.cell (o := 4) rfl)))
 rename_i hHeld
 clear hHeld
 generalize heapFitsF gs h k n ⟨fk, fo, fm⟩ = R
 go_wp2_with fail
 refine (toTypeSS_any a cap 0 w.heap.size gs _ hf.out (HX.out.keep B1.out) B1.out.size).mono ?_
 rintro e w5 ⟨n5, rfl, hx5, hb5⟩
 have X5 : Hid (GN w5 _ n5 gs) := ⟨_, hb5.size, Nat.le_refl _, hx5⟩
 have X6 := hide (X1.out.below hb5)
 have Y6 := hide (Y1.out.below hb5)
 have B5 := hide (B1.out.trans (hb5.mono B1.out.size))
 have H5 := hide (H1.out.below hb5 H1.out.lt)
 have V5 := hide (V1.out.below hb5 V1.out.lt)
 have F5 := hide (F1.out.below hb5 F1.out.lt)
 have K5 := hide (K1.out.below hb5 K1.out.lt)
 clear hx5 hb5
 go_wp2_with fail
 obtain ⟨h6, p1', p2', p3'⟩ := X6.out
 obtain ⟨h5, p4', p5', p6'⟩ := X5.out
 refine (eqTypeSS_same n3 n5 _ _ _ _ _ _ gs _ hf.out p3'.plain p6'.plain p2' p5').mono ?_
 rintro e w6 ⟨rfl, hb6⟩
 have Y7 := hide (Y6.out.below hb6)
 have B6 := hide (B5.out.trans (hb6.mono B5.out.size))
 have H6 := hide (H5.out.below hb6 H5.out.lt)
 have V6 := hide (V5.out.below hb6 V5.out.lt)
 have F6 := hide (F5.out.below hb6 F5.out.lt)
 have K6 := hide (K5.out.below hb6 K5.out.lt)
 clear hb6 p1' p2' p3' p4' p5' p6' X1 X5 X6 Y1 Y6 B1 B5 H1 V1 F1 K1 H5 V5 F5 K5 p0 p1 p2 p3 p4 v0 v1 f0 f1 f2 x0 x1 x2 x3 x4
 have p0 := H6.out.cell (o := 0) rfl
 have p1 := H6.out.cell (o := 1) rfl
 have p2 := H6.out.cell (o := 2) rfl
 have p3 := H6.out.cell (o := 3) rfl
 have p4 := H6.out.cell (o := 4) rfl
 have v0 := V6.out.cell (o := 0) rfl
 have v1 := V6.out.cell (o := 1) rfl
 have f0 := F6.out.cell (o := 0) rfl
 have f1 := F6.out.cell (o := 1) rfl
 have f2 := F6.out.cell (o := 2) rfl
 have x0 := K6.out.cell (o := 0) rfl
 have x1 := K6.out.cell (o := 1) rfl
 have x2 := K6.out.cell (o := 2) rfl
 have x3 := K6.out.cell (o := 3) rfl
 have x4 := K6.out.cell (o := 4) rfl
 have CH := hide (fun (W : World) (hb : Below w6.heap.size w6 W) => (toHeap_any wa wc la lc 0 w.heap.size h W hB.out (HY.out.1.keep (B6.out.trans (hb.mono B6.out.size))) (HY.out.2.keep (B6.out.trans (hb.mono B6.out.size))) (Nat.le_trans B6.out.size hb.size)))
 have CE : Hid (∀ (W : World) (hb : Below w6.heap.size w6 W) (n7 m7 : Option Addr), PMh true W w6.heap.size W.heap.size n7 m7 h → Calls Tryz.prog 16 #[.agg #[.slice n4 h.words.length h.words.length, .int .i64 h.old, .int .i64 h.oldAt, .int .i64 h.youngAt, .slice m4 h.log.length h.log.length], .agg #[.slice n7 h.words.length h.words.length, .int .i64 h.old, .int .i64 h.oldAt, .int .i64 h.youngAt, .slice m7 h.log.length h.log.length]] W fun e w' => e = .returned (.bool true) ∧ Below W.heap.size W w') := fun W hb n7 m7 hm => by
  obtain ⟨h8, q1, q2, q3, q4⟩ := (Y7.out.below hb)
  exact eqHeap_g n4 n7 m4 m7 _ _ _ _ _ _ _ _ h W hB.out q3 q4 hm.1 hm.2 q2 (Nat.le_refl _)
 go_wp2_with fail
 go_region_held3 (fun w' => (w'.cell? ⟨w.heap.size, 0, none⟩ = some (.slice wa h.words.length wc)) ∧ (w'.cell? ⟨w.heap.size, 1, none⟩ = some (.int .i64 h.old)) ∧ (w'.cell? ⟨w.heap.size, 2, none⟩ = some (.int .i64 h.oldAt)) ∧ (w'.cell? ⟨w.heap.size, 3, none⟩ = some (.int .i64 h.youngAt)) ∧ (w'.cell? ⟨w.heap.size, 4, none⟩ = some (.slice la h.log.length lc)) ∧ (w'.cell? ⟨xb, 0, none⟩ = some (.slice n4 h.words.length h.words.length)) ∧ (w'.cell? ⟨xb, 1, none⟩ = some (.int .i64 h.old)) ∧ (w'.cell? ⟨xb, 2, none⟩ = some (.int .i64 h.oldAt)) ∧ (w'.cell? ⟨xb, 3, none⟩ = some (.int .i64 h.youngAt)) ∧ (w'.cell? ⟨xb, 4, none⟩ = some (.slice m4 h.log.length h.log.length)))
  (go_keep)
  ((first
   | (go_at_call 13; refine (CH.out _ ((Below.refl _ _).drew)).mono ?_; rintro e w7 ⟨n7, m7, rfl, y7, y8, b7'⟩; have b7 : Below w6.heap.size w6 w7 := (Below.refl _ w6).drew.trans b7'; have Z7 : Hid (PMh true w7 w6.heap.size w7.heap.size n7 m7 h) := ⟨y7, y8⟩; have B7 := hide b7; have p0 := (H6.out.below b7 H6.out.lt).cell (o := 0) rfl; have p1 := (H6.out.below b7 H6.out.lt).cell (o := 1) rfl; have p2 := (H6.out.below b7 H6.out.lt).cell (o := 2) rfl; have p3 := (H6.out.below b7 H6.out.lt).cell (o := 3) rfl; have p4 := (H6.out.below b7 H6.out.lt).cell (o := 4) rfl; have x0 := (K6.out.below b7 K6.out.lt).cell (o := 0) rfl; have x1 := (K6.out.below b7 K6.out.lt).cell (o := 1) rfl; have x2 := (K6.out.below b7 K6.out.lt).cell (o := 2) rfl; have x3 := (K6.out.below b7 K6.out.lt).cell (o := 3) rfl; have x4 := (K6.out.below b7 K6.out.lt).cell (o := 4) rfl; clear y7 y8 b7 b7')
   | (go_at_call 16; refine (CE.out _ B7.out n7 m7 Z7.out).mono ?_; rintro e w8 ⟨rfl, b8⟩; have B8 := hide (B6.out.trans ((B7.out.trans (b8.mono B7.out.size)).mono B6.out.size)); have b7 := B7.out.trans (b8.mono B7.out.size); have p0 := (H6.out.below b7 H6.out.lt).cell (o := 0) rfl; have p1 := (H6.out.below b7 H6.out.lt).cell (o := 1) rfl; have p2 := (H6.out.below b7 H6.out.lt).cell (o := 2) rfl; have p3 := (H6.out.below b7 H6.out.lt).cell (o := 3) rfl; have p4 := (H6.out.below b7 H6.out.lt).cell (o := 4) rfl; have x0 := (K6.out.below b7 K6.out.lt).cell (o := 0) rfl; have x1 := (K6.out.below b7 K6.out.lt).cell (o := 1) rfl; have x2 := (K6.out.below b7 K6.out.lt).cell (o := 2) rfl; have x3 := (K6.out.below b7 K6.out.lt).cell (o := 3) rfl; have x4 := (K6.out.below b7 K6.out.lt).cell (o := 4) rfl; clear b7 b8)))
 rename_i hHeld
 clear hHeld
 go_wp2_with fail
 go_ret
 exact ⟨rfl, B8.out⟩
end Go.Proofs.YtgobajjllnhlkaaGreatDoor
