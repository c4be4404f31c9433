/- The law FnExactRootsOk, walked. -/
import Derived.Test.YtembifoimiochaaGreatDoorPhL
import Derived.Test.YtembifoimiochaaGreatDoorGenVal
import Derived.Test.YtembifoimiochaaGreatDoorRoI
import Derived.Test.YtembifoimiochaaGreatDoorRoS
namespace Go.Proofs.YtembifoimiochaaGreatDoor
open Go.ChangeShapes Go.WideShapes Go.ChangeAt Go.RowKit Go.Deep
set_option linter.unusedVariables false
set_option linter.unusedSimpArgs false

/-- Values in a block of their own, from lo on. -/
def VN (w : World) (lo : Nat) (n : Option Addr) (xs : List GVal) : Prop := ∃ hi, lo ≤ hi ∧ hi ≤ w.heap.size ∧ ValsM true w lo hi n xs
theorem VN.below {w w' : World} {lo : Nat} {n : Option Addr} {xs : List GVal} (h : VN w lo n xs) (hb : Below w.heap.size w w') : VN w' lo n xs := by
 obtain ⟨hi, h1, h2, h3⟩ := h
 exact ⟨hi, h1, Nat.le_trans h2 hb.size, h3.keep (hb.mono h2)⟩
theorem specRootsOk_new (na na4 nb nr : Option Addr) (lo lo' lr : Nat) (gs : List (List Ty)) (h : GHeap) (rs : List GVal) (w : World) (hN : Few gs) (hB : HeapB 1048576 h) (hI : HI h) (hV : ValsB 1048576 rs) (hx : GN w lo nb gs) (hy : HN w lo' na na4 h) (hz : VN w lr nr rs) :
  Calls Tryz.prog 7 #[.slice nb gs.length gs.length, heapV h na na4 h.words.length h.log.length, .slice nr rs.length rs.length] w fun e w' => e = .returned (.bool (rootsOkF gs h rs)) ∧ Below w.heap.size w w' := by
 obtain ⟨hi, h1, h2, h3⟩ := hx
 obtain ⟨hi2, H2⟩ := hy.hin hB hI
 obtain ⟨hi3, h4, h5, h6⟩ := hz
 exact specRootsOk_any nb nr gs.length rs.length lo hi lr hi3 gs h rs na na4 h.words.length h.log.length 0 hi2 w hN (Nat.le_refl _) h1 h2 h3.plain H2 h6 h5 hV
theorem implRootsOk_new (na na4 nb nr : Option Addr) (lo lo' lr : Nat) (gs : List (List Ty)) (h : GHeap) (rs : List GVal) (w : World) (hN : Few gs) (hB : HeapB 1048576 h) (hI : HI h) (hV : ValsB 1048576 rs) (hx : GN w lo nb gs) (hy : HN w lo' na na4 h) (hz : VN w lr nr rs) (hp : pow10 w) :
  Calls Tryz.prog 11 #[.slice nb gs.length gs.length, heapV h na na4 h.words.length h.log.length, .slice nr rs.length rs.length] w fun e w' => e = .returned (.bool (rootsOkF gs h rs)) ∧ Below w.heap.size w w' := by
 obtain ⟨hi, h1, h2, h3⟩ := hx
 obtain ⟨hi2, H2⟩ := hy.hin hB hI
 obtain ⟨hi3, h4, h5, h6⟩ := hz
 exact implRootsOk_any nb nr gs.length rs.length lo hi lr hi3 gs h rs na na4 h.words.length h.log.length hi2 w hN h1 h2 h3.plain hp H2 H2.hh h6 h5 hV

set_option maxHeartbeats 6400000 in
set_option maxRecDepth 100000 in
theorem fnExactRootsOk_walk (a : Option Addr) (cap : Nat) (gs : List (List Ty)) (wa la : Option Addr) (wc lc : Nat) (h : GHeap) (ra : Option Addr) (rc : Nat) (rs : List GVal) (w : World) (hl : Lens gs) (hx : GroupsIn w 0 w.heap.size a gs) (hlh : HeapB 9223372036854775807 h) (hy : PMh false w 0 w.heap.size wa la h) (hI : HI h) (hlr : ValsB 9223372036854775807 rs) (hr0 : ValsM false w 0 w.heap.size ra rs) (hp : pow10 w) :
 Calls Tryz.prog 3 #[.slice a gs.length cap, heapV h wa la wc lc, .slice ra rs.length rc] w fun e w' => e = .returned (.bool true) ∧ Below w.heap.size w w' := by
 obtain ⟨W0, hW0⟩ : ∃ W0, W0 = w.alloc (.cells #[.slice wa h.words.length wc, .int .i64 h.old, .int .i64 h.oldAt, .int .i64 h.youngAt, .slice la h.log.length lc] 25) := ⟨_, rfl⟩
 have b0 : Below w.heap.size w W0 := by rw [hW0]; exact (Below.refl _ _).alloc (Nat.le_refl _) _
 have r0H : Rec W0 w.heap.size 25 [.slice wa h.words.length wc, .int .i64 h.old, .int .i64 h.oldAt, .int .i64 h.youngAt, .slice la h.log.length lc] := by rw [hW0]; exact Rec.new _ _ _
 have HX := hide hx
 have HP := hide hp
 have HLn := hide hl
 have HLt := hide hlh
 have HY := hide hy
 have HIh := hide hI
 have HLr := hide hlr
 have HR0 := hide hr0
 have BB := hide b0
 have RH := hide r0H
 clear hx hp hl hlh hy hI hlr hr0 b0 r0H
 unfold heapV
 go_enter Tryz.func3, Tryz.ntmps3
 go_upto_region 1 with (fail)
 rw [← hW0]
 clear hW0
 go_wp2_with fail
 refine (szTypeSS_any a cap 0 w.heap.size gs 1048576 _ HLn.out (HX.out.keep BB.out) BB.out.size (by omega) (by omega)).mono ?_
 rintro e w0 ⟨r, rfl, r1, r2, r3, hb0⟩
 have B0 := hide (BB.out.trans (hb0.mono BB.out.size))
 have H0 := hide (RH.out.below hb0 RH.out.lt)
 clear hb0 BB RH
 by_cases hr : r < 0
 ·clear r3
  go_wp2_with fail
  go_ret
  exact ⟨rfl, B0.out⟩
 have hf := hide (r3 (by omega))
 clear r3
 have p0 := H0.out.cell (o := 0) rfl
 have p1 := H0.out.cell (o := 1) rfl
 have p2 := H0.out.cell (o := 2) rfl
 have p3 := H0.out.cell (o := 3) rfl
 have p4 := H0.out.cell (o := 4) rfl
 go_wp2_with fail
 refine (szHeap_any wa la wc lc 0 w.heap.size h r w0 HLt.out (HY.out.1.keep B0.out) (HY.out.2.keep B0.out) B0.out.size (by omega) (by omega)).mono ?_
 rintro e w9 ⟨r', rfl, r4, r5, r6, hb9⟩
 have B9 := hide (B0.out.trans (hb9.mono B0.out.size))
 have H9 := hide (H0.out.below hb9 H0.out.lt)
 clear hb9 B0 H0 p0 p1 p2 p3 p4
 by_cases hr' : r' < 0
 ·clear r6
  go_wp2_with fail
  go_ret
  exact ⟨rfl, B9.out⟩
 have hB := hide (r6 (by omega))
 clear r6
 go_wp2_with fail
 refine (szValS_g ra rc 0 w.heap.size rs r' w9 HLr.out (HR0.out.keep B9.out) B9.out.size (by omega) (by omega)).mono ?_
 rintro e w9b ⟨r'', rfl, r7, r8, r9, hb9b⟩
 have B9b := hide (B9.out.trans (hb9b.mono B9.out.size))
 have H9b := hide (H9.out.below hb9b H9.out.lt)
 clear hb9b B9 H9
 by_cases hr'' : r'' < 0
 ·clear r9
  go_wp2_with fail
  go_ret
  exact ⟨rfl, B9b.out⟩
 have hV := hide (r9 (by omega))
 clear r9
 obtain ⟨w9, hw9⟩ : ∃ x, x = w9b := ⟨_, rfl⟩
 subst hw9
 have B9 := B9b
 have H9 := H9b
 clear B9b H9b
 have p0 := H9.out.cell (o := 0) rfl
 have p1 := H9.out.cell (o := 1) rfl
 have p2 := H9.out.cell (o := 2) rfl
 have p3 := H9.out.cell (o := 3) rfl
 have p4 := H9.out.cell (o := 4) rfl
 go_wp2_with fail
 go_region_held3 (fun w' => (w'.cell? ⟨w.heap.size, 0, none⟩ = some (.slice wa h.words.length wc)) ∧ (w'.cell? ⟨w.heap.size, 1, none⟩ = some (.int .i64 h.old)) ∧ (w'.cell? ⟨w.heap.size, 2, none⟩ = some (.int .i64 h.oldAt)) ∧ (w'.cell? ⟨w.heap.size, 3, none⟩ = some (.int .i64 h.youngAt)) ∧ (w'.cell? ⟨w.heap.size, 4, none⟩ = some (.slice la h.log.length lc)))
  (go_keep)
  ((first
   | (go_at_call 8; refine (toTypeSS_any a cap 0 w.heap.size gs _ hf.out (HX.out.keep B9.out.drew) B9.out.drew.size).mono ?_; rintro e w1 ⟨n1, rfl, hx1, hb1⟩; have B1 := hide (B9.out.drew.trans (hb1.mono B9.out.size)); have H1 : Hid (Rec w1 w.heap.size 25 [.slice wa h.words.length wc, .int .i64 h.old, .int .i64 h.oldAt, .int .i64 h.youngAt, .slice la h.log.length lc]) := Rec.below (w := w9.drew) H9.out hb1 H9.out.lt; have X1 : Hid (GN w1 w9.heap.size n1 gs) := ⟨_, hb1.size, Nat.le_refl _, hx1⟩; clear hx1 hb1; have p0 := H1.out.cell (o := 0) rfl; have p1 := H1.out.cell (o := 1) rfl; have p2 := H1.out.cell (o := 2) rfl; have p3 := H1.out.cell (o := 3) rfl; have p4 := H1.out.cell (o := 4) rfl)
   | (go_at_call 9; refine (toHeap_any wa wc la lc 0 w.heap.size h _ hB.out (HY.out.1.keep B1.out) (HY.out.2.keep B1.out) B1.out.size).mono ?_; rintro e w2 ⟨n2, m2, rfl, hy2, hy3, hb2⟩; have B1 := hide (B1.out.trans (hb2.mono B1.out.size)); have H1 := hide (H1.out.below hb2 H1.out.lt); have X1 := hide (X1.out.below hb2); have Y1 : Hid (HN w2 _ n2 m2 h) := ⟨_, hb2.size, Nat.le_refl _, hy2, hy3⟩; clear hb2 hy2 hy3; have p0 := H1.out.cell (o := 0) rfl; have p1 := H1.out.cell (o := 1) rfl; have p2 := H1.out.cell (o := 2) rfl; have p3 := H1.out.cell (o := 3) rfl; have p4 := H1.out.cell (o := 4) rfl)
   | (go_at_call 10; refine (toValS_g ra rc 0 w.heap.size rs _ hV.out (HR0.out.keep B1.out) B1.out.size).mono ?_; rintro e w2 ⟨n5, rfl, hz2, hb2⟩; have B1 := hide (B1.out.trans (hb2.mono B1.out.size)); have H1 := hide (H1.out.below hb2 H1.out.lt); have X1 := hide (X1.out.below hb2); have Y1 := hide (Y1.out.below hb2); have Z1 : Hid (VN w2 _ n5 rs) := ⟨_, hb2.size, Nat.le_refl _, hz2⟩; clear hb2 hz2; have p0 := H1.out.cell (o := 0) rfl; have p1 := H1.out.cell (o := 1) rfl; have p2 := H1.out.cell (o := 2) rfl; have p3 := H1.out.cell (o := 3) rfl; have p4 := H1.out.cell (o := 4) rfl)
   | (go_at_call 7; refine (specRootsOk_new _ _ _ _ _ _ _ gs h rs _ hf.out hB.out HIh.out hV.out X1.out Y1.out Z1.out).mono ?_; rintro e w2 ⟨rfl, hb2⟩; have B1 := hide (B1.out.trans (hb2.mono B1.out.size)); have H1 := hide (H1.out.below hb2 H1.out.lt); have X1 := hide (X1.out.below hb2); have Y1 := hide (Y1.out.below hb2); have Z1 := hide (Z1.out.below hb2); clear hb2; have p0 := H1.out.cell (o := 0) rfl; have p1 := H1.out.cell (o := 1) rfl; have p2 := H1.out.cell (o := 2) rfl; have p3 := H1.out.cell (o := 3) rfl; have p4 := H1.out.cell (o := 4) rfl)))
 rename_i hHeld
 clear hHeld X1 Y1 Z1 H9
 go_wp2_with fail
 refine (toTypeSS_any a cap 0 w.heap.size gs _ hf.out (HX.out.keep B1.out) B1.out.size).mono ?_
 rintro e w3 ⟨n3, rfl, hx3, hb3⟩
 have X3 : Hid (GN w3 _ n3 gs) := ⟨_, hb3.size, Nat.le_refl _, hx3⟩
 have B3 := hide (B1.out.trans (hb3.mono B1.out.size))
 have H3 := hide (H1.out.below hb3 H1.out.lt)
 clear hx3 hb3 H1 p0 p1 p2 p3 p4
 have p0 := H3.out.cell (o := 0) rfl
 have p1 := H3.out.cell (o := 1) rfl
 have p2 := H3.out.cell (o := 2) rfl
 have p3 := H3.out.cell (o := 3) rfl
 have p4 := H3.out.cell (o := 4) rfl
 go_wp2_with fail
 refine (toHeap_any wa wc la lc 0 w.heap.size h _ hB.out (HY.out.1.keep B3.out) (HY.out.2.keep B3.out) B3.out.size).mono ?_
 rintro e w4 ⟨n4, m4, rfl, hy4, hy5, hb4⟩
 have Y4 : Hid (HN w4 _ n4 m4 h) := ⟨_, hb4.size, Nat.le_refl _, hy4, hy5⟩
 have X4 := hide (X3.out.below hb4)
 have B4 := hide (B3.out.trans (hb4.mono B3.out.size))
 have H4 := hide (H3.out.below hb4 H3.out.lt)
 clear hy4 hy5 hb4 X3 H3 p0 p1 p2 p3 p4
 obtain ⟨W5, hW5⟩ : ∃ W5, W5 = w4.alloc (.cells #[.slice n4 h.words.length h.words.length, .int .i64 h.old, .int .i64 h.oldAt, .int .i64 h.youngAt, .slice m4 h.log.length h.log.length] 33) := ⟨_, rfl⟩
 obtain ⟨xb, hxb⟩ : ∃ xb, xb = w4.heap.size := ⟨_, rfl⟩
 have b5 : Below w4.heap.size w4 W5 := by rw [hW5]; exact (Below.refl _ _).alloc (Nat.le_refl _) _
 have K5 : Hid (Rec W5 xb 33 [.slice n4 h.words.length h.words.length, .int .i64 h.old, .int .i64 h.oldAt, .int .i64 h.youngAt, .slice m4 h.log.length h.log.length]) := by show Rec _ _ _ _; rw [hW5, hxb]; exact Rec.new _ _ _
 have B5 := hide (B4.out.trans (b5.mono B4.out.size))
 have X5 := hide (X4.out.below b5)
 have Y5 := hide (Y4.out.below b5)
 have H5 := hide (H4.out.below b5 H4.out.lt)
 have hxl : w.heap.size ≤ xb := by rw [hxb]; exact B4.out.size
 clear b5 X4 Y4 B4 H4
 have p0 := H5.out.cell (o := 0) rfl
 have p1 := H5.out.cell (o := 1) rfl
 have p2 := H5.out.cell (o := 2) rfl
 have p3 := H5.out.cell (o := 3) rfl
 have p4 := H5.out.cell (o := 4) rfl
 have x0 := K5.out.cell (o := 0) rfl
 have x1 := K5.out.cell (o := 1) rfl
 have x2 := K5.out.cell (o := 2) rfl
 have x3 := K5.out.cell (o := 3) rfl
 have x4 := K5.out.cell (o := 4) rfl
 go_upto_region 14 with (fail)
 rw [← hW5]
 try rw [← hxb]
 clear hW5 hxb
 go_wp2_with fail
 refine (toValS_g ra rc 0 w.heap.size rs _ hV.out (HR0.out.keep B5.out) B5.out.size).mono ?_
 rintro e w5b ⟨n6, rfl, hz6, hb6⟩
 have Z5b : Hid (VN w5b _ n6 rs) := ⟨_, hb6.size, Nat.le_refl _, hz6⟩
 have X5b := hide (X5.out.below hb6)
 have Y5b := hide (Y5.out.below hb6)
 have B5b := hide (B5.out.trans (hb6.mono B5.out.size))
 have H5b := hide (H5.out.below hb6 H5.out.lt)
 have K5b := hide (K5.out.below hb6 K5.out.lt)
 clear hz6 hb6 B5 X5 Y5 H5 K5 p0 p1 p2 p3 p4 x0 x1 x2 x3 x4
 have p0 := H5b.out.cell (o := 0) rfl
 have p1 := H5b.out.cell (o := 1) rfl
 have p2 := H5b.out.cell (o := 2) rfl
 have p3 := H5b.out.cell (o := 3) rfl
 have p4 := H5b.out.cell (o := 4) rfl
 have x0 := K5b.out.cell (o := 0) rfl
 have x1 := K5b.out.cell (o := 1) rfl
 have x2 := K5b.out.cell (o := 2) rfl
 have x3 := K5b.out.cell (o := 3) rfl
 have x4 := K5b.out.cell (o := 4) rfl
 go_wp2_with fail
 refine (implRootsOk_new _ _ _ _ _ _ _ gs h rs _ hf.out hB.out HIh.out hV.out X5b.out Y5b.out Z5b.out (pow10_keep HP.out B5b.out)).mono ?_
 rintro e w2 ⟨rfl, hb2⟩
 have B1 := hide (B5b.out.trans (hb2.mono B5b.out.size))
 have X1 := hide (X5b.out.below hb2)
 have Y1 := hide (Y5b.out.below hb2)
 have Z1 := hide (Z5b.out.below hb2)
 have H1 := hide (H5b.out.below hb2 H5b.out.lt)
 have K1 := hide (K5b.out.below hb2 K5b.out.lt)
 clear hb2 B5b X5b Y5b Z5b H5b K5b p0 p1 p2 p3 p4 x0 x1 x2 x3 x4
 have p0 := H1.out.cell (o := 0) rfl
 have p1 := H1.out.cell (o := 1) rfl
 have p2 := H1.out.cell (o := 2) rfl
 have p3 := H1.out.cell (o := 3) rfl
 have p4 := H1.out.cell (o := 4) rfl
 have x0 := K1.out.cell (o := 0) rfl
 have x1 := K1.out.cell (o := 1) rfl
 have x2 := K1.out.cell (o := 2) rfl
 have x3 := K1.out.cell (o := 3) rfl
 have x4 := K1.out.cell (o := 4) rfl
 generalize rootsOkF gs h rs = R
 go_wp2_with fail
 refine (toTypeSS_any a cap 0 w.heap.size gs _ hf.out (HX.out.keep B1.out) B1.out.size).mono ?_
 rintro e w5 ⟨n5, rfl, hx5, hb5⟩
 have X5 : Hid (GN w5 _ n5 gs) := ⟨_, hb5.size, Nat.le_refl _, hx5⟩
 have X6 := hide (X1.out.below hb5)
 have Y6 := hide (Y1.out.below hb5)
 have Z6 := hide (Z1.out.below hb5)
 have B5 := hide (B1.out.trans (hb5.mono B1.out.size))
 have H5 := hide (H1.out.below hb5 H1.out.lt)
 have K5 := hide (K1.out.below hb5 K1.out.lt)
 clear hx5 hb5
 go_wp2_with fail
 obtain ⟨h6, p1', p2', p3'⟩ := X6.out
 obtain ⟨h5, p4', p5', p6'⟩ := X5.out
 refine (eqTypeSS_same n3 n5 _ _ _ _ _ _ gs _ hf.out p3'.plain p6'.plain p2' p5').mono ?_
 rintro e w6 ⟨rfl, hb6⟩
 have Y7 := hide (Y6.out.below hb6)
 have Z7v := hide (Z6.out.below hb6)
 have B6 := hide (B5.out.trans (hb6.mono B5.out.size))
 have H6 := hide (H5.out.below hb6 H5.out.lt)
 have K6 := hide (K5.out.below hb6 K5.out.lt)
 clear hb6 p1' p2' p3' p4' p5' p6' X1 X5 X6 Y1 Y6 Z1 Z6 B1 B5 H1 K1 H5 K5 p0 p1 p2 p3 p4 x0 x1 x2 x3 x4
 have p0 := H6.out.cell (o := 0) rfl
 have p1 := H6.out.cell (o := 1) rfl
 have p2 := H6.out.cell (o := 2) rfl
 have p3 := H6.out.cell (o := 3) rfl
 have p4 := H6.out.cell (o := 4) rfl
 have x0 := K6.out.cell (o := 0) rfl
 have x1 := K6.out.cell (o := 1) rfl
 have x2 := K6.out.cell (o := 2) rfl
 have x3 := K6.out.cell (o := 3) rfl
 have x4 := K6.out.cell (o := 4) rfl
 have CH := hide (fun (W : World) (hb : Below w6.heap.size w6 W) => (toHeap_any wa wc la lc 0 w.heap.size h W hB.out (HY.out.1.keep (B6.out.trans (hb.mono B6.out.size))) (HY.out.2.keep (B6.out.trans (hb.mono B6.out.size))) (Nat.le_trans B6.out.size hb.size)))
 have CE : Hid (∀ (W : World) (hb : Below w6.heap.size w6 W) (n7 m7 : Option Addr), PMh true W w6.heap.size W.heap.size n7 m7 h → Calls Tryz.prog 13 #[.agg #[.slice n4 h.words.length h.words.length, .int .i64 h.old, .int .i64 h.oldAt, .int .i64 h.youngAt, .slice m4 h.log.length h.log.length], .agg #[.slice n7 h.words.length h.words.length, .int .i64 h.old, .int .i64 h.oldAt, .int .i64 h.youngAt, .slice m7 h.log.length h.log.length]] W fun e w' => e = .returned (.bool true) ∧ Below W.heap.size W w') := fun W hb n7 m7 hm => by
  obtain ⟨h8, q1, q2, q3, q4⟩ := (Y7.out.below hb)
  exact eqHeap_g n4 n7 m4 m7 _ _ _ _ _ _ _ _ h W hB.out q3 q4 hm.1 hm.2 q2 (Nat.le_refl _)
 go_wp2_with fail
 go_region_held3 (fun w' => (w'.cell? ⟨w.heap.size, 0, none⟩ = some (.slice wa h.words.length wc)) ∧ (w'.cell? ⟨w.heap.size, 1, none⟩ = some (.int .i64 h.old)) ∧ (w'.cell? ⟨w.heap.size, 2, none⟩ = some (.int .i64 h.oldAt)) ∧ (w'.cell? ⟨w.heap.size, 3, none⟩ = some (.int .i64 h.youngAt)) ∧ (w'.cell? ⟨w.heap.size, 4, none⟩ = some (.slice la h.log.length lc)) ∧ (w'.cell? ⟨xb, 0, none⟩ = some (.slice n4 h.words.length h.words.length)) ∧ (w'.cell? ⟨xb, 1, none⟩ = some (.int .i64 h.old)) ∧ (w'.cell? ⟨xb, 2, none⟩ = some (.int .i64 h.oldAt)) ∧ (w'.cell? ⟨xb, 3, none⟩ = some (.int .i64 h.youngAt)) ∧ (w'.cell? ⟨xb, 4, none⟩ = some (.slice m4 h.log.length h.log.length)))
  (go_keep)
  ((first
   | (go_at_call 9; refine (CH.out _ ((Below.refl _ _).drew)).mono ?_; rintro e w7 ⟨n7, m7, rfl, y7, y8, b7'⟩; have b7 : Below w6.heap.size w6 w7 := (Below.refl _ w6).drew.trans b7'; have Z7 : Hid (PMh true w7 w6.heap.size w7.heap.size n7 m7 h) := ⟨y7, y8⟩; have B7 := hide b7; have p0 := (H6.out.below b7 H6.out.lt).cell (o := 0) rfl; have p1 := (H6.out.below b7 H6.out.lt).cell (o := 1) rfl; have p2 := (H6.out.below b7 H6.out.lt).cell (o := 2) rfl; have p3 := (H6.out.below b7 H6.out.lt).cell (o := 3) rfl; have p4 := (H6.out.below b7 H6.out.lt).cell (o := 4) rfl; have x0 := (K6.out.below b7 K6.out.lt).cell (o := 0) rfl; have x1 := (K6.out.below b7 K6.out.lt).cell (o := 1) rfl; have x2 := (K6.out.below b7 K6.out.lt).cell (o := 2) rfl; have x3 := (K6.out.below b7 K6.out.lt).cell (o := 3) rfl; have x4 := (K6.out.below b7 K6.out.lt).cell (o := 4) rfl; clear y7 y8 b7 b7')
   | (go_at_call 13; refine (CE.out _ B7.out n7 m7 Z7.out).mono ?_; rintro e w8 ⟨rfl, b8⟩; have B8 := hide (B6.out.trans ((B7.out.trans (b8.mono B7.out.size)).mono B6.out.size)); have Z8v := hide (Z7v.out.below (B7.out.trans (b8.mono B7.out.size))); have b7 := B7.out.trans (b8.mono B7.out.size); have p0 := (H6.out.below b7 H6.out.lt).cell (o := 0) rfl; have p1 := (H6.out.below b7 H6.out.lt).cell (o := 1) rfl; have p2 := (H6.out.below b7 H6.out.lt).cell (o := 2) rfl; have p3 := (H6.out.below b7 H6.out.lt).cell (o := 3) rfl; have p4 := (H6.out.below b7 H6.out.lt).cell (o := 4) rfl; have x0 := (K6.out.below b7 K6.out.lt).cell (o := 0) rfl; have x1 := (K6.out.below b7 K6.out.lt).cell (o := 1) rfl; have x2 := (K6.out.below b7 K6.out.lt).cell (o := 2) rfl; have x3 := (K6.out.below b7 K6.out.lt).cell (o := 3) rfl; have x4 := (K6.out.below b7 K6.out.lt).cell (o := 4) rfl; clear b7 b8)))
 rename_i hHeld
 clear hHeld
 go_wp2_with fail
 refine (toValS_g ra rc 0 w.heap.size rs _ hV.out (HR0.out.keep B8.out) B8.out.size).mono ?_
 rintro e w20 ⟨n20, rfl, hz20, hb20⟩
 have Z20 := hide (Z8v.out.below hb20)
 have B20 := hide (B8.out.trans (hb20.mono B8.out.size))
 go_wp2_with fail
 obtain ⟨h21, s1, s2, s3⟩ := Z20.out
 refine (eqValS_g n6 n20 _ _ _ _ _ _ rs w20 hV.out s3 hz20 s2 (Nat.le_refl _)).mono ?_
 rintro e w21 ⟨rfl, hb21⟩
 have B21 := hide (B20.out.trans (hb21.mono B20.out.size))
 clear hb21 hz20 hb20
 go_wp2_with fail
 go_ret
 exact ⟨rfl, B21.out⟩
end Go.Proofs.YtembifoimiochaaGreatDoor
