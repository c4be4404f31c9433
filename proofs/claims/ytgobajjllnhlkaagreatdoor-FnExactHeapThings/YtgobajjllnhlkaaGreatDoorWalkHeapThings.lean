/- The law FnExactHeapThings, walked. -/
import Derived.Test.YtgobajjllnhlkaaGreatDoorPhM
import Derived.Test.YtgobajjllnhlkaaGreatDoorPhG
import Derived.Test.YtgobajjllnhlkaaGreatDoorPhS
namespace Go.Proofs.YtgobajjllnhlkaaGreatDoor
open Go.ChangeShapes Go.WideShapes Go.ChangeAt Go.RowKit Go.Deep
set_option linter.unusedVariables false
set_option linter.unusedSimpArgs false

theorem LnB.low {w : World} {l l' u : Nat} {a : Option Addr} {xs : List Int} (h : LnB w l u a xs) (hl : l' ≤ l) : LnB w l' u a xs := by
 rcases h with h | ⟨g, m, e, h1, h2⟩
 ·exact .inl h
 ·exact .inr ⟨g, m, e, by omega, h2⟩
theorem specHeapThings_new (na na4 nb : Option Addr) (lo lo' : Nat) (gs : List (List Ty)) (h : GHeap) (w : World) (hN : Few gs) (hB : HeapB 1048576 h) (hI : HI h) (hx : GN w lo nb gs) (hy : HN w lo' na na4 h) :
  Calls Tryz.prog 17 #[.slice nb gs.length gs.length, heapV h na na4 h.words.length h.log.length] w fun e w' => ∃ ta tc, e = .returned (.slice ta (thingsF gs h).length tc) ∧ LnB w' 0 w'.heap.size ta (thingsF gs h) ∧ Below w.heap.size w w' := by
 obtain ⟨hi, h1, h2, h3⟩ := hx
 obtain ⟨hi2, H2⟩ := hy.hin hB hI
 refine (specHeapThings_any nb gs.length lo hi gs h na na4 h.words.length h.log.length 0 hi2 w hN (Nat.le_refl _) h1 h2 h3.plain H2).mono ?_
 rintro e w' ⟨g, c, rfl, hr, hb⟩
 exact ⟨_, c, rfl, hr.lnB.low (Nat.zero_le _), hb⟩
theorem implHeapThings_new (na na4 nb : Option Addr) (lo lo' : Nat) (gs : List (List Ty)) (h : GHeap) (w : World) (hN : Few gs) (hB : HeapB 1048576 h) (hI : HI h) (hx : GN w lo nb gs) (hy : HN w lo' na na4 h) (hp : pow10 w) :
  Calls Tryz.prog 18 #[.slice nb gs.length gs.length, heapV h na na4 h.words.length h.log.length] w fun e w' => ∃ ta tc, e = .returned (.slice ta (thingsF gs h).length tc) ∧ LnB w' w.heap.size w'.heap.size ta (thingsF gs h) ∧ Below w.heap.size w w' := by
 obtain ⟨hi, h1, h2, h3⟩ := hx
 obtain ⟨hi2, H2⟩ := hy.hin hB hI
 refine (implHeapThings_any nb gs.length lo hi gs h na na4 h.words.length h.log.length hi2 w hN h1 h2 h3.plain hp H2 H2.hh).mono ?_
 rintro e w' ⟨a, c, rfl, hr, hb⟩
 exact ⟨a, c, rfl, hr.lnB, hb⟩
theorem thingsF_few (gs : List (List Ty)) (h : GHeap) : (thingsF gs h).length ≤ 1048576 := by
 unfold thingsF
 split
 ·rename_i e
  have := starts_len (gs := gs) (heapOk_ok e).2.2
  omega
 ·exact Nat.zero_le _

set_option maxHeartbeats 6400000 in
set_option maxRecDepth 100000 in
theorem fnExactHeapThings_walk (a : Option Addr) (cap : Nat) (gs : List (List Ty)) (wa la : Option Addr) (wc lc : Nat) (h : GHeap) (w : World) (hl : Lens gs) (hx : GroupsIn w 0 w.heap.size a gs) (hlh : HeapB 9223372036854775807 h) (hy : PMh false w 0 w.heap.size wa la h) (hI : HI h) (hp : pow10 w) :
 Calls Tryz.prog 4 #[.slice a gs.length cap, heapV h wa la wc lc] w fun e w' => e = .returned (.bool true) ∧ Below w.heap.size w w' := by
 obtain ⟨W0, hW0⟩ : ∃ W0, W0 = w.alloc (.cells #[.slice wa h.words.length wc, .int .i64 h.old, .int .i64 h.oldAt, .int .i64 h.youngAt, .slice la h.log.length lc] 25) := ⟨_, rfl⟩
 have b0 : Below w.heap.size w W0 := by rw [hW0]; exact (Below.refl _ _).alloc (Nat.le_refl _) _
 have r0H : Rec W0 w.heap.size 25 [.slice wa h.words.length wc, .int .i64 h.old, .int .i64 h.oldAt, .int .i64 h.youngAt, .slice la h.log.length lc] := by rw [hW0]; exact Rec.new _ _ _
 have HX := hide hx
 have HP := hide hp
 have HLn := hide hl
 have HLt := hide hlh
 have HY := hide hy
 have HIh := hide hI
 have BB := hide b0
 have RH := hide r0H
 clear hx hp hl hlh hy hI b0 r0H
 have HFew := hide (thingsF_few gs h)
 have HSp := hide (fun (na na4 nb : Option Addr) (lo lo' : Nat) (W : World) (hN : Few gs) (hB : HeapB 1048576 h) (hx : GN W lo nb gs) (hy : HN W lo' na na4 h) => specHeapThings_new na na4 nb lo lo' gs h W hN hB HIh.out hx hy)
 have HIm := hide (fun (na na4 nb : Option Addr) (lo lo' : Nat) (W : World) (hN : Few gs) (hB : HeapB 1048576 h) (hx : GN W lo nb gs) (hy : HN W lo' na na4 h) (hp : pow10 W) => implHeapThings_new na na4 nb lo lo' gs h W hN hB HIh.out hx hy hp)
 generalize thingsF gs h = xs at *
 unfold heapV at *
 go_enter Tryz.func4, Tryz.ntmps4
 go_upto_region 1 with (fail)
 rw [← hW0]
 clear hW0
 go_wp2_with fail
 refine (szTypeSS_any a cap 0 w.heap.size gs 1048576 _ HLn.out (HX.out.keep BB.out) BB.out.size (by omega) (by omega)).mono ?_
 rintro e w0 ⟨r, rfl, r1, r2, r3, hb0⟩
 have B0 := hide (BB.out.trans (hb0.mono BB.out.size))
 have P0 := hide (RH.out.below hb0 RH.out.lt)
 clear hb0 BB RH
 by_cases hr : r < 0
 ·clear r3
  go_wp2_with fail
  go_ret
  exact ⟨rfl, B0.out⟩
 have hf := hide (r3 (by omega))
 clear r3
 have p0 := P0.out.cell (o := 0) rfl
 have p1 := P0.out.cell (o := 1) rfl
 have p2 := P0.out.cell (o := 2) rfl
 have p3 := P0.out.cell (o := 3) rfl
 have p4 := P0.out.cell (o := 4) rfl
 go_wp2_with fail
 refine (szHeap_any wa la wc lc 0 w.heap.size h r w0 HLt.out (HY.out.1.keep B0.out) (HY.out.2.keep B0.out) B0.out.size (by omega) (by omega)).mono ?_
 rintro e w9 ⟨r', rfl, r4, r5, r6, hb9⟩
 have B9 := hide (B0.out.trans (hb9.mono B0.out.size))
 have P9 := hide (P0.out.below hb9 P0.out.lt)
 clear hb9 B0 P0 p0 p1 p2 p3 p4
 by_cases hr' : r' < 0
 ·clear r6
  go_wp2_with fail
  go_ret
  exact ⟨rfl, B9.out⟩
 have hB := hide (r6 (by omega))
 clear r6
 have p0 := P9.out.cell (o := 0) rfl
 have p1 := P9.out.cell (o := 1) rfl
 have p2 := P9.out.cell (o := 2) rfl
 have p3 := P9.out.cell (o := 3) rfl
 have p4 := P9.out.cell (o := 4) rfl
 go_wp2_with fail
 go_region_held3 (fun w' => (w'.cell? ⟨w.heap.size, 0, none⟩ = some (.slice wa h.words.length wc)) ∧ (w'.cell? ⟨w.heap.size, 1, none⟩ = some (.int .i64 h.old)) ∧ (w'.cell? ⟨w.heap.size, 2, none⟩ = some (.int .i64 h.oldAt)) ∧ (w'.cell? ⟨w.heap.size, 3, none⟩ = some (.int .i64 h.youngAt)) ∧ (w'.cell? ⟨w.heap.size, 4, none⟩ = some (.slice la h.log.length lc)))
  (go_keep)
  ((first
   | (go_at_call 12; refine (toTypeSS_any a cap 0 w.heap.size gs _ hf.out (HX.out.keep B9.out.drew) B9.out.drew.size).mono ?_; rintro e w1 ⟨n1, rfl, hx1, hb1⟩; have B1 := hide (B9.out.drew.trans (hb1.mono B9.out.size)); have P1 : Hid (Rec w1 w.heap.size 25 [.slice wa h.words.length wc, .int .i64 h.old, .int .i64 h.oldAt, .int .i64 h.youngAt, .slice la h.log.length lc]) := Rec.below (w := w9.drew) P9.out hb1 P9.out.lt; have X1 : Hid (GN w1 w9.heap.size n1 gs) := ⟨_, hb1.size, Nat.le_refl _, hx1⟩; clear hx1 hb1; have p0 := P1.out.cell (o := 0) rfl; have p1 := P1.out.cell (o := 1) rfl; have p2 := P1.out.cell (o := 2) rfl; have p3 := P1.out.cell (o := 3) rfl; have p4 := P1.out.cell (o := 4) rfl)
   | (go_at_call 13; refine (toHeap_any wa wc la lc 0 w.heap.size h _ hB.out (HY.out.1.keep B1.out) (HY.out.2.keep B1.out) B1.out.size).mono ?_; rintro e w2 ⟨n2, m2, rfl, hy2, hy3, hb2⟩; have B1 := hide (B1.out.trans (hb2.mono B1.out.size)); have P1 := hide (P1.out.below hb2 P1.out.lt); have X1 := hide (X1.out.below hb2); have Y1 : Hid (HN w2 _ n2 m2 h) := ⟨_, hb2.size, Nat.le_refl _, hy2, hy3⟩; clear hb2 hy2 hy3; have p0 := P1.out.cell (o := 0) rfl; have p1 := P1.out.cell (o := 1) rfl; have p2 := P1.out.cell (o := 2) rfl; have p3 := P1.out.cell (o := 3) rfl; have p4 := P1.out.cell (o := 4) rfl)
   | (go_at_call 17; refine (HSp.out _ _ _ _ _ _ hf.out hB.out X1.out Y1.out).mono ?_; rintro e w2 ⟨ta, tc, rfl, hT, hb2⟩; have B1 := hide (B1.out.trans (hb2.mono B1.out.size)); have P1 := hide (P1.out.below hb2 P1.out.lt); have T1 := hide hT; clear hb2 hT; have p0 := P1.out.cell (o := 0) rfl; have p1 := P1.out.cell (o := 1) rfl; have p2 := P1.out.cell (o := 2) rfl; have p3 := P1.out.cell (o := 3) rfl; have p4 := P1.out.cell (o := 4) rfl)))
 rename_i hHeld
 clear hHeld X1 Y1 P9 B9 HSp
 have z1 := B1.out.size
 have z1b : w.heap.size < w2.heap.size := P1.out.lt
 go_wp2_with fail
 refine (toTypeSS_any a cap 0 w.heap.size gs _ hf.out (HX.out.keep B1.out) B1.out.size).mono ?_
 rintro e w3 ⟨n3, rfl, hx3, hb3⟩
 have X3 : Hid (GX w3 w2.heap.size w3.heap.size n3 gs) := hx3
 have T3 := hide (T1.out.step (StepB.of_below hb3) (Nat.le_refl _) (by omega))
 have B3 := hide (B1.out.trans (hb3.mono B1.out.size))
 have P3 := hide (P1.out.below hb3 P1.out.lt)
 have z3 := hb3.size
 clear hx3 hb3 B1 P1 T1 p0 p1 p2 p3 p4
 have p0 := P3.out.cell (o := 0) rfl
 have p1 := P3.out.cell (o := 1) rfl
 have p2 := P3.out.cell (o := 2) rfl
 have p3 := P3.out.cell (o := 3) rfl
 have p4 := P3.out.cell (o := 4) rfl
 go_wp2_with fail
 refine (toHeap_any wa wc la lc 0 w.heap.size h _ hB.out (HY.out.1.keep B3.out) (HY.out.2.keep B3.out) B3.out.size).mono ?_
 rintro e w4 ⟨n4, m4, rfl, hy4, hy5, hb4⟩
 have Y4 : Hid (PMh true w4 w3.heap.size w4.heap.size n4 m4 h) := ⟨hy4, hy5⟩
 have X4 := hide (X3.out.step hb4 (Nat.le_refl _))
 have T4 := hide (T3.out.step (StepB.of_below hb4) (by omega) (by omega))
 have B4 := hide (B3.out.trans (hb4.mono B3.out.size))
 have P4 := hide (P3.out.below hb4 P3.out.lt)
 have z4 := hb4.size
 clear hy4 hy5 hb4 X3 T3 B3 P3 p0 p1 p2 p3 p4
 obtain ⟨W5, hW5⟩ : ∃ W5, W5 = w4.alloc (.cells #[.slice n4 h.words.length h.words.length, .int .i64 h.old, .int .i64 h.oldAt, .int .i64 h.youngAt, .slice m4 h.log.length h.log.length] 31) := ⟨_, rfl⟩
 obtain ⟨xb, hxb⟩ : ∃ xb, xb = w4.heap.size := ⟨_, rfl⟩
 have b5 : Below w4.heap.size w4 W5 := by rw [hW5]; exact (Below.refl _ _).alloc (Nat.le_refl _) _
 have K5 : Hid (Rec W5 xb 31 [.slice n4 h.words.length h.words.length, .int .i64 h.old, .int .i64 h.oldAt, .int .i64 h.youngAt, .slice m4 h.log.length h.log.length]) := by show Rec _ _ _ _; rw [hW5, hxb]; exact Rec.new _ _ _
 have z5 : xb < W5.heap.size := K5.out.lt
 have z6 : w4.heap.size ≤ xb := Nat.le_of_eq hxb.symm
 have z6b : xb ≤ w4.heap.size := Nat.le_of_eq hxb
 have X5 := hide (X4.out.step b5 (by omega))
 have Y5 := hide (Y4.out.stepB b5 (Nat.le_refl _))
 have T5 := hide (T4.out.step (StepB.of_below b5) (by omega) (by omega))
 have B5 := hide (B4.out.trans (b5.mono B4.out.size))
 have P5 := hide (P4.out.below b5 P4.out.lt)
 clear b5 X4 Y4 B4 P4 T4
 have p0 := P5.out.cell (o := 0) rfl
 have p1 := P5.out.cell (o := 1) rfl
 have p2 := P5.out.cell (o := 2) rfl
 have p3 := P5.out.cell (o := 3) rfl
 have p4 := P5.out.cell (o := 4) rfl
 have x0 := K5.out.cell (o := 0) rfl
 have x1 := K5.out.cell (o := 1) rfl
 have x2 := K5.out.cell (o := 2) rfl
 have x3 := K5.out.cell (o := 3) rfl
 have x4 := K5.out.cell (o := 4) rfl
 go_upto_region 11 with (fail)
 rw [← hW5]
 try rw [← hxb]
 clear hW5 hxb
 go_wp2_with fail
 refine (HIm.out _ _ _ w2.heap.size w3.heap.size _ hf.out hB.out ⟨w3.heap.size, z3, by omega, X5.out⟩ ⟨w4.heap.size, z4, by omega, Y5.out⟩ (pow10_keep HP.out B5.out)).mono ?_
 rintro e w6 ⟨ga, gc, rfl, hG, hb6⟩
 have G6 := hide hG
 have X6 := hide (X5.out.step hb6 (by omega))
 have Y6 := hide (Y5.out.stepB hb6 (by omega))
 have T6 := hide (T5.out.step (StepB.of_below hb6) (by omega) (by omega))
 have B6 := hide (B5.out.trans (hb6.mono B5.out.size))
 have P6 := hide (P5.out.below hb6 P5.out.lt)
 have K6 := hide (K5.out.below hb6 K5.out.lt)
 have z7 := hb6.size
 clear hG hb6 X5 Y5 T5 B5 P5 K5 p0 p1 p2 p3 p4 x0 x1 x2 x3 x4
 go_wp2_with fail
 refine (eqLn HFew.out G6.out T6.out).mono ?_
 rintro e w7 ⟨rfl, hb7⟩
 have st := StepB.of_below hb7
 have B7 := hide (Below.step B6.out (Nat.le_refl _) st (by omega))
 have P7 := hide (P6.out.step st (by omega))
 have K7 := hide (K6.out.step st (by omega))
 have T7 := hide (T6.out.step st (by omega) (by omega))
 have G7 := hide (G6.out.step st (by omega) (by omega))
 have X7 := hide (X6.out.step hb7 (by omega))
 have Y7 := hide (Y6.out.stepB hb7 (by omega))
 have q7 := hb7.size
 clear st hb7 B6 P6 K6 T6 G6 X6 Y6
 go_wp2_with fail
 refine (toTypeSS_any a cap 0 w.heap.size gs _ hf.out (HX.out.keep B7.out) B7.out.size).mono ?_
 rintro e w8 ⟨n8, rfl, hx8, hb8⟩
 have X8b := hide hx8
 have st := StepB.of_below hb8
 have B8 := hide (Below.step B7.out (Nat.le_refl _) st (by omega))
 have P8 := hide (P7.out.step st (by omega))
 have K8 := hide (K7.out.step st (by omega))
 have T8 := hide (T7.out.step st (by omega) (by omega))
 have G8 := hide (G7.out.step st (by omega) (by omega))
 have X8 := hide (X7.out.step hb8 (by omega))
 have Y8 := hide (Y7.out.stepB hb8 (by omega))
 have q8 := hb8.size
 clear st hb8 B7 P7 K7 T7 G7 X7 Y7
 clear hx8
 go_wp2_with fail
 refine (eqTypeSS_same n3 n8 _ _ _ _ _ _ gs _ hf.out (GroupsNew.plain X8.out) X8b.out.plain (by omega) (Nat.le_refl _)).mono ?_
 rintro e w10 ⟨rfl, hb10⟩
 clear X8b
 have st := StepB.of_below hb10
 have B10 := hide (Below.step B8.out (Nat.le_refl _) st (by omega))
 have P10 := hide (P8.out.step st (by omega))
 have K10 := hide (K8.out.step st (by omega))
 have T10 := hide (T8.out.step st (by omega) (by omega))
 have G10 := hide (G8.out.step st (by omega) (by omega))
 have X10 := hide (X8.out.step hb10 (by omega))
 have Y10 := hide (Y8.out.stepB hb10 (by omega))
 have q10 := hb10.size
 clear st hb10 B8 P8 K8 T8 G8 X8 Y8
 have p0 := P10.out.cell (o := 0) rfl
 have p1 := P10.out.cell (o := 1) rfl
 have p2 := P10.out.cell (o := 2) rfl
 have p3 := P10.out.cell (o := 3) rfl
 have p4 := P10.out.cell (o := 4) rfl
 have x0 := K10.out.cell (o := 0) rfl
 have x1 := K10.out.cell (o := 1) rfl
 have x2 := K10.out.cell (o := 2) rfl
 have x3 := K10.out.cell (o := 3) rfl
 have x4 := K10.out.cell (o := 4) rfl
 have CH := hide (fun (W : World) (hb : Below w10.heap.size w10 W) => (toHeap_any wa wc la lc 0 w.heap.size h W hB.out (HY.out.1.keep (B10.out.trans (hb.mono B10.out.size))) (HY.out.2.keep (B10.out.trans (hb.mono B10.out.size))) (Nat.le_trans B10.out.size hb.size)))
 have CE : Hid (∀ (W : World) (hb : Below w10.heap.size w10 W) (n7 m7 : Option Addr), PMh true W w10.heap.size W.heap.size n7 m7 h → Calls Tryz.prog 16 #[.agg #[.slice n4 h.words.length h.words.length, .int .i64 h.old, .int .i64 h.oldAt, .int .i64 h.youngAt, .slice m4 h.log.length h.log.length], .agg #[.slice n7 h.words.length h.words.length, .int .i64 h.old, .int .i64 h.oldAt, .int .i64 h.youngAt, .slice m7 h.log.length h.log.length]] W fun e w' => e = .returned (.bool true) ∧ Below W.heap.size W w') := fun W hb n7 m7 hm => by
  have hq := Y10.out.stepB hb (by omega)
  exact eqHeap_g n4 n7 m4 m7 _ _ _ _ w3.heap.size w4.heap.size _ _ h W hB.out hq.1 hq.2 hm.1 hm.2 (by have := hb.size; omega) (Nat.le_refl _)
 go_wp2_with fail
 go_region_held3 (fun w' => (w'.cell? ⟨w.heap.size, 0, none⟩ = some (.slice wa h.words.length wc)) ∧ (w'.cell? ⟨w.heap.size, 1, none⟩ = some (.int .i64 h.old)) ∧ (w'.cell? ⟨w.heap.size, 2, none⟩ = some (.int .i64 h.oldAt)) ∧ (w'.cell? ⟨w.heap.size, 3, none⟩ = some (.int .i64 h.youngAt)) ∧ (w'.cell? ⟨w.heap.size, 4, none⟩ = some (.slice la h.log.length lc)) ∧ (w'.cell? ⟨xb, 0, none⟩ = some (.slice n4 h.words.length h.words.length)) ∧ (w'.cell? ⟨xb, 1, none⟩ = some (.int .i64 h.old)) ∧ (w'.cell? ⟨xb, 2, none⟩ = some (.int .i64 h.oldAt)) ∧ (w'.cell? ⟨xb, 3, none⟩ = some (.int .i64 h.youngAt)) ∧ (w'.cell? ⟨xb, 4, none⟩ = some (.slice m4 h.log.length h.log.length)))
  (go_keep)
  ((first
   | (go_at_call 13; refine (CH.out _ ((Below.refl _ _).drew)).mono ?_; rintro e w7 ⟨n7, m7, rfl, y7, y8, b7'⟩; have b7 : Below w10.heap.size w10 w7 := (Below.refl _ w10).drew.trans b7'; have Z7 : Hid (PMh true w7 w10.heap.size w7.heap.size n7 m7 h) := ⟨y7, y8⟩; have C7 := hide b7; have p0 := (P10.out.below b7 P10.out.lt).cell (o := 0) rfl; have p1 := (P10.out.below b7 P10.out.lt).cell (o := 1) rfl; have p2 := (P10.out.below b7 P10.out.lt).cell (o := 2) rfl; have p3 := (P10.out.below b7 P10.out.lt).cell (o := 3) rfl; have p4 := (P10.out.below b7 P10.out.lt).cell (o := 4) rfl; have x0 := (K10.out.below b7 K10.out.lt).cell (o := 0) rfl; have x1 := (K10.out.below b7 K10.out.lt).cell (o := 1) rfl; have x2 := (K10.out.below b7 K10.out.lt).cell (o := 2) rfl; have x3 := (K10.out.below b7 K10.out.lt).cell (o := 3) rfl; have x4 := (K10.out.below b7 K10.out.lt).cell (o := 4) rfl; clear y7 y8 b7 b7')
   | (go_at_call 16; refine (CE.out _ C7.out n7 m7 Z7.out).mono ?_; rintro e w11 ⟨rfl, b8⟩; have b7 := C7.out.trans (b8.mono C7.out.size); have C11 := hide b7; have p0 := (P10.out.below b7 P10.out.lt).cell (o := 0) rfl; have p1 := (P10.out.below b7 P10.out.lt).cell (o := 1) rfl; have p2 := (P10.out.below b7 P10.out.lt).cell (o := 2) rfl; have p3 := (P10.out.below b7 P10.out.lt).cell (o := 3) rfl; have p4 := (P10.out.below b7 P10.out.lt).cell (o := 4) rfl; have x0 := (K10.out.below b7 K10.out.lt).cell (o := 0) rfl; have x1 := (K10.out.below b7 K10.out.lt).cell (o := 1) rfl; have x2 := (K10.out.below b7 K10.out.lt).cell (o := 2) rfl; have x3 := (K10.out.below b7 K10.out.lt).cell (o := 3) rfl; have x4 := (K10.out.below b7 K10.out.lt).cell (o := 4) rfl; clear b7 b8)))
 rename_i hHeld
 clear hHeld Z7 C7 CH CE p0 p1 p2 p3 p4 x0 x1 x2 x3 x4
 have hb11 := C11.out
 clear C11
 have YS10 := hide Y10.out.sh
 have Y11 := hide (YS10.out.step (StepB.of_below hb11) (by omega) (by omega))
 clear YS10 Y10
 have st := StepB.of_below hb11
 have B11 := hide (Below.step B10.out (Nat.le_refl _) st (by omega))
 have P11 := hide (P10.out.step st (by omega))
 have K11 := hide (K10.out.step st (by omega))
 have T11 := hide (T10.out.step st (by omega) (by omega))
 have G11 := hide (G10.out.step st (by omega) (by omega))
 have X11 := hide (X10.out.step hb11 (by omega))
 have q11 := hb11.size
 clear st hb11 B10 P10 K10 T10 G10 X10
 go_wp2_with fail
 refine (markTypeSS_any n3 gs.length w2.heap.size w3.heap.size gs 1 w11 hf.out (by omega) (by omega) (GroupsNew.shape X11.out)).mono ?_
 rintro e w12 ⟨r12, rfl, r121, r122, hm12⟩
 have st := StepB.of_marks hm12
 have B12 := hide (Below.step B11.out (Nat.le_refl _) st (by omega))
 have P12 := hide (P11.out.step st (by omega))
 have T12 := hide (T11.out.step st (by omega) (by omega))
 have K12 := hide (K11.out.step st (by omega))
 have G12 := hide (G11.out.step st (by omega) (by omega))
 have Y12 := hide (Y11.out.step st (by omega) (by omega))
 have q12 := st.size
 clear st hm12 B11 P11 T11 K11 G11 Y11 X11
 have x0 := K12.out.cell (o := 0) rfl
 have x1 := K12.out.cell (o := 1) rfl
 have x2 := K12.out.cell (o := 2) rfl
 have x3 := K12.out.cell (o := 3) rfl
 have x4 := K12.out.cell (o := 4) rfl
 go_wp2_with fail
 refine (markHeap_m n4 _ m4 _ w3.heap.size w4.heap.size h r12 w12 hB.out (by omega) (by omega) Y12.out.1 Y12.out.2 (by omega)).mono ?_
 rintro e w13 ⟨r13, rfl, r131, r132, hm13⟩
 have st := StepB.of_marksG hm13
 have B13 := hide (Below.step B12.out (Nat.le_refl _) st (by omega))
 have P13 := hide (P12.out.step st (by omega))
 have T13 := hide (T12.out.step st (by omega) (by omega))
 have K13 := hide (K12.out.step st (by omega))
 have G13 := hide (G12.out.step st (by omega) (by omega))
 have q13 := st.size
 clear st hm13 B12 P12 T12 K12 G12 Y12 x0 x1 x2 x3 x4
 have d13 : decide (r13 < 0) = false := by simp; omega
 go_wp2_with fail
 refine (eqLn HFew.out G13.out T13.out).mono ?_
 rintro e w14 ⟨rfl, hb14⟩
 have st := StepB.of_below hb14
 have B14 := hide (Below.step B13.out (Nat.le_refl _) st (by omega))
 have P14 := hide (P13.out.step st (by omega))
 have T14 := hide (T13.out.step st (by omega) (by omega))
 have K14 := hide (K13.out.step st (by omega))
 have G14 := hide (G13.out.step st (by omega) (by omega))
 have q14 := st.size
 clear st hb14 B13 P13 T13 K13 G13 d13
 have hfew := HFew.out
 go_wp2_with fail
 refine (markIntS_m ga gc xs.length W5.heap.size w6.heap.size 1 w14 (by omega) (by omega) (by omega) G14.out.sh).mono ?_
 rintro e w15 ⟨rfl, hm15, hmk⟩
 have M15 := hide hmk
 have st := StepB.of_marksG hm15
 have B15 := hide (Below.step B14.out (Nat.le_refl _) st (by omega))
 have P15 := hide (P14.out.step st (by omega))
 have T15 := hide (T14.out.step st (by omega) (by omega))
 have q15 := st.size
 clear st hm15 hmk B14 P14 T14 K14 G14
 go_wp2_with fail
 refine (heldIntS_m ga gc xs.length W5.heap.size w6.heap.size 1 w15 (by omega) (by omega) (by omega) M15.out).mono ?_
 rintro e w16 ⟨rfl, hb16⟩
 have st := StepB.of_below hb16
 have M16 := hide (M15.out.step st (by omega) (by omega))
 have B16 := hide (Below.step B15.out (Nat.le_refl _) st (by omega))
 have P16 := hide (P15.out.step st (by omega))
 have T16 := hide (T15.out.step st (by omega) (by omega))
 have q16 := st.size
 clear st hb16 B15 P15 T15 M15
 have p0 := P16.out.cell (o := 0) rfl
 have p1 := P16.out.cell (o := 1) rfl
 have p2 := P16.out.cell (o := 2) rfl
 have p3 := P16.out.cell (o := 3) rfl
 have p4 := P16.out.cell (o := 4) rfl
 have d16 : ¬ (1 + (xs.length : Int) < 0) := by omega
 go_wp2_with fail
 go_region_held3 (fun w' => (w'.cell? ⟨w.heap.size, 0, none⟩ = some (.slice wa h.words.length wc)) ∧ (w'.cell? ⟨w.heap.size, 1, none⟩ = some (.int .i64 h.old)) ∧ (w'.cell? ⟨w.heap.size, 2, none⟩ = some (.int .i64 h.oldAt)) ∧ (w'.cell? ⟨w.heap.size, 3, none⟩ = some (.int .i64 h.youngAt)) ∧ (w'.cell? ⟨w.heap.size, 4, none⟩ = some (.slice la h.log.length lc)))
  (go_keep)
  ((first
   | (go_at_call 12; refine (toTypeSS_any a cap 0 w.heap.size gs _ hf.out (HX.out.keep B16.out.drew) B16.out.drew.size).mono ?_; rintro e w17 ⟨n1, rfl, hx1, hb1⟩; have B1 := hide (B16.out.drew.trans (hb1.mono B16.out.size)); have P1 : Hid (Rec w17 w.heap.size 25 [.slice wa h.words.length wc, .int .i64 h.old, .int .i64 h.oldAt, .int .i64 h.youngAt, .slice la h.log.length lc]) := Rec.below (w := w16.drew) P16.out hb1 P16.out.lt; have X1 : Hid (GN w17 w16.heap.size n1 gs) := ⟨_, hb1.size, Nat.le_refl _, hx1⟩; have T1 := hide (LnB.step (w := w16.drew) T16.out (StepB.of_below hb1) (by show _ ≤ w16.heap.size; omega) (by omega)); have M1 := hide (MarkedInt.step (w := w16.drew) M16.out (StepB.of_below hb1) (by show _ ≤ w16.heap.size; omega) (by omega)); have q1 : w16.heap.size ≤ w17.heap.size := hb1.size; clear hx1 hb1; have p0 := P1.out.cell (o := 0) rfl; have p1 := P1.out.cell (o := 1) rfl; have p2 := P1.out.cell (o := 2) rfl; have p3 := P1.out.cell (o := 3) rfl; have p4 := P1.out.cell (o := 4) rfl)
   | (go_at_call 13; refine (toHeap_any wa wc la lc 0 w.heap.size h _ hB.out (HY.out.1.keep B1.out) (HY.out.2.keep B1.out) B1.out.size).mono ?_; rintro e w18 ⟨n2, m2, rfl, hy2, hy3, hb2⟩; have B1 := hide (B1.out.trans (hb2.mono B1.out.size)); have P1 := hide (P1.out.below hb2 P1.out.lt); have X1 := hide (X1.out.below hb2); have T1 := hide (LnB.step (w := _) T1.out (StepB.of_below hb2) (by omega) (by omega)); have M1 := hide (MarkedInt.step (w := _) M1.out (StepB.of_below hb2) (by omega) (by omega)); have q1 : w16.heap.size ≤ w18.heap.size := Nat.le_trans q1 hb2.size; have Y1 : Hid (HN w18 _ n2 m2 h) := ⟨_, hb2.size, Nat.le_refl _, hy2, hy3⟩; clear hb2 hy2 hy3; have p0 := P1.out.cell (o := 0) rfl; have p1 := P1.out.cell (o := 1) rfl; have p2 := P1.out.cell (o := 2) rfl; have p3 := P1.out.cell (o := 3) rfl; have p4 := P1.out.cell (o := 4) rfl)
   | (go_at_call 18; refine (HIm.out _ _ _ _ _ _ hf.out hB.out X1.out Y1.out (pow10_keep HP.out B1.out)).mono ?_; rintro e w19 ⟨ha, hc, rfl, hG, hb2⟩; have B1 := hide (B1.out.trans (hb2.mono B1.out.size)); have P1 := hide (P1.out.below hb2 P1.out.lt); have T1 := hide (LnB.step (w := _) T1.out (StepB.of_below hb2) (by omega) (by omega)); have M1 := hide (MarkedInt.step (w := _) M1.out (StepB.of_below hb2) (by omega) (by omega)); have q1 : w16.heap.size ≤ w19.heap.size := Nat.le_trans q1 hb2.size; have H1 := hide hG; clear hb2 hG; have p0 := P1.out.cell (o := 0) rfl; have p1 := P1.out.cell (o := 1) rfl; have p2 := P1.out.cell (o := 2) rfl; have p3 := P1.out.cell (o := 3) rfl; have p4 := P1.out.cell (o := 4) rfl)))
 rename_i hHeld
 clear hHeld X1 Y1 p0 p1 p2 p3 p4
 go_wp2_with fail
 refine (eqLn HFew.out H1.out T1.out).mono ?_
 rintro e w20 ⟨rfl, hb20⟩
 have M20 := hide (M1.out.step (StepB.of_below hb20) (by omega) (by omega))
 have B20 := hide (B1.out.trans (hb20.mono B1.out.size))
 clear hb20 H1 T1
 go_wp2_with fail
 refine (heldIntS_m ga gc xs.length W5.heap.size w6.heap.size 1 w20 (by omega) (by omega) (by omega) M20.out).mono ?_
 rintro e w21 ⟨rfl, hb21⟩
 have B21 := hide (B20.out.trans (hb21.mono B20.out.size))
 clear hb21
 go_wp2_with fail
 go_ret
 exact ⟨rfl, B21.out⟩
end Go.Proofs.YtgobajjllnhlkaaGreatDoor
