/- The law FnExactHeapGet, walked. -/
import Derived.Test.YtgobajjllnhlkaaGreatDoorPhN
import Derived.Test.YtgobajjllnhlkaaGreatDoorPhU
import Derived.Test.YtgobajjllnhlkaaGreatDoorRegionL
import Derived.Deep.CutRange
namespace Go.Proofs.YtgobajjllnhlkaaGreatDoor
open Go.ChangeShapes Go.WideShapes Go.ChangeAt Go.RowKit Go.Deep
set_option linter.unusedVariables false
set_option linter.unusedSimpArgs false

theorem specHeapGet_new (na na4 nb : Option Addr) (lo lo' : Nat) (gs : List (List Ty)) (h : GHeap) (p : Int) (w : World) (hN : Few gs) (hB : HeapB 1048576 h) (hI : HI h) (hx : GN w lo nb gs) (hy : HN w lo' na na4 h) :
  Calls Tryz.prog 24 #[.slice nb gs.length gs.length, heapV h na na4 h.words.length h.log.length, .int .i64 p] w fun e w' => ∃ ta tc, e = .returned (.tuple #[.agg #[.int .i64 (getT gs h p), .slice ta (getV gs h p).length tc], .bool (getB gs h p)]) ∧ ValsM true w' w.heap.size w'.heap.size ta (getV gs h p) ∧ Below w.heap.size w w' := by
 obtain ⟨hi, h1, h2, h3⟩ := hx
 obtain ⟨hi2, H2⟩ := hy.hin hB hI
 refine (specHeapGet_any nb gs.length lo hi gs h na na4 h.words.length h.log.length 0 hi2 p w hN (Nat.le_refl _) h1 h2 h3.plain H2).mono ?_
 rintro e w' ⟨g, c, rfl, hr, hb⟩
 exact ⟨g, c, rfl, hr.own, hb⟩
theorem implHeapGet_new (na na4 nb : Option Addr) (lo lo' : Nat) (gs : List (List Ty)) (h : GHeap) (p : Int) (w : World) (hN : Few gs) (hB : HeapB 1048576 h) (hI : HI h) (hx : GN w lo nb gs) (hy : HN w lo' na na4 h) (hp : pow10 w) :
  Calls Tryz.prog 25 #[.slice nb gs.length gs.length, heapV h na na4 h.words.length h.log.length, .int .i64 p] w fun e w' => ∃ ta tc, e = .returned (.tuple #[.agg #[.int .i64 (getT gs h p), .slice ta (getV gs h p).length tc], .bool (getB gs h p)]) ∧ ValsM true w' w.heap.size w'.heap.size ta (getV gs h p) ∧ Below w.heap.size w w' := by
 obtain ⟨hi, h1, h2, h3⟩ := hx
 obtain ⟨hi2, H2⟩ := hy.hin hB hI
 refine (implHeapGet_any nb gs.length lo hi gs h na na4 h.words.length h.log.length hi2 p w hN h1 h2 h3.plain hp H2 H2.hh).mono ?_
 rintro e w' ⟨a, c, rfl, hr, hb⟩
 exact ⟨a, c, rfl, hr.own, hb⟩
theorem getV_few (gs : List (List Ty)) (h : GHeap) (p : Int) : (getV gs h p).length ≤ 1048576 := by
 unfold getV
 split
 ·rename_i e
  unfold thingsS at e
  split at e
  ·rename_i ok
   obtain ⟨q, _, h0, _⟩ := starts_w (heapOk_ok ok).2.2 p e
   have := lenF_pos h0
   rename_i hq
   rw [valsTo_len]
   have : lenA gs h p.toNat ≤ 15 := by unfold lenA; omega
   omega
  ·cases e
 ·exact Nat.zero_le _

set_option maxHeartbeats 6400000 in
set_option maxRecDepth 100000 in
theorem fnExactHeapGet_walk (a : Option Addr) (cap : Nat) (gs : List (List Ty)) (wa la : Option Addr) (cw lc : Nat) (h : GHeap) (pa : Int) (wp : (Lit.int .i64 pa).wf = true) (w : World) (hl : Lens gs) (hx : GroupsIn w 0 w.heap.size a gs) (hlh : HeapB 9223372036854775807 h) (hy : PMh false w 0 w.heap.size wa la h) (hI : HI h) (hp : pow10 w) :
 Calls Tryz.prog 5 #[.slice a gs.length cap, heapV h wa la cw lc, .int .i64 pa] w fun e w' => e = .returned (.bool true) ∧ Below w.heap.size w w' := by
 obtain ⟨W0, hW0⟩ : ∃ W0, W0 = w.alloc (.cells #[.slice wa h.words.length cw, .int .i64 h.old, .int .i64 h.oldAt, .int .i64 h.youngAt, .slice la h.log.length lc] 25) := ⟨_, rfl⟩
 have b0 : Below w.heap.size w W0 := by rw [hW0]; exact (Below.refl _ _).alloc (Nat.le_refl _) _
 have r0H : Rec W0 w.heap.size 25 [.slice wa h.words.length cw, .int .i64 h.old, .int .i64 h.oldAt, .int .i64 h.youngAt, .slice la h.log.length lc] := by rw [hW0]; exact Rec.new _ _ _
 have HX := hide hx
 have HP := hide hp
 have HLn := hide hl
 have HLt := hide hlh
 have HY := hide hy
 have HIh := hide hI
 have BB := hide b0
 have RH := hide r0H
 clear hx hp hl hlh hy hI b0 r0H
 have HFew := hide (getV_few gs h pa)
 have HSp := hide (fun (na na4 nb : Option Addr) (lo lo' : Nat) (W : World) (hN : Few gs) (hB : HeapB 1048576 h) (hx : GN W lo nb gs) (hy : HN W lo' na na4 h) => specHeapGet_new na na4 nb lo lo' gs h pa W hN hB HIh.out hx hy)
 have HIm := hide (fun (na na4 nb : Option Addr) (lo lo' : Nat) (W : World) (hN : Few gs) (hB : HeapB 1048576 h) (hx : GN W lo nb gs) (hy : HN W lo' na na4 h) (hp : pow10 W) => implHeapGet_new na na4 nb lo lo' gs h pa W hN hB HIh.out hx hy hp)
 generalize getT gs h pa = ty at *
 generalize getV gs h pa = vs at *
 generalize getB gs h pa = bb at *
 have hbb : (bb != bb) = false := by simp
 unfold heapV at *
 go_enter Tryz.func5, Tryz.ntmps5
 go_upto_region 1 with (fail)
 rw [← hW0]
 clear hW0
 go_wp2_with fail
 refine (szTypeSS_any a cap 0 w.heap.size gs 1048576 _ HLn.out (HX.out.keep BB.out) BB.out.size (by omega) (by omega)).mono ?_
 rintro e w0 ⟨r, rfl, r1, r2, r3, hb0⟩
 have B0 := hide (BB.out.trans (hb0.mono BB.out.size))
 have P0 := hide (RH.out.below hb0 RH.out.lt)
 clear hb0 BB RH
 by_cases hr : r < 0
 ·clear r3
  go_wp2_with fail
  go_ret
  exact ⟨rfl, B0.out⟩
 have hf := hide (r3 (by omega))
 clear r3
 have p0 := P0.out.cell (o := 0) rfl
 have p1 := P0.out.cell (o := 1) rfl
 have p2 := P0.out.cell (o := 2) rfl
 have p3 := P0.out.cell (o := 3) rfl
 have p4 := P0.out.cell (o := 4) rfl
 go_wp2_with fail
 refine (szHeap_any wa la cw lc 0 w.heap.size h r w0 HLt.out (HY.out.1.keep B0.out) (HY.out.2.keep B0.out) B0.out.size (by omega) (by omega)).mono ?_
 rintro e w9 ⟨r', rfl, r4, r5, r6, hb9⟩
 have B9 := hide (B0.out.trans (hb9.mono B0.out.size))
 have P9 := hide (P0.out.below hb9 P0.out.lt)
 clear hb9 B0 P0 p0 p1 p2 p3 p4
 by_cases hr' : r' < 0
 ·clear r6
  go_wp2_with fail
  go_ret
  exact ⟨rfl, B9.out⟩
 have hB := hide (r6 (by omega))
 clear r6
 have p0 := P9.out.cell (o := 0) rfl
 have p1 := P9.out.cell (o := 1) rfl
 have p2 := P9.out.cell (o := 2) rfl
 have p3 := P9.out.cell (o := 3) rfl
 have p4 := P9.out.cell (o := 4) rfl
 go_upto_region 8 with (fail)
 go_cut [8, 9] from 29 to 37 (fun bv ov wx => ∃ (bx : Nat) (ta : Option Addr) (tc : Nat), bv = .pointer (some ⟨bx, 0, none⟩) ∧ ov = .bool bb ∧ w9.heap.size ≤ bx ∧ w9.heap.size ≤ wx.heap.size ∧ Hid (Rec wx bx 43 [.int .i64 ty, .slice ta vs.length tc]) ∧ Hid (ValsM true wx w9.heap.size wx.heap.size ta vs) ∧ Hid (Rec wx w.heap.size 25 [.slice wa h.words.length cw, .int .i64 h.old, .int .i64 h.oldAt, .int .i64 h.youngAt, .slice la h.log.length lc]) ∧ Hid (Below w.heap.size w wx))
 case first =>
  have Bd := hide B9.out.drew
  have zP : w.heap.size < w9.heap.size := P9.out.lt
  have zd : w9.heap.size ≤ w9.drew.heap.size := Nat.le_refl _
  refine beginA (S := fun w' => Rec w' w.heap.size 25 [.slice wa h.words.length cw, .int .i64 h.old, .int .i64 h.oldAt, .int .i64 h.youngAt, .slice la h.log.length lc]) 11 (by kernel_rfl) P9.out (fun hHeld => ?_)
  (try simp only [Act.put, List.setIfInBounds_toArray, List.set_cons_zero, List.set_cons_succ])
  refine takeA (i := 0) (v := ?v0n1) rfl (by kernel_rfl) (by kernel_rfl) (by kernel_rfl) (fun _ _ _ h => h) (by kernel_rfl) (by kernel_rfl) (by assumption) ?y0n1 ?r0n1
  case y0n1 => (intro w hSw; have p0 := hSw.cell (o := 0) rfl; have p1 := hSw.cell (o := 1) rfl; have p2 := hSw.cell (o := 2) rfl; have p3 := hSw.cell (o := 3) rfl; have p4 := hSw.cell (o := 4) rfl; go_simp; try with_reducible rfl)
  (try simp only [Act.put, List.setIfInBounds_toArray, List.set_cons_zero, List.set_cons_succ])
  refine takeA (i := 2) (v := ?v2n2) rfl (by kernel_rfl) (by kernel_rfl) (by kernel_rfl) (fun _ _ _ h => h) (by kernel_rfl) (by kernel_rfl) (by assumption) ?y2n2 ?r2n2
  case y2n2 => (intro w hSw; have p0 := hSw.cell (o := 0) rfl; have p1 := hSw.cell (o := 1) rfl; have p2 := hSw.cell (o := 2) rfl; have p3 := hSw.cell (o := 3) rfl; have p4 := hSw.cell (o := 4) rfl; go_simp; try with_reducible rfl)
  (try simp only [Act.put, List.setIfInBounds_toArray, List.set_cons_zero, List.set_cons_succ])
  refine takeA (i := 4) (v := ?v4n3) rfl (by kernel_rfl) (by kernel_rfl) (by kernel_rfl) (fun _ _ _ h => h) (by kernel_rfl) (by kernel_rfl) (by assumption) ?y4n3 ?r4n3
  case y4n3 => (intro w hSw; have p0 := hSw.cell (o := 0) rfl; have p1 := hSw.cell (o := 1) rfl; have p2 := hSw.cell (o := 2) rfl; have p3 := hSw.cell (o := 3) rfl; have p4 := hSw.cell (o := 4) rfl; go_simp; try with_reducible rfl)
  (try simp only [Act.put, List.setIfInBounds_toArray, List.set_cons_zero, List.set_cons_succ])
  refine readyA (rs := [1, 9]) (by kernel_rfl) (by simp) ?_
  refine AllL.cons rfl (fun K hK => ?_) ?_
  · go_simp
    (go_at_call 12; refine (toTypeSS_any a cap 0 w.heap.size gs _ hf.out (HX.out.keep Bd.out) Bd.out.size).mono ?_; rintro e v1 ⟨nx1, rfl, hx1, hb⟩)
    have sst := StepB.of_below hb
    have z_1 : (w9.drew).heap.size ≤ v1.heap.size := hb.size
    have B_1 := hide (Below.step Bd.out (Nat.le_refl _) sst (.inr rfl))
    have HH := hHeld.step sst (.inr (Nat.zero_le _))
    have X_1 : Hid (GN v1 (w9.drew).heap.size nx1 gs) := ⟨_, hb.size, Nat.le_refl _, hx1⟩
    clear hb sst hx1
    refine hK.out _ _ HH (fun hHeld => ?_)
    clear hK K HH
    (try simp only [Act.put, List.setIfInBounds_toArray, List.set_cons_zero, List.set_cons_succ])
    refine readyA (rs := [3, 9]) (by kernel_rfl) (by simp) ?_
    refine AllL.cons rfl (fun K hK => ?_) ?_
    · go_simp
      (go_at_call 13; refine (toHeap_any wa cw la lc 0 w.heap.size h _ hB.out (HY.out.1.keep B_1.out) (HY.out.2.keep B_1.out) B_1.out.size).mono ?_; rintro e v2 ⟨ny2, my2, rfl, hy2, hy3, hb⟩)
      have sst := StepB.of_below hb
      have z_2 : (v1).heap.size ≤ v2.heap.size := hb.size
      have B_2 := hide (Below.step B_1.out (Nat.le_refl _) sst (.inr rfl))
      have HH := hHeld.step sst (.inr (Nat.zero_le _))
      have X_2 := hide (X_1.out.below hb)
      have Y_2 : Hid (HN v2 (v1).heap.size ny2 my2 h) := ⟨_, hb.size, Nat.le_refl _, hy2, hy3⟩
      clear hb sst hy2 hy3
      refine hK.out _ _ HH (fun hHeld => ?_)
      clear hK K HH
      (try simp only [Act.put, List.setIfInBounds_toArray, List.set_cons_zero, List.set_cons_succ])
      refine readyA (rs := [5, 9]) (by kernel_rfl) (by simp) ?_
      refine AllL.cons rfl (fun K hK => ?_) ?_
      · go_simp
        (go_at_call 24; refine (HSp.out _ _ _ _ _ _ hf.out hB.out X_2.out Y_2.out).mono ?_; rintro e v3 ⟨ta, tc, rfl, hT, hb⟩)
        have sst := StepB.of_below hb
        have z_3 : (v2).heap.size ≤ v3.heap.size := hb.size
        have B_3 := hide (Below.step B_2.out (Nat.le_refl _) sst (.inr rfl))
        have HH := hHeld.step sst (.inr (Nat.zero_le _))
        have X_3 := hide (X_2.out.below hb)
        have T_3 := hide hT
        clear hb sst hT
        refine hK.out _ _ HH (fun hHeld => ?_)
        clear hK K HH
        (try simp only [Act.put, List.setIfInBounds_toArray, List.set_cons_zero, List.set_cons_succ])
        refine takeA (i := 6) (v := ?v6n4) rfl (by kernel_rfl) (by kernel_rfl) (by kernel_rfl) (fun _ _ _ h => h) (by kernel_rfl) (by kernel_rfl) (by assumption) ?y6n4 ?r6n4
        case y6n4 => (intro w hSw; have p0 := hSw.cell (o := 0) rfl; have p1 := hSw.cell (o := 1) rfl; have p2 := hSw.cell (o := 2) rfl; have p3 := hSw.cell (o := 3) rfl; have p4 := hSw.cell (o := 4) rfl; go_simp; try with_reducible rfl)
        (try simp only [Act.put, List.setIfInBounds_toArray, List.set_cons_zero, List.set_cons_succ])
        refine takeA (i := 7) (v := ?v7n5) rfl (by kernel_rfl) (by kernel_rfl) (by kernel_rfl) (fun _ _ _ h => h) (by kernel_rfl) (by kernel_rfl) (by assumption) ?y7n5 ?r7n5
        case y7n5 => (intro w hSw; have p0 := hSw.cell (o := 0) rfl; have p1 := hSw.cell (o := 1) rfl; have p2 := hSw.cell (o := 2) rfl; have p3 := hSw.cell (o := 3) rfl; have p4 := hSw.cell (o := 4) rfl; go_simp; try with_reducible rfl)
        (try simp only [Act.put, List.setIfInBounds_toArray, List.set_cons_zero, List.set_cons_succ])
        refine takeA (i := 8) (v := ?v8n6) rfl (by kernel_rfl) (by kernel_rfl) (by kernel_rfl) (fun _ _ _ h => h) (by kernel_rfl) (by kernel_rfl) (by assumption) ?y8n6 ?r8n6
        case y8n6 => (intro w hSw; have p0 := hSw.cell (o := 0) rfl; have p1 := hSw.cell (o := 1) rfl; have p2 := hSw.cell (o := 2) rfl; have p3 := hSw.cell (o := 3) rfl; have p4 := hSw.cell (o := 4) rfl; go_simp; try with_reducible rfl)
        (try simp only [Act.put, List.setIfInBounds_toArray, List.set_cons_zero, List.set_cons_succ])
        refine readyA (rs := [9]) (by kernel_rfl) (by simp) ?_
        refine AllL.cons rfl (fun K hK => ?_) ?_
        · go_simp
          have hS_4 := hHeld
          have hb : Below (v3).heap.size (v3) ((v3).alloc (.cells #[.int .i64 0, .slice none 0 0] 43)) := (Below.refl _ _).alloc (Nat.le_refl _) _
          have sst := StepB.of_below hb
          have z_4 : (v3).heap.size + 1 ≤ ((v3).alloc (.cells #[.int .i64 0, .slice none 0 0] 43)).heap.size := by simp
          have B_4 := hide (Below.step B_3.out (Nat.le_refl _) sst (.inr rfl))
          have T_4 := hide (ValsM.stepB T_3.out sst (by omega) (.inr (Nat.zero_le _)))
          have HH := hHeld.step sst (.inr (Nat.zero_le _))
          have R_4 : Hid (Rec ((v3).alloc (.cells #[.int .i64 0, .slice none 0 0] 43)) (v3).heap.size 43 [.int .i64 0, .slice none 0 0]) := Rec.new _ _ _
          clear hb sst
          refine hK.out _ _ HH (fun hHeld => ?_)
          clear hK K HH
          (try simp only [Act.put, List.setIfInBounds_toArray, List.set_cons_zero, List.set_cons_succ])
          refine readyA (rs := [10]) (by kernel_rfl) (by simp) ?_
          refine AllL.cons rfl (fun K hK => ?_) ?_
          · go_simp
            have hHeld := hS_4
            have hb : Below (v3).heap.size (v3) ((v3).alloc (.cells #[.int .i64 ty, .slice ta vs.length tc] 43)) := (Below.refl _ _).alloc (Nat.le_refl _) _
            have sst := StepB.of_below hb
            have B_5 := hide (Below.step B_3.out (Nat.le_refl _) sst (.inr rfl))
            have T_5 := hide (ValsM.stepB T_3.out sst (by omega) (.inr (Nat.zero_le _)))
            have HH := hHeld.step sst (.inr (Nat.zero_le _))
            have R_5 : Hid (Rec ((v3).alloc (.cells #[.int .i64 ty, .slice ta vs.length tc] 43)) (v3).heap.size 43 [.int .i64 ty, .slice ta vs.length tc]) := Rec.new _ _ _
            have z_5 : (v3).heap.size + 1 ≤ ((v3).alloc (.cells #[.int .i64 ty, .slice ta vs.length tc] 43)).heap.size := by simp
            clear hb sst
            refine hK.out _ _ HH (fun hHeld => ?_)
            clear hK K HH
            (try simp only [Act.put, List.setIfInBounds_toArray, List.set_cons_zero, List.set_cons_succ])
            refine readyA (rs := [11]) (by kernel_rfl) (by simp) ?_
            refine AllL.last rfl (fun K hK => ?_)
            go_simp
            refine hK.out _ _ ?_
            clear hK K
            (try simp only [Act.put, List.setIfInBounds_toArray, List.set_cons_zero, List.set_cons_succ])
            refine doneA (by kernel_rfl) ?_ _
            go_wp2_with (fail)
            go_meet
            exact ⟨_, ta, tc, rfl, rfl, by omega, by omega, R_5, T_5.out.wid (by omega) (by omega), hHeld, B_5⟩
          exact AllL.nil
        exact AllL.nil
      refine AllL.cons rfl (fun K hK => ?_) ?_
      · go_simp
        have hS_6 := hHeld
        have hb : Below (v2).heap.size (v2) ((v2).alloc (.cells #[.int .i64 0, .slice none 0 0] 43)) := (Below.refl _ _).alloc (Nat.le_refl _) _
        have sst := StepB.of_below hb
        have z_6 : (v2).heap.size + 1 ≤ ((v2).alloc (.cells #[.int .i64 0, .slice none 0 0] 43)).heap.size := by simp
        have B_6 := hide (Below.step B_2.out (Nat.le_refl _) sst (.inr rfl))
        have HH := hHeld.step sst (.inr (Nat.zero_le _))
        have X_6 := hide (X_2.out.below hb)
        have Y_6 := hide (Y_2.out.below hb)
        have R_6 : Hid (Rec ((v2).alloc (.cells #[.int .i64 0, .slice none 0 0] 43)) (v2).heap.size 43 [.int .i64 0, .slice none 0 0]) := Rec.new _ _ _
        clear hb sst
        refine hK.out _ _ HH (fun hHeld => ?_)
        clear hK K HH
        (try simp only [Act.put, List.setIfInBounds_toArray, List.set_cons_zero, List.set_cons_succ])
        refine readyA (rs := [5]) (by kernel_rfl) (by simp) ?_
        refine AllL.cons rfl (fun K hK => ?_) ?_
        · go_simp
          (go_at_call 24; refine (HSp.out _ _ _ _ _ _ hf.out hB.out X_6.out Y_6.out).mono ?_; rintro e v7 ⟨ta, tc, rfl, hT, hb⟩)
          have sst := StepB.of_below hb
          have z_7 : ((v2).alloc (.cells #[.int .i64 0, .slice none 0 0] 43)).heap.size ≤ v7.heap.size := hb.size
          have B_7 := hide (Below.step B_6.out (Nat.le_refl _) sst (.inr rfl))
          have R_7 := hide (Rec.step R_6.out sst (.inr (Nat.zero_le _)))
          have HH := hHeld.step sst (.inr (Nat.zero_le _))
          have X_7 := hide (X_6.out.below hb)
          have T_7 := hide hT
          clear hb sst hT
          refine hK.out _ _ HH (fun hHeld => ?_)
          clear hK K HH
          (try simp only [Act.put, List.setIfInBounds_toArray, List.set_cons_zero, List.set_cons_succ])
          refine takeA (i := 6) (v := ?v6n7) rfl (by kernel_rfl) (by kernel_rfl) (by kernel_rfl) (fun _ _ _ h => h) (by kernel_rfl) (by kernel_rfl) (by assumption) ?y6n7 ?r6n7
          case y6n7 => (intro w hSw; have p0 := hSw.cell (o := 0) rfl; have p1 := hSw.cell (o := 1) rfl; have p2 := hSw.cell (o := 2) rfl; have p3 := hSw.cell (o := 3) rfl; have p4 := hSw.cell (o := 4) rfl; go_simp; try with_reducible rfl)
          (try simp only [Act.put, List.setIfInBounds_toArray, List.set_cons_zero, List.set_cons_succ])
          refine takeA (i := 7) (v := ?v7n8) rfl (by kernel_rfl) (by kernel_rfl) (by kernel_rfl) (fun _ _ _ h => h) (by kernel_rfl) (by kernel_rfl) (by assumption) ?y7n8 ?r7n8
          case y7n8 => (intro w hSw; have p0 := hSw.cell (o := 0) rfl; have p1 := hSw.cell (o := 1) rfl; have p2 := hSw.cell (o := 2) rfl; have p3 := hSw.cell (o := 3) rfl; have p4 := hSw.cell (o := 4) rfl; go_simp; try with_reducible rfl)
          (try simp only [Act.put, List.setIfInBounds_toArray, List.set_cons_zero, List.set_cons_succ])
          refine takeA (i := 8) (v := ?v8n9) rfl (by kernel_rfl) (by kernel_rfl) (by kernel_rfl) (fun _ _ _ h => h) (by kernel_rfl) (by kernel_rfl) (by assumption) ?y8n9 ?r8n9
          case y8n9 => (intro w hSw; have p0 := hSw.cell (o := 0) rfl; have p1 := hSw.cell (o := 1) rfl; have p2 := hSw.cell (o := 2) rfl; have p3 := hSw.cell (o := 3) rfl; have p4 := hSw.cell (o := 4) rfl; go_simp; try with_reducible rfl)
          (try simp only [Act.put, List.setIfInBounds_toArray, List.set_cons_zero, List.set_cons_succ])
          refine readyA (rs := [10]) (by kernel_rfl) (by simp) ?_
          refine AllL.cons rfl (fun K hK => ?_) ?_
          · have hz0 := R_7.out.cell (o := 0) rfl
            have hz1 := R_7.out.cell (o := 1) rfl
            have hf0 := R_7.out.frozen 0
            have hf1 := R_7.out.frozen 1
            go_simp
            have sst : StepB ((v2).heap.size) ((v2).heap.size + 1) (v7) (((v7).setCell ⟨(v2).heap.size, 0, none⟩ (.int .i64 ty)).setCell ⟨(v2).heap.size, 1, none⟩ (.slice ta vs.length tc)) := (StepB.of_set _ _ 0 _).trans (StepB.of_set _ _ 1 _)
            have B_8 := hide (Below.step B_7.out (Nat.le_refl _) sst (.inl (by omega)))
            have T_8 := hide (ValsM.stepB T_7.out sst (by omega) (by omega))
            have HH := hHeld.step sst (by omega)
            have R_8 : Hid (Rec (((v7).setCell ⟨(v2).heap.size, 0, none⟩ (.int .i64 ty)).setCell ⟨(v2).heap.size, 1, none⟩ (.slice ta vs.length tc)) ((v2).heap.size) 43 [.int .i64 ty, .slice ta vs.length tc]) := (R_7.out.set 0 _).set 1 _
            have z_8 : (v7).heap.size ≤ (((v7).setCell ⟨(v2).heap.size, 0, none⟩ (.int .i64 ty)).setCell ⟨(v2).heap.size, 1, none⟩ (.slice ta vs.length tc)).heap.size := sst.size
            clear hz0 hz1 hf0 hf1 sst
            refine hK.out _ _ HH (fun hHeld => ?_)
            clear hK K HH
            (try simp only [Act.put, List.setIfInBounds_toArray, List.set_cons_zero, List.set_cons_succ])
            refine readyA (rs := [11]) (by kernel_rfl) (by simp) ?_
            refine AllL.last rfl (fun K hK => ?_)
            go_simp
            refine hK.out _ _ ?_
            clear hK K
            (try simp only [Act.put, List.setIfInBounds_toArray, List.set_cons_zero, List.set_cons_succ])
            refine doneA (by kernel_rfl) ?_ _
            go_wp2_with (fail)
            go_meet
            exact ⟨_, ta, tc, rfl, rfl, by omega, by omega, R_8, T_8.out.wid (by omega) (by omega), hHeld, B_8⟩
          exact AllL.nil
        exact AllL.nil
      exact AllL.nil
    refine AllL.cons rfl (fun K hK => ?_) ?_
    · go_simp
      have hS_9 := hHeld
      have hb : Below (v1).heap.size (v1) ((v1).alloc (.cells #[.int .i64 0, .slice none 0 0] 43)) := (Below.refl _ _).alloc (Nat.le_refl _) _
      have sst := StepB.of_below hb
      have z_9 : (v1).heap.size + 1 ≤ ((v1).alloc (.cells #[.int .i64 0, .slice none 0 0] 43)).heap.size := by simp
      have B_9 := hide (Below.step B_1.out (Nat.le_refl _) sst (.inr rfl))
      have HH := hHeld.step sst (.inr (Nat.zero_le _))
      have X_9 := hide (X_1.out.below hb)
      have R_9 : Hid (Rec ((v1).alloc (.cells #[.int .i64 0, .slice none 0 0] 43)) (v1).heap.size 43 [.int .i64 0, .slice none 0 0]) := Rec.new _ _ _
      clear hb sst
      refine hK.out _ _ HH (fun hHeld => ?_)
      clear hK K HH
      (try simp only [Act.put, List.setIfInBounds_toArray, List.set_cons_zero, List.set_cons_succ])
      refine readyA (rs := [3]) (by kernel_rfl) (by simp) ?_
      refine AllL.cons rfl (fun K hK => ?_) ?_
      · go_simp
        (go_at_call 13; refine (toHeap_any wa cw la lc 0 w.heap.size h _ hB.out (HY.out.1.keep B_9.out) (HY.out.2.keep B_9.out) B_9.out.size).mono ?_; rintro e v10 ⟨ny10, my10, rfl, hy2, hy3, hb⟩)
        have sst := StepB.of_below hb
        have z_10 : ((v1).alloc (.cells #[.int .i64 0, .slice none 0 0] 43)).heap.size ≤ v10.heap.size := hb.size
        have B_10 := hide (Below.step B_9.out (Nat.le_refl _) sst (.inr rfl))
        have R_10 := hide (Rec.step R_9.out sst (.inr (Nat.zero_le _)))
        have HH := hHeld.step sst (.inr (Nat.zero_le _))
        have X_10 := hide (X_9.out.below hb)
        have Y_10 : Hid (HN v10 ((v1).alloc (.cells #[.int .i64 0, .slice none 0 0] 43)).heap.size ny10 my10 h) := ⟨_, hb.size, Nat.le_refl _, hy2, hy3⟩
        clear hb sst hy2 hy3
        refine hK.out _ _ HH (fun hHeld => ?_)
        clear hK K HH
        (try simp only [Act.put, List.setIfInBounds_toArray, List.set_cons_zero, List.set_cons_succ])
        refine readyA (rs := [5]) (by kernel_rfl) (by simp) ?_
        refine AllL.cons rfl (fun K hK => ?_) ?_
        · go_simp
          (go_at_call 24; refine (HSp.out _ _ _ _ _ _ hf.out hB.out X_10.out Y_10.out).mono ?_; rintro e v11 ⟨ta, tc, rfl, hT, hb⟩)
          have sst := StepB.of_below hb
          have z_11 : (v10).heap.size ≤ v11.heap.size := hb.size
          have B_11 := hide (Below.step B_10.out (Nat.le_refl _) sst (.inr rfl))
          have R_11 := hide (Rec.step R_10.out sst (.inr (Nat.zero_le _)))
          have HH := hHeld.step sst (.inr (Nat.zero_le _))
          have X_11 := hide (X_10.out.below hb)
          have T_11 := hide hT
          clear hb sst hT
          refine hK.out _ _ HH (fun hHeld => ?_)
          clear hK K HH
          (try simp only [Act.put, List.setIfInBounds_toArray, List.set_cons_zero, List.set_cons_succ])
          refine takeA (i := 6) (v := ?v6n10) rfl (by kernel_rfl) (by kernel_rfl) (by kernel_rfl) (fun _ _ _ h => h) (by kernel_rfl) (by kernel_rfl) (by assumption) ?y6n10 ?r6n10
          case y6n10 => (intro w hSw; have p0 := hSw.cell (o := 0) rfl; have p1 := hSw.cell (o := 1) rfl; have p2 := hSw.cell (o := 2) rfl; have p3 := hSw.cell (o := 3) rfl; have p4 := hSw.cell (o := 4) rfl; go_simp; try with_reducible rfl)
          (try simp only [Act.put, List.setIfInBounds_toArray, List.set_cons_zero, List.set_cons_succ])
          refine takeA (i := 7) (v := ?v7n11) rfl (by kernel_rfl) (by kernel_rfl) (by kernel_rfl) (fun _ _ _ h => h) (by kernel_rfl) (by kernel_rfl) (by assumption) ?y7n11 ?r7n11
          case y7n11 => (intro w hSw; have p0 := hSw.cell (o := 0) rfl; have p1 := hSw.cell (o := 1) rfl; have p2 := hSw.cell (o := 2) rfl; have p3 := hSw.cell (o := 3) rfl; have p4 := hSw.cell (o := 4) rfl; go_simp; try with_reducible rfl)
          (try simp only [Act.put, List.setIfInBounds_toArray, List.set_cons_zero, List.set_cons_succ])
          refine takeA (i := 8) (v := ?v8n12) rfl (by kernel_rfl) (by kernel_rfl) (by kernel_rfl) (fun _ _ _ h => h) (by kernel_rfl) (by kernel_rfl) (by assumption) ?y8n12 ?r8n12
          case y8n12 => (intro w hSw; have p0 := hSw.cell (o := 0) rfl; have p1 := hSw.cell (o := 1) rfl; have p2 := hSw.cell (o := 2) rfl; have p3 := hSw.cell (o := 3) rfl; have p4 := hSw.cell (o := 4) rfl; go_simp; try with_reducible rfl)
          (try simp only [Act.put, List.setIfInBounds_toArray, List.set_cons_zero, List.set_cons_succ])
          refine readyA (rs := [10]) (by kernel_rfl) (by simp) ?_
          refine AllL.cons rfl (fun K hK => ?_) ?_
          · have hz0 := R_11.out.cell (o := 0) rfl
            have hz1 := R_11.out.cell (o := 1) rfl
            have hf0 := R_11.out.frozen 0
            have hf1 := R_11.out.frozen 1
            go_simp
            have sst : StepB ((v1).heap.size) ((v1).heap.size + 1) (v11) (((v11).setCell ⟨(v1).heap.size, 0, none⟩ (.int .i64 ty)).setCell ⟨(v1).heap.size, 1, none⟩ (.slice ta vs.length tc)) := (StepB.of_set _ _ 0 _).trans (StepB.of_set _ _ 1 _)
            have B_12 := hide (Below.step B_11.out (Nat.le_refl _) sst (.inl (by omega)))
            have T_12 := hide (ValsM.stepB T_11.out sst (by omega) (by omega))
            have HH := hHeld.step sst (by omega)
            have R_12 : Hid (Rec (((v11).setCell ⟨(v1).heap.size, 0, none⟩ (.int .i64 ty)).setCell ⟨(v1).heap.size, 1, none⟩ (.slice ta vs.length tc)) ((v1).heap.size) 43 [.int .i64 ty, .slice ta vs.length tc]) := (R_11.out.set 0 _).set 1 _
            have z_12 : (v11).heap.size ≤ (((v11).setCell ⟨(v1).heap.size, 0, none⟩ (.int .i64 ty)).setCell ⟨(v1).heap.size, 1, none⟩ (.slice ta vs.length tc)).heap.size := sst.size
            clear hz0 hz1 hf0 hf1 sst
            refine hK.out _ _ HH (fun hHeld => ?_)
            clear hK K HH
            (try simp only [Act.put, List.setIfInBounds_toArray, List.set_cons_zero, List.set_cons_succ])
            refine readyA (rs := [11]) (by kernel_rfl) (by simp) ?_
            refine AllL.last rfl (fun K hK => ?_)
            go_simp
            refine hK.out _ _ ?_
            clear hK K
            (try simp only [Act.put, List.setIfInBounds_toArray, List.set_cons_zero, List.set_cons_succ])
            refine doneA (by kernel_rfl) ?_ _
            go_wp2_with (fail)
            go_meet
            exact ⟨_, ta, tc, rfl, rfl, by omega, by omega, R_12, T_12.out.wid (by omega) (by omega), hHeld, B_12⟩
          exact AllL.nil
        exact AllL.nil
      exact AllL.nil
    exact AllL.nil
  refine AllL.cons rfl (fun K hK => ?_) ?_
  · go_simp
    have hS_13 := hHeld
    have hb : Below (w9.drew).heap.size (w9.drew) ((w9.drew).alloc (.cells #[.int .i64 0, .slice none 0 0] 43)) := (Below.refl _ _).alloc (Nat.le_refl _) _
    have sst := StepB.of_below hb
    have z_13 : (w9.drew).heap.size + 1 ≤ ((w9.drew).alloc (.cells #[.int .i64 0, .slice none 0 0] 43)).heap.size := by simp
    have B_13 := hide (Below.step Bd.out (Nat.le_refl _) sst (.inr rfl))
    have HH := hHeld.step sst (.inr (Nat.zero_le _))
    have R_13 : Hid (Rec ((w9.drew).alloc (.cells #[.int .i64 0, .slice none 0 0] 43)) (w9).heap.size 43 [.int .i64 0, .slice none 0 0]) := Rec.new _ _ _
    clear hb sst
    refine hK.out _ _ HH (fun hHeld => ?_)
    clear hK K HH
    (try simp only [Act.put, List.setIfInBounds_toArray, List.set_cons_zero, List.set_cons_succ])
    refine readyA (rs := [1]) (by kernel_rfl) (by simp) ?_
    refine AllL.cons rfl (fun K hK => ?_) ?_
    · go_simp
      (go_at_call 12; refine (toTypeSS_any a cap 0 w.heap.size gs _ hf.out (HX.out.keep B_13.out) B_13.out.size).mono ?_; rintro e v14 ⟨nx14, rfl, hx1, hb⟩)
      have sst := StepB.of_below hb
      have z_14 : ((w9.drew).alloc (.cells #[.int .i64 0, .slice none 0 0] 43)).heap.size ≤ v14.heap.size := hb.size
      have B_14 := hide (Below.step B_13.out (Nat.le_refl _) sst (.inr rfl))
      have R_14 := hide (Rec.step R_13.out sst (.inr (Nat.zero_le _)))
      have HH := hHeld.step sst (.inr (Nat.zero_le _))
      have X_14 : Hid (GN v14 ((w9.drew).alloc (.cells #[.int .i64 0, .slice none 0 0] 43)).heap.size nx14 gs) := ⟨_, hb.size, Nat.le_refl _, hx1⟩
      clear hb sst hx1
      refine hK.out _ _ HH (fun hHeld => ?_)
      clear hK K HH
      (try simp only [Act.put, List.setIfInBounds_toArray, List.set_cons_zero, List.set_cons_succ])
      refine readyA (rs := [3]) (by kernel_rfl) (by simp) ?_
      refine AllL.cons rfl (fun K hK => ?_) ?_
      · go_simp
        (go_at_call 13; refine (toHeap_any wa cw la lc 0 w.heap.size h _ hB.out (HY.out.1.keep B_14.out) (HY.out.2.keep B_14.out) B_14.out.size).mono ?_; rintro e v15 ⟨ny15, my15, rfl, hy2, hy3, hb⟩)
        have sst := StepB.of_below hb
        have z_15 : (v14).heap.size ≤ v15.heap.size := hb.size
        have B_15 := hide (Below.step B_14.out (Nat.le_refl _) sst (.inr rfl))
        have R_15 := hide (Rec.step R_14.out sst (.inr (Nat.zero_le _)))
        have HH := hHeld.step sst (.inr (Nat.zero_le _))
        have X_15 := hide (X_14.out.below hb)
        have Y_15 : Hid (HN v15 (v14).heap.size ny15 my15 h) := ⟨_, hb.size, Nat.le_refl _, hy2, hy3⟩
        clear hb sst hy2 hy3
        refine hK.out _ _ HH (fun hHeld => ?_)
        clear hK K HH
        (try simp only [Act.put, List.setIfInBounds_toArray, List.set_cons_zero, List.set_cons_succ])
        refine readyA (rs := [5]) (by kernel_rfl) (by simp) ?_
        refine AllL.cons rfl (fun K hK => ?_) ?_
        · go_simp
          (go_at_call 24; refine (HSp.out _ _ _ _ _ _ hf.out hB.out X_15.out Y_15.out).mono ?_; rintro e v16 ⟨ta, tc, rfl, hT, hb⟩)
          have sst := StepB.of_below hb
          have z_16 : (v15).heap.size ≤ v16.heap.size := hb.size
          have B_16 := hide (Below.step B_15.out (Nat.le_refl _) sst (.inr rfl))
          have R_16 := hide (Rec.step R_15.out sst (.inr (Nat.zero_le _)))
          have HH := hHeld.step sst (.inr (Nat.zero_le _))
          have X_16 := hide (X_15.out.below hb)
          have T_16 := hide hT
          clear hb sst hT
          refine hK.out _ _ HH (fun hHeld => ?_)
          clear hK K HH
          (try simp only [Act.put, List.setIfInBounds_toArray, List.set_cons_zero, List.set_cons_succ])
          refine takeA (i := 6) (v := ?v6n13) rfl (by kernel_rfl) (by kernel_rfl) (by kernel_rfl) (fun _ _ _ h => h) (by kernel_rfl) (by kernel_rfl) (by assumption) ?y6n13 ?r6n13
          case y6n13 => (intro w hSw; have p0 := hSw.cell (o := 0) rfl; have p1 := hSw.cell (o := 1) rfl; have p2 := hSw.cell (o := 2) rfl; have p3 := hSw.cell (o := 3) rfl; have p4 := hSw.cell (o := 4) rfl; go_simp; try with_reducible rfl)
          (try simp only [Act.put, List.setIfInBounds_toArray, List.set_cons_zero, List.set_cons_succ])
          refine takeA (i := 7) (v := ?v7n14) rfl (by kernel_rfl) (by kernel_rfl) (by kernel_rfl) (fun _ _ _ h => h) (by kernel_rfl) (by kernel_rfl) (by assumption) ?y7n14 ?r7n14
          case y7n14 => (intro w hSw; have p0 := hSw.cell (o := 0) rfl; have p1 := hSw.cell (o := 1) rfl; have p2 := hSw.cell (o := 2) rfl; have p3 := hSw.cell (o := 3) rfl; have p4 := hSw.cell (o := 4) rfl; go_simp; try with_reducible rfl)
          (try simp only [Act.put, List.setIfInBounds_toArray, List.set_cons_zero, List.set_cons_succ])
          refine takeA (i := 8) (v := ?v8n15) rfl (by kernel_rfl) (by kernel_rfl) (by kernel_rfl) (fun _ _ _ h => h) (by kernel_rfl) (by kernel_rfl) (by assumption) ?y8n15 ?r8n15
          case y8n15 => (intro w hSw; have p0 := hSw.cell (o := 0) rfl; have p1 := hSw.cell (o := 1) rfl; have p2 := hSw.cell (o := 2) rfl; have p3 := hSw.cell (o := 3) rfl; have p4 := hSw.cell (o := 4) rfl; go_simp; try with_reducible rfl)
          (try simp only [Act.put, List.setIfInBounds_toArray, List.set_cons_zero, List.set_cons_succ])
          refine readyA (rs := [10]) (by kernel_rfl) (by simp) ?_
          refine AllL.cons rfl (fun K hK => ?_) ?_
          · have hz0 := R_16.out.cell (o := 0) rfl
            have hz1 := R_16.out.cell (o := 1) rfl
            have hf0 := R_16.out.frozen 0
            have hf1 := R_16.out.frozen 1
            go_simp
            have sst : StepB ((w9).heap.size) ((w9).heap.size + 1) (v16) (((v16).setCell ⟨(w9).heap.size, 0, none⟩ (.int .i64 ty)).setCell ⟨(w9).heap.size, 1, none⟩ (.slice ta vs.length tc)) := (StepB.of_set _ _ 0 _).trans (StepB.of_set _ _ 1 _)
            have B_17 := hide (Below.step B_16.out (Nat.le_refl _) sst (.inl (by omega)))
            have T_17 := hide (ValsM.stepB T_16.out sst (by omega) (by omega))
            have HH := hHeld.step sst (by omega)
            have R_17 : Hid (Rec (((v16).setCell ⟨(w9).heap.size, 0, none⟩ (.int .i64 ty)).setCell ⟨(w9).heap.size, 1, none⟩ (.slice ta vs.length tc)) ((w9).heap.size) 43 [.int .i64 ty, .slice ta vs.length tc]) := (R_16.out.set 0 _).set 1 _
            have z_17 : (v16).heap.size ≤ (((v16).setCell ⟨(w9).heap.size, 0, none⟩ (.int .i64 ty)).setCell ⟨(w9).heap.size, 1, none⟩ (.slice ta vs.length tc)).heap.size := sst.size
            clear hz0 hz1 hf0 hf1 sst
            refine hK.out _ _ HH (fun hHeld => ?_)
            clear hK K HH
            (try simp only [Act.put, List.setIfInBounds_toArray, List.set_cons_zero, List.set_cons_succ])
            refine readyA (rs := [11]) (by kernel_rfl) (by simp) ?_
            refine AllL.last rfl (fun K hK => ?_)
            go_simp
            refine hK.out _ _ ?_
            clear hK K
            (try simp only [Act.put, List.setIfInBounds_toArray, List.set_cons_zero, List.set_cons_succ])
            refine doneA (by kernel_rfl) ?_ _
            go_wp2_with (fail)
            go_meet
            exact ⟨_, ta, tc, rfl, rfl, by omega, by omega, R_17, T_17.out.wid (by omega) (by omega), hHeld, B_17⟩
          exact AllL.nil
        exact AllL.nil
      exact AllL.nil
    exact AllL.nil
  exact AllL.nil
 obtain ⟨b8, ta, tc, rfl, rfl, zb8, zwA, R1, T1, P1, B1⟩ := hcut
 generalize wc = wA at *
 have zb8b : b8 < wA.heap.size := R1.out.lt
 have zPA : w.heap.size < w9.heap.size := P9.out.lt
 have z1 := B1.out.size
 clear B9 P9 HSp
 go_wp2_with fail
 refine (toTypeSS_any a cap 0 w.heap.size gs _ hf.out (HX.out.keep B1.out) B1.out.size).mono ?_
 rintro e w3 ⟨n3, rfl, hx3, hb3⟩
 have X3 : Hid (GX w3 wA.heap.size w3.heap.size n3 gs) := hx3
 have st := StepB.of_below hb3
 have T3 := hide (T1.out.stepB st (Nat.le_refl _) (.inr (Nat.zero_le _)))
 have R3 := hide (R1.out.step st (.inr (Nat.zero_le _)))
 have B3 := hide (B1.out.trans (hb3.mono B1.out.size))
 have P3 := hide (P1.out.below hb3 P1.out.lt)
 have z3 := hb3.size
 clear hx3 hb3 st B1 P1 T1 R1
 have p0 := P3.out.cell (o := 0) rfl
 have p1 := P3.out.cell (o := 1) rfl
 have p2 := P3.out.cell (o := 2) rfl
 have p3 := P3.out.cell (o := 3) rfl
 have p4 := P3.out.cell (o := 4) rfl
 go_wp2_with fail
 refine (toHeap_any wa cw la lc 0 w.heap.size h _ hB.out (HY.out.1.keep B3.out) (HY.out.2.keep B3.out) B3.out.size).mono ?_
 rintro e w4 ⟨n4, m4, rfl, hy4, hy5, hb4⟩
 have Y4 : Hid (PMh true w4 w3.heap.size w4.heap.size n4 m4 h) := ⟨hy4, hy5⟩
 have X4 := hide (X3.out.step hb4 (Nat.le_refl _))
 have st := StepB.of_below hb4
 have T4 := hide (T3.out.stepB st (by omega) (.inr (Nat.zero_le _)))
 have R4 := hide (R3.out.step st (.inr (Nat.zero_le _)))
 have B4 := hide (B3.out.trans (hb4.mono B3.out.size))
 have P4 := hide (P3.out.below hb4 P3.out.lt)
 have z4 := hb4.size
 clear hy4 hy5 hb4 st X3 T3 R3 B3 P3 p0 p1 p2 p3 p4
 obtain ⟨W5, hW5⟩ : ∃ W5, W5 = w4.alloc (.cells #[.slice n4 h.words.length h.words.length, .int .i64 h.old, .int .i64 h.oldAt, .int .i64 h.youngAt, .slice m4 h.log.length h.log.length] 31) := ⟨_, rfl⟩
 obtain ⟨xb, hxb⟩ : ∃ xb, xb = w4.heap.size := ⟨_, rfl⟩
 have b5 : Below w4.heap.size w4 W5 := by rw [hW5]; exact (Below.refl _ _).alloc (Nat.le_refl _) _
 have K5 : Hid (Rec W5 xb 31 [.slice n4 h.words.length h.words.length, .int .i64 h.old, .int .i64 h.oldAt, .int .i64 h.youngAt, .slice m4 h.log.length h.log.length]) := by show Rec _ _ _ _; rw [hW5, hxb]; exact Rec.new _ _ _
 have z5 : xb < W5.heap.size := K5.out.lt
 have z6 : w4.heap.size ≤ xb := Nat.le_of_eq hxb.symm
 have z6b : xb ≤ w4.heap.size := Nat.le_of_eq hxb
 have X5 := hide (X4.out.step b5 (by omega))
 have Y5 := hide (Y4.out.stepB b5 (Nat.le_refl _))
 have st := StepB.of_below b5
 have T5 := hide (T4.out.stepB st (by omega) (.inr (Nat.zero_le _)))
 have R5 := hide (R4.out.step st (.inr (Nat.zero_le _)))
 have B5 := hide (B4.out.trans (b5.mono B4.out.size))
 have P5 := hide (P4.out.below b5 P4.out.lt)
 clear b5 st X4 Y4 B4 P4 T4 R4
 have p0 := P5.out.cell (o := 0) rfl
 have p1 := P5.out.cell (o := 1) rfl
 have p2 := P5.out.cell (o := 2) rfl
 have p3 := P5.out.cell (o := 3) rfl
 have p4 := P5.out.cell (o := 4) rfl
 have x0 := K5.out.cell (o := 0) rfl
 have x1 := K5.out.cell (o := 1) rfl
 have x2 := K5.out.cell (o := 2) rfl
 have x3 := K5.out.cell (o := 3) rfl
 have x4 := K5.out.cell (o := 4) rfl
 go_upto_region 11 with (fail)
 rw [← hW5]
 try rw [← hxb]
 clear hW5 hxb
 go_wp2_with fail
 refine (HIm.out _ _ _ wA.heap.size w3.heap.size _ hf.out hB.out ⟨w3.heap.size, z3, by omega, X5.out⟩ ⟨w4.heap.size, z4, by omega, Y5.out⟩ (pow10_keep HP.out B5.out)).mono ?_
 rintro e w6a ⟨ga, gc, rfl, hG, hb6⟩
 obtain ⟨w6, hw6⟩ : ∃ w6, w6 = w6a.alloc (.cells #[.int .i64 ty, .slice ga vs.length gc] 43) := ⟨_, rfl⟩
 obtain ⟨gb, hgb⟩ : ∃ gb, gb = w6a.heap.size := ⟨_, rfl⟩
 have hb6a : Below w6a.heap.size w6a w6 := by rw [hw6]; exact (Below.refl _ _).alloc (Nat.le_refl _) _
 have Q6 : Hid (Rec w6 gb 43 [.int .i64 ty, .slice ga vs.length gc]) := by show Rec _ _ _ _; rw [hw6, hgb]; exact Rec.new _ _ _
 have z8 : gb < w6.heap.size := Q6.out.lt
 have z9 : w6a.heap.size ≤ gb := Nat.le_of_eq hgb.symm
 have z7a := hb6.size
 have hb7 := hb6.trans (hb6a.mono hb6.size)
 have st := StepB.of_below hb7
 have G6 := hide (ValsM.stepB hG (StepB.of_below hb6a) (Nat.le_refl _) (.inr (Nat.zero_le _)))
 have X6 := hide (X5.out.step hb7 (by omega))
 have Y6 := hide (Y5.out.stepB hb7 (by omega))
 have T6 := hide (T5.out.stepB st (by omega) (.inr (Nat.zero_le _)))
 have R6 := hide (R5.out.step st (.inr (Nat.zero_le _)))
 have B6 := hide (B5.out.trans (hb7.mono B5.out.size))
 have P6 := hide (P5.out.below hb7 P5.out.lt)
 have K6 := hide (K5.out.below hb7 K5.out.lt)
 have z7 := hb7.size
 clear hG hb6 hb6a hb7 st X5 Y5 T5 R5 B5 P5 K5 p0 p1 p2 p3 p4 x0 x1 x2 x3 x4
 have g0 := Q6.out.cell (o := 0) rfl
 have g1 := Q6.out.cell (o := 1) rfl
 have t0 := R6.out.cell (o := 0) rfl
 have t1 := R6.out.cell (o := 1) rfl
 go_upto_region 12 with (fail)
 rw [← hw6]
 try rw [← hgb]
 clear hw6 hgb
 go_wp2_with fail
 refine (eqTh HFew.out G6.out T6.out (by omega) (by omega)).mono ?_
 rintro e w7 ⟨rfl, hb7⟩
 have st := StepB.of_below hb7
 have B7 := hide (Below.step B6.out (Nat.le_refl _) st (.inr rfl))
 have P7 := hide (P6.out.step st (.inr (Nat.zero_le _)))
 have K7 := hide (K6.out.step st (.inr (Nat.zero_le _)))
 have R7 := hide (R6.out.step st (.inr (Nat.zero_le _)))
 have Q7 := hide (Q6.out.step st (.inr (Nat.zero_le _)))
 have T7 := hide (T6.out.stepB st (by omega) (.inr (Nat.zero_le _)))
 have G7 := hide (G6.out.stepB st (by omega) (.inr (Nat.zero_le _)))
 have X7 := hide (X6.out.step hb7 (by omega))
 have Y7 := hide (Y6.out.stepB hb7 (by omega))
 have q7 := hb7.size
 clear st hb7 B6 P6 K6 R6 Q6 T6 G6 X6 Y6
 clear g0 g1 t0 t1
 go_wp2_with fail
 refine (toTypeSS_any a cap 0 w.heap.size gs _ hf.out (HX.out.keep B7.out) B7.out.size).mono ?_
 rintro e w8 ⟨n8, rfl, hx8, hb8⟩
 have X8b := hide hx8
 have st := StepB.of_below hb8
 have B8 := hide (Below.step B7.out (Nat.le_refl _) st (.inr rfl))
 have P8 := hide (P7.out.step st (.inr (Nat.zero_le _)))
 have K8 := hide (K7.out.step st (.inr (Nat.zero_le _)))
 have R8 := hide (R7.out.step st (.inr (Nat.zero_le _)))
 have Q8 := hide (Q7.out.step st (.inr (Nat.zero_le _)))
 have T8 := hide (T7.out.stepB st (by omega) (.inr (Nat.zero_le _)))
 have G8 := hide (G7.out.stepB st (by omega) (.inr (Nat.zero_le _)))
 have X8 := hide (X7.out.step hb8 (by omega))
 have Y8 := hide (Y7.out.stepB hb8 (by omega))
 have q8 := hb8.size
 clear st hb8 B7 P7 K7 R7 Q7 T7 G7 X7 Y7
 clear hx8
 go_wp2_with fail
 refine (eqTypeSS_same n3 n8 _ _ _ _ _ _ gs _ hf.out (GroupsNew.plain X8.out) X8b.out.plain (by omega) (Nat.le_refl _)).mono ?_
 rintro e w10 ⟨rfl, hb10⟩
 clear X8b
 have st := StepB.of_below hb10
 have B10 := hide (Below.step B8.out (Nat.le_refl _) st (.inr rfl))
 have P10 := hide (P8.out.step st (.inr (Nat.zero_le _)))
 have K10 := hide (K8.out.step st (.inr (Nat.zero_le _)))
 have R10 := hide (R8.out.step st (.inr (Nat.zero_le _)))
 have Q10 := hide (Q8.out.step st (.inr (Nat.zero_le _)))
 have T10 := hide (T8.out.stepB st (by omega) (.inr (Nat.zero_le _)))
 have G10 := hide (G8.out.stepB st (by omega) (.inr (Nat.zero_le _)))
 have X10 := hide (X8.out.step hb10 (by omega))
 have Y10 := hide (Y8.out.stepB hb10 (by omega))
 have q10 := hb10.size
 clear st hb10 B8 P8 K8 R8 Q8 T8 G8 X8 Y8
 have p0 := P10.out.cell (o := 0) rfl
 have p1 := P10.out.cell (o := 1) rfl
 have p2 := P10.out.cell (o := 2) rfl
 have p3 := P10.out.cell (o := 3) rfl
 have p4 := P10.out.cell (o := 4) rfl
 have x0 := K10.out.cell (o := 0) rfl
 have x1 := K10.out.cell (o := 1) rfl
 have x2 := K10.out.cell (o := 2) rfl
 have x3 := K10.out.cell (o := 3) rfl
 have x4 := K10.out.cell (o := 4) rfl
 have CH := hide (fun (W : World) (hb : Below w10.heap.size w10 W) => (toHeap_any wa cw la lc 0 w.heap.size h W hB.out (HY.out.1.keep (B10.out.trans (hb.mono B10.out.size))) (HY.out.2.keep (B10.out.trans (hb.mono B10.out.size))) (Nat.le_trans B10.out.size hb.size)))
 have CE : Hid (∀ (W : World) (hb : Below w10.heap.size w10 W) (n7 m7 : Option Addr), PMh true W w10.heap.size W.heap.size n7 m7 h → Calls Tryz.prog 16 #[.agg #[.slice n4 h.words.length h.words.length, .int .i64 h.old, .int .i64 h.oldAt, .int .i64 h.youngAt, .slice m4 h.log.length h.log.length], .agg #[.slice n7 h.words.length h.words.length, .int .i64 h.old, .int .i64 h.oldAt, .int .i64 h.youngAt, .slice m7 h.log.length h.log.length]] W fun e w' => e = .returned (.bool true) ∧ Below W.heap.size W w') := fun W hb n7 m7 hm => by
  have hq := Y10.out.stepB hb (by omega)
  exact eqHeap_g n4 n7 m4 m7 _ _ _ _ w3.heap.size w4.heap.size _ _ h W hB.out hq.1 hq.2 hm.1 hm.2 (by have := hb.size; omega) (Nat.le_refl _)
 go_wp2_with fail
 go_region_held3 (fun w' => (w'.cell? ⟨w.heap.size, 0, none⟩ = some (.slice wa h.words.length cw)) ∧ (w'.cell? ⟨w.heap.size, 1, none⟩ = some (.int .i64 h.old)) ∧ (w'.cell? ⟨w.heap.size, 2, none⟩ = some (.int .i64 h.oldAt)) ∧ (w'.cell? ⟨w.heap.size, 3, none⟩ = some (.int .i64 h.youngAt)) ∧ (w'.cell? ⟨w.heap.size, 4, none⟩ = some (.slice la h.log.length lc)) ∧ (w'.cell? ⟨xb, 0, none⟩ = some (.slice n4 h.words.length h.words.length)) ∧ (w'.cell? ⟨xb, 1, none⟩ = some (.int .i64 h.old)) ∧ (w'.cell? ⟨xb, 2, none⟩ = some (.int .i64 h.oldAt)) ∧ (w'.cell? ⟨xb, 3, none⟩ = some (.int .i64 h.youngAt)) ∧ (w'.cell? ⟨xb, 4, none⟩ = some (.slice m4 h.log.length h.log.length)))
  (go_keep)
  ((first
   | (go_at_call 13; refine (CH.out _ ((Below.refl _ _).drew)).mono ?_; rintro e w7 ⟨n7, m7, rfl, y7, y8, b7'⟩; have b7 : Below w10.heap.size w10 w7 := (Below.refl _ w10).drew.trans b7'; have Z7 : Hid (PMh true w7 w10.heap.size w7.heap.size n7 m7 h) := ⟨y7, y8⟩; have C7 := hide b7; have p0 := (P10.out.below b7 P10.out.lt).cell (o := 0) rfl; have p1 := (P10.out.below b7 P10.out.lt).cell (o := 1) rfl; have p2 := (P10.out.below b7 P10.out.lt).cell (o := 2) rfl; have p3 := (P10.out.below b7 P10.out.lt).cell (o := 3) rfl; have p4 := (P10.out.below b7 P10.out.lt).cell (o := 4) rfl; have x0 := (K10.out.below b7 K10.out.lt).cell (o := 0) rfl; have x1 := (K10.out.below b7 K10.out.lt).cell (o := 1) rfl; have x2 := (K10.out.below b7 K10.out.lt).cell (o := 2) rfl; have x3 := (K10.out.below b7 K10.out.lt).cell (o := 3) rfl; have x4 := (K10.out.below b7 K10.out.lt).cell (o := 4) rfl; clear y7 y8 b7 b7')
   | (go_at_call 16; refine (CE.out _ C7.out n7 m7 Z7.out).mono ?_; rintro e w11 ⟨rfl, b8⟩; have b7 := C7.out.trans (b8.mono C7.out.size); have C11 := hide b7; have p0 := (P10.out.below b7 P10.out.lt).cell (o := 0) rfl; have p1 := (P10.out.below b7 P10.out.lt).cell (o := 1) rfl; have p2 := (P10.out.below b7 P10.out.lt).cell (o := 2) rfl; have p3 := (P10.out.below b7 P10.out.lt).cell (o := 3) rfl; have p4 := (P10.out.below b7 P10.out.lt).cell (o := 4) rfl; have x0 := (K10.out.below b7 K10.out.lt).cell (o := 0) rfl; have x1 := (K10.out.below b7 K10.out.lt).cell (o := 1) rfl; have x2 := (K10.out.below b7 K10.out.lt).cell (o := 2) rfl; have x3 := (K10.out.below b7 K10.out.lt).cell (o := 3) rfl; have x4 := (K10.out.below b7 K10.out.lt).cell (o := 4) rfl; clear b7 b8)))
 rename_i hHeld
 clear hHeld Z7 C7 CH CE p0 p1 p2 p3 p4 x0 x1 x2 x3 x4
 have hb11 := C11.out
 clear C11
 have YS10 := hide Y10.out.sh
 have Y11 := hide (YS10.out.step (StepB.of_below hb11) (by omega) (by omega))
 clear YS10 Y10
 have st := StepB.of_below hb11
 have B11 := hide (Below.step B10.out (Nat.le_refl _) st (.inr rfl))
 have P11 := hide (P10.out.step st (.inr (Nat.zero_le _)))
 have K11 := hide (K10.out.step st (.inr (Nat.zero_le _)))
 have R11 := hide (R10.out.step st (.inr (Nat.zero_le _)))
 have Q11 := hide (Q10.out.step st (.inr (Nat.zero_le _)))
 have T11 := hide (T10.out.stepB st (by omega) (.inr (Nat.zero_le _)))
 have G11 := hide (G10.out.stepB st (by omega) (.inr (Nat.zero_le _)))
 have X11 := hide (X10.out.step hb11 (by omega))
 have q11 := hb11.size
 clear st hb11 B10 P10 K10 R10 Q10 T10 G10 X10
 go_wp2_with fail
 refine (markTypeSS_any n3 gs.length wA.heap.size w3.heap.size gs 1 w11 hf.out (by omega) (by omega) (GroupsNew.shape X11.out)).mono ?_
 rintro e w12 ⟨r12, rfl, r121, r122, hm12⟩
 have st := StepB.of_marks hm12
 have B12 := hide (Below.step B11.out (Nat.le_refl _) st (by omega))
 have P12 := hide (P11.out.step st (by omega))
 have K12 := hide (K11.out.step st (by omega))
 have R12 := hide (R11.out.step st (by omega))
 have Q12 := hide (Q11.out.step st (by omega))
 have T12 := hide (T11.out.stepB st (by omega) (by omega))
 have G12 := hide (G11.out.stepB st (by omega) (by omega))
 have Y12 := hide (Y11.out.step st (by omega) (by omega))
 have q12 := st.size
 clear st hm12 B11 P11 T11 R11 Q11 K11 G11 Y11 X11
 have x0 := K12.out.cell (o := 0) rfl
 have x1 := K12.out.cell (o := 1) rfl
 have x2 := K12.out.cell (o := 2) rfl
 have x3 := K12.out.cell (o := 3) rfl
 have x4 := K12.out.cell (o := 4) rfl
 go_wp2_with fail
 refine (markHeap_m n4 _ m4 _ w3.heap.size w4.heap.size h r12 w12 hB.out (by omega) (by omega) Y12.out.1 Y12.out.2 (by omega)).mono ?_
 rintro e w13 ⟨r13, rfl, r131, r132, hm13⟩
 have st := StepB.of_marksG hm13
 have B13 := hide (Below.step B12.out (Nat.le_refl _) st (by omega))
 have P13 := hide (P12.out.step st (by omega))
 have K13 := hide (K12.out.step st (by omega))
 have R13 := hide (R12.out.step st (by omega))
 have Q13 := hide (Q12.out.step st (by omega))
 have T13 := hide (T12.out.stepB st (by omega) (by omega))
 have G13 := hide (G12.out.stepB st (by omega) (by omega))
 have q13 := st.size
 clear st hm13 B12 P12 T12 R12 Q12 K12 G12 Y12 x0 x1 x2 x3 x4
 have d13 : decide (r13 < 0) = false := by simp; omega
 have g0 := Q13.out.cell (o := 0) rfl
 have g1 := Q13.out.cell (o := 1) rfl
 have t0 := R13.out.cell (o := 0) rfl
 have t1 := R13.out.cell (o := 1) rfl
 go_wp2_with fail
 refine (eqTh HFew.out G13.out T13.out (by omega) (by omega)).mono ?_
 rintro e w14 ⟨rfl, hb14⟩
 have st := StepB.of_below hb14
 have B14 := hide (Below.step B13.out (Nat.le_refl _) st (by omega))
 have P14 := hide (P13.out.step st (by omega))
 have K14 := hide (K13.out.step st (by omega))
 have R14 := hide (R13.out.step st (by omega))
 have Q14 := hide (Q13.out.step st (by omega))
 have T14 := hide (T13.out.stepB st (by omega) (by omega))
 have G14 := hide (G13.out.stepB st (by omega) (by omega))
 have q14 := st.size
 clear st hb14 B13 P13 T13 R13 Q13 K13 G13 g0 g1 t0 t1
 have hfew := HFew.out
 have g0 := Q14.out.cell (o := 0) rfl
 have g1 := Q14.out.cell (o := 1) rfl
 go_wp2_with fail
 refine (markTh ty ga gc vs.length W5.heap.size w6a.heap.size 1 w14 (by omega) (by omega) (by omega) G14.out.shapeG (by omega)).mono ?_
 rintro e w15 ⟨rfl, hm15, hmk⟩
 have M15 := hide hmk
 have st := StepB.of_marksG hm15
 have B15 := hide (Below.step B14.out (Nat.le_refl _) st (by omega))
 have P15 := hide (P14.out.step st (by omega))
 have R15 := hide (R14.out.step st (by omega))
 have Q15 := hide (Q14.out.step st (by omega))
 have T15 := hide (T14.out.stepB st (by omega) (by omega))
 have q15 := st.size
 clear st hm15 hmk d13 B14 P14 T14 R14 Q14 K14 G14 g0 g1
 have g0 := Q15.out.cell (o := 0) rfl
 have g1 := Q15.out.cell (o := 1) rfl
 go_wp2_with fail
 refine (heldTh ty ga gc vs.length W5.heap.size w6a.heap.size 1 w15 (by omega) (by omega) (by omega) M15.out (by omega)).mono ?_
 rintro e w16 ⟨rfl, hb16⟩
 have st := StepB.of_below hb16
 have M16 := hide (M15.out.step st (by omega) (by omega))
 have B16 := hide (Below.step B15.out (Nat.le_refl _) st (by omega))
 have P16 := hide (P15.out.step st (by omega))
 have R16 := hide (R15.out.step st (by omega))
 have Q16 := hide (Q15.out.step st (by omega))
 have T16 := hide (T15.out.stepB st (by omega) (by omega))
 have q16 := st.size
 clear st hb16 B15 P15 T15 R15 Q15 M15 g0 g1
 have d16 : ¬ (1 + 2 * (vs.length : Int) < 0) := by omega
 go_upto_region 31 with (fail)
 have ET16 := T16
 have ER16 := R16
 have EQ16 := Q16
 have EM16 := M16
 go_cut [17, 18] from 98 to 106 (fun bv ov wx => ∃ (bx : Nat) (ja : Option Addr) (jc : Nat), bv = .pointer (some ⟨bx, 0, none⟩) ∧ ov = .bool bb ∧ w16.heap.size ≤ bx ∧ w16.heap.size ≤ wx.heap.size ∧ Hid (Rec wx bx 43 [.int .i64 ty, .slice ja vs.length jc]) ∧ Hid (ValsM true wx w16.heap.size wx.heap.size ja vs) ∧ Hid (Rec wx w.heap.size 25 [.slice wa h.words.length cw, .int .i64 h.old, .int .i64 h.oldAt, .int .i64 h.youngAt, .slice la h.log.length lc]) ∧ Hid (Below w.heap.size w wx) ∧ Hid (ValsM true wx w9.heap.size wA.heap.size ta vs) ∧ Hid (Rec wx b8 43 [.int .i64 ty, .slice ta vs.length tc]) ∧ Hid (Rec wx gb 43 [.int .i64 ty, .slice ga vs.length gc]) ∧ Hid (MarkedVal wx W5.heap.size w6a.heap.size ga vs.length 1))
 case first =>
  have Bd := hide B16.out.drew
  have zP : w.heap.size < w16.heap.size := P16.out.lt
  have zd : w16.heap.size ≤ w16.drew.heap.size := Nat.le_refl _
  have ETd : Hid (ValsM true w16.drew w9.heap.size wA.heap.size ta vs) := ET16.out
  have ERd : Hid (Rec w16.drew b8 43 [.int .i64 ty, .slice ta vs.length tc]) := ER16.out
  have EQd : Hid (Rec w16.drew gb 43 [.int .i64 ty, .slice ga vs.length gc]) := EQ16.out
  have EMd : Hid (MarkedVal w16.drew W5.heap.size w6a.heap.size ga vs.length 1) := EM16.out
  refine beginA (S := fun w' => Rec w' w.heap.size 25 [.slice wa h.words.length cw, .int .i64 h.old, .int .i64 h.oldAt, .int .i64 h.youngAt, .slice la h.log.length lc]) 11 (by kernel_rfl) P16.out (fun hHeld => ?_)
  (try simp only [Act.put, List.setIfInBounds_toArray, List.set_cons_zero, List.set_cons_succ])
  refine takeA (i := 0) (v := ?v0n16) rfl (by kernel_rfl) (by kernel_rfl) (by kernel_rfl) (fun _ _ _ h => h) (by kernel_rfl) (by kernel_rfl) (by assumption) ?y0n16 ?r0n16
  case y0n16 => (intro w hSw; have p0 := hSw.cell (o := 0) rfl; have p1 := hSw.cell (o := 1) rfl; have p2 := hSw.cell (o := 2) rfl; have p3 := hSw.cell (o := 3) rfl; have p4 := hSw.cell (o := 4) rfl; go_simp; try with_reducible rfl)
  (try simp only [Act.put, List.setIfInBounds_toArray, List.set_cons_zero, List.set_cons_succ])
  refine takeA (i := 2) (v := ?v2n17) rfl (by kernel_rfl) (by kernel_rfl) (by kernel_rfl) (fun _ _ _ h => h) (by kernel_rfl) (by kernel_rfl) (by assumption) ?y2n17 ?r2n17
  case y2n17 => (intro w hSw; have p0 := hSw.cell (o := 0) rfl; have p1 := hSw.cell (o := 1) rfl; have p2 := hSw.cell (o := 2) rfl; have p3 := hSw.cell (o := 3) rfl; have p4 := hSw.cell (o := 4) rfl; go_simp; try with_reducible rfl)
  (try simp only [Act.put, List.setIfInBounds_toArray, List.set_cons_zero, List.set_cons_succ])
  refine takeA (i := 4) (v := ?v4n18) rfl (by kernel_rfl) (by kernel_rfl) (by kernel_rfl) (fun _ _ _ h => h) (by kernel_rfl) (by kernel_rfl) (by assumption) ?y4n18 ?r4n18
  case y4n18 => (intro w hSw; have p0 := hSw.cell (o := 0) rfl; have p1 := hSw.cell (o := 1) rfl; have p2 := hSw.cell (o := 2) rfl; have p3 := hSw.cell (o := 3) rfl; have p4 := hSw.cell (o := 4) rfl; go_simp; try with_reducible rfl)
  (try simp only [Act.put, List.setIfInBounds_toArray, List.set_cons_zero, List.set_cons_succ])
  refine readyA (rs := [1, 9]) (by kernel_rfl) (by simp) ?_
  refine AllL.cons rfl (fun K hK => ?_) ?_
  · go_simp
    (go_at_call 12; refine (toTypeSS_any a cap 0 w.heap.size gs _ hf.out (HX.out.keep Bd.out) Bd.out.size).mono ?_; rintro e v18 ⟨nx18, rfl, hx1, hb⟩)
    have sst := StepB.of_below hb
    have z_18 : (w16.drew).heap.size ≤ v18.heap.size := hb.size
    have B_18 := hide (Below.step Bd.out (Nat.le_refl _) sst (.inr rfl))
    have ET_18 := hide (ValsM.stepB ETd.out sst (by omega) (.inr (Nat.zero_le _)))
    have ER_18 := hide (Rec.step ERd.out sst (.inr (Nat.zero_le _)))
    have EQ_18 := hide (Rec.step EQd.out sst (.inr (Nat.zero_le _)))
    have EM_18 := hide (MarkedVal.step EMd.out sst (by omega) (.inr (Nat.zero_le _)))
    have HH := hHeld.step sst (.inr (Nat.zero_le _))
    have X_18 : Hid (GN v18 (w16.drew).heap.size nx18 gs) := ⟨_, hb.size, Nat.le_refl _, hx1⟩
    clear hb sst hx1
    refine hK.out _ _ HH (fun hHeld => ?_)
    clear hK K HH
    (try simp only [Act.put, List.setIfInBounds_toArray, List.set_cons_zero, List.set_cons_succ])
    refine readyA (rs := [3, 9]) (by kernel_rfl) (by simp) ?_
    refine AllL.cons rfl (fun K hK => ?_) ?_
    · go_simp
      (go_at_call 13; refine (toHeap_any wa cw la lc 0 w.heap.size h _ hB.out (HY.out.1.keep B_18.out) (HY.out.2.keep B_18.out) B_18.out.size).mono ?_; rintro e v19 ⟨ny19, my19, rfl, hy2, hy3, hb⟩)
      have sst := StepB.of_below hb
      have z_19 : (v18).heap.size ≤ v19.heap.size := hb.size
      have B_19 := hide (Below.step B_18.out (Nat.le_refl _) sst (.inr rfl))
      have ET_19 := hide (ValsM.stepB ET_18.out sst (by omega) (.inr (Nat.zero_le _)))
      have ER_19 := hide (Rec.step ER_18.out sst (.inr (Nat.zero_le _)))
      have EQ_19 := hide (Rec.step EQ_18.out sst (.inr (Nat.zero_le _)))
      have EM_19 := hide (MarkedVal.step EM_18.out sst (by omega) (.inr (Nat.zero_le _)))
      have HH := hHeld.step sst (.inr (Nat.zero_le _))
      have X_19 := hide (X_18.out.below hb)
      have Y_19 : Hid (HN v19 (v18).heap.size ny19 my19 h) := ⟨_, hb.size, Nat.le_refl _, hy2, hy3⟩
      clear hb sst hy2 hy3
      refine hK.out _ _ HH (fun hHeld => ?_)
      clear hK K HH
      (try simp only [Act.put, List.setIfInBounds_toArray, List.set_cons_zero, List.set_cons_succ])
      refine readyA (rs := [5, 9]) (by kernel_rfl) (by simp) ?_
      refine AllL.cons rfl (fun K hK => ?_) ?_
      · go_simp
        (go_at_call 25; refine (HIm.out _ _ _ _ _ _ hf.out hB.out X_19.out Y_19.out (pow10_keep HP.out B_19.out)).mono ?_; rintro e v20 ⟨ja, jc, rfl, hT, hb⟩)
        have sst := StepB.of_below hb
        have z_20 : (v19).heap.size ≤ v20.heap.size := hb.size
        have B_20 := hide (Below.step B_19.out (Nat.le_refl _) sst (.inr rfl))
        have ET_20 := hide (ValsM.stepB ET_19.out sst (by omega) (.inr (Nat.zero_le _)))
        have ER_20 := hide (Rec.step ER_19.out sst (.inr (Nat.zero_le _)))
        have EQ_20 := hide (Rec.step EQ_19.out sst (.inr (Nat.zero_le _)))
        have EM_20 := hide (MarkedVal.step EM_19.out sst (by omega) (.inr (Nat.zero_le _)))
        have HH := hHeld.step sst (.inr (Nat.zero_le _))
        have X_20 := hide (X_19.out.below hb)
        have T_20 := hide hT
        clear hb sst hT
        refine hK.out _ _ HH (fun hHeld => ?_)
        clear hK K HH
        (try simp only [Act.put, List.setIfInBounds_toArray, List.set_cons_zero, List.set_cons_succ])
        refine takeA (i := 6) (v := ?v6n19) rfl (by kernel_rfl) (by kernel_rfl) (by kernel_rfl) (fun _ _ _ h => h) (by kernel_rfl) (by kernel_rfl) (by assumption) ?y6n19 ?r6n19
        case y6n19 => (intro w hSw; have p0 := hSw.cell (o := 0) rfl; have p1 := hSw.cell (o := 1) rfl; have p2 := hSw.cell (o := 2) rfl; have p3 := hSw.cell (o := 3) rfl; have p4 := hSw.cell (o := 4) rfl; go_simp; try with_reducible rfl)
        (try simp only [Act.put, List.setIfInBounds_toArray, List.set_cons_zero, List.set_cons_succ])
        refine takeA (i := 7) (v := ?v7n20) rfl (by kernel_rfl) (by kernel_rfl) (by kernel_rfl) (fun _ _ _ h => h) (by kernel_rfl) (by kernel_rfl) (by assumption) ?y7n20 ?r7n20
        case y7n20 => (intro w hSw; have p0 := hSw.cell (o := 0) rfl; have p1 := hSw.cell (o := 1) rfl; have p2 := hSw.cell (o := 2) rfl; have p3 := hSw.cell (o := 3) rfl; have p4 := hSw.cell (o := 4) rfl; go_simp; try with_reducible rfl)
        (try simp only [Act.put, List.setIfInBounds_toArray, List.set_cons_zero, List.set_cons_succ])
        refine takeA (i := 8) (v := ?v8n21) rfl (by kernel_rfl) (by kernel_rfl) (by kernel_rfl) (fun _ _ _ h => h) (by kernel_rfl) (by kernel_rfl) (by assumption) ?y8n21 ?r8n21
        case y8n21 => (intro w hSw; have p0 := hSw.cell (o := 0) rfl; have p1 := hSw.cell (o := 1) rfl; have p2 := hSw.cell (o := 2) rfl; have p3 := hSw.cell (o := 3) rfl; have p4 := hSw.cell (o := 4) rfl; go_simp; try with_reducible rfl)
        (try simp only [Act.put, List.setIfInBounds_toArray, List.set_cons_zero, List.set_cons_succ])
        refine readyA (rs := [9]) (by kernel_rfl) (by simp) ?_
        refine AllL.cons rfl (fun K hK => ?_) ?_
        · go_simp
          have hS_21 := hHeld
          have hb : Below (v20).heap.size (v20) ((v20).alloc (.cells #[.int .i64 0, .slice none 0 0] 43)) := (Below.refl _ _).alloc (Nat.le_refl _) _
          have sst := StepB.of_below hb
          have z_21 : (v20).heap.size + 1 ≤ ((v20).alloc (.cells #[.int .i64 0, .slice none 0 0] 43)).heap.size := by simp
          have B_21 := hide (Below.step B_20.out (Nat.le_refl _) sst (.inr rfl))
          have T_21 := hide (ValsM.stepB T_20.out sst (by omega) (.inr (Nat.zero_le _)))
          have ET_21 := hide (ValsM.stepB ET_20.out sst (by omega) (.inr (Nat.zero_le _)))
          have ER_21 := hide (Rec.step ER_20.out sst (.inr (Nat.zero_le _)))
          have EQ_21 := hide (Rec.step EQ_20.out sst (.inr (Nat.zero_le _)))
          have EM_21 := hide (MarkedVal.step EM_20.out sst (by omega) (.inr (Nat.zero_le _)))
          have HH := hHeld.step sst (.inr (Nat.zero_le _))
          have R_21 : Hid (Rec ((v20).alloc (.cells #[.int .i64 0, .slice none 0 0] 43)) (v20).heap.size 43 [.int .i64 0, .slice none 0 0]) := Rec.new _ _ _
          clear hb sst
          refine hK.out _ _ HH (fun hHeld => ?_)
          clear hK K HH
          (try simp only [Act.put, List.setIfInBounds_toArray, List.set_cons_zero, List.set_cons_succ])
          refine readyA (rs := [10]) (by kernel_rfl) (by simp) ?_
          refine AllL.cons rfl (fun K hK => ?_) ?_
          · go_simp
            have hHeld := hS_21
            have hb : Below (v20).heap.size (v20) ((v20).alloc (.cells #[.int .i64 ty, .slice ja vs.length jc] 43)) := (Below.refl _ _).alloc (Nat.le_refl _) _
            have sst := StepB.of_below hb
            have B_22 := hide (Below.step B_20.out (Nat.le_refl _) sst (.inr rfl))
            have T_22 := hide (ValsM.stepB T_20.out sst (by omega) (.inr (Nat.zero_le _)))
            have ET_22 := hide (ValsM.stepB ET_20.out sst (by omega) (.inr (Nat.zero_le _)))
            have ER_22 := hide (Rec.step ER_20.out sst (.inr (Nat.zero_le _)))
            have EQ_22 := hide (Rec.step EQ_20.out sst (.inr (Nat.zero_le _)))
            have EM_22 := hide (MarkedVal.step EM_20.out sst (by omega) (.inr (Nat.zero_le _)))
            have HH := hHeld.step sst (.inr (Nat.zero_le _))
            have R_22 : Hid (Rec ((v20).alloc (.cells #[.int .i64 ty, .slice ja vs.length jc] 43)) (v20).heap.size 43 [.int .i64 ty, .slice ja vs.length jc]) := Rec.new _ _ _
            have z_22 : (v20).heap.size + 1 ≤ ((v20).alloc (.cells #[.int .i64 ty, .slice ja vs.length jc] 43)).heap.size := by simp
            clear hb sst
            refine hK.out _ _ HH (fun hHeld => ?_)
            clear hK K HH
            (try simp only [Act.put, List.setIfInBounds_toArray, List.set_cons_zero, List.set_cons_succ])
            refine readyA (rs := [11]) (by kernel_rfl) (by simp) ?_
            refine AllL.last rfl (fun K hK => ?_)
            go_simp
            refine hK.out _ _ ?_
            clear hK K
            (try simp only [Act.put, List.setIfInBounds_toArray, List.set_cons_zero, List.set_cons_succ])
            refine doneA (by kernel_rfl) ?_ _
            go_wp2_with (fail)
            go_meet
            exact ⟨_, ja, jc, rfl, rfl, by omega, by omega, R_22, T_22.out.wid (by omega) (by omega), hHeld, B_22, ET_22, ER_22, EQ_22, EM_22⟩
          exact AllL.nil
        exact AllL.nil
      refine AllL.cons rfl (fun K hK => ?_) ?_
      · go_simp
        have hS_23 := hHeld
        have hb : Below (v19).heap.size (v19) ((v19).alloc (.cells #[.int .i64 0, .slice none 0 0] 43)) := (Below.refl _ _).alloc (Nat.le_refl _) _
        have sst := StepB.of_below hb
        have z_23 : (v19).heap.size + 1 ≤ ((v19).alloc (.cells #[.int .i64 0, .slice none 0 0] 43)).heap.size := by simp
        have B_23 := hide (Below.step B_19.out (Nat.le_refl _) sst (.inr rfl))
        have ET_23 := hide (ValsM.stepB ET_19.out sst (by omega) (.inr (Nat.zero_le _)))
        have ER_23 := hide (Rec.step ER_19.out sst (.inr (Nat.zero_le _)))
        have EQ_23 := hide (Rec.step EQ_19.out sst (.inr (Nat.zero_le _)))
        have EM_23 := hide (MarkedVal.step EM_19.out sst (by omega) (.inr (Nat.zero_le _)))
        have HH := hHeld.step sst (.inr (Nat.zero_le _))
        have X_23 := hide (X_19.out.below hb)
        have Y_23 := hide (Y_19.out.below hb)
        have R_23 : Hid (Rec ((v19).alloc (.cells #[.int .i64 0, .slice none 0 0] 43)) (v19).heap.size 43 [.int .i64 0, .slice none 0 0]) := Rec.new _ _ _
        clear hb sst
        refine hK.out _ _ HH (fun hHeld => ?_)
        clear hK K HH
        (try simp only [Act.put, List.setIfInBounds_toArray, List.set_cons_zero, List.set_cons_succ])
        refine readyA (rs := [5]) (by kernel_rfl) (by simp) ?_
        refine AllL.cons rfl (fun K hK => ?_) ?_
        · go_simp
          (go_at_call 25; refine (HIm.out _ _ _ _ _ _ hf.out hB.out X_23.out Y_23.out (pow10_keep HP.out B_23.out)).mono ?_; rintro e v24 ⟨ja, jc, rfl, hT, hb⟩)
          have sst := StepB.of_below hb
          have z_24 : ((v19).alloc (.cells #[.int .i64 0, .slice none 0 0] 43)).heap.size ≤ v24.heap.size := hb.size
          have B_24 := hide (Below.step B_23.out (Nat.le_refl _) sst (.inr rfl))
          have R_24 := hide (Rec.step R_23.out sst (.inr (Nat.zero_le _)))
          have ET_24 := hide (ValsM.stepB ET_23.out sst (by omega) (.inr (Nat.zero_le _)))
          have ER_24 := hide (Rec.step ER_23.out sst (.inr (Nat.zero_le _)))
          have EQ_24 := hide (Rec.step EQ_23.out sst (.inr (Nat.zero_le _)))
          have EM_24 := hide (MarkedVal.step EM_23.out sst (by omega) (.inr (Nat.zero_le _)))
          have HH := hHeld.step sst (.inr (Nat.zero_le _))
          have X_24 := hide (X_23.out.below hb)
          have T_24 := hide hT
          clear hb sst hT
          refine hK.out _ _ HH (fun hHeld => ?_)
          clear hK K HH
          (try simp only [Act.put, List.setIfInBounds_toArray, List.set_cons_zero, List.set_cons_succ])
          refine takeA (i := 6) (v := ?v6n22) rfl (by kernel_rfl) (by kernel_rfl) (by kernel_rfl) (fun _ _ _ h => h) (by kernel_rfl) (by kernel_rfl) (by assumption) ?y6n22 ?r6n22
          case y6n22 => (intro w hSw; have p0 := hSw.cell (o := 0) rfl; have p1 := hSw.cell (o := 1) rfl; have p2 := hSw.cell (o := 2) rfl; have p3 := hSw.cell (o := 3) rfl; have p4 := hSw.cell (o := 4) rfl; go_simp; try with_reducible rfl)
          (try simp only [Act.put, List.setIfInBounds_toArray, List.set_cons_zero, List.set_cons_succ])
          refine takeA (i := 7) (v := ?v7n23) rfl (by kernel_rfl) (by kernel_rfl) (by kernel_rfl) (fun _ _ _ h => h) (by kernel_rfl) (by kernel_rfl) (by assumption) ?y7n23 ?r7n23
          case y7n23 => (intro w hSw; have p0 := hSw.cell (o := 0) rfl; have p1 := hSw.cell (o := 1) rfl; have p2 := hSw.cell (o := 2) rfl; have p3 := hSw.cell (o := 3) rfl; have p4 := hSw.cell (o := 4) rfl; go_simp; try with_reducible rfl)
          (try simp only [Act.put, List.setIfInBounds_toArray, List.set_cons_zero, List.set_cons_succ])
          refine takeA (i := 8) (v := ?v8n24) rfl (by kernel_rfl) (by kernel_rfl) (by kernel_rfl) (fun _ _ _ h => h) (by kernel_rfl) (by kernel_rfl) (by assumption) ?y8n24 ?r8n24
          case y8n24 => (intro w hSw; have p0 := hSw.cell (o := 0) rfl; have p1 := hSw.cell (o := 1) rfl; have p2 := hSw.cell (o := 2) rfl; have p3 := hSw.cell (o := 3) rfl; have p4 := hSw.cell (o := 4) rfl; go_simp; try with_reducible rfl)
          (try simp only [Act.put, List.setIfInBounds_toArray, List.set_cons_zero, List.set_cons_succ])
          refine readyA (rs := [10]) (by kernel_rfl) (by simp) ?_
          refine AllL.cons rfl (fun K hK => ?_) ?_
          · have hz0 := R_24.out.cell (o := 0) rfl
            have hz1 := R_24.out.cell (o := 1) rfl
            have hf0 := R_24.out.frozen 0
            have hf1 := R_24.out.frozen 1
            go_simp
            have sst : StepB ((v19).heap.size) ((v19).heap.size + 1) (v24) (((v24).setCell ⟨(v19).heap.size, 0, none⟩ (.int .i64 ty)).setCell ⟨(v19).heap.size, 1, none⟩ (.slice ja vs.length jc)) := (StepB.of_set _ _ 0 _).trans (StepB.of_set _ _ 1 _)
            have B_25 := hide (Below.step B_24.out (Nat.le_refl _) sst (.inl (by omega)))
            have T_25 := hide (ValsM.stepB T_24.out sst (by omega) (by omega))
            have ET_25 := hide (ValsM.stepB ET_24.out sst (by omega) (by omega))
            have ER_25 := hide (Rec.step ER_24.out sst (by omega))
            have EQ_25 := hide (Rec.step EQ_24.out sst (by omega))
            have EM_25 := hide (MarkedVal.step EM_24.out sst (by omega) (by omega))
            have HH := hHeld.step sst (by omega)
            have R_25 : Hid (Rec (((v24).setCell ⟨(v19).heap.size, 0, none⟩ (.int .i64 ty)).setCell ⟨(v19).heap.size, 1, none⟩ (.slice ja vs.length jc)) ((v19).heap.size) 43 [.int .i64 ty, .slice ja vs.length jc]) := (R_24.out.set 0 _).set 1 _
            have z_25 : (v24).heap.size ≤ (((v24).setCell ⟨(v19).heap.size, 0, none⟩ (.int .i64 ty)).setCell ⟨(v19).heap.size, 1, none⟩ (.slice ja vs.length jc)).heap.size := sst.size
            clear hz0 hz1 hf0 hf1 sst
            refine hK.out _ _ HH (fun hHeld => ?_)
            clear hK K HH
            (try simp only [Act.put, List.setIfInBounds_toArray, List.set_cons_zero, List.set_cons_succ])
            refine readyA (rs := [11]) (by kernel_rfl) (by simp) ?_
            refine AllL.last rfl (fun K hK => ?_)
            go_simp
            refine hK.out _ _ ?_
            clear hK K
            (try simp only [Act.put, List.setIfInBounds_toArray, List.set_cons_zero, List.set_cons_succ])
            refine doneA (by kernel_rfl) ?_ _
            go_wp2_with (fail)
            go_meet
            exact ⟨_, ja, jc, rfl, rfl, by omega, by omega, R_25, T_25.out.wid (by omega) (by omega), hHeld, B_25, ET_25, ER_25, EQ_25, EM_25⟩
          exact AllL.nil
        exact AllL.nil
      exact AllL.nil
    refine AllL.cons rfl (fun K hK => ?_) ?_
    · go_simp
      have hS_26 := hHeld
      have hb : Below (v18).heap.size (v18) ((v18).alloc (.cells #[.int .i64 0, .slice none 0 0] 43)) := (Below.refl _ _).alloc (Nat.le_refl _) _
      have sst := StepB.of_below hb
      have z_26 : (v18).heap.size + 1 ≤ ((v18).alloc (.cells #[.int .i64 0, .slice none 0 0] 43)).heap.size := by simp
      have B_26 := hide (Below.step B_18.out (Nat.le_refl _) sst (.inr rfl))
      have ET_26 := hide (ValsM.stepB ET_18.out sst (by omega) (.inr (Nat.zero_le _)))
      have ER_26 := hide (Rec.step ER_18.out sst (.inr (Nat.zero_le _)))
      have EQ_26 := hide (Rec.step EQ_18.out sst (.inr (Nat.zero_le _)))
      have EM_26 := hide (MarkedVal.step EM_18.out sst (by omega) (.inr (Nat.zero_le _)))
      have HH := hHeld.step sst (.inr (Nat.zero_le _))
      have X_26 := hide (X_18.out.below hb)
      have R_26 : Hid (Rec ((v18).alloc (.cells #[.int .i64 0, .slice none 0 0] 43)) (v18).heap.size 43 [.int .i64 0, .slice none 0 0]) := Rec.new _ _ _
      clear hb sst
      refine hK.out _ _ HH (fun hHeld => ?_)
      clear hK K HH
      (try simp only [Act.put, List.setIfInBounds_toArray, List.set_cons_zero, List.set_cons_succ])
      refine readyA (rs := [3]) (by kernel_rfl) (by simp) ?_
      refine AllL.cons rfl (fun K hK => ?_) ?_
      · go_simp
        (go_at_call 13; refine (toHeap_any wa cw la lc 0 w.heap.size h _ hB.out (HY.out.1.keep B_26.out) (HY.out.2.keep B_26.out) B_26.out.size).mono ?_; rintro e v27 ⟨ny27, my27, rfl, hy2, hy3, hb⟩)
        have sst := StepB.of_below hb
        have z_27 : ((v18).alloc (.cells #[.int .i64 0, .slice none 0 0] 43)).heap.size ≤ v27.heap.size := hb.size
        have B_27 := hide (Below.step B_26.out (Nat.le_refl _) sst (.inr rfl))
        have R_27 := hide (Rec.step R_26.out sst (.inr (Nat.zero_le _)))
        have ET_27 := hide (ValsM.stepB ET_26.out sst (by omega) (.inr (Nat.zero_le _)))
        have ER_27 := hide (Rec.step ER_26.out sst (.inr (Nat.zero_le _)))
        have EQ_27 := hide (Rec.step EQ_26.out sst (.inr (Nat.zero_le _)))
        have EM_27 := hide (MarkedVal.step EM_26.out sst (by omega) (.inr (Nat.zero_le _)))
        have HH := hHeld.step sst (.inr (Nat.zero_le _))
        have X_27 := hide (X_26.out.below hb)
        have Y_27 : Hid (HN v27 ((v18).alloc (.cells #[.int .i64 0, .slice none 0 0] 43)).heap.size ny27 my27 h) := ⟨_, hb.size, Nat.le_refl _, hy2, hy3⟩
        clear hb sst hy2 hy3
        refine hK.out _ _ HH (fun hHeld => ?_)
        clear hK K HH
        (try simp only [Act.put, List.setIfInBounds_toArray, List.set_cons_zero, List.set_cons_succ])
        refine readyA (rs := [5]) (by kernel_rfl) (by simp) ?_
        refine AllL.cons rfl (fun K hK => ?_) ?_
        · go_simp
          (go_at_call 25; refine (HIm.out _ _ _ _ _ _ hf.out hB.out X_27.out Y_27.out (pow10_keep HP.out B_27.out)).mono ?_; rintro e v28 ⟨ja, jc, rfl, hT, hb⟩)
          have sst := StepB.of_below hb
          have z_28 : (v27).heap.size ≤ v28.heap.size := hb.size
          have B_28 := hide (Below.step B_27.out (Nat.le_refl _) sst (.inr rfl))
          have R_28 := hide (Rec.step R_27.out sst (.inr (Nat.zero_le _)))
          have ET_28 := hide (ValsM.stepB ET_27.out sst (by omega) (.inr (Nat.zero_le _)))
          have ER_28 := hide (Rec.step ER_27.out sst (.inr (Nat.zero_le _)))
          have EQ_28 := hide (Rec.step EQ_27.out sst (.inr (Nat.zero_le _)))
          have EM_28 := hide (MarkedVal.step EM_27.out sst (by omega) (.inr (Nat.zero_le _)))
          have HH := hHeld.step sst (.inr (Nat.zero_le _))
          have X_28 := hide (X_27.out.below hb)
          have T_28 := hide hT
          clear hb sst hT
          refine hK.out _ _ HH (fun hHeld => ?_)
          clear hK K HH
          (try simp only [Act.put, List.setIfInBounds_toArray, List.set_cons_zero, List.set_cons_succ])
          refine takeA (i := 6) (v := ?v6n25) rfl (by kernel_rfl) (by kernel_rfl) (by kernel_rfl) (fun _ _ _ h => h) (by kernel_rfl) (by kernel_rfl) (by assumption) ?y6n25 ?r6n25
          case y6n25 => (intro w hSw; have p0 := hSw.cell (o := 0) rfl; have p1 := hSw.cell (o := 1) rfl; have p2 := hSw.cell (o := 2) rfl; have p3 := hSw.cell (o := 3) rfl; have p4 := hSw.cell (o := 4) rfl; go_simp; try with_reducible rfl)
          (try simp only [Act.put, List.setIfInBounds_toArray, List.set_cons_zero, List.set_cons_succ])
          refine takeA (i := 7) (v := ?v7n26) rfl (by kernel_rfl) (by kernel_rfl) (by kernel_rfl) (fun _ _ _ h => h) (by kernel_rfl) (by kernel_rfl) (by assumption) ?y7n26 ?r7n26
          case y7n26 => (intro w hSw; have p0 := hSw.cell (o := 0) rfl; have p1 := hSw.cell (o := 1) rfl; have p2 := hSw.cell (o := 2) rfl; have p3 := hSw.cell (o := 3) rfl; have p4 := hSw.cell (o := 4) rfl; go_simp; try with_reducible rfl)
          (try simp only [Act.put, List.setIfInBounds_toArray, List.set_cons_zero, List.set_cons_succ])
          refine takeA (i := 8) (v := ?v8n27) rfl (by kernel_rfl) (by kernel_rfl) (by kernel_rfl) (fun _ _ _ h => h) (by kernel_rfl) (by kernel_rfl) (by assumption) ?y8n27 ?r8n27
          case y8n27 => (intro w hSw; have p0 := hSw.cell (o := 0) rfl; have p1 := hSw.cell (o := 1) rfl; have p2 := hSw.cell (o := 2) rfl; have p3 := hSw.cell (o := 3) rfl; have p4 := hSw.cell (o := 4) rfl; go_simp; try with_reducible rfl)
          (try simp only [Act.put, List.setIfInBounds_toArray, List.set_cons_zero, List.set_cons_succ])
          refine readyA (rs := [10]) (by kernel_rfl) (by simp) ?_
          refine AllL.cons rfl (fun K hK => ?_) ?_
          · have hz0 := R_28.out.cell (o := 0) rfl
            have hz1 := R_28.out.cell (o := 1) rfl
            have hf0 := R_28.out.frozen 0
            have hf1 := R_28.out.frozen 1
            go_simp
            have sst : StepB ((v18).heap.size) ((v18).heap.size + 1) (v28) (((v28).setCell ⟨(v18).heap.size, 0, none⟩ (.int .i64 ty)).setCell ⟨(v18).heap.size, 1, none⟩ (.slice ja vs.length jc)) := (StepB.of_set _ _ 0 _).trans (StepB.of_set _ _ 1 _)
            have B_29 := hide (Below.step B_28.out (Nat.le_refl _) sst (.inl (by omega)))
            have T_29 := hide (ValsM.stepB T_28.out sst (by omega) (by omega))
            have ET_29 := hide (ValsM.stepB ET_28.out sst (by omega) (by omega))
            have ER_29 := hide (Rec.step ER_28.out sst (by omega))
            have EQ_29 := hide (Rec.step EQ_28.out sst (by omega))
            have EM_29 := hide (MarkedVal.step EM_28.out sst (by omega) (by omega))
            have HH := hHeld.step sst (by omega)
            have R_29 : Hid (Rec (((v28).setCell ⟨(v18).heap.size, 0, none⟩ (.int .i64 ty)).setCell ⟨(v18).heap.size, 1, none⟩ (.slice ja vs.length jc)) ((v18).heap.size) 43 [.int .i64 ty, .slice ja vs.length jc]) := (R_28.out.set 0 _).set 1 _
            have z_29 : (v28).heap.size ≤ (((v28).setCell ⟨(v18).heap.size, 0, none⟩ (.int .i64 ty)).setCell ⟨(v18).heap.size, 1, none⟩ (.slice ja vs.length jc)).heap.size := sst.size
            clear hz0 hz1 hf0 hf1 sst
            refine hK.out _ _ HH (fun hHeld => ?_)
            clear hK K HH
            (try simp only [Act.put, List.setIfInBounds_toArray, List.set_cons_zero, List.set_cons_succ])
            refine readyA (rs := [11]) (by kernel_rfl) (by simp) ?_
            refine AllL.last rfl (fun K hK => ?_)
            go_simp
            refine hK.out _ _ ?_
            clear hK K
            (try simp only [Act.put, List.setIfInBounds_toArray, List.set_cons_zero, List.set_cons_succ])
            refine doneA (by kernel_rfl) ?_ _
            go_wp2_with (fail)
            go_meet
            exact ⟨_, ja, jc, rfl, rfl, by omega, by omega, R_29, T_29.out.wid (by omega) (by omega), hHeld, B_29, ET_29, ER_29, EQ_29, EM_29⟩
          exact AllL.nil
        exact AllL.nil
      exact AllL.nil
    exact AllL.nil
  refine AllL.cons rfl (fun K hK => ?_) ?_
  · go_simp
    have hS_30 := hHeld
    have hb : Below (w16.drew).heap.size (w16.drew) ((w16.drew).alloc (.cells #[.int .i64 0, .slice none 0 0] 43)) := (Below.refl _ _).alloc (Nat.le_refl _) _
    have sst := StepB.of_below hb
    have z_30 : (w16.drew).heap.size + 1 ≤ ((w16.drew).alloc (.cells #[.int .i64 0, .slice none 0 0] 43)).heap.size := by simp
    have B_30 := hide (Below.step Bd.out (Nat.le_refl _) sst (.inr rfl))
    have ET_30 := hide (ValsM.stepB ETd.out sst (by omega) (.inr (Nat.zero_le _)))
    have ER_30 := hide (Rec.step ERd.out sst (.inr (Nat.zero_le _)))
    have EQ_30 := hide (Rec.step EQd.out sst (.inr (Nat.zero_le _)))
    have EM_30 := hide (MarkedVal.step EMd.out sst (by omega) (.inr (Nat.zero_le _)))
    have HH := hHeld.step sst (.inr (Nat.zero_le _))
    have R_30 : Hid (Rec ((w16.drew).alloc (.cells #[.int .i64 0, .slice none 0 0] 43)) (w16).heap.size 43 [.int .i64 0, .slice none 0 0]) := Rec.new _ _ _
    clear hb sst
    refine hK.out _ _ HH (fun hHeld => ?_)
    clear hK K HH
    (try simp only [Act.put, List.setIfInBounds_toArray, List.set_cons_zero, List.set_cons_succ])
    refine readyA (rs := [1]) (by kernel_rfl) (by simp) ?_
    refine AllL.cons rfl (fun K hK => ?_) ?_
    · go_simp
      (go_at_call 12; refine (toTypeSS_any a cap 0 w.heap.size gs _ hf.out (HX.out.keep B_30.out) B_30.out.size).mono ?_; rintro e v31 ⟨nx31, rfl, hx1, hb⟩)
      have sst := StepB.of_below hb
      have z_31 : ((w16.drew).alloc (.cells #[.int .i64 0, .slice none 0 0] 43)).heap.size ≤ v31.heap.size := hb.size
      have B_31 := hide (Below.step B_30.out (Nat.le_refl _) sst (.inr rfl))
      have R_31 := hide (Rec.step R_30.out sst (.inr (Nat.zero_le _)))
      have ET_31 := hide (ValsM.stepB ET_30.out sst (by omega) (.inr (Nat.zero_le _)))
      have ER_31 := hide (Rec.step ER_30.out sst (.inr (Nat.zero_le _)))
      have EQ_31 := hide (Rec.step EQ_30.out sst (.inr (Nat.zero_le _)))
      have EM_31 := hide (MarkedVal.step EM_30.out sst (by omega) (.inr (Nat.zero_le _)))
      have HH := hHeld.step sst (.inr (Nat.zero_le _))
      have X_31 : Hid (GN v31 ((w16.drew).alloc (.cells #[.int .i64 0, .slice none 0 0] 43)).heap.size nx31 gs) := ⟨_, hb.size, Nat.le_refl _, hx1⟩
      clear hb sst hx1
      refine hK.out _ _ HH (fun hHeld => ?_)
      clear hK K HH
      (try simp only [Act.put, List.setIfInBounds_toArray, List.set_cons_zero, List.set_cons_succ])
      refine readyA (rs := [3]) (by kernel_rfl) (by simp) ?_
      refine AllL.cons rfl (fun K hK => ?_) ?_
      · go_simp
        (go_at_call 13; refine (toHeap_any wa cw la lc 0 w.heap.size h _ hB.out (HY.out.1.keep B_31.out) (HY.out.2.keep B_31.out) B_31.out.size).mono ?_; rintro e v32 ⟨ny32, my32, rfl, hy2, hy3, hb⟩)
        have sst := StepB.of_below hb
        have z_32 : (v31).heap.size ≤ v32.heap.size := hb.size
        have B_32 := hide (Below.step B_31.out (Nat.le_refl _) sst (.inr rfl))
        have R_32 := hide (Rec.step R_31.out sst (.inr (Nat.zero_le _)))
        have ET_32 := hide (ValsM.stepB ET_31.out sst (by omega) (.inr (Nat.zero_le _)))
        have ER_32 := hide (Rec.step ER_31.out sst (.inr (Nat.zero_le _)))
        have EQ_32 := hide (Rec.step EQ_31.out sst (.inr (Nat.zero_le _)))
        have EM_32 := hide (MarkedVal.step EM_31.out sst (by omega) (.inr (Nat.zero_le _)))
        have HH := hHeld.step sst (.inr (Nat.zero_le _))
        have X_32 := hide (X_31.out.below hb)
        have Y_32 : Hid (HN v32 (v31).heap.size ny32 my32 h) := ⟨_, hb.size, Nat.le_refl _, hy2, hy3⟩
        clear hb sst hy2 hy3
        refine hK.out _ _ HH (fun hHeld => ?_)
        clear hK K HH
        (try simp only [Act.put, List.setIfInBounds_toArray, List.set_cons_zero, List.set_cons_succ])
        refine readyA (rs := [5]) (by kernel_rfl) (by simp) ?_
        refine AllL.cons rfl (fun K hK => ?_) ?_
        · go_simp
          (go_at_call 25; refine (HIm.out _ _ _ _ _ _ hf.out hB.out X_32.out Y_32.out (pow10_keep HP.out B_32.out)).mono ?_; rintro e v33 ⟨ja, jc, rfl, hT, hb⟩)
          have sst := StepB.of_below hb
          have z_33 : (v32).heap.size ≤ v33.heap.size := hb.size
          have B_33 := hide (Below.step B_32.out (Nat.le_refl _) sst (.inr rfl))
          have R_33 := hide (Rec.step R_32.out sst (.inr (Nat.zero_le _)))
          have ET_33 := hide (ValsM.stepB ET_32.out sst (by omega) (.inr (Nat.zero_le _)))
          have ER_33 := hide (Rec.step ER_32.out sst (.inr (Nat.zero_le _)))
          have EQ_33 := hide (Rec.step EQ_32.out sst (.inr (Nat.zero_le _)))
          have EM_33 := hide (MarkedVal.step EM_32.out sst (by omega) (.inr (Nat.zero_le _)))
          have HH := hHeld.step sst (.inr (Nat.zero_le _))
          have X_33 := hide (X_32.out.below hb)
          have T_33 := hide hT
          clear hb sst hT
          refine hK.out _ _ HH (fun hHeld => ?_)
          clear hK K HH
          (try simp only [Act.put, List.setIfInBounds_toArray, List.set_cons_zero, List.set_cons_succ])
          refine takeA (i := 6) (v := ?v6n28) rfl (by kernel_rfl) (by kernel_rfl) (by kernel_rfl) (fun _ _ _ h => h) (by kernel_rfl) (by kernel_rfl) (by assumption) ?y6n28 ?r6n28
          case y6n28 => (intro w hSw; have p0 := hSw.cell (o := 0) rfl; have p1 := hSw.cell (o := 1) rfl; have p2 := hSw.cell (o := 2) rfl; have p3 := hSw.cell (o := 3) rfl; have p4 := hSw.cell (o := 4) rfl; go_simp; try with_reducible rfl)
          (try simp only [Act.put, List.setIfInBounds_toArray, List.set_cons_zero, List.set_cons_succ])
          refine takeA (i := 7) (v := ?v7n29) rfl (by kernel_rfl) (by kernel_rfl) (by kernel_rfl) (fun _ _ _ h => h) (by kernel_rfl) (by kernel_rfl) (by assumption) ?y7n29 ?r7n29
          case y7n29 => (intro w hSw; have p0 := hSw.cell (o := 0) rfl; have p1 := hSw.cell (o := 1) rfl; have p2 := hSw.cell (o := 2) rfl; have p3 := hSw.cell (o := 3) rfl; have p4 := hSw.cell (o := 4) rfl; go_simp; try with_reducible rfl)
          (try simp only [Act.put, List.setIfInBounds_toArray, List.set_cons_zero, List.set_cons_succ])
          refine takeA (i := 8) (v := ?v8n30) rfl (by kernel_rfl) (by kernel_rfl) (by kernel_rfl) (fun _ _ _ h => h) (by kernel_rfl) (by kernel_rfl) (by assumption) ?y8n30 ?r8n30
          case y8n30 => (intro w hSw; have p0 := hSw.cell (o := 0) rfl; have p1 := hSw.cell (o := 1) rfl; have p2 := hSw.cell (o := 2) rfl; have p3 := hSw.cell (o := 3) rfl; have p4 := hSw.cell (o := 4) rfl; go_simp; try with_reducible rfl)
          (try simp only [Act.put, List.setIfInBounds_toArray, List.set_cons_zero, List.set_cons_succ])
          refine readyA (rs := [10]) (by kernel_rfl) (by simp) ?_
          refine AllL.cons rfl (fun K hK => ?_) ?_
          · have hz0 := R_33.out.cell (o := 0) rfl
            have hz1 := R_33.out.cell (o := 1) rfl
            have hf0 := R_33.out.frozen 0
            have hf1 := R_33.out.frozen 1
            go_simp
            have sst : StepB ((w16).heap.size) ((w16).heap.size + 1) (v33) (((v33).setCell ⟨(w16).heap.size, 0, none⟩ (.int .i64 ty)).setCell ⟨(w16).heap.size, 1, none⟩ (.slice ja vs.length jc)) := (StepB.of_set _ _ 0 _).trans (StepB.of_set _ _ 1 _)
            have B_34 := hide (Below.step B_33.out (Nat.le_refl _) sst (.inl (by omega)))
            have T_34 := hide (ValsM.stepB T_33.out sst (by omega) (by omega))
            have ET_34 := hide (ValsM.stepB ET_33.out sst (by omega) (by omega))
            have ER_34 := hide (Rec.step ER_33.out sst (by omega))
            have EQ_34 := hide (Rec.step EQ_33.out sst (by omega))
            have EM_34 := hide (MarkedVal.step EM_33.out sst (by omega) (by omega))
            have HH := hHeld.step sst (by omega)
            have R_34 : Hid (Rec (((v33).setCell ⟨(w16).heap.size, 0, none⟩ (.int .i64 ty)).setCell ⟨(w16).heap.size, 1, none⟩ (.slice ja vs.length jc)) ((w16).heap.size) 43 [.int .i64 ty, .slice ja vs.length jc]) := (R_33.out.set 0 _).set 1 _
            have z_34 : (v33).heap.size ≤ (((v33).setCell ⟨(w16).heap.size, 0, none⟩ (.int .i64 ty)).setCell ⟨(w16).heap.size, 1, none⟩ (.slice ja vs.length jc)).heap.size := sst.size
            clear hz0 hz1 hf0 hf1 sst
            refine hK.out _ _ HH (fun hHeld => ?_)
            clear hK K HH
            (try simp only [Act.put, List.setIfInBounds_toArray, List.set_cons_zero, List.set_cons_succ])
            refine readyA (rs := [11]) (by kernel_rfl) (by simp) ?_
            refine AllL.last rfl (fun K hK => ?_)
            go_simp
            refine hK.out _ _ ?_
            clear hK K
            (try simp only [Act.put, List.setIfInBounds_toArray, List.set_cons_zero, List.set_cons_succ])
            refine doneA (by kernel_rfl) ?_ _
            go_wp2_with (fail)
            go_meet
            exact ⟨_, ja, jc, rfl, rfl, by omega, by omega, R_34, T_34.out.wid (by omega) (by omega), hHeld, B_34, ET_34, ER_34, EQ_34, EM_34⟩
          exact AllL.nil
        exact AllL.nil
      exact AllL.nil
    exact AllL.nil
  exact AllL.nil
 obtain ⟨b17, ha, hc, rfl, rfl, zb17, zwB, RH1, H1, P17, B17, ET17, ER17, EQ17, EM17⟩ := hcut
 generalize wc = wB at *
 have g0 := RH1.out.cell (o := 0) rfl
 have g1 := RH1.out.cell (o := 1) rfl
 have t0 := ER17.out.cell (o := 0) rfl
 have t1 := ER17.out.cell (o := 1) rfl
 go_wp2_with fail
 refine (eqTh HFew.out H1.out ET17.out (by omega) (by omega)).mono ?_
 rintro e w20 ⟨rfl, hb20⟩
 have st := StepB.of_below hb20
 have M20 := hide (EM17.out.step st (by omega) (by omega))
 have Q20 := hide (EQ17.out.step st (.inr (Nat.zero_le _)))
 have q20 := hb20.size
 have B20 := hide (B17.out.trans (hb20.mono B17.out.size))
 clear hb20 st H1 ET17 g0 g1 t0 t1
 have g0 := Q20.out.cell (o := 0) rfl
 have g1 := Q20.out.cell (o := 1) rfl
 go_wp2_with fail
 refine (heldTh ty ga gc vs.length W5.heap.size w6a.heap.size 1 w20 (by omega) (by omega) (by omega) M20.out (by omega)).mono ?_
 rintro e w21 ⟨rfl, hb21⟩
 have B21 := hide (B20.out.trans (hb21.mono B20.out.size))
 clear hb21
 go_wp2_with fail
 go_ret
 exact ⟨rfl, B21.out⟩
end Go.Proofs.YtgobajjllnhlkaaGreatDoor
