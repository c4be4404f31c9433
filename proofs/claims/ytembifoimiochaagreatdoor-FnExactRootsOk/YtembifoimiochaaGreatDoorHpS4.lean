/- l7Fits of the model. -/
import Derived.Test.YtembifoimiochaaGreatDoorHpS3
import Derived.Test.YtembifoimiochaaGreatDoorHpQ
import Derived.Test.YtembifoimiochaaGreatDoorHeldL
namespace Go.Proofs.YtembifoimiochaaGreatDoor
open Go.ChangeShapes Go.WideShapes Go.ChangeAt Go.RowKit Go.Deep
set_option linter.unusedVariables false
set_option linter.unusedSimpArgs false

set_option maxHeartbeats 6400000 in
set_option maxRecDepth 20000 in
theorem l7Fits_any (ga sa wa la : Option Addr) (gc sc wc lc lo hi lo2 hi2 lo3 hi3 : Nat) (gs : List (List Ty)) (h : GHeap) (S : List Int) (k n fk fo : Int) (fm : Bool) (w : World) (hP : Parts gs) (hN : Few gs) (hc : gs.length ≤ gc) (hl : lo ≤ hi) (hh : hi ≤ w.heap.size) (hx : GroupsIn w lo hi ga gs) (H : HIn w lo2 hi2 h wa la wc lc) (hsx : IntsIn w lo3 hi3 sa S) (hh3 : hi3 ≤ w.heap.size) (hSl : S.length ≤ 1048576) (hS : StOk gs h S) (ho : ¬ fk = 1 → -2 ≤ fo ∧ fo < (kinCount gs : Int)) :
 Calls Tryz.prog 36 #[.slice ga gs.length gc, heapV h wa la wc lc, .slice sa S.length sc, .agg #[.int .i64 k, .int .i64 n], .agg #[.int .i64 fk, .int .i64 fo, .bool fm]] w fun e w' => e = .returned (.bool (hfitF gs h S k n ⟨fk, fo, fm⟩)) ∧ Below w.heap.size w w' := by
 have HU := hide (fun (W : World) (hb : Below w.heap.size w W) (a b : Int) (a0 : -2 ≤ a) (a1 : a < (kinCount gs : Int)) (b0 : -2 ≤ b) (b1 : b < (kinCount gs : Int)) => l1Under_any ga gc lo hi gs a b W hP hN hc hl (Nat.le_trans hh hb.size) (hx.keep (hb.mono hh)) a0 a1 b0 b1)
 have HFd := hide (fun (W : World) (hb : Below w.heap.size w W) (m : Int) => l6Find_any sa sc lo3 hi3 S m W hSl (hsx.keep (hb.mono hh3)) (Nat.le_trans hh3 hb.size))
 have HWS := hide (fun (W : World) (hb : Below w.heap.size w W) => (H.keep (hb.mono H.hh)).ws)
 have HWB := hide H.wb
 have h2w := H.hh
 have HF : Hid (hfitF gs h S k n ⟨fk, fo, fm⟩ = (valForm k n 160 && (if fk = 1 ∨ k = 1 then (fk == 1) && (k == 1) else if k = 2 then fk == 2 else if k = 3 then under gs (-2) fo else decide (n ∈ S) && under gs (nAt h.words n.toNat / 16) fo))) := rfl
 have HSO := hide hS
 have HFO := hide (fun W => l7Form_any k n W)
 have hVK : Hid (valForm k n 160 = true → k = 1 ∨ k = 2 ∨ k = 3 ∨ k = 4) := fun h => valForm_kinds h
 clear hP hN hx H hsx hS
 generalize hfitF gs h S k n ⟨fk, fo, fm⟩ = R at *
 generalize valForm k n 160 = vf at *
 unfold heapV
 obtain ⟨W1, hW1⟩ : ∃ W1, W1 = ((w.alloc (.cells #[.slice wa h.words.length wc, .int .i64 h.old, .int .i64 h.oldAt, .int .i64 h.youngAt, .slice la h.log.length lc] 33)).alloc (.cells #[.int .i64 k, .int .i64 n] 49)).alloc (.cells #[.int .i64 fk, .int .i64 fo, .bool fm] 70) := ⟨_, rfl⟩
 have B1 : Hid (Below w.heap.size w W1) := by show Below _ _ _; rw [hW1]; exact (((Below.refl _ _).alloc (Nat.le_refl _) _).alloc (by simp) _).alloc (by simp; omega) _
 have P1 : Hid (Rec W1 w.heap.size 33 [.slice wa h.words.length wc, .int .i64 h.old, .int .i64 h.oldAt, .int .i64 h.youngAt, .slice la h.log.length lc]) := by show Rec _ _ _ _; rw [hW1]; exact ((Rec.new _ _ _).alloc _).alloc _
 have V1 : Hid (Rec W1 (w.heap.size + 1) 49 [.int .i64 k, .int .i64 n]) := by show Rec _ _ _ _; rw [hW1]; exact (Rec.new' _ _ _ _ (by simp)).alloc _
 have F1 : Hid (Rec W1 (w.heap.size + 1 + 1) 70 [.int .i64 fk, .int .i64 fo, .bool fm]) := by show Rec _ _ _ _; rw [hW1]; exact Rec.new' _ _ _ _ (by simp)
 have v0 := V1.out.cell (o := 0) rfl
 have v1 := V1.out.cell (o := 1) rfl
 go_enter Tryz.func36, Tryz.ntmps36
 go_upto_region 1 with (fail)
 rw [← hW1]
 clear hW1
 go_wp2_with fail
 refine (HFO.out W1).mono ?_
 rintro e w2 ⟨rfl, b2⟩
 have B2 := hide (B1.out.trans (b2.mono B1.out.size))
 have P2 := hide (P1.out.below b2 P1.out.lt)
 have V2 := hide (V1.out.below b2 V1.out.lt)
 have F2 := hide (F1.out.below b2 F1.out.lt)
 clear b2 B1 P1 V1 F1 v0 v1 HFO
 have v0 := V2.out.cell (o := 0) rfl
 have v1 := V2.out.cell (o := 1) rfl
 have f0 := F2.out.cell (o := 0) rfl
 have f1 := F2.out.cell (o := 1) rfl
 have p0 := P2.out.cell (o := 0) rfl
 cases vf with
 | false =>
  have hR : Hid (R = false) := by show _ = _; rw [HF.out]; rfl
  clear HF hVK
  go_wp2_with fail
  go_ret
  exact ⟨ret_bool hR.out.symm, B2.out⟩
 | true =>
  have hk := hVK.out rfl
  clear hVK
  by_cases hf1 : fk = 1
  ·subst hf1
   have hR : Hid (R = (k == 1)) := by show _ = _; rw [HF.out]; simp
   clear HF hk
   by_cases hk1 : k = 1
   ·subst hk1
    go_wp2_with fail
    go_ret
    exact ⟨ret_bool (by rw [hR.out]; rfl), B2.out⟩
   ·have n1 : (k == 1) = false := beq_eq_false_iff_ne.2 hk1
    clear hk1
    go_wp2_with fail
    go_ret
    exact ⟨ret_bool (by rw [hR.out, n1]), B2.out⟩
  have nf1 : (fk == 1) = false := beq_eq_false_iff_ne.2 hf1
  obtain ⟨o0, o1⟩ := ho hf1
  rcases hk with rfl | rfl | rfl | rfl
  ·have hR : Hid (R = false) := by show _ = _; rw [HF.out]; simp [nf1]
   clear HF hf1
   go_wp2_with fail
   go_ret
   exact ⟨ret_bool hR.out.symm, B2.out⟩
  ·have hR : Hid (R = (fk == 2)) := by show _ = _; rw [HF.out]; simp [hf1]
   clear HF hf1
   go_wp2_with fail
   go_ret
   exact ⟨ret_bool hR.out.symm, B2.out⟩
  ·have hR : Hid (R = under gs (-2) fo) := by show _ = _; rw [HF.out]; simp [hf1]
   clear HF hf1
   go_wp2_with fail
   refine (HU.out w2 B2.out (-2) fo (by omega) (by omega) o0 o1).mono ?_
   rintro e w3 ⟨rfl, b3⟩
   have B3 := hide (B2.out.trans (b3.mono B2.out.size))
   clear b3
   go_wp2_with fail
   go_ret
   exact ⟨ret_bool hR.out.symm, B3.out⟩
  ·have hR : Hid (R = (decide (n ∈ S) && under gs (nAt h.words n.toNat / 16) fo)) := by show _ = _; rw [HF.out]; simp [hf1]
   clear HF hf1
   by_cases hm : n ∈ S
   ·obtain ⟨q, rfl, hq1, hq2, hq3⟩ := HSO.out n hm
    rw [decide_eq_true hm, Int.toNat_natCast, Bool.true_and] at hR
    obtain ⟨b, off, rfl, b1, b2', cq⟩ := ints_at (HWS.out w2 B2.out) hq1
    have hbw : b < w.heap.size := by omega
    have hx2 := (HWB.out q).2
    have HFq : Hid (∀ (W : World) (hb : Below w.heap.size w W), Calls Tryz.prog 46 #[.slice sa S.length sc, .int .i64 (q : Int)] W fun e w' => (∃ r : Int, e = .returned (.int .i64 r) ∧ 0 ≤ r) ∧ w' = W) := fun W hb => (HFd.out W hb (q : Int)).mono fun e w' h => by
     obtain ⟨⟨r, h1, h2, h3⟩, h4⟩ := h
     exact ⟨⟨r, h1, h3.2 hm⟩, h4⟩
    have z1 : (0 : Int) ≤ (q : Int) := by omega
    have z2 : (q : Int) < (h.words.length : Int) := by omega
    generalize nAt h.words q = x at *
    have HUx : Hid (∀ (W : World) (hb : Below w.heap.size w W), Calls Tryz.prog 50 #[.slice ga gs.length gc, .int .i64 (IntKind.i64.wrap (x.tdiv 16)), .int .i64 fo] W fun e w' => e = .returned (.bool (under gs (x / 16) fo)) ∧ Below W.heap.size W w') := fun W hb => by
     rw [Int.tdiv_eq_ediv_of_nonneg hq2, wrapIh (by omega) (by omega)]
     exact HU.out W hb (x / 16) fo (by omega) hq3 o0 o1
    generalize under gs (x / 16) fo = u at *
    clear hm HSO HU HFd hq3
    go_wp2_with fail
    refine wp_region_held_drew (S := (fun w' => w'.cell? ⟨w.heap.size, 0, none⟩ = some (.slice (some ⟨b, off, none⟩) h.words.length wc) ∧ w'.cell? ⟨w.heap.size + 1, 1, none⟩ = some (.int .i64 q) ∧ w'.cell? ⟨w.heap.size + 1 + 1, 1, none⟩ = some (.int .i64 fo) ∧ w'.cell? ⟨b, off + q, none⟩ = some (.int .i64 x))) (by kernel_rfl) ?_ (fun hHeld => ?_)
    · (try dsimp only); (first | exact ⟨p0, v1, f1, cq⟩ | exact hHeld | exact ⟨k0, k1, k2, k3⟩)
    refine takeL (i := 0) (v := ?v0n1) rfl (by kernel_rfl) (by kernel_rfl) (by kernel_rfl) (fun _ _ _ h => h) (by kernel_rfl) (by assumption) ?y0n1 ?r0n1; case y0n1 => (intro w hSw; (try dsimp only at hSw); go_simp; try with_reducible rfl); (try simp only [Act.put, List.setIfInBounds_toArray, List.set_cons_zero, List.set_cons_succ])
    refine takeL (i := 1) (v := ?v1n2) rfl (by kernel_rfl) (by kernel_rfl) (by kernel_rfl) (fun _ _ _ h => h) (by kernel_rfl) (by assumption) ?y1n2 ?r1n2; case y1n2 => (intro w hSw; (try dsimp only at hSw); go_simp; try with_reducible rfl); (try simp only [Act.put, List.setIfInBounds_toArray, List.set_cons_zero, List.set_cons_succ])
    refine takeL (i := 2) (v := ?v2n3) rfl (by kernel_rfl) (by kernel_rfl) (by kernel_rfl) (fun _ _ _ h => h) (by kernel_rfl) (by assumption) ?y2n3 ?r2n3; case y2n3 => (intro w hSw; (try dsimp only at hSw); go_simp; try with_reducible rfl); (try simp only [Act.put, List.setIfInBounds_toArray, List.set_cons_zero, List.set_cons_succ])
    refine doL (i := 3) rfl (by kernel_rfl) (fun K hK => ?_)
    go_simp
    (go_at_call 46; refine (HFq.out _ B2.out.drew).mono ?_; rintro e w3 ⟨⟨r, rfl, hr0⟩, rfl⟩; have B3 : Hid (Below w.heap.size w w2.drew) := B2.out.drew; have d0 : decide (0 ≤ r) = true := (by simpa using hr0))
    (try go_wp2_with fail)
    refine hK.out _ _ ?_ (fun hHeld2 => ?_)
    · (try dsimp only); (first | exact ⟨p0, v1, f1, cq⟩ | exact hHeld | exact ⟨k0, k1, k2, k3⟩)
    clear hK K hHeld
    have hHeld := hHeld2
    clear hHeld2
    try simp only [Act.put, List.setIfInBounds_toArray, List.set_cons_zero, List.set_cons_succ]
    refine takeL (i := 4) (v := ?v4n4) rfl (by kernel_rfl) (by kernel_rfl) (by kernel_rfl) (fun _ _ _ h => h) (by kernel_rfl) (by assumption) ?y4n4 ?r4n4; case y4n4 => (intro w hSw; (try dsimp only at hSw); go_simp; try with_reducible rfl); (try simp only [Act.put, List.setIfInBounds_toArray, List.set_cons_zero, List.set_cons_succ])
    refine takeL (i := 5) (v := ?v5n5) rfl (by kernel_rfl) (by kernel_rfl) (by kernel_rfl) (fun _ _ _ h => h) (by kernel_rfl) (by assumption) ?y5n5 ?r5n5; case y5n5 => (intro w hSw; (try dsimp only at hSw); go_simp; try with_reducible rfl); (try simp only [Act.put, List.setIfInBounds_toArray, List.set_cons_zero, List.set_cons_succ])
    refine takeL (i := 6) (v := ?v6n6) rfl (by kernel_rfl) (by kernel_rfl) (by kernel_rfl) (fun _ _ _ h => h) (by kernel_rfl) (by assumption) ?y6n6 ?r6n6; case y6n6 => (intro w hSw; (try dsimp only at hSw); go_simp; try with_reducible rfl); (try simp only [Act.put, List.setIfInBounds_toArray, List.set_cons_zero, List.set_cons_succ])
    refine takeL (i := 7) (v := ?v7n7) rfl (by kernel_rfl) (by kernel_rfl) (by kernel_rfl) (fun _ _ _ h => h) (by kernel_rfl) (by assumption) ?y7n7 ?r7n7; case y7n7 => (intro w hSw; (try dsimp only at hSw); go_simp; try with_reducible rfl); (try simp only [Act.put, List.setIfInBounds_toArray, List.set_cons_zero, List.set_cons_succ])
    refine takeL (i := 8) (v := ?v8n8) rfl (by kernel_rfl) (by kernel_rfl) (by kernel_rfl) (fun _ _ _ h => h) (by kernel_rfl) (by assumption) ?y8n8 ?r8n8; case y8n8 => (intro w hSw; (try dsimp only at hSw); go_simp; try with_reducible rfl); (try simp only [Act.put, List.setIfInBounds_toArray, List.set_cons_zero, List.set_cons_succ])
    refine takeL (i := 9) (v := ?v9n9) rfl (by kernel_rfl) (by kernel_rfl) (by kernel_rfl) (fun _ _ _ h => h) (by kernel_rfl) (by assumption) ?y9n9 ?r9n9; case y9n9 => (intro w hSw; (try dsimp only at hSw); go_simp; try with_reducible rfl); (try simp only [Act.put, List.setIfInBounds_toArray, List.set_cons_zero, List.set_cons_succ])
    refine takeL (i := 10) (v := ?v10n10) rfl (by kernel_rfl) (by kernel_rfl) (by kernel_rfl) (fun _ _ _ h => h) (by kernel_rfl) (by assumption) ?y10n10 ?r10n10; case y10n10 => (intro w hSw; (try dsimp only at hSw); go_simp; try with_reducible rfl); (try simp only [Act.put, List.setIfInBounds_toArray, List.set_cons_zero, List.set_cons_succ])
    refine takeL (i := 11) (v := ?v11n11) rfl (by kernel_rfl) (by kernel_rfl) (by kernel_rfl) (fun _ _ _ h => h) (by kernel_rfl) (by assumption) ?y11n11 ?r11n11; case y11n11 => (intro w hSw; (try dsimp only at hSw); go_simp; try with_reducible rfl); (try simp only [Act.put, List.setIfInBounds_toArray, List.set_cons_zero, List.set_cons_succ])
    refine takeL (i := 12) (v := ?v12n12) rfl (by kernel_rfl) (by kernel_rfl) (by kernel_rfl) (fun _ _ _ h => h) (by kernel_rfl) (by assumption) ?y12n12 ?r12n12; case y12n12 => (intro w hSw; (try dsimp only at hSw); go_simp; try with_reducible rfl); (try simp only [Act.put, List.setIfInBounds_toArray, List.set_cons_zero, List.set_cons_succ])
    refine takeL (i := 13) (v := ?v13n13) rfl (by kernel_rfl) (by kernel_rfl) (by kernel_rfl) (fun _ _ _ h => h) (by kernel_rfl) (by assumption) ?y13n13 ?r13n13; case y13n13 => (intro w hSw; (try dsimp only at hSw); go_simp; try with_reducible rfl); (try simp only [Act.put, List.setIfInBounds_toArray, List.set_cons_zero, List.set_cons_succ])
    refine takeL (i := 14) (v := ?v14n14) rfl (by kernel_rfl) (by kernel_rfl) (by kernel_rfl) (fun _ _ _ h => h) (by kernel_rfl) (by assumption) ?y14n14 ?r14n14; case y14n14 => (intro w hSw; (try dsimp only at hSw); go_simp; try with_reducible rfl); (try simp only [Act.put, List.setIfInBounds_toArray, List.set_cons_zero, List.set_cons_succ])
    refine takeL (i := 15) (v := ?v15n15) rfl (by kernel_rfl) (by kernel_rfl) (by kernel_rfl) (fun _ _ _ h => h) (by kernel_rfl) (by assumption) ?y15n15 ?r15n15; case y15n15 => (intro w hSw; (try dsimp only at hSw); go_simp; try with_reducible rfl); (try simp only [Act.put, List.setIfInBounds_toArray, List.set_cons_zero, List.set_cons_succ])
    refine doL (i := 16) rfl (by kernel_rfl) (fun K hK => ?_)
    go_simp
    (go_at_call 50; refine (HUx.out _ B3.out).mono ?_; rintro e w4 ⟨rfl, b4⟩; have B4 := hide (B3.out.trans (b4.mono B3.out.size)); have k0 := (b4.cell (p := ⟨w.heap.size, 0, none⟩) P2.out.lt).trans hHeld.1; have k1 := (b4.cell (p := ⟨w.heap.size + 1, 1, none⟩) V2.out.lt).trans hHeld.2.1; have k2 := (b4.cell (p := ⟨w.heap.size + 1 + 1, 1, none⟩) F2.out.lt).trans hHeld.2.2.1; have k3 := (b4.cell (p := ⟨b, off + q, none⟩) (Nat.lt_of_lt_of_le hbw B3.out.size)).trans hHeld.2.2.2; clear b4)
    (try go_wp2_with fail)
    refine hK.out _ _ ?_ (fun hHeld2 => ?_)
    · (try dsimp only); (first | exact ⟨p0, v1, f1, cq⟩ | exact hHeld | exact ⟨k0, k1, k2, k3⟩)
    clear hK K hHeld
    have hHeld := hHeld2
    clear hHeld2
    try simp only [Act.put, List.setIfInBounds_toArray, List.set_cons_zero, List.set_cons_succ]
    refine takeL (i := 17) (v := ?v17n16) rfl (by kernel_rfl) (by kernel_rfl) (by kernel_rfl) (fun _ _ _ h => h) (by kernel_rfl) (by assumption) ?y17n16 ?r17n16; case y17n16 => (intro w hSw; (try dsimp only at hSw); go_simp; try with_reducible rfl); (try simp only [Act.put, List.setIfInBounds_toArray, List.set_cons_zero, List.set_cons_succ])
    refine takeL (i := 18) (v := ?v18n17) rfl (by kernel_rfl) (by kernel_rfl) (by kernel_rfl) (fun _ _ _ h => h) (by kernel_rfl) (by assumption) ?y18n17 ?r18n17; case y18n17 => (intro w hSw; (try dsimp only at hSw); go_simp; try with_reducible rfl); (try simp only [Act.put, List.setIfInBounds_toArray, List.set_cons_zero, List.set_cons_succ])
    refine wpAnyH_done (by kernel_rfl) ?_ _
    go_wp2_with fail
    go_ret
    exact ⟨ret_bool hR.out.symm, B4.out⟩
   ·have hR2 : Hid (R = false) := by show _ = _; rw [hR.out, decide_eq_false hm]; rfl
    have HFq : Hid (∀ (W : World) (hb : Below w.heap.size w W), Calls Tryz.prog 46 #[.slice sa S.length sc, .int .i64 n] W fun e w' => e = .returned (.int .i64 (-1)) ∧ w' = W) := fun W hb => (HFd.out W hb n).mono fun e w' h => by
     obtain ⟨⟨r, h1, h2, h3⟩, h4⟩ := h
     have : ¬ 0 ≤ r := fun e => hm (h3.1 e)
     exact ⟨by rw [h1, show r = -1 by omega], h4⟩
    clear hR hm HSO HU HFd HWS HWB
    go_wp2_with fail
    refine wp_region_held_drew (S := (fun w' => w'.cell? ⟨w.heap.size + 1, 1, none⟩ = some (.int .i64 n))) (by kernel_rfl) ?_ (fun hHeld => ?_)
    · (try dsimp only); (first | exact v1 | exact hHeld)
    refine takeL (i := 0) (v := ?v0n18) rfl (by kernel_rfl) (by kernel_rfl) (by kernel_rfl) (fun _ _ _ h => h) (by kernel_rfl) (by assumption) ?y0n18 ?r0n18; case y0n18 => (intro w hSw; (try dsimp only at hSw); go_simp; try with_reducible rfl); (try simp only [Act.put, List.setIfInBounds_toArray, List.set_cons_zero, List.set_cons_succ])
    refine takeL (i := 1) (v := ?v1n19) rfl (by kernel_rfl) (by kernel_rfl) (by kernel_rfl) (fun _ _ _ h => h) (by kernel_rfl) (by assumption) ?y1n19 ?r1n19; case y1n19 => (intro w hSw; (try dsimp only at hSw); go_simp; try with_reducible rfl); (try simp only [Act.put, List.setIfInBounds_toArray, List.set_cons_zero, List.set_cons_succ])
    refine takeL (i := 2) (v := ?v2n20) rfl (by kernel_rfl) (by kernel_rfl) (by kernel_rfl) (fun _ _ _ h => h) (by kernel_rfl) (by assumption) ?y2n20 ?r2n20; case y2n20 => (intro w hSw; (try dsimp only at hSw); go_simp; try with_reducible rfl); (try simp only [Act.put, List.setIfInBounds_toArray, List.set_cons_zero, List.set_cons_succ])
    refine doL (i := 3) rfl (by kernel_rfl) (fun K hK => ?_)
    go_simp
    (go_at_call 46; refine (HFq.out _ B2.out.drew).mono ?_; rintro e w3 ⟨rfl, rfl⟩; have B3 : Hid (Below w.heap.size w w2.drew) := B2.out.drew; have d0 : decide ((0 : Int) ≤ -1) = false := rfl)
    (try go_wp2_with fail)
    refine hK.out _ _ ?_ (fun hHeld2 => ?_)
    · (try dsimp only); (first | exact v1 | exact hHeld)
    clear hK K hHeld
    have hHeld := hHeld2
    clear hHeld2
    try simp only [Act.put, List.setIfInBounds_toArray, List.set_cons_zero, List.set_cons_succ]
    refine takeL (i := 4) (v := ?v4n21) rfl (by kernel_rfl) (by kernel_rfl) (by kernel_rfl) (fun _ _ _ h => h) (by kernel_rfl) (by assumption) ?y4n21 ?r4n21; case y4n21 => (intro w hSw; (try dsimp only at hSw); go_simp; try with_reducible rfl); (try simp only [Act.put, List.setIfInBounds_toArray, List.set_cons_zero, List.set_cons_succ])
    refine takeL (i := 5) (v := ?v5n22) rfl (by kernel_rfl) (by kernel_rfl) (by kernel_rfl) (fun _ _ _ h => h) (by kernel_rfl) (by assumption) ?y5n22 ?r5n22; case y5n22 => (intro w hSw; (try dsimp only at hSw); go_simp; try with_reducible rfl); (try simp only [Act.put, List.setIfInBounds_toArray, List.set_cons_zero, List.set_cons_succ])
    refine skipL (i := 6) rfl (by kernel_rfl) (by kernel_rfl) (by kernel_rfl) (fun _ _ _ h => h) (by kernel_rfl) (by assumption) ?_; (try simp only [Act.put, List.setIfInBounds_toArray, List.set_cons_zero, List.set_cons_succ])
    refine skipL (i := 7) rfl (by kernel_rfl) (by kernel_rfl) (by kernel_rfl) (fun _ _ _ h => h) (by kernel_rfl) (by assumption) ?_; (try simp only [Act.put, List.setIfInBounds_toArray, List.set_cons_zero, List.set_cons_succ])
    refine skipL (i := 8) rfl (by kernel_rfl) (by kernel_rfl) (by kernel_rfl) (fun _ _ _ h => h) (by kernel_rfl) (by assumption) ?_; (try simp only [Act.put, List.setIfInBounds_toArray, List.set_cons_zero, List.set_cons_succ])
    refine skipL (i := 9) rfl (by kernel_rfl) (by kernel_rfl) (by kernel_rfl) (fun _ _ _ h => h) (by kernel_rfl) (by assumption) ?_; (try simp only [Act.put, List.setIfInBounds_toArray, List.set_cons_zero, List.set_cons_succ])
    refine skipL (i := 10) rfl (by kernel_rfl) (by kernel_rfl) (by kernel_rfl) (fun _ _ _ h => h) (by kernel_rfl) (by assumption) ?_; (try simp only [Act.put, List.setIfInBounds_toArray, List.set_cons_zero, List.set_cons_succ])
    refine skipL (i := 11) rfl (by kernel_rfl) (by kernel_rfl) (by kernel_rfl) (fun _ _ _ h => h) (by kernel_rfl) (by assumption) ?_; (try simp only [Act.put, List.setIfInBounds_toArray, List.set_cons_zero, List.set_cons_succ])
    refine skipL (i := 12) rfl (by kernel_rfl) (by kernel_rfl) (by kernel_rfl) (fun _ _ _ h => h) (by kernel_rfl) (by assumption) ?_; (try simp only [Act.put, List.setIfInBounds_toArray, List.set_cons_zero, List.set_cons_succ])
    refine skipL (i := 13) rfl (by kernel_rfl) (by kernel_rfl) (by kernel_rfl) (fun _ _ _ h => h) (by kernel_rfl) (by assumption) ?_; (try simp only [Act.put, List.setIfInBounds_toArray, List.set_cons_zero, List.set_cons_succ])
    refine skipL (i := 14) rfl (by kernel_rfl) (by kernel_rfl) (by kernel_rfl) (fun _ _ _ h => h) (by kernel_rfl) (by assumption) ?_; (try simp only [Act.put, List.setIfInBounds_toArray, List.set_cons_zero, List.set_cons_succ])
    refine skipL (i := 15) rfl (by kernel_rfl) (by kernel_rfl) (by kernel_rfl) (fun _ _ _ h => h) (by kernel_rfl) (by assumption) ?_; (try simp only [Act.put, List.setIfInBounds_toArray, List.set_cons_zero, List.set_cons_succ])
    refine skipL (i := 16) rfl (by kernel_rfl) (by kernel_rfl) (by kernel_rfl) (fun _ _ _ h => h) (by kernel_rfl) (by assumption) ?_; (try simp only [Act.put, List.setIfInBounds_toArray, List.set_cons_zero, List.set_cons_succ])
    refine takeL (i := 17) (v := ?v17n23) rfl (by kernel_rfl) (by kernel_rfl) (by kernel_rfl) (fun _ _ _ h => h) (by kernel_rfl) (by assumption) ?y17n23 ?r17n23; case y17n23 => (intro w hSw; (try dsimp only at hSw); go_simp; try with_reducible rfl); (try simp only [Act.put, List.setIfInBounds_toArray, List.set_cons_zero, List.set_cons_succ])
    refine takeL (i := 18) (v := ?v18n24) rfl (by kernel_rfl) (by kernel_rfl) (by kernel_rfl) (fun _ _ _ h => h) (by kernel_rfl) (by assumption) ?y18n24 ?r18n24; case y18n24 => (intro w hSw; (try dsimp only at hSw); go_simp; try with_reducible rfl); (try simp only [Act.put, List.setIfInBounds_toArray, List.set_cons_zero, List.set_cons_succ])
    refine wpAnyH_done (by kernel_rfl) ?_ _
    go_wp2_with fail
    go_ret
    exact ⟨ret_bool hR2.out.symm, B3.out⟩
end Go.Proofs.YtembifoimiochaaGreatDoor
