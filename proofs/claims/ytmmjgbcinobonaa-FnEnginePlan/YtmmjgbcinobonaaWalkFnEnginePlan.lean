/- The law of plans on a drawn plan. -/
import Derived.Test.YtmmjgbcinobonaaDrawPlan
import Derived.Test.YtmmjgbcinobonaaPlanOk
namespace Go.Proofs.Ytmmjgbcinobonaa
open Go.ChangeShapes Go.WideShapes Go.ChangeAt Go.RowKit Go.Deep
set_option linter.unusedVariables false

set_option maxHeartbeats 4000000 in
set_option maxRecDepth 100000 in
theorem drawPlanOk_any (a : Option Addr) (cap n : Nat) (w : World) (hc : n ≤ cap) (h : BytesIn w w.heap.size a n) :
    Calls Try.prog 5 #[.slice a n cap] w fun e w' => ∃ x0 x1 x2 x3 : Int, e = .returned (.agg #[.int .i64 x0, .int .i64 x1, .int .i64 x2, .int .i64 x3]) ∧ Below w.heap.size w w' := by
  go_enter Try.func5, Try.ntmps5
  go_wp2_with fail
  refine (open_any a cap n _ hc ((h.keep ((Below.refl _ _).alloc (Nat.le_refl _) _)).wider (by simp))).mono ?_
  rintro e w1 ⟨rfl, r1, b1, s1⟩
  have R1 : Hid (Rec w1 w.heap.size 24 [.int .i64 0, .int .i64 0, .int .i64 0, .int .i64 0]) := (Rec.new' _ _ _ _ rfl).below b1 (by simp)
  have O1 : Hid (Only (w.heap.size + 1) w w1) := (Only.of_below ((Below.refl _ _).alloc (Nat.le_refl _) _)).trans (Only.of_below b1)
  simp only [World.size_alloc] at r1 s1
  clear b1 h
  go_wp2_with fail
  refine (l10Plan_any (w.heap.size + 1) 0 w1 (by omega) r1).mono ?_
  rintro e w2 ⟨v1, v2, v3, v4, rfl, ⟨p2, hp2, r2⟩, o2⟩
  have z2 := o2.size
  have R2 := hide ((R1.out.only o2 (by omega)).alloc (.cells #[.int .i64 v1, .int .i64 v2, .int .i64 v3, .int .i64 v4] 24))
  have P2 := hide (Rec.new w2 24 [.int .i64 v1, .int .i64 v2, .int .i64 v3, .int .i64 v4])
  have O2 := hide ((O1.out.trans o2).alloc (.cells #[.int .i64 v1, .int .i64 v2, .int .i64 v3, .int .i64 v4] 24))
  have r2' := r2.alloc (.cells #[.int .i64 v1, .int .i64 v2, .int .i64 v3, .int .i64 v4] 24)
  have hpb : w.heap.size + 1 < w2.heap.size := by omega
  clear o2 R1 O1 r1 r2
  go_wp2_with fail
  refine (pick_only (w.heap.size + 1) p2 _ _ (by omega) r2').mono ?_
  rintro e w6 ⟨k6, rfl, _, _, _, r6, o6, s6⟩
  have P6 := hide (P2.out.only o6 (by omega))
  have R6 := hide (R2.out.only o6 (by omega))
  have O6 := hide (O2.out.trans o6)
  have z6 := o6.size
  simp only [World.size_alloc] at z6
  clear P2 R2 O2 r2' o6 s6
  generalize w2.heap.size = pb at *
  by_cases h0 : k6 = 0
  · subst h0
    go_wp2_with fail
    refine (num_list [0, -1, 121, 120] (w.heap.size + 1) (p2 + 1) _ _ _ (by simp) (by omega) r6 (by simp) (by simp)).mono ?_
    rintro e w7 ⟨k7, hk7, rfl, r7, o7, s7⟩
    have P7 := hide (P6.out.only o7 (by omega))
    have R7 := hide (R6.out.only o7 (by omega))
    have O7 := hide (O6.out.trans o7)
    generalize nAt [0, -1, 121, 120] k7 = v7
    clear o7 hk7 s7 P6 R6 O6 r6
    have d0 := R7.out.cell (o := 0) rfl
    have e0 := R7.out.frozen 0
    have i0 := P7.out.cell (o := 0) rfl
    have j0 := P7.out.frozen 0
    have d1 := R7.out.cell (o := 1) rfl
    have e1 := R7.out.frozen 1
    have i1 := P7.out.cell (o := 1) rfl
    have j1 := P7.out.frozen 1
    have d2 := R7.out.cell (o := 2) rfl
    have e2 := R7.out.frozen 2
    have i2 := P7.out.cell (o := 2) rfl
    have j2 := P7.out.frozen 2
    have d3 := R7.out.cell (o := 3) rfl
    have e3 := R7.out.frozen 3
    have i3 := P7.out.cell (o := 3) rfl
    have j3 := P7.out.frozen 3
    go_wp2_with fail
    exact bodyPost_ret (v := .agg #[.int .i64 v7, .int .i64 v2, .int .i64 v3, .int .i64 v4]) (by simp [results, Try.results5, go_sem, d0, d1, d2, d3]) rfl ⟨_, _, _, _, rfl, ((((((O7.out.below (by omega) (Nat.le_refl _)).setCell (by dsimp only; omega) _).setCell (by dsimp only; omega) _).setCell (by dsimp only; omega) _).setCell (by dsimp only; omega) _).setCell (by dsimp only; omega) _)⟩
  by_cases h1 : k6 = 1
  · subst h1
    go_wp2_with fail
    refine (num_list [0, -1, 41] (w.heap.size + 1) (p2 + 1) _ _ _ (by simp) (by omega) r6 (by simp) (by simp)).mono ?_
    rintro e w7 ⟨k7, hk7, rfl, r7, o7, s7⟩
    have P7 := hide (P6.out.only o7 (by omega))
    have R7 := hide (R6.out.only o7 (by omega))
    have O7 := hide (O6.out.trans o7)
    generalize nAt [0, -1, 41] k7 = v7
    clear o7 hk7 s7 P6 R6 O6 r6
    have d0 := R7.out.cell (o := 0) rfl
    have e0 := R7.out.frozen 0
    have i0 := P7.out.cell (o := 0) rfl
    have j0 := P7.out.frozen 0
    have d1 := R7.out.cell (o := 1) rfl
    have e1 := R7.out.frozen 1
    have i1 := P7.out.cell (o := 1) rfl
    have j1 := P7.out.frozen 1
    have d2 := R7.out.cell (o := 2) rfl
    have e2 := R7.out.frozen 2
    have i2 := P7.out.cell (o := 2) rfl
    have j2 := P7.out.frozen 2
    have d3 := R7.out.cell (o := 3) rfl
    have e3 := R7.out.frozen 3
    have i3 := P7.out.cell (o := 3) rfl
    have j3 := P7.out.frozen 3
    go_wp2_with fail
    exact bodyPost_ret (v := .agg #[.int .i64 v1, .int .i64 v7, .int .i64 v3, .int .i64 v4]) (by simp [results, Try.results5, go_sem, d0, d1, d2, d3]) rfl ⟨_, _, _, _, rfl, ((((((O7.out.below (by omega) (Nat.le_refl _)).setCell (by dsimp only; omega) _).setCell (by dsimp only; omega) _).setCell (by dsimp only; omega) _).setCell (by dsimp only; omega) _).setCell (by dsimp only; omega) _)⟩
  by_cases h2 : k6 = 2
  · subst h2
    go_wp2_with fail
    refine (num_list [-1, 300, 301] (w.heap.size + 1) (p2 + 1) _ _ _ (by simp) (by omega) r6 (by simp) (by simp)).mono ?_
    rintro e w7 ⟨k7, hk7, rfl, r7, o7, s7⟩
    have P7 := hide (P6.out.only o7 (by omega))
    have R7 := hide (R6.out.only o7 (by omega))
    have O7 := hide (O6.out.trans o7)
    generalize nAt [-1, 300, 301] k7 = v7
    clear o7 hk7 s7 P6 R6 O6 r6
    have d0 := R7.out.cell (o := 0) rfl
    have e0 := R7.out.frozen 0
    have i0 := P7.out.cell (o := 0) rfl
    have j0 := P7.out.frozen 0
    have d1 := R7.out.cell (o := 1) rfl
    have e1 := R7.out.frozen 1
    have i1 := P7.out.cell (o := 1) rfl
    have j1 := P7.out.frozen 1
    have d2 := R7.out.cell (o := 2) rfl
    have e2 := R7.out.frozen 2
    have i2 := P7.out.cell (o := 2) rfl
    have j2 := P7.out.frozen 2
    have d3 := R7.out.cell (o := 3) rfl
    have e3 := R7.out.frozen 3
    have i3 := P7.out.cell (o := 3) rfl
    have j3 := P7.out.frozen 3
    go_wp2_with fail
    exact bodyPost_ret (v := .agg #[.int .i64 v1, .int .i64 v2, .int .i64 v7, .int .i64 v4]) (by simp [results, Try.results5, go_sem, d0, d1, d2, d3]) rfl ⟨_, _, _, _, rfl, ((((((O7.out.below (by omega) (Nat.le_refl _)).setCell (by dsimp only; omega) _).setCell (by dsimp only; omega) _).setCell (by dsimp only; omega) _).setCell (by dsimp only; omega) _).setCell (by dsimp only; omega) _)⟩
  by_cases h3 : k6 = 3
  · subst h3
    go_wp2_with fail
    refine (num_list [-1, 300, 301] (w.heap.size + 1) (p2 + 1) _ _ _ (by simp) (by omega) r6 (by simp) (by simp)).mono ?_
    rintro e w7 ⟨k7, hk7, rfl, r7, o7, s7⟩
    have P7 := hide (P6.out.only o7 (by omega))
    have R7 := hide (R6.out.only o7 (by omega))
    have O7 := hide (O6.out.trans o7)
    generalize nAt [-1, 300, 301] k7 = v7
    clear o7 hk7 s7 P6 R6 O6 r6
    have d0 := R7.out.cell (o := 0) rfl
    have e0 := R7.out.frozen 0
    have i0 := P7.out.cell (o := 0) rfl
    have j0 := P7.out.frozen 0
    have d1 := R7.out.cell (o := 1) rfl
    have e1 := R7.out.frozen 1
    have i1 := P7.out.cell (o := 1) rfl
    have j1 := P7.out.frozen 1
    have d2 := R7.out.cell (o := 2) rfl
    have e2 := R7.out.frozen 2
    have i2 := P7.out.cell (o := 2) rfl
    have j2 := P7.out.frozen 2
    have d3 := R7.out.cell (o := 3) rfl
    have e3 := R7.out.frozen 3
    have i3 := P7.out.cell (o := 3) rfl
    have j3 := P7.out.frozen 3
    go_wp2_with fail
    exact bodyPost_ret (v := .agg #[.int .i64 v1, .int .i64 v2, .int .i64 v3, .int .i64 v7]) (by simp [results, Try.results5, go_sem, d0, d1, d2, d3]) rfl ⟨_, _, _, _, rfl, ((((((O7.out.below (by omega) (Nat.le_refl _)).setCell (by dsimp only; omega) _).setCell (by dsimp only; omega) _).setCell (by dsimp only; omega) _).setCell (by dsimp only; omega) _).setCell (by dsimp only; omega) _)⟩
  have q0 : (k6 == 0) = false := by simpa using h0
  have q1 : (k6 == 1) = false := by simpa using h1
  have q2 : (k6 == 2) = false := by simpa using h2
  have q3 : (k6 == 3) = false := by simpa using h3
  have d0 := R6.out.cell (o := 0) rfl
  have e0 := R6.out.frozen 0
  have i0 := P6.out.cell (o := 0) rfl
  have j0 := P6.out.frozen 0
  have d1 := R6.out.cell (o := 1) rfl
  have e1 := R6.out.frozen 1
  have i1 := P6.out.cell (o := 1) rfl
  have j1 := P6.out.frozen 1
  have d2 := R6.out.cell (o := 2) rfl
  have e2 := R6.out.frozen 2
  have i2 := P6.out.cell (o := 2) rfl
  have j2 := P6.out.frozen 2
  have d3 := R6.out.cell (o := 3) rfl
  have e3 := R6.out.frozen 3
  have i3 := P6.out.cell (o := 3) rfl
  have j3 := P6.out.frozen 3
  go_wp2_with fail
  exact bodyPost_ret (v := .agg #[.int .i64 v1, .int .i64 v2, .int .i64 v3, .int .i64 v4]) (by simp [results, Try.results5, go_sem, d0, d1, d2, d3]) rfl ⟨_, _, _, _, rfl, (((((O6.out.below (by omega) (Nat.le_refl _)).setCell (by dsimp only; omega) _).setCell (by dsimp only; omega) _).setCell (by dsimp only; omega) _).setCell (by dsimp only; omega) _)⟩

theorem plan_bad (o y i j : Int) : planOk 0 y i j = false ∧ planOk o 41 i j = false ∧ planOk o y (-1) j = false ∧ planOk o y i 301 = false := by
  unfold planOk
  simp only [decide_eq_false_iff_not]
  omega
theorem plan_good {o y i j : Int} (h : planOk o y i j = true) : o + y ≤ 160 ∧ planOk o y 0 0 = true ∧ 1 ≤ o ∧ o ≤ 120 ∧ 0 ≤ y ∧ y ≤ 40 := by
  unfold planOk at h ⊢
  simp only [decide_eq_true_eq] at h ⊢
  omega

set_option maxHeartbeats 4000000 in
set_option maxRecDepth 100000 in
theorem fnEnginePlan_walk (a0 : Option Addr) (cap0 n0 : Nat) (hc0 : n0 ≤ cap0) (w : World) (h0 : BytesIn w w.heap.size a0 n0) :
    Calls Try.prog 3 #[.slice a0 n0 cap0] w fun e w' => e = .returned (.bool true) ∧ Below w.heap.size w w' := by
  by_cases l0 : 1048576 < n0
  · have k0 : (1048576 : Int) < (n0 : Int) := by omega
    go_enter Try.func3, Try.ntmps3
    go_wp2_with fail
    go_ret
    exact ⟨rfl, Below.refl _ _⟩
  have k0 : (n0 : Int) ≤ 1048576 := by omega
  go_enter Try.func3, Try.ntmps3
  go_wp2_with fail
  refine (drawPlanOk_any a0 cap0 n0 w hc0 h0).mono ?_
  rintro e w1 ⟨o, y, i, j, rfl, b1⟩
  obtain ⟨v, hv⟩ : ∃ v, planOk o y i j = v := ⟨_, rfl⟩
  obtain ⟨hA, hB, hC, hD⟩ := plan_bad o y i j
  have HV := hide hv
  have HA := hide hA
  have HB := hide hB
  have HC := hide hC
  have HD := hide hD
  clear hA hB hC hD
  have P1 := Rec.new w1 24 [.int .i64 o, .int .i64 y, .int .i64 i, .int .i64 j]
  have B1 : Below w.heap.size w (w1.alloc (.cells #[.int .i64 o, .int .i64 y, .int .i64 i, .int .i64 j] 24)) := b1.alloc b1.size _
  clear b1
  go_wp2_with fail
  refine (implPlanOk_v o y i j HV.out _).mono ?_
  rintro e w2 ⟨rfl, b2⟩
  have P2 := P1.below b2 P1.lt
  have B2 := B1.trans (b2.mono B1.size)
  clear b2 P1 B1
  generalize w1.heap.size = pb at *
  have c0 := P2.cell (o := 0) rfl
  have c1 := P2.cell (o := 1) rfl
  have c2 := P2.cell (o := 2) rfl
  have c3 := P2.cell (o := 3) rfl
  go_wp2_with fail
  refine (specPlanOk_v o y i j HV.out _).mono ?_
  rintro e w3 ⟨rfl, b3⟩
  have P3 := P2.below b3 P2.lt
  have B3 := B2.trans (b3.mono B2.size)
  clear b3 P2 B2 c0 c1 c2 c3
  have c0 := P3.cell (o := 0) rfl
  have c1 := P3.cell (o := 1) rfl
  have c2 := P3.cell (o := 2) rfl
  have c3 := P3.cell (o := 3) rfl
  have t0 : pb < w3.heap.size := P3.lt
  have t1 : pb < w3.heap.size + 1 := by omega
  have t2 : pb < w3.heap.size + 1 + 1 := by omega
  have t3 : pb < w3.heap.size + 1 + 1 + 1 := by omega
  go_wp2_with fail
  obtain ⟨W, hW⟩ : ∃ W, (((w3.alloc (.cells #[.int .i64 0, .int .i64 y, .int .i64 i, .int .i64 j] 24)).alloc (.cells #[.int .i64 o, .int .i64 41, .int .i64 i, .int .i64 j] 24)).alloc (.cells #[.int .i64 o, .int .i64 y, .int .i64 (-1), .int .i64 j] 24)).alloc (.cells #[.int .i64 o, .int .i64 y, .int .i64 i, .int .i64 301] 24) = W := ⟨_, rfl⟩
  have bW : Below w3.heap.size w3 W := by
    rw [← hW]
    exact ((((Below.refl _ _).alloc (Nat.le_refl _) _).alloc (by simp) _).alloc (by simp; omega) _).alloc (by simp; omega) _
  have RA : Rec W w3.heap.size 24 [.int .i64 0, .int .i64 y, .int .i64 i, .int .i64 j] := by rw [← hW]; exact (((Rec.new _ _ _).alloc _).alloc _).alloc _
  have RB : Rec W (w3.heap.size + 1) 24 [.int .i64 o, .int .i64 41, .int .i64 i, .int .i64 j] := by rw [← hW]; exact ((Rec.new' _ _ _ _ (by simp)).alloc _).alloc _
  have RC : Rec W (w3.heap.size + 1 + 1) 24 [.int .i64 o, .int .i64 y, .int .i64 (-1), .int .i64 j] := by rw [← hW]; exact (Rec.new' _ _ _ _ (by simp)).alloc _
  have RD : Rec W (w3.heap.size + 1 + 1 + 1) 24 [.int .i64 o, .int .i64 y, .int .i64 i, .int .i64 301] := by rw [← hW]; exact Rec.new' _ _ _ _ (by simp)
  have PW := P3.below bW P3.lt
  have BW := B3.trans (bW.mono B3.size)
  rw [hW]
  clear hW bW P3 B3 c0 c1 c2 c3 t0 t1 t2 t3
  generalize w3.heap.size = ab at *
  refine (implPlanOk_v 0 y i j HA.out _).mono ?_
  rintro e w10 ⟨rfl, bb⟩
  replace RB := RB.below bb RB.lt
  replace RC := RC.below bb RC.lt
  replace RD := RD.below bb RD.lt
  replace PW := PW.below bb PW.lt
  replace BW := BW.trans (bb.mono BW.size)
  clear bb
  have x00 := RB.cell (o := 0) rfl
  have x01 := RB.cell (o := 1) rfl
  have x02 := RB.cell (o := 2) rfl
  have x03 := RB.cell (o := 3) rfl
  go_wp2_with fail
  refine (implPlanOk_v o 41 i j HB.out _).mono ?_
  rintro e w11 ⟨rfl, bb⟩
  replace RC := RC.below bb RC.lt
  replace RD := RD.below bb RD.lt
  replace PW := PW.below bb PW.lt
  replace BW := BW.trans (bb.mono BW.size)
  clear bb
  have x10 := RC.cell (o := 0) rfl
  have x11 := RC.cell (o := 1) rfl
  have x12 := RC.cell (o := 2) rfl
  have x13 := RC.cell (o := 3) rfl
  go_wp2_with fail
  refine (implPlanOk_v o y (-1) j HC.out _).mono ?_
  rintro e w12 ⟨rfl, bb⟩
  replace RD := RD.below bb RD.lt
  replace PW := PW.below bb PW.lt
  replace BW := BW.trans (bb.mono BW.size)
  clear bb
  have x20 := RD.cell (o := 0) rfl
  have x21 := RD.cell (o := 1) rfl
  have x22 := RD.cell (o := 2) rfl
  have x23 := RD.cell (o := 3) rfl
  go_wp2_with fail
  refine (implPlanOk_v o y i 301 HD.out _).mono ?_
  rintro e w13 ⟨rfl, bb⟩
  replace PW := PW.below bb PW.lt
  replace BW := BW.trans (bb.mono BW.size)
  clear bb
  have x30 := PW.cell (o := 0) rfl
  have x31 := PW.cell (o := 1) rfl
  have x32 := PW.cell (o := 2) rfl
  have x33 := PW.cell (o := 3) rfl
  cases v
  · go_wp2_with fail
    go_ret
    exact ⟨rfl, BW⟩
  · obtain ⟨g1, g2, g3, g4, g5, g6⟩ := plan_good hv
    have HG := hide g2
    clear hv g2
    go_wp2_with fail
    refine (implPlanOk_v o y 0 0 HG.out _).mono ?_
    rintro e w14 ⟨rfl, bb⟩
    replace BW := BW.trans (bb.mono BW.size)
    clear bb
    go_wp2_with fail
    go_ret
    exact ⟨rfl, BW⟩
end Go.Proofs.Ytmmjgbcinobonaa
