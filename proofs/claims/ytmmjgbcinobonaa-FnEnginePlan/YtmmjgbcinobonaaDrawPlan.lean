/- What is drawn for PlanOk: a plan. -/
import Derived.Test.YtmmjgbcinobonaaDrawField0P
namespace Go.Proofs.Ytmmjgbcinobonaa
open Go.ChangeShapes Go.WideShapes Go.ChangeAt Go.RowKit Go.Deep
set_option linter.unusedVariables false

set_option maxHeartbeats 4000000 in
set_option maxRecDepth 100000 in
theorem l10Plan_any (g p : Nat) (w : World) (hp : p < 900000) (h : Rd w g p) :
    Calls Try.prog 10 #[.pointer (some ⟨g, 0, none⟩)] w fun e w' => ∃ x0 x1 x2 x3 : Int, e = .returned (.agg #[.int .i64 x0, .int .i64 x1, .int .i64 x2, .int .i64 x3]) ∧ (∃ p', p' ≤ p + 6 ∧ Rd w' g p') ∧ Only g w w' := by
  have hg := h.lt
  go_enter Try.func10, Try.ntmps10
  go_wp2_with fail
  refine (num_list [40, 60, 120, 20, 10, 30] g (p) _ _ _ (by simp) (by omega) (h.alloc _) (by simp) (by simp)).mono ?_
  rintro e w1 ⟨k1, hk1, rfl, r1, o1, s1⟩
  have R1 : Hid (Rec w1 w.heap.size 24 [.int .i64 0, .int .i64 0, .int .i64 0, .int .i64 0]) := (Rec.new' _ _ _ _ rfl).only o1 (Nat.ne_of_gt hg)
  have O1 : Hid (Only g w w1) := ((Only.refl g w).alloc _).trans o1
  have z1 := o1.size
  generalize nAt [40, 60, 120, 20, 10, 30] k1 = v1
  clear o1 hk1 s1 h
  simp only [World.size_alloc] at z1
  go_wp2_with fail
  refine (num_list [8, 16, 40, 4, 0, 7, 12] g (p + 1) _ _ _ (by simp) (by omega) r1 (by simp) (by simp)).mono ?_
  rintro e w2 ⟨k2, hk2, rfl, r2, o2, s2⟩
  have R2 := hide (R1.out.only o2 (Nat.ne_of_gt hg))
  have O2 := hide (O1.out.trans o2)
  have z2 := o2.size
  generalize nAt [8, 16, 40, 4, 0, 7, 12] k2 = v2
  clear o2 hk2 s2 R1 O1 r1
  go_wp2_with fail
  refine (num_list [0, 0, 1, 3, 7] g (p + 1 + 1) _ _ _ (by simp) (by omega) r2 (by simp) (by simp)).mono ?_
  rintro e w3 ⟨k3, hk3, rfl, r3, o3, s3⟩
  have R3 := hide (R2.out.only o3 (Nat.ne_of_gt hg))
  have O3 := hide (O2.out.trans o3)
  have z3 := o3.size
  generalize nAt [0, 0, 1, 3, 7] k3 = v3
  clear o3 hk3 s3 R2 O2 r2
  go_wp2_with fail
  refine (num_list [0, 0, 0, 1, 5, 11] g (p + 1 + 1 + 1) _ _ _ (by simp) (by omega) r3 (by simp) (by simp)).mono ?_
  rintro e w4 ⟨k4, hk4, rfl, r4, o4, s4⟩
  have R4 := hide (R3.out.only o4 (Nat.ne_of_gt hg))
  have O4 := hide (O3.out.trans o4)
  have z4 := o4.size
  generalize nAt [0, 0, 0, 1, 5, 11] k4 = v4
  clear o4 hk4 s4 R3 O3 r3
  have P4 := hide (Rec.new w4 24 [.int .i64 v1, .int .i64 v2, .int .i64 v3, .int .i64 v4])
  have R5 := hide (R4.out.alloc (.cells #[.int .i64 v1, .int .i64 v2, .int .i64 v3, .int .i64 v4] 24))
  have O5 := hide (O4.out.alloc (.cells #[.int .i64 v1, .int .i64 v2, .int .i64 v3, .int .i64 v4] 24))
  have r5 := r4.alloc (.cells #[.int .i64 v1, .int .i64 v2, .int .i64 v3, .int .i64 v4] 24)
  have hpb : w.heap.size < w4.heap.size := by omega
  have hgb : g < w4.heap.size := by omega
  clear R4 O4 r4
  go_wp2_with fail
  refine (pick_only g (p + 1 + 1 + 1 + 1) _ _ (by omega) r5).mono ?_
  rintro e w6 ⟨k6, rfl, _, _, _, r6, o6, s6⟩
  have P6 := hide (P4.out.only o6 (by omega))
  have R6 := hide (R5.out.only o6 (Nat.ne_of_gt hg))
  have O6 := hide (O5.out.trans o6)
  have z6 := o6.size
  simp only [World.size_alloc] at z6
  clear P4 R5 O5 r5 o6 s6
  generalize w4.heap.size = pb at *
  by_cases h0 : k6 = 0
  · subst h0
    go_wp2_with fail
    refine (num_list [0, 121, 1] g (p + 1 + 1 + 1 + 1 + 1) _ _ _ (by simp) (by omega) r6 (by simp) (by simp)).mono ?_
    rintro e w7 ⟨k7, hk7, rfl, r7, o7, s7⟩
    have P7 := hide (P6.out.only o7 (by omega))
    have R7 := hide (R6.out.only o7 (Nat.ne_of_gt hg))
    have O7 := hide (O6.out.trans o7)
    have z7 := o7.size
    generalize nAt [0, 121, 1] k7 = v7
    clear o7 hk7 s7 P6 R6 O6 r6
    have d0 := R7.out.cell (o := 0) rfl
    have e0 := R7.out.frozen 0
    have i0 := P7.out.cell (o := 0) rfl
    have j0 := P7.out.frozen 0
    have d1 := R7.out.cell (o := 1) rfl
    have e1 := R7.out.frozen 1
    have i1 := P7.out.cell (o := 1) rfl
    have j1 := P7.out.frozen 1
    have d2 := R7.out.cell (o := 2) rfl
    have e2 := R7.out.frozen 2
    have i2 := P7.out.cell (o := 2) rfl
    have j2 := P7.out.frozen 2
    have d3 := R7.out.cell (o := 3) rfl
    have e3 := R7.out.frozen 3
    have i3 := P7.out.cell (o := 3) rfl
    have j3 := P7.out.frozen 3
    go_wp2_with fail
    refine bodyPost_ret (v := .agg #[.int .i64 v7, .int .i64 v2, .int .i64 v3, .int .i64 v4]) (by simp [results, Try.results10, go_sem, d0, d1, d2, d3]) rfl ⟨_, _, _, _, rfl, ⟨p + 1 + 1 + 1 + 1 + 1 + 1, by omega, ?_⟩, ?_⟩
    · refine Rd.keep' r7 ?_
      exact ((((((Below.refl _ _).setCell (by dsimp only; omega) _).setCell (by dsimp only; omega) _).setCell (by dsimp only; omega) _).setCell (by dsimp only; omega) _).setCell (by dsimp only; omega) _)
    · exact (((((O7.out.setNew (by omega) _ _).setNew (by omega) _ _).setNew (by omega) _ _).setNew (by omega) _ _).setNew (by omega) _ _)
  by_cases h1 : k6 = 1
  · subst h1
    go_wp2_with fail
    refine (num_list [-1, 41] g (p + 1 + 1 + 1 + 1 + 1) _ _ _ (by simp) (by omega) r6 (by simp) (by simp)).mono ?_
    rintro e w7 ⟨k7, hk7, rfl, r7, o7, s7⟩
    have P7 := hide (P6.out.only o7 (by omega))
    have R7 := hide (R6.out.only o7 (Nat.ne_of_gt hg))
    have O7 := hide (O6.out.trans o7)
    have z7 := o7.size
    generalize nAt [-1, 41] k7 = v7
    clear o7 hk7 s7 P6 R6 O6 r6
    have d0 := R7.out.cell (o := 0) rfl
    have e0 := R7.out.frozen 0
    have i0 := P7.out.cell (o := 0) rfl
    have j0 := P7.out.frozen 0
    have d1 := R7.out.cell (o := 1) rfl
    have e1 := R7.out.frozen 1
    have i1 := P7.out.cell (o := 1) rfl
    have j1 := P7.out.frozen 1
    have d2 := R7.out.cell (o := 2) rfl
    have e2 := R7.out.frozen 2
    have i2 := P7.out.cell (o := 2) rfl
    have j2 := P7.out.frozen 2
    have d3 := R7.out.cell (o := 3) rfl
    have e3 := R7.out.frozen 3
    have i3 := P7.out.cell (o := 3) rfl
    have j3 := P7.out.frozen 3
    go_wp2_with fail
    refine bodyPost_ret (v := .agg #[.int .i64 v1, .int .i64 v7, .int .i64 v3, .int .i64 v4]) (by simp [results, Try.results10, go_sem, d0, d1, d2, d3]) rfl ⟨_, _, _, _, rfl, ⟨p + 1 + 1 + 1 + 1 + 1 + 1, by omega, ?_⟩, ?_⟩
    · refine Rd.keep' r7 ?_
      exact ((((((Below.refl _ _).setCell (by dsimp only; omega) _).setCell (by dsimp only; omega) _).setCell (by dsimp only; omega) _).setCell (by dsimp only; omega) _).setCell (by dsimp only; omega) _)
    · exact (((((O7.out.setNew (by omega) _ _).setNew (by omega) _ _).setNew (by omega) _ _).setNew (by omega) _ _).setNew (by omega) _ _)
  by_cases h2 : k6 = 2
  · subst h2
    go_wp2_with fail
    refine (num_list [-1, 300, 301] g (p + 1 + 1 + 1 + 1 + 1) _ _ _ (by simp) (by omega) r6 (by simp) (by simp)).mono ?_
    rintro e w7 ⟨k7, hk7, rfl, r7, o7, s7⟩
    have P7 := hide (P6.out.only o7 (by omega))
    have R7 := hide (R6.out.only o7 (Nat.ne_of_gt hg))
    have O7 := hide (O6.out.trans o7)
    have z7 := o7.size
    generalize nAt [-1, 300, 301] k7 = v7
    clear o7 hk7 s7 P6 R6 O6 r6
    have d0 := R7.out.cell (o := 0) rfl
    have e0 := R7.out.frozen 0
    have i0 := P7.out.cell (o := 0) rfl
    have j0 := P7.out.frozen 0
    have d1 := R7.out.cell (o := 1) rfl
    have e1 := R7.out.frozen 1
    have i1 := P7.out.cell (o := 1) rfl
    have j1 := P7.out.frozen 1
    have d2 := R7.out.cell (o := 2) rfl
    have e2 := R7.out.frozen 2
    have i2 := P7.out.cell (o := 2) rfl
    have j2 := P7.out.frozen 2
    have d3 := R7.out.cell (o := 3) rfl
    have e3 := R7.out.frozen 3
    have i3 := P7.out.cell (o := 3) rfl
    have j3 := P7.out.frozen 3
    go_wp2_with fail
    refine bodyPost_ret (v := .agg #[.int .i64 v1, .int .i64 v2, .int .i64 v7, .int .i64 v4]) (by simp [results, Try.results10, go_sem, d0, d1, d2, d3]) rfl ⟨_, _, _, _, rfl, ⟨p + 1 + 1 + 1 + 1 + 1 + 1, by omega, ?_⟩, ?_⟩
    · refine Rd.keep' r7 ?_
      exact ((((((Below.refl _ _).setCell (by dsimp only; omega) _).setCell (by dsimp only; omega) _).setCell (by dsimp only; omega) _).setCell (by dsimp only; omega) _).setCell (by dsimp only; omega) _)
    · exact (((((O7.out.setNew (by omega) _ _).setNew (by omega) _ _).setNew (by omega) _ _).setNew (by omega) _ _).setNew (by omega) _ _)
  by_cases h3 : k6 = 3
  · subst h3
    go_wp2_with fail
    refine (num_list [-1, 300, 301] g (p + 1 + 1 + 1 + 1 + 1) _ _ _ (by simp) (by omega) r6 (by simp) (by simp)).mono ?_
    rintro e w7 ⟨k7, hk7, rfl, r7, o7, s7⟩
    have P7 := hide (P6.out.only o7 (by omega))
    have R7 := hide (R6.out.only o7 (Nat.ne_of_gt hg))
    have O7 := hide (O6.out.trans o7)
    have z7 := o7.size
    generalize nAt [-1, 300, 301] k7 = v7
    clear o7 hk7 s7 P6 R6 O6 r6
    have d0 := R7.out.cell (o := 0) rfl
    have e0 := R7.out.frozen 0
    have i0 := P7.out.cell (o := 0) rfl
    have j0 := P7.out.frozen 0
    have d1 := R7.out.cell (o := 1) rfl
    have e1 := R7.out.frozen 1
    have i1 := P7.out.cell (o := 1) rfl
    have j1 := P7.out.frozen 1
    have d2 := R7.out.cell (o := 2) rfl
    have e2 := R7.out.frozen 2
    have i2 := P7.out.cell (o := 2) rfl
    have j2 := P7.out.frozen 2
    have d3 := R7.out.cell (o := 3) rfl
    have e3 := R7.out.frozen 3
    have i3 := P7.out.cell (o := 3) rfl
    have j3 := P7.out.frozen 3
    go_wp2_with fail
    refine bodyPost_ret (v := .agg #[.int .i64 v1, .int .i64 v2, .int .i64 v3, .int .i64 v7]) (by simp [results, Try.results10, go_sem, d0, d1, d2, d3]) rfl ⟨_, _, _, _, rfl, ⟨p + 1 + 1 + 1 + 1 + 1 + 1, by omega, ?_⟩, ?_⟩
    · refine Rd.keep' r7 ?_
      exact ((((((Below.refl _ _).setCell (by dsimp only; omega) _).setCell (by dsimp only; omega) _).setCell (by dsimp only; omega) _).setCell (by dsimp only; omega) _).setCell (by dsimp only; omega) _)
    · exact (((((O7.out.setNew (by omega) _ _).setNew (by omega) _ _).setNew (by omega) _ _).setNew (by omega) _ _).setNew (by omega) _ _)
  have q0 : (k6 == 0) = false := by simpa using h0
  have q1 : (k6 == 1) = false := by simpa using h1
  have q2 : (k6 == 2) = false := by simpa using h2
  have q3 : (k6 == 3) = false := by simpa using h3
  have d0 := R6.out.cell (o := 0) rfl
  have e0 := R6.out.frozen 0
  have i0 := P6.out.cell (o := 0) rfl
  have j0 := P6.out.frozen 0
  have d1 := R6.out.cell (o := 1) rfl
  have e1 := R6.out.frozen 1
  have i1 := P6.out.cell (o := 1) rfl
  have j1 := P6.out.frozen 1
  have d2 := R6.out.cell (o := 2) rfl
  have e2 := R6.out.frozen 2
  have i2 := P6.out.cell (o := 2) rfl
  have j2 := P6.out.frozen 2
  have d3 := R6.out.cell (o := 3) rfl
  have e3 := R6.out.frozen 3
  have i3 := P6.out.cell (o := 3) rfl
  have j3 := P6.out.frozen 3
  go_wp2_with fail
  refine bodyPost_ret (v := .agg #[.int .i64 v1, .int .i64 v2, .int .i64 v3, .int .i64 v4]) (by simp [results, Try.results10, go_sem, d0, d1, d2, d3]) rfl ⟨_, _, _, _, rfl, ⟨p + 1 + 1 + 1 + 1 + 1, by omega, ?_⟩, ?_⟩
  · refine Rd.keep' r6 ?_
    exact (((((Below.refl _ _).setCell (by dsimp only; omega) _).setCell (by dsimp only; omega) _).setCell (by dsimp only; omega) _).setCell (by dsimp only; omega) _)
  · exact ((((O6.out.setNew (by omega) _ _).setNew (by omega) _ _).setNew (by omega) _ _).setNew (by omega) _ _)
end Go.Proofs.Ytmmjgbcinobonaa
