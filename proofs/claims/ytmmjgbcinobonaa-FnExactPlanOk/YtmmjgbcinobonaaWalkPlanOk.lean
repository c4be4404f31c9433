/- The law of PlanOk. -/
import Derived.Test.YtmmjgbcinobonaaPlanOk
import Derived.Test.YtmmjgbcinobonaaOpenPlan
namespace Go.Proofs.Ytmmjgbcinobonaa
open Go.ChangeShapes Go.WideShapes Go.ChangeAt Go.RowKit Go.Deep
set_option linter.unusedVariables false

set_option maxHeartbeats 1000000 in
theorem toPlan_any (o y i j : Int) (w : World) :
    Calls Try.prog 8 #[.agg #[.int .i64 o, .int .i64 y, .int .i64 i, .int .i64 j]] w fun e w' => e = .returned (.agg #[.int .i64 o, .int .i64 y, .int .i64 i, .int .i64 j]) ∧ Below w.heap.size w w' := by
  go_enter Try.func8, Try.ntmps8
  go_wp2_with fail
  refine bodyPost_ret (v := .agg #[.int .i64 o, .int .i64 y, .int .i64 i, .int .i64 j]) (by simp [results, Try.results8, go_sem]) rfl ⟨rfl, ?_⟩
  first
    | exact ((Below.refl _ _).alloc (Nat.le_refl _) _).alloc (by simp) _ |>.alloc (by simp; omega) _
    | exact (((Below.refl _ _).alloc (Nat.le_refl _) _).alloc (by simp) _).alloc (by simp; omega) _
    | (simp; exact (((Below.refl _ _).alloc (Nat.le_refl _) _).alloc (by simp) _).alloc (by simp; omega) _)

set_option maxHeartbeats 1000000 in
theorem fnExactPlanOk_walk (o y i j : Int) (w : World) :
    Calls Try.prog 4 #[.agg #[.int .i64 o, .int .i64 y, .int .i64 i, .int .i64 j]] w fun e w' => e = .returned (.bool true) ∧ Below w.heap.size w w' := by
  obtain ⟨v, hv⟩ : ∃ v, planOk o y i j = v := ⟨_, rfl⟩
  have HV := hide hv
  clear hv
  have B0 : Below w.heap.size w (w.alloc (.cells #[.int .i64 o, .int .i64 y, .int .i64 i, .int .i64 j] 28)) := (Below.refl _ _).alloc (Nat.le_refl _) _
  have R0 := Rec.new w 28 [.int .i64 o, .int .i64 y, .int .i64 i, .int .i64 j]
  go_enter Try.func4, Try.ntmps4
  go_wp2_with fail
  refine (toPlan_any o y i j _).mono ?_
  rintro e w1 ⟨rfl, b1⟩
  have R1 := R0.below b1 (by simp)
  have B1 := B0.trans (b1.mono (by simp))
  clear B0 R0 b1
  go_wp2_with fail
  refine (specPlanOk_v o y i j HV.out _).mono ?_
  rintro e w2 ⟨rfl, b2⟩
  have R2 := R1.below b2 R1.lt
  have B2 := B1.trans (b2.mono B1.size)
  have c0 := R2.cell (o := 0) rfl
  have c1 := R2.cell (o := 1) rfl
  have c2 := R2.cell (o := 2) rfl
  have c3 := R2.cell (o := 3) rfl
  clear B1 R1 b2
  go_wp2_with fail
  refine (toPlan_any o y i j _).mono ?_
  rintro e w3 ⟨rfl, b3⟩
  have B3 := B2.trans (b3.mono B2.size)
  clear B2 R2 b3
  go_wp2_with fail
  refine (implPlanOk_v o y i j HV.out _).mono ?_
  rintro e w4 ⟨rfl, b4⟩
  have B4 := B3.trans (b4.mono B3.size)
  clear B3 b4
  go_wp2_with fail
  go_ret
  exact ⟨rfl, B4⟩
end Go.Proofs.Ytmmjgbcinobonaa
