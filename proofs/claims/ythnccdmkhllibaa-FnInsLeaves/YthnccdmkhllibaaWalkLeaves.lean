/- The law of InsLeaves on drawn instructions. -/
import Derived.Test.YthnccdmkhllibaaLeaves
import Derived.Deep.RegionWith
namespace Go.Proofs.Ythnccdmkhllibaa
open Go.ChangeShapes Go.WideShapes Go.ChangeAt Go.RowKit
set_option linter.unusedVariables false

set_option maxHeartbeats 8000000 in
theorem fnInsLeaves_walk (a0 : Option Addr) (cap0 n0 : Nat) (hc0 : n0 ≤ cap0) (w : World) (h0 : BytesIn w w.heap.size a0 n0) :
    Calls Try.prog 3 #[.slice a0 n0 cap0] w fun e w' => e = .returned (.bool true) ∧ Below w.heap.size w w' := by
  by_cases l0 : 1048576 < n0
  · have k0 : (1048576 : Int) < (n0 : Int) := by omega
    go_enter Try.func3, Try.ntmps3
    go_wp2_with fail
    go_ret
    exact ⟨rfl, Below.refl _ _⟩
  have k0 : (n0 : Int) ≤ 1048576 := by omega
  go_enter Try.func3, Try.ntmps3
  go_wp2_with fail
  refine (dDrawInsLeaves_any a0 cap0 n0 w hc0 h0).mono ?_
  rintro e w1 ⟨o, x, y, rfl, b1⟩
  have z1 := b1.size
  obtain ⟨c, hc⟩ : ∃ c, decide (o = 25 ∨ o = 28 ∨ o = 29) = c := ⟨_, rfl⟩
  have HC := hide hc
  clear hc
  go_wp2_with fail
  have B2 : Below w.heap.size w (w1.alloc (.cells #[.int .i64 o, .int .i64 x, .int .i64 y] 24)) := b1.alloc z1 _
  go_region_held3 (fun w' => w'.cell? ⟨w1.heap.size, 0, none⟩ = some (.int .i64 o) ∧ w'.cell? ⟨w1.heap.size, 1, none⟩ = some (.int .i64 x) ∧ w'.cell? ⟨w1.heap.size, 2, none⟩ = some (.int .i64 y) ∧ Below w.heap.size w w')
    (refine ⟨?_, ?_, ?_, ?_⟩ <;> first | assumption | exact B2.drew | go_keep)
    ((first
      | (go_at_call 11; have hS := ‹(World.cell? _ ⟨w1.heap.size, 0, none⟩ = some (.int .i64 o) ∧ _ ∧ _ ∧ Below w.heap.size w _)›; refine (leaves_at _ _ _ _ HC.out w _ hS.2.2.2 _ _ _ _ hS.1 hS.2.1 hS.2.2.1).mono ?_; rintro e w' ⟨rfl, u0, u1, u2, u3⟩)
      | (go_at_call 12; have hS := ‹(World.cell? _ ⟨w1.heap.size, 0, none⟩ = some (.int .i64 o) ∧ _ ∧ _ ∧ Below w.heap.size w _)›; refine (specLeaves_at _ _ _ _ HC.out w _ hS.2.2.2 _ _ _ _ hS.1 hS.2.1 hS.2.2.1).mono ?_; rintro e w' ⟨rfl, u0, u1, u2, u3⟩)))
  obtain ⟨v0, v1, v2, v3⟩ := ‹(World.cell? w' ⟨w1.heap.size, 0, none⟩ = some (.int .i64 o) ∧ _ ∧ _ ∧ Below w.heap.size w w')›
  clear u0 u1 u2 u3 hS
  have z2 : w1.heap.size < w'.heap.size := cell_lt v0
  have I1 : ∀ k, k < 3 → w'.cell? ⟨w1.heap.size, k, none⟩ = some (.int .i64 (nAt [o, x, y] k)) := by
    intro k hk
    have : k = 0 ∨ k = 1 ∨ k = 2 := by omega
    rcases this with rfl | rfl | rfl
    · exact v0
    · exact v1
    · exact v2
  have H1 := hide I1
  clear I1
  go_wp2_with fail
  have y0 : (w'.alloc (.cells #[.int .i64 o, .int .i64 (wrap64 (x + 1)), .int .i64 0] 24)).cell? ⟨w1.heap.size, 0, none⟩ = some (.int .i64 o) := by rw [World.cell?_alloc_past _ _ _ z2]; exact v0
  have y1 : (w'.alloc (.cells #[.int .i64 o, .int .i64 (wrap64 (x + 1)), .int .i64 0] 24)).cell? ⟨w1.heap.size, 1, none⟩ = some (.int .i64 x) := by rw [World.cell?_alloc_past _ _ _ z2]; exact v1
  have y2 : (w'.alloc (.cells #[.int .i64 o, .int .i64 (wrap64 (x + 1)), .int .i64 0] 24)).cell? ⟨w1.heap.size, 2, none⟩ = some (.int .i64 y) := by rw [World.cell?_alloc_past _ _ _ z2]; exact v2
  have y3 : (w'.alloc (.cells #[.int .i64 o, .int .i64 (wrap64 (x + 1)), .int .i64 0] 24)).cell? ⟨w'.heap.size, 0, none⟩ = some (.int .i64 o) := by simp
  have y4 : (w'.alloc (.cells #[.int .i64 o, .int .i64 (wrap64 (x + 1)), .int .i64 0] 24)).cell? ⟨w'.heap.size, 1, none⟩ = some (.int .i64 (wrap64 (x + 1))) := by simp
  have y5 : (w'.alloc (.cells #[.int .i64 o, .int .i64 (wrap64 (x + 1)), .int .i64 0] 24)).cell? ⟨w'.heap.size, 2, none⟩ = some (.int .i64 0) := by simp
  have y6 : Below w.heap.size w (w'.alloc (.cells #[.int .i64 o, .int .i64 (wrap64 (x + 1)), .int .i64 0] 24)) := v3.alloc v3.size _
  generalize w'.alloc (.cells #[.int .i64 o, .int .i64 (wrap64 (x + 1)), .int .i64 0] 24) = W at y0 y1 y2 y3 y4 y5 y6 ⊢
  generalize wrap64 (x + 1) = x' at y4 ⊢
  generalize w1.heap.size = b at y0 y1 y2 ⊢
  generalize w'.heap.size = d at y3 y4 y5 ⊢
  clear H1 v0 v1 v2 v3 z2
  have HC' := HC.out
  by_cases h25 : o = 25
  · subst h25
    obtain rfl : c = true := by rw [← HC']; simp
    clear HC'
    clear HC u0 u1 u2 u3 B2 z1 b1
    first
      | (go_region_with (first | (go_at_call 11; refine (leaves_keep 25 _ _ true (by decide) w _ ?_).mono ?_; (first | assumption | exact Below.drew (by assumption)); rintro e w'' ⟨rfl, kp, bb⟩; have y0 := kp _ _ _ y0; have y1 := kp _ _ _ y1; have y2 := kp _ _ _ y2; have y3 := kp _ _ _ y3; have y4 := kp _ _ _ y4; have y5 := kp _ _ _ y5; clear kp)))
      | fail
    all_goals go_wp2_with fail
    all_goals go_ret
    all_goals exact ⟨rfl, by assumption⟩
  by_cases h28 : o = 28
  · subst h28
    obtain rfl : c = true := by rw [← HC']; simp
    clear HC'
    clear HC u0 u1 u2 u3 B2 z1 b1
    first
      | (go_region_with (first | (go_at_call 11; refine (leaves_keep 28 _ _ true (by decide) w _ ?_).mono ?_; (first | assumption | exact Below.drew (by assumption)); rintro e w'' ⟨rfl, kp, bb⟩; have y0 := kp _ _ _ y0; have y1 := kp _ _ _ y1; have y2 := kp _ _ _ y2; have y3 := kp _ _ _ y3; have y4 := kp _ _ _ y4; have y5 := kp _ _ _ y5; clear kp)))
      | fail
    all_goals go_wp2_with fail
    all_goals go_ret
    all_goals exact ⟨rfl, by assumption⟩
  by_cases h29 : o = 29
  · subst h29
    obtain rfl : c = true := by rw [← HC']; simp
    clear HC'
    go_region_held3 (fun w' => w'.cell? ⟨b, 0, none⟩ = some (.int .i64 29) ∧ w'.cell? ⟨b, 1, none⟩ = some (.int .i64 x) ∧ w'.cell? ⟨b, 2, none⟩ = some (.int .i64 y) ∧ w'.cell? ⟨d, 0, none⟩ = some (.int .i64 29) ∧ w'.cell? ⟨d, 1, none⟩ = some (.int .i64 x') ∧ w'.cell? ⟨d, 2, none⟩ = some (.int .i64 0) ∧ Below w.heap.size w w')
      (refine ⟨?_, ?_, ?_, ?_, ?_, ?_, ?_⟩ <;> first | assumption | exact Below.drew (by assumption) | go_keep)
      ((go_at_call 11; have hS := ‹(World.cell? _ ⟨b, 0, none⟩ = some (.int .i64 29) ∧ _ ∧ _ ∧ _ ∧ _ ∧ _ ∧ Below w.heap.size w _)›; refine (leaves_keep _ _ _ true (by decide) w _ hS.2.2.2.2.2.2).mono ?_; rintro e w'' ⟨rfl, kp, bb⟩; have z0 := kp _ _ _ hS.1; have z1 := kp _ _ _ hS.2.1; have z2 := kp _ _ _ hS.2.2.1; have z3 := kp _ _ _ hS.2.2.2.1; have z4 := kp _ _ _ hS.2.2.2.2.1; have z5 := kp _ _ _ hS.2.2.2.2.2.1; clear kp hS))
    all_goals go_wp2_with fail
    all_goals go_ret
    all_goals exact ⟨rfl, by assumption⟩
  · obtain rfl : c = false := by rw [← HC']; simp [h25, h28, h29]
    clear HC'
    have g25 : (o == 25) = false := by simp [h25]
    have g28 : (o == 28) = false := by simp [h28]
    have g29 : (o == 29) = false := by simp [h29]
    go_region_held3 (fun w' => w'.cell? ⟨b, 0, none⟩ = some (.int .i64 o) ∧ w'.cell? ⟨b, 1, none⟩ = some (.int .i64 x) ∧ w'.cell? ⟨b, 2, none⟩ = some (.int .i64 y) ∧ w'.cell? ⟨d, 0, none⟩ = some (.int .i64 o) ∧ w'.cell? ⟨d, 1, none⟩ = some (.int .i64 x') ∧ w'.cell? ⟨d, 2, none⟩ = some (.int .i64 0) ∧ Below w.heap.size w w')
      (refine ⟨?_, ?_, ?_, ?_, ?_, ?_, ?_⟩ <;> first | assumption | exact Below.drew (by assumption) | go_keep)
      ((go_at_call 11; have hS := ‹(World.cell? _ ⟨b, 0, none⟩ = some (.int .i64 o) ∧ _ ∧ _ ∧ _ ∧ _ ∧ _ ∧ Below w.heap.size w _)›; refine (leaves_keep _ _ _ _ HC.out w _ hS.2.2.2.2.2.2).mono ?_; rintro e w'' ⟨rfl, kp, bb⟩; have z0 := kp _ _ _ hS.1; have z1 := kp _ _ _ hS.2.1; have z2 := kp _ _ _ hS.2.2.1; have z3 := kp _ _ _ hS.2.2.2.1; have z4 := kp _ _ _ hS.2.2.2.2.1; have z5 := kp _ _ _ hS.2.2.2.2.2.1; clear kp hS))
    all_goals go_wp2_with fail
    all_goals go_ret
    all_goals exact ⟨rfl, by assumption⟩
end Go.Proofs.Ythnccdmkhllibaa
