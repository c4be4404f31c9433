/- NumDo of the program: its array of function values, and the one that is asked. -/
import Derived.Test.YthnccdmkhllibaaNum
import Derived.Deep.RegionHeld3
import Derived.Laws.EntriesVeiled
namespace Go.Proofs.Ythnccdmkhllibaa
open Go.ChangeShapes Go.WideShapes Go.ChangeAt Go.RowKit
set_option linter.unusedVariables false

set_option maxHeartbeats 800000 in
theorem implNumDo_none (op a b : Int) (w : World) (h : op < 7 ∨ 9 < op) :
    Calls Try.prog 14 #[.int .i64 op, .int .i64 a, .int .i64 b] w fun e w' => e = .returned (.int .i64 0) ∧ Below w.heap.size w w' := by
  by_cases h1 : op < 7
  · go_enter Try.func14, Try.ntmps14
    go_wp2_with fail
    go_ret
    exact ⟨rfl, (Below.refl _ _).alloc (Nat.le_refl _) _⟩
  · have h2 : 9 < op := by omega
    clear h
    go_enter Try.func14, Try.ntmps14
    go_wp2_with fail
    go_ret
    exact ⟨rfl, (Below.refl _ _).alloc (Nat.le_refl _) _⟩
set_option maxHeartbeats 800000 in
theorem implNumDo_add (a b : Int) (w : World) :
    Calls Try.prog 14 #[.int .i64 7, .int .i64 a, .int .i64 b] w fun e w' => e = .returned (.int .i64 (numDo 7 a b)) ∧ Below w.heap.size w w' := by
  have hw0 : IntKind.i64.wrap 0 = 0 := by decide
  go_enter Try.func14, Try.ntmps14
  go_wp2_with fail
  go_region_held3 (fun w' => w'.cell? ⟨w.heap.size, 0, none⟩ = some (.func (.func 24) #[] #[])) (go_keep)
    ((first | (go_at_call 27; refine (numLeft_any _ _).mono ?_; rintro e w' ⟨rfl, rfl⟩) | (go_at_call 24; refine (numSum_any _ _ _).mono ?_; rintro e w' ⟨rfl, rfl⟩)))
  all_goals go_wp2_with fail
  all_goals go_ret
  all_goals exact ⟨rfl, below_drewN ((Below.refl _ _).alloc (Nat.le_refl _) _) 1⟩

set_option maxHeartbeats 800000 in
theorem implNumDo_mul (a b : Int) (w : World) :
    Calls Try.prog 14 #[.int .i64 8, .int .i64 a, .int .i64 b] w fun e w' => e = .returned (.int .i64 (numDo 8 a b)) ∧ Below w.heap.size w w' := by
  have hw0 : IntKind.i64.wrap 1 = 1 := by decide
  go_enter Try.func14, Try.ntmps14
  go_wp2_with fail
  go_region_held3 (fun w' => w'.cell? ⟨w.heap.size, 1, none⟩ = some (.func (.func 25) #[] #[])) (go_keep)
    ((first | (go_at_call 27; refine (numLeft_any _ _).mono ?_; rintro e w' ⟨rfl, rfl⟩) | (go_at_call 25; refine (numProduct_any _ _ _).mono ?_; rintro e w' ⟨rfl, rfl⟩)))
  all_goals go_wp2_with fail
  all_goals go_ret
  all_goals exact ⟨rfl, below_drewN ((Below.refl _ _).alloc (Nat.le_refl _) _) 1⟩

set_option maxHeartbeats 800000 in
theorem implNumDo_less (a b : Int) (w : World) :
    Calls Try.prog 14 #[.int .i64 9, .int .i64 a, .int .i64 b] w fun e w' => e = .returned (.int .i64 (numDo 9 a b)) ∧ Below w.heap.size w w' := by
  have hw0 : IntKind.i64.wrap 2 = 2 := by decide
  go_enter Try.func14, Try.ntmps14
  go_wp2_with fail
  go_region_held3 (fun w' => w'.cell? ⟨w.heap.size, 2, none⟩ = some (.func (.func 26) #[] #[])) (go_keep)
    ((first | (go_at_call 27; refine (numLeft_any _ _).mono ?_; rintro e w' ⟨rfl, rfl⟩) | (go_at_call 26; refine (numLess_any _ _ _).mono ?_; rintro e w' ⟨rfl, rfl⟩)))
  all_goals go_wp2_with fail
  all_goals go_ret
  all_goals exact ⟨rfl, below_drewN ((Below.refl _ _).alloc (Nat.le_refl _) _) 1⟩

theorem implNumDo_any (op a b : Int) (w : World) :
    Calls Try.prog 14 #[.int .i64 op, .int .i64 a, .int .i64 b] w fun e w' => e = .returned (.int .i64 (numDo op a b)) ∧ Below w.heap.size w w' := by
  by_cases h7 : op = 7
  · subst h7; exact implNumDo_add a b w
  by_cases h8 : op = 8
  · subst h8; exact implNumDo_mul a b w
  by_cases h9 : op = 9
  · subst h9; exact implNumDo_less a b w
  have : numDo op a b = 0 := by simp [numDo, h7, h8, h9]
  rw [this]
  exact implNumDo_none op a b w (by omega)
end Go.Proofs.Ythnccdmkhllibaa
