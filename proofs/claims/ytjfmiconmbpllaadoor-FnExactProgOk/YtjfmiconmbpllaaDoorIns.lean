/- Instructions: how many numbers a kind has, which are right, which leave: of the program and of the model. -/
import Derived.Test.YtjfmiconmbpllaaDoorBase
import Derived.Deep.RegionHeld3
namespace Go.Proofs.YtjfmiconmbpllaaDoor
open Go.ChangeShapes Go.WideShapes Go.ChangeAt Go.RowKit
set_option linter.unusedVariables false

/-- The spans of a kind: how many, and of the first and the second the least and the end. -/
def spanN (op : Int) : Nat :=
  if op = 14 ∨ op = 15 then 2 else if op = 1 ∨ op = 2 ∨ op = 3 ∨ op = 4 ∨ op = 5 ∨ op = 12 ∨ op = 13 ∨ op = 16 ∨ op = 17 ∨ op = 18 ∨ op = 19 ∨ op = 22 ∨ op = 23 ∨ op = 25 ∨ op = 26 ∨ op = 27 ∨ op = 28 ∨ op = 33 then 1 else 0

def spanLo (op : Int) : Int := if op = 12 ∨ op = 22 ∨ op = 23 then -2 else 0

def spanHi (op : Int) : Int :=
  if op = 1 then 9973 else if op = 2 ∨ op = 3 then 6 else if op = 4 ∨ op = 5 then 3 else if op = 25 ∨ op = 26 then 30 else if op = 27 ∨ op = 28 then 5 else if op = 33 then 2 else 8

/-- InsOk, plainly. -/
def insOk (op a b : Int) : Bool :=
  decide (1 ≤ op ∧ op ≤ 33) &&
    (if spanN op = 0 then decide (a = 0 ∧ b = 0) else if spanN op = 1 then decide (spanLo op ≤ a ∧ a < spanHi op ∧ b = 0) else decide (0 ≤ a ∧ a < 8 ∧ 0 ≤ b ∧ b < 4))

set_option maxHeartbeats 1000000 in
theorem specInsHas_any (op : Int) (w : World) :
    Calls Tryd.prog 49 #[.int .i64 op] w fun e w' => e = .returned (.int .i64 (spanN op)) ∧ w' = w := by
  go_enter Tryd.func49, Tryd.ntmps49
  go_wp2
  all_goals go_ret
  all_goals exact ⟨ret_int (by simp_all [spanN]), rfl⟩

def SpansAt (w : World) (lo hi : Nat) (a : Option Addr) (op : Int) : Prop :=
  spanN op = 0 ∨ ∃ b, a = some ⟨b, 0, none⟩ ∧ lo ≤ b ∧ b < hi ∧ w.cell? ⟨b, 0, none⟩ = some (.int .i64 (spanLo op)) ∧ w.cell? ⟨b, 1, none⟩ = some (.int .i64 (spanHi op)) ∧
    (spanN op = 2 → w.cell? ⟨b, 2, none⟩ = some (.int .i64 0) ∧ w.cell? ⟨b, 3, none⟩ = some (.int .i64 4))

theorem SpansAt.keep {w w' : World} {lo hi : Nat} {a : Option Addr} {op : Int} (h : SpansAt w lo hi a op) (hb : Below hi w w') : SpansAt w' lo hi a op := by
  rcases h with h | ⟨b, rfl, h1, h2, h3, h4, h5⟩
  · exact .inl h
  · refine .inr ⟨b, rfl, h1, h2, ?_, ?_, fun h => ?_⟩
    · rw [hb.cell (p := ⟨b, 0, none⟩) h2]; exact h3
    · rw [hb.cell (p := ⟨b, 1, none⟩) h2]; exact h4
    · rw [hb.cell (p := ⟨b, 2, none⟩) h2, hb.cell (p := ⟨b, 3, none⟩) h2]; exact h5 h

set_option maxHeartbeats 2000000 in
theorem insSpans_any (op : Int) (w : World) :
    Calls Tryd.prog 61 #[.int .i64 op] w fun e w' => ∃ a, e = .returned (.slice a (spanN op) (spanN op)) ∧ SpansAt w' w.heap.size w'.heap.size a op ∧ Below w.heap.size w w' := by
  go_enter Tryd.func61, Tryd.ntmps61
  go_wp2
  all_goals go_ret
  all_goals first
    | (rename_i hh; obtain rfl := eq_of_beq hh; exact ⟨_, rfl, .inr ⟨_, rfl, Nat.le_refl _, by simp, by simp [spanLo], by simp [spanHi], by simp [spanN]⟩, (Below.refl _ _).alloc (Nat.le_refl _) _⟩)
    | (have hz : spanN op = 0 := by simp_all [spanN]
       rw [hz]; exact ⟨_, rfl, .inl hz, Below.refl _ _⟩)

set_option maxHeartbeats 400000 in
theorem holds_any (lo hi n : Int) (w : World) :
    Calls Tryd.prog 62 #[.agg #[.int .i64 lo, .int .i64 hi], .int .i64 n] w fun e w' => e = .returned (.bool (decide (lo ≤ n ∧ n < hi))) ∧ Below w.heap.size w w' := by
  go_enter Tryd.func62, Tryd.ntmps62
  go_wp2
  all_goals go_ret
  all_goals refine ⟨ret_bool ?_, (Below.refl _ _).alloc (Nat.le_refl _) _⟩
  all_goals (rw [Bool.eq_iff_iff]; simp_all <;> omega)

set_option maxHeartbeats 400000 in
theorem insIsKind_any (op : Int) (w : World) :
    Calls Tryd.prog 60 #[.int .i64 op] w fun e w' => e = .returned (.bool (decide (1 ≤ op ∧ op ≤ 33))) ∧ w' = w := by
  go_enter Tryd.func60, Tryd.ntmps60
  go_wp2
  all_goals go_ret
  all_goals refine ⟨ret_bool ?_, rfl⟩
  all_goals (rw [Bool.eq_iff_iff]; simp_all <;> omega)

set_option maxHeartbeats 400000 in
theorem isOf_any (op : Int) (w : World) :
    Calls Tryd.prog 50 #[.int .i64 op] w fun e w' => e = .returned (.bool (decide (op = 12 ∨ op = 22 ∨ op = 23))) ∧ w' = w := by
  go_enter Tryd.func50, Tryd.ntmps50
  go_wp2
  all_goals go_ret
  all_goals refine ⟨ret_bool ?_, rfl⟩
  all_goals (rw [Bool.eq_iff_iff]; simp_all)

set_option maxHeartbeats 1000000 in
theorem most_any (op : Int) (w : World) :
    Calls Tryd.prog 52 #[.int .i64 op] w fun e w' => e = .returned (.int .i64 (spanHi op)) ∧ w' = w := by
  go_enter Tryd.func52, Tryd.ntmps52
  go_wp2
  all_goals go_ret
  all_goals exact ⟨ret_int (by simp_all [spanHi]), rfl⟩

set_option maxHeartbeats 400000 in
theorem l1Of_any (a n : Int) (w : World) :
    Calls Tryd.prog 51 #[.int .i64 a, .int .i64 n] w fun e w' => e = .returned (.bool (decide (-2 ≤ a ∧ a < n))) ∧ w' = w := by
  go_enter Tryd.func51, Tryd.ntmps51
  go_wp2
  all_goals go_ret
  all_goals refine ⟨ret_bool ?_, rfl⟩
  all_goals (rw [Bool.eq_iff_iff]; simp_all <;> omega)

end Go.Proofs.YtjfmiconmbpllaaDoor
