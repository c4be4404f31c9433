/- InsOk of the model and of the program. -/
import Derived.Test.YtjfmiconmbpllaaDoorIns
namespace Go.Proofs.YtjfmiconmbpllaaDoor
open Go.ChangeShapes Go.WideShapes Go.ChangeAt Go.RowKit
set_option linter.unusedVariables false

theorem specInsHas_at (op n : Int) (h : (spanN op : Int) = n) (w : World) :
    Calls Tryd.prog 49 #[.int .i64 op] w fun e w' => e = .returned (.int .i64 n) ∧ w' = w := h ▸ specInsHas_any op w

theorem isOf_at (op : Int) (b : Bool) (h : decide (op = 12 ∨ op = 22 ∨ op = 23) = b) (w : World) :
    Calls Tryd.prog 50 #[.int .i64 op] w fun e w' => e = .returned (.bool b) ∧ w' = w := h ▸ isOf_any op w

theorem most_at (op n : Int) (h : spanHi op = n) (w : World) :
    Calls Tryd.prog 52 #[.int .i64 op] w fun e w' => e = .returned (.int .i64 n) ∧ w' = w := h ▸ most_any op w

set_option maxHeartbeats 1000000 in
theorem specInsOk_any (op a b : Int) (w : World) :
    Calls Tryd.prog 32 #[.agg #[.int .i64 op, .int .i64 a, .int .i64 b]] w fun e w' => e = .returned (.bool (insOk op a b)) ∧ Below w.heap.size w w' := by
  by_cases k1 : op < 1
  · have HK : Hid (insOk op a b = false) := by simp [Hid, insOk]; omega
    go_enter Tryd.func32, Tryd.ntmps32
    go_wp2_with fail
    go_ret
    exact ⟨ret_bool HK.out.symm, (Below.refl _ _).alloc (Nat.le_refl _) _⟩
  by_cases k2 : 33 < op
  · have HK : Hid (insOk op a b = false) := by simp [Hid, insOk]; omega
    go_enter Tryd.func32, Tryd.ntmps32
    go_wp2_with fail
    go_ret
    exact ⟨ret_bool HK.out.symm, (Below.refl _ _).alloc (Nat.le_refl _) _⟩
  have h1 : 1 ≤ op := by omega
  have h2 : op ≤ 33 := by omega
  rcases (by unfold spanN; split; exact .inr (.inr rfl); split; exact .inr (.inl rfl); exact .inl rfl : spanN op = 0 ∨ spanN op = 1 ∨ spanN op = 2) with hn | hn | hn
  · have HK : Hid (insOk op a b = decide (a = 0 ∧ b = 0)) := by simp [Hid, insOk, h1, h2, hn]
    have HN : Hid ((spanN op : Int) = 0) := by simp [Hid, hn]
    clear hn
    go_enter Tryd.func32, Tryd.ntmps32
    go_wp2_with (go_at_call 49; refine (specInsHas_at _ _ HN.out _).mono ?_; rintro e w' ⟨rfl, rfl⟩)
    all_goals go_ret
    all_goals exact ⟨ret_bool (by rw [HK.out, Bool.eq_iff_iff]; simp_all), (Below.refl _ _).alloc (Nat.le_refl _) _⟩
  · have HN : Hid ((spanN op : Int) = 1) := by simp [Hid, hn]
    by_cases ho : op = 12 ∨ op = 22 ∨ op = 23
    · have HK : Hid (insOk op a b = decide (-2 ≤ a ∧ a < 8 ∧ b = 0)) := by rcases ho with rfl | rfl | rfl <;> simp [Hid, insOk, hn, spanLo, spanHi]
      have HO : Hid (decide (op = 12 ∨ op = 22 ∨ op = 23) = true) := by simp [Hid, ho]
      clear hn ho
      go_enter Tryd.func32, Tryd.ntmps32
      go_wp2_with (first | (go_at_call 49; refine (specInsHas_at _ _ HN.out _).mono ?_; rintro e w' ⟨rfl, rfl⟩) | (go_at_call 50; refine (isOf_at _ _ HO.out _).mono ?_; rintro e w' ⟨rfl, rfl⟩) | (go_at_call 51; refine (l1Of_any _ _ _).mono ?_; rintro e w' ⟨rfl, rfl⟩))
      all_goals go_ret
      all_goals exact ⟨ret_bool (by rw [HK.out, Bool.eq_iff_iff]; simp_all <;> omega), (Below.refl _ _).alloc (Nat.le_refl _) _⟩
    · have HL : spanLo op = 0 := by simp [spanLo, ho]
      have HK : Hid (insOk op a b = decide (0 ≤ a ∧ a < spanHi op ∧ b = 0)) := by simp [Hid, insOk, hn, h1, h2, HL]
      have HO : Hid (decide (op = 12 ∨ op = 22 ∨ op = 23) = false) := by simp [Hid, ho]
      clear hn ho HL
      by_cases ha : 0 ≤ a
      all_goals
       first | (have ga : decide (0 ≤ a) = true := by simp [ha]) | (have ga : decide (0 ≤ a) = false := by simp; omega)
      all_goals
       go_enter Tryd.func32, Tryd.ntmps32
       go_wp2_with (first | (go_at_call 49; refine (specInsHas_at _ _ HN.out _).mono ?_; rintro e w' ⟨rfl, rfl⟩) | (go_at_call 50; refine (isOf_at _ _ HO.out _).mono ?_; rintro e w' ⟨rfl, rfl⟩))
       all_goals first
         | (go_ret
            exact ⟨ret_bool (by rw [HK.out, Bool.eq_iff_iff]; simp_all <;> omega), (Below.refl _ _).alloc (Nat.le_refl _) _⟩)
         | (have hneg : a < 0 := ha
            go_quiet (fail)
            go_wp2_with fail
            go_ret
            exact ⟨ret_bool (by rw [HK.out, Bool.eq_iff_iff]; simp_all <;> omega), below_drewN ((Below.refl _ _).alloc (Nat.le_refl _) _) _⟩)
         | (go_region_held3 (fun w' => w'.cell? ⟨w.heap.size, 0, none⟩ = some (.int .i64 op) ∧ w'.cell? ⟨w.heap.size, 1, none⟩ = some (.int .i64 a)) (go_keep)
             ((go_at_call 52; refine (most_any _ _).mono ?_; rintro e w' ⟨rfl, rfl⟩))
            all_goals go_wp2_with fail
            all_goals go_ret
            all_goals exact ⟨ret_bool (by rw [HK.out, Bool.eq_iff_iff]; simp_all <;> omega), below_drewN ((Below.refl _ _).alloc (Nat.le_refl _) _) 1⟩)
  · have HN : Hid ((spanN op : Int) = 2) := by simp [Hid, hn]
    have HO : Hid (decide (op = 12 ∨ op = 22 ∨ op = 23) = false) := by simp only [Hid]; rw [decide_eq_false_iff_not]; intro h; rcases h with rfl | rfl | rfl <;> simp [spanN] at hn
    have HM : Hid (spanHi op = 8) := by simp only [Hid, spanHi]; unfold spanN at hn; split at hn <;> rename_i hq; (rcases hq with rfl | rfl <;> rfl); split at hn <;> cases hn
    have HK : Hid (insOk op a b = decide (0 ≤ a ∧ a < 8 ∧ 0 ≤ b ∧ b < 4)) := by simp [Hid, insOk, hn, h1, h2]
    clear hn
    by_cases ha : 0 ≤ a
    all_goals
     first | (have ga : decide (0 ≤ a) = true := by simp [ha]) | (have ga : decide (0 ≤ a) = false := by simp; omega)
    all_goals
     go_enter Tryd.func32, Tryd.ntmps32
     go_wp2_with (first | (go_at_call 49; refine (specInsHas_at _ _ HN.out _).mono ?_; rintro e w' ⟨rfl, rfl⟩) | (go_at_call 50; refine (isOf_at _ _ HO.out _).mono ?_; rintro e w' ⟨rfl, rfl⟩))
     all_goals first
      | (go_ret
         exact ⟨ret_bool (by rw [HK.out, Bool.eq_iff_iff]; simp_all <;> omega), (Below.refl _ _).alloc (Nat.le_refl _) _⟩)
      | (have hneg : a < 0 := ha
         go_quiet (fail)
         go_wp2_with fail
         go_ret
         exact ⟨ret_bool (by rw [HK.out, Bool.eq_iff_iff]; simp_all <;> omega), below_drewN ((Below.refl _ _).alloc (Nat.le_refl _) _) _⟩)
      | (go_region_held3 (fun w' => w'.cell? ⟨w.heap.size, 0, none⟩ = some (.int .i64 op) ∧ w'.cell? ⟨w.heap.size, 1, none⟩ = some (.int .i64 a)) (go_keep)
          ((go_at_call 52; refine (most_at _ _ HM.out _).mono ?_; rintro e w' ⟨rfl, rfl⟩))
         all_goals go_wp2_with fail
         all_goals go_ret
         all_goals exact ⟨ret_bool (by rw [HK.out, Bool.eq_iff_iff]; simp_all <;> omega), below_drewN ((Below.refl _ _).alloc (Nat.le_refl _) _) 1⟩)
end Go.Proofs.YtjfmiconmbpllaaDoor
