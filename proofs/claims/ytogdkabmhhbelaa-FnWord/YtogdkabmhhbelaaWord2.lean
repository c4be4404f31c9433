/- Values and words: WordOf and WordVal of the model, WordVal of the program. -/
import Derived.Test.YtogdkabmhhbelaaWord
import Derived.Deep.RegionHeld3
namespace Go.Proofs.Ytogdkabmhhbelaa
open Go.ChangeShapes Go.WideShapes Go.ChangeAt Go.RowKit
set_option linter.unusedVariables false

/-- WordVal, plainly: the value's kind and number. -/
def wordVal (k w : Int) : Option (Int × Int) :=
  if w < 0 then none
  else if k = 1 then (if w < 9973 then some (1, w) else none)
  else if k = 2 ∨ k = 3 then
    (if w = 0 then (if k = 2 then some (2, 0) else none)
     else if w % 2 = 1 then (if w / 2 < 9973 then some (3, w / 2) else none)
     else (if w / 2 - 1 < 160 then some (4, w / 2 - 1) else none))
  else none
/-- What is answered. -/
def valOr : Option (Int × Int) → Value
  | some (a, b) => .tuple #[.agg #[.int .i64 a, .int .i64 b], .bool true]
  | none => .tuple #[.agg #[.int .i64 0, .int .i64 0], .bool false]

theorem l7Form_any (k n : Int) (w : World) :
    Calls Try.prog 34 #[.agg #[.int .i64 k, .int .i64 n]] w fun e w' => e = .returned (.bool (valForm k n 160)) ∧ Below w.heap.size w w' := by
  go_enter Try.func34, Try.ntmps34
  go_wp2_with fail
  go_region_held3 (fun w' => w'.cell? ⟨w.heap.size, 0, none⟩ = some (.int .i64 k) ∧ w'.cell? ⟨w.heap.size, 1, none⟩ = some (.int .i64 n)) (go_keep)
    ((first | (go_at_call 44; refine (l7Many_any _).mono ?_; rintro e w' ⟨rfl, rfl⟩)
            | (go_at_call 43; refine (l5Form_any k n 160 _).mono ?_; rintro e w1 ⟨rfl, hb⟩; have y1 : ∀ o, w1.cell? ⟨w.heap.size, o, none⟩ = _ := fun o => hb.cell (p := ⟨w.heap.size, o, none⟩) (by simp))))
  all_goals go_wp2_with fail
  all_goals go_ret
  all_goals exact ⟨rfl, (((Below.refl _ _).alloc (Nat.le_refl _) _).drew).trans (hb.mono (by simp))⟩

set_option maxHeartbeats 400000 in
theorem specWordOf_any (k n : Int) (w : World) :
    Calls Try.prog 13 #[.agg #[.int .i64 k, .int .i64 n]] w fun e w' => e = .returned (.int .i64 (wordOf k n)) ∧ Below w.heap.size w w' := by
  by_cases hf : valForm k n 160 = true
  · go_enter Try.func13, Try.ntmps13
    go_wp2_with fail
    refine (l7Form_any k n _).mono ?_
    rintro e w1 ⟨rfl, hb⟩
    have R := hide ((Rec.new' w 24 [.int .i64 k, .int .i64 n] _ rfl).below hb (by simp))
    have c0 := R.out.cell (o := 0) rfl
    have c1 := R.out.cell (o := 1) rfl
    have B : Hid (Below w.heap.size w w1) := ((Below.refl _ _).alloc (Nat.le_refl _) _).trans (hb.mono (by simp))
    rw [hf]
    have HF := hide hf
    clear hf hb
    by_cases h1 : k = 1
    · subst h1
      have h2 : 0 ≤ n ∧ n < 9973 := by simpa [valForm] using HF.out
      obtain ⟨h2, h3⟩ := h2
      go_wp2_with fail
      go_ret
      exact ⟨ret_int (by simp [wordOf, h2, h3]), B.out⟩
    by_cases h4 : k = 3
    · subst h4
      have h2 : 0 ≤ n ∧ n < 9973 := by simpa [valForm] using HF.out
      obtain ⟨h2, h3⟩ := h2
      go_wp2_with fail
      go_ret
      exact ⟨ret_int (by simp [wordOf, h2, h3]), B.out⟩
    by_cases h5 : k = 4
    · subst h5
      have h2 : 0 ≤ n ∧ n < 160 := by simpa [valForm] using HF.out
      obtain ⟨h2, h3⟩ := h2
      go_wp2_with fail
      go_ret
      exact ⟨ret_int (by simp [wordOf, h2, h3]), B.out⟩
    go_wp2_with fail
    go_ret
    exact ⟨ret_int (by simp [wordOf, h1, h4, h5]), B.out⟩
  · have hf' : valForm k n 160 = false := by simpa using hf
    have HW : wordOf k n = 0 := by
      simp only [valForm] at hf'
      unfold wordOf
      (repeat' split at hf') <;> simp_all <;> (repeat' split) <;> omega
    rw [HW]
    clear HW
    go_enter Try.func13, Try.ntmps13
    go_wp2_with fail
    refine (l7Form_any k n _).mono ?_
    rintro e w1 ⟨rfl, hb⟩
    rw [hf']
    clear hf hf'
    go_wp2_with fail
    go_ret
    exact ⟨rfl, ((Below.refl _ _).alloc (Nat.le_refl _) _).trans (hb.mono (by simp))⟩

theorem implWordIn_any (k n b : Int) (w : World) :
    Calls Try.prog 31 #[.int .i64 k, .int .i64 n, .int .i64 b] w fun e w' => e = .returned (valOr (if n < b then some (k, n) else none)) ∧ Below w.heap.size w w' := by
  by_cases h : n < b
  · rw [if_pos h]
    go_enter Try.func31, Try.ntmps31
    go_wp2_with fail
    refine bodyPost_ret (v := .tuple #[.agg #[.int .i64 k, .int .i64 n], .bool true]) (by simp [results, Try.results31, go_sem]) rfl ⟨rfl, ?_⟩
    repeat (first | exact Below.refl _ _ | refine Below.setCell ?_ (by simp) _ | refine Below.alloc ?_ (by simp) _)
  · rw [if_neg h]
    have h' : b ≤ n := by omega
    go_enter Try.func31, Try.ntmps31
    go_wp2_with fail
    refine bodyPost_ret (v := .tuple #[.agg #[.int .i64 0, .int .i64 0], .bool false]) (by simp [results, Try.results31, go_sem]) rfl ⟨rfl, ?_⟩
    repeat (first | exact Below.refl _ _ | refine Below.setCell ?_ (by simp) _ | refine Below.alloc ?_ (by simp) _)

theorem implWordNone_any (k o : Int) (m : Bool) (w : World) :
    Calls Try.prog 32 #[.agg #[.int .i64 k, .int .i64 o, .bool m]] w fun e w' => e = .returned (valOr (if k = 2 then some (2, 0) else none)) ∧ Below w.heap.size w w' := by
  by_cases h : k = 2
  · subst h
    rw [if_pos rfl]
    go_enter Try.func32, Try.ntmps32
    go_wp2_with fail
    refine bodyPost_ret (v := .tuple #[.agg #[.int .i64 2, .int .i64 0], .bool true]) (by simp [results, Try.results32, go_sem]) rfl ⟨rfl, ?_⟩
    repeat (first | exact Below.refl _ _ | refine Below.setCell ?_ (by simp) _ | refine Below.alloc ?_ (by simp) _)
  · rw [if_neg h]
    go_enter Try.func32, Try.ntmps32
    go_wp2_with fail
    refine bodyPost_ret (v := .tuple #[.agg #[.int .i64 0, .int .i64 0], .bool false]) (by simp [results, Try.results32, go_sem]) rfl ⟨rfl, ?_⟩
    repeat (first | exact Below.refl _ _ | refine Below.setCell ?_ (by simp) _ | refine Below.alloc ?_ (by simp) _)
end Go.Proofs.Ytogdkabmhhbelaa
