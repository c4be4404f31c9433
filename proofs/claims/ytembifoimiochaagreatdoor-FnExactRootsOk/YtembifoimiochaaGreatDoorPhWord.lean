/- PhWord: ValForm, Word, Word2, Word3, Word4, GenVal0, GenThingD, ValA, ValB. -/
import Derived.Test.YtembifoimiochaaGreatDoorPaOne
import Derived.Deep.RegionHeld3
import Derived.Test.YtembifoimiochaaGreatDoorNumVal
import Derived.Test.YtembifoimiochaaGreatDoorPaKinC
namespace Go.Proofs.YtembifoimiochaaGreatDoor
open Go.ChangeShapes Go.WideShapes Go.ChangeAt Go.RowKit
set_option linter.unusedVariables false
/-- A value that is written right, so many things being there. -/
def valForm (k n t : Int) : Bool :=
  if k = 1 ∨ k = 3 then decide (0 ≤ n ∧ n < 9973) else if k = 2 then decide (n = 0) else if k = 4 then decide (0 ≤ n ∧ n < t) else false
set_option maxHeartbeats 400000 in
theorem l5Number_any (n : Int) (w : World) :
    Calls Tryz.prog 95 #[.int .i64 n] w fun e w' => e = .returned (.bool (decide (0 ≤ n ∧ n < 9973))) ∧ w' = w := by
  go_enter Tryz.func95, Tryz.ntmps95
  go_wp2
  all_goals go_ret
  all_goals refine ⟨ret_bool ?_, rfl⟩
  all_goals (rw [Bool.eq_iff_iff]; simp_all <;> omega)
set_option maxHeartbeats 400000 in
theorem l5Form_any (k n t : Int) (w : World) :
    Calls Tryz.prog 65 #[.agg #[.int .i64 k, .int .i64 n], .int .i64 t] w fun e w' => e = .returned (.bool (valForm k n t)) ∧ Below w.heap.size w w' := by
  go_enter Tryz.func65, Tryz.ntmps65
  go_wp2_with (go_at_call 95; refine (l5Number_any _ _).mono ?_; rintro e w' ⟨rfl, rfl⟩)
  all_goals go_ret
  all_goals refine ⟨ret_bool ?_, (Below.refl _ _).alloc (Nat.le_refl _) _⟩
  all_goals (rw [Bool.eq_iff_iff]; simp_all [valForm] <;> omega)
/-- WordOf, plainly. -/
def wordOf (k n : Int) : Int :=
  if k = 1 ∧ 0 ≤ n ∧ n < 9973 then n else if k = 3 ∧ 0 ≤ n ∧ n < 9973 then 2 * n + 1 else if k = 4 ∧ 0 ≤ n ∧ n < 160 then 2 * n + 2 else 0
theorem l7Many_any (w : World) : Calls Tryz.prog 66 #[] w fun e w' => e = .returned (.int .i64 160) ∧ w' = w := by
  go_enter Tryz.func66, Tryz.ntmps66
  go_wp2
  go_ret
  exact ⟨rfl, rfl⟩
/-- WordVal, plainly: the value's kind and number. -/
def wordVal (k w : Int) : Option (Int × Int) :=
  if w < 0 then none
  else if k = 1 then (if w < 9973 then some (1, w) else none)
  else if k = 2 ∨ k = 3 then
    (if w = 0 then (if k = 2 then some (2, 0) else none)
     else if w % 2 = 1 then (if w / 2 < 9973 then some (3, w / 2) else none)
     else (if w / 2 - 1 < 160 then some (4, w / 2 - 1) else none))
  else none
/-- What is answered. -/
def valOr : Option (Int × Int) → Value
  | some (a, b) => .tuple #[.agg #[.int .i64 a, .int .i64 b], .bool true]
  | none => .tuple #[.agg #[.int .i64 0, .int .i64 0], .bool false]
theorem l7Form_any (k n : Int) (w : World) :
    Calls Tryz.prog 49 #[.agg #[.int .i64 k, .int .i64 n]] w fun e w' => e = .returned (.bool (valForm k n 160)) ∧ Below w.heap.size w w' := by
  go_enter Tryz.func49, Tryz.ntmps49
  go_wp2_with fail
  go_region_held3 (fun w' => w'.cell? ⟨w.heap.size, 0, none⟩ = some (.int .i64 k) ∧ w'.cell? ⟨w.heap.size, 1, none⟩ = some (.int .i64 n)) (go_keep)
    ((first | (go_at_call 66; refine (l7Many_any _).mono ?_; rintro e w' ⟨rfl, rfl⟩)
            | (go_at_call 65; refine (l5Form_any k n 160 _).mono ?_; rintro e w1 ⟨rfl, hb⟩; have y1 : ∀ o, w1.cell? ⟨w.heap.size, o, none⟩ = _ := fun o => hb.cell (p := ⟨w.heap.size, o, none⟩) (by simp))))
  all_goals go_wp2_with fail
  all_goals go_ret
  all_goals exact ⟨rfl, (((Below.refl _ _).alloc (Nat.le_refl _) _).drew).trans (hb.mono (by simp))⟩
theorem implWordIn_any (k n b : Int) (w : World) :
    Calls Tryz.prog 115 #[.int .i64 k, .int .i64 n, .int .i64 b] w fun e w' => e = .returned (valOr (if n < b then some (k, n) else none)) ∧ Below w.heap.size w w' := by
  by_cases h : n < b
  · rw [if_pos h]
    go_enter Tryz.func115, Tryz.ntmps115
    go_wp2_with fail
    refine bodyPost_ret (v := .tuple #[.agg #[.int .i64 k, .int .i64 n], .bool true]) (by simp [results, Tryz.results115, go_sem]) rfl ⟨rfl, ?_⟩
    repeat (first | exact Below.refl _ _ | refine Below.setCell ?_ (by simp) _ | refine Below.alloc ?_ (by simp) _)
  · rw [if_neg h]
    have h' : b ≤ n := by omega
    go_enter Tryz.func115, Tryz.ntmps115
    go_wp2_with fail
    refine bodyPost_ret (v := .tuple #[.agg #[.int .i64 0, .int .i64 0], .bool false]) (by simp [results, Tryz.results115, go_sem]) rfl ⟨rfl, ?_⟩
    repeat (first | exact Below.refl _ _ | refine Below.setCell ?_ (by simp) _ | refine Below.alloc ?_ (by simp) _)
theorem implWordNone_any (k o : Int) (m : Bool) (w : World) :
    Calls Tryz.prog 116 #[.agg #[.int .i64 k, .int .i64 o, .bool m]] w fun e w' => e = .returned (valOr (if k = 2 then some (2, 0) else none)) ∧ Below w.heap.size w w' := by
  by_cases h : k = 2
  · subst h
    rw [if_pos rfl]
    go_enter Tryz.func116, Tryz.ntmps116
    go_wp2_with fail
    refine bodyPost_ret (v := .tuple #[.agg #[.int .i64 2, .int .i64 0], .bool true]) (by simp [results, Tryz.results116, go_sem]) rfl ⟨rfl, ?_⟩
    repeat (first | exact Below.refl _ _ | refine Below.setCell ?_ (by simp) _ | refine Below.alloc ?_ (by simp) _)
  · rw [if_neg h]
    go_enter Tryz.func116, Tryz.ntmps116
    go_wp2_with fail
    refine bodyPost_ret (v := .tuple #[.agg #[.int .i64 0, .int .i64 0], .bool false]) (by simp [results, Tryz.results116, go_sem]) rfl ⟨rfl, ?_⟩
    repeat (first | exact Below.refl _ _ | refine Below.setCell ?_ (by simp) _ | refine Below.alloc ?_ (by simp) _)
theorem valOr_tuple (x : Option (Int × Int)) : ∃ a b c, valOr x = .tuple #[.agg #[.int .i64 a, .int .i64 b], .bool c] := by
  rcases x with _ | ⟨a, b⟩
  · exact ⟨0, 0, false, rfl⟩
  · exact ⟨a, b, true, rfl⟩
theorem implWordVal_none (k o : Int) (m : Bool) (x : Int) (w : World) (h : x < 0 ∨ (0 ≤ x ∧ ¬ k = 1 ∧ ¬ k = 2 ∧ ¬ k = 3)) :
    Calls Tryz.prog 106 #[.agg #[.int .i64 k, .int .i64 o, .bool m], .int .i64 x] w fun e w' => e = .returned (.tuple #[.agg #[.int .i64 0, .int .i64 0], .bool false]) ∧ Below w.heap.size w w' := by
  rcases h with h0 | ⟨h0, h1, h2, h3⟩
  · go_enter Tryz.func106, Tryz.ntmps106
    go_wp2_with fail
    refine bodyPost_ret (v := .tuple #[.agg #[.int .i64 0, .int .i64 0], .bool false]) (by simp [results, Tryz.results106, go_sem]) rfl ⟨rfl, ?_⟩
    repeat (first | exact Below.refl _ _ | refine Below.setCell ?_ (by simp) _ | refine Below.alloc ?_ (by simp) _)
  · have g1 : (k == 1) = false := by simpa using h1
    have g2 : (k != 2) = true := by simpa using h2
    have g3 : (k != 3) = true := by simpa using h3
    have g2' : (k == 2) = false := by simpa using h2
    have g3' : (k == 3) = false := by simpa using h3
    go_enter Tryz.func106, Tryz.ntmps106
    go_wp2_with fail
    refine bodyPost_ret (v := .tuple #[.agg #[.int .i64 0, .int .i64 0], .bool false]) (by simp [results, Tryz.results106, go_sem]) rfl ⟨rfl, ?_⟩
    repeat (first | exact Below.refl _ _ | refine Below.setCell ?_ (by simp) _ | refine Below.alloc ?_ (by simp) _)
set_option maxHeartbeats 1600000 in
theorem implWordVal_num (o : Int) (m : Bool) (x : Int) (w : World) (h0 : 0 ≤ x) (p q : Int) (r : Bool) (C : Hid (∀ W, Calls Tryz.prog 115 #[.int .i64 1, .int .i64 x, .int .i64 9973] W fun e w' => e = .returned (.tuple #[.agg #[.int .i64 p, .int .i64 q], .bool r]) ∧ Below W.heap.size W w')) :
    Calls Tryz.prog 106 #[.agg #[.int .i64 1, .int .i64 o, .bool m], .int .i64 x] w fun e w' => e = .returned (.tuple #[.agg #[.int .i64 p, .int .i64 q], .bool r]) ∧ Below w.heap.size w w' := by
  go_enter Tryz.func106, Tryz.ntmps106
  go_wp2_with fail
  refine (C.out _).mono ?_
  rintro e w1 ⟨rfl, hb⟩
  have R := hide ((Rec.new' (w.alloc (.cells #[.int .i64 1, .int .i64 o, .bool m] 70)) 49 [.int .i64 0, .int .i64 0] _ rfl).below hb (by simp))
  have c0 := R.out.cell (o := 0) rfl
  have c1 := R.out.cell (o := 1) rfl
  have f0 := R.out.frozen 0
  have f1 := R.out.frozen 1
  have RF := hide ((R.out.set 0 (.int .i64 p)).set 1 (.int .i64 q))
  have r0 := RF.out.cell (o := 0) rfl
  have r1 := RF.out.cell (o := 1) rfl
  have B : Hid (Below w.heap.size w w1) := Below.trans (by (repeat (first | exact Below.refl _ _ | refine Below.alloc ?_ (by simp) _))) (hb.mono (by simp; omega))
  simp only [World.size_alloc] at c0 c1 f0 f1 r0 r1
  clear hb
  go_wp2_with fail
  refine bodyPost_ret (v := .tuple #[.agg #[.int .i64 p, .int .i64 q], .bool r]) (by simp [results, Tryz.results106, go_sem, r0, r1]) rfl ⟨rfl, ?_⟩
  exact (B.out.setCell (by simp) _).setCell (by simp) _
set_option maxHeartbeats 1600000 in
theorem implWordVal_zero2 (o : Int) (m : Bool) (x : Int) (w : World) (h0 : x = 0) (p q : Int) (r : Bool) (C : Hid (∀ W, Calls Tryz.prog 116 #[.agg #[.int .i64 2, .int .i64 o, .bool m]] W fun e w' => e = .returned (.tuple #[.agg #[.int .i64 p, .int .i64 q], .bool r]) ∧ Below W.heap.size W w')) :
    Calls Tryz.prog 106 #[.agg #[.int .i64 2, .int .i64 o, .bool m], .int .i64 x] w fun e w' => e = .returned (.tuple #[.agg #[.int .i64 p, .int .i64 q], .bool r]) ∧ Below w.heap.size w w' := by
  subst h0
  go_enter Tryz.func106, Tryz.ntmps106
  go_wp2_with fail
  refine (C.out _).mono ?_
  rintro e w1 ⟨rfl, hb⟩
  have R := hide ((Rec.new' (w.alloc (.cells #[.int .i64 2, .int .i64 o, .bool m] 70)) 49 [.int .i64 0, .int .i64 0] _ rfl).below hb (by simp))
  have c0 := R.out.cell (o := 0) rfl
  have c1 := R.out.cell (o := 1) rfl
  have f0 := R.out.frozen 0
  have f1 := R.out.frozen 1
  have RF := hide ((R.out.set 0 (.int .i64 p)).set 1 (.int .i64 q))
  have r0 := RF.out.cell (o := 0) rfl
  have r1 := RF.out.cell (o := 1) rfl
  have B : Hid (Below w.heap.size w w1) := Below.trans (by (repeat (first | exact Below.refl _ _ | refine Below.alloc ?_ (by simp) _))) (hb.mono (by simp; omega))
  simp only [World.size_alloc] at c0 c1 f0 f1 r0 r1
  clear hb
  go_wp2_with fail
  refine bodyPost_ret (v := .tuple #[.agg #[.int .i64 p, .int .i64 q], .bool r]) (by simp [results, Tryz.results106, go_sem, r0, r1]) rfl ⟨rfl, ?_⟩
  exact (B.out.setCell (by simp) _).setCell (by simp) _
set_option maxHeartbeats 1600000 in
theorem implWordVal_odd2 (o : Int) (m : Bool) (x : Int) (w : World) (h0 : 0 < x) (hx : x ≤ 9223372036854775807) (h1 : x % 2 = 1) (p q : Int) (r : Bool) (C : Hid (∀ W, Calls Tryz.prog 115 #[.int .i64 3, .int .i64 (x / 2), .int .i64 9973] W fun e w' => e = .returned (.tuple #[.agg #[.int .i64 p, .int .i64 q], .bool r]) ∧ Below W.heap.size W w')) :
    Calls Tryz.prog 106 #[.agg #[.int .i64 2, .int .i64 o, .bool m], .int .i64 x] w fun e w' => e = .returned (.tuple #[.agg #[.int .i64 p, .int .i64 q], .bool r]) ∧ Below w.heap.size w w' := by
  have h2 : ¬ x = 0 := by omega
  have h3 : 0 ≤ x := by omega
  go_enter Tryz.func106, Tryz.ntmps106
  go_wp2_with fail
  refine (C.out _).mono ?_
  rintro e w1 ⟨rfl, hb⟩
  have R := hide ((Rec.new' (w.alloc (.cells #[.int .i64 2, .int .i64 o, .bool m] 70)) 49 [.int .i64 0, .int .i64 0] _ rfl).below hb (by simp))
  have c0 := R.out.cell (o := 0) rfl
  have c1 := R.out.cell (o := 1) rfl
  have f0 := R.out.frozen 0
  have f1 := R.out.frozen 1
  have RF := hide ((R.out.set 0 (.int .i64 p)).set 1 (.int .i64 q))
  have r0 := RF.out.cell (o := 0) rfl
  have r1 := RF.out.cell (o := 1) rfl
  have B : Hid (Below w.heap.size w w1) := Below.trans (by (repeat (first | exact Below.refl _ _ | refine Below.alloc ?_ (by simp) _))) (hb.mono (by simp; omega))
  simp only [World.size_alloc] at c0 c1 f0 f1 r0 r1
  clear hb
  go_wp2_with fail
  refine bodyPost_ret (v := .tuple #[.agg #[.int .i64 p, .int .i64 q], .bool r]) (by simp [results, Tryz.results106, go_sem, r0, r1]) rfl ⟨rfl, ?_⟩
  exact (B.out.setCell (by simp) _).setCell (by simp) _
set_option maxHeartbeats 1600000 in
theorem implWordVal_even2 (o : Int) (m : Bool) (x : Int) (w : World) (h0 : 0 < x) (hx : x ≤ 9223372036854775807) (h1 : x % 2 = 0) (p q : Int) (r : Bool) (C : Hid (∀ W, Calls Tryz.prog 115 #[.int .i64 4, .int .i64 (x / 2 - 1), .int .i64 160] W fun e w' => e = .returned (.tuple #[.agg #[.int .i64 p, .int .i64 q], .bool r]) ∧ Below W.heap.size W w')) :
    Calls Tryz.prog 106 #[.agg #[.int .i64 2, .int .i64 o, .bool m], .int .i64 x] w fun e w' => e = .returned (.tuple #[.agg #[.int .i64 p, .int .i64 q], .bool r]) ∧ Below w.heap.size w w' := by
  have h2 : ¬ x = 0 := by omega
  have h3 : 0 ≤ x := by omega
  go_enter Tryz.func106, Tryz.ntmps106
  go_wp2_with fail
  refine (C.out _).mono ?_
  rintro e w1 ⟨rfl, hb⟩
  have R := hide ((Rec.new' (w.alloc (.cells #[.int .i64 2, .int .i64 o, .bool m] 70)) 49 [.int .i64 0, .int .i64 0] _ rfl).below hb (by simp))
  have c0 := R.out.cell (o := 0) rfl
  have c1 := R.out.cell (o := 1) rfl
  have f0 := R.out.frozen 0
  have f1 := R.out.frozen 1
  have RF := hide ((R.out.set 0 (.int .i64 p)).set 1 (.int .i64 q))
  have r0 := RF.out.cell (o := 0) rfl
  have r1 := RF.out.cell (o := 1) rfl
  have B : Hid (Below w.heap.size w w1) := Below.trans (by (repeat (first | exact Below.refl _ _ | refine Below.alloc ?_ (by simp) _))) (hb.mono (by simp; omega))
  simp only [World.size_alloc] at c0 c1 f0 f1 r0 r1
  clear hb
  go_wp2_with fail
  refine bodyPost_ret (v := .tuple #[.agg #[.int .i64 p, .int .i64 q], .bool r]) (by simp [results, Tryz.results106, go_sem, r0, r1]) rfl ⟨rfl, ?_⟩
  exact (B.out.setCell (by simp) _).setCell (by simp) _
set_option maxHeartbeats 1600000 in
theorem implWordVal_zero3 (o : Int) (m : Bool) (x : Int) (w : World) (h0 : x = 0) (p q : Int) (r : Bool) (C : Hid (∀ W, Calls Tryz.prog 116 #[.agg #[.int .i64 3, .int .i64 o, .bool m]] W fun e w' => e = .returned (.tuple #[.agg #[.int .i64 p, .int .i64 q], .bool r]) ∧ Below W.heap.size W w')) :
    Calls Tryz.prog 106 #[.agg #[.int .i64 3, .int .i64 o, .bool m], .int .i64 x] w fun e w' => e = .returned (.tuple #[.agg #[.int .i64 p, .int .i64 q], .bool r]) ∧ Below w.heap.size w w' := by
  subst h0
  go_enter Tryz.func106, Tryz.ntmps106
  go_wp2_with fail
  refine (C.out _).mono ?_
  rintro e w1 ⟨rfl, hb⟩
  have R := hide ((Rec.new' (w.alloc (.cells #[.int .i64 3, .int .i64 o, .bool m] 70)) 49 [.int .i64 0, .int .i64 0] _ rfl).below hb (by simp))
  have c0 := R.out.cell (o := 0) rfl
  have c1 := R.out.cell (o := 1) rfl
  have f0 := R.out.frozen 0
  have f1 := R.out.frozen 1
  have RF := hide ((R.out.set 0 (.int .i64 p)).set 1 (.int .i64 q))
  have r0 := RF.out.cell (o := 0) rfl
  have r1 := RF.out.cell (o := 1) rfl
  have B : Hid (Below w.heap.size w w1) := Below.trans (by (repeat (first | exact Below.refl _ _ | refine Below.alloc ?_ (by simp) _))) (hb.mono (by simp; omega))
  simp only [World.size_alloc] at c0 c1 f0 f1 r0 r1
  clear hb
  go_wp2_with fail
  refine bodyPost_ret (v := .tuple #[.agg #[.int .i64 p, .int .i64 q], .bool r]) (by simp [results, Tryz.results106, go_sem, r0, r1]) rfl ⟨rfl, ?_⟩
  exact (B.out.setCell (by simp) _).setCell (by simp) _
set_option maxHeartbeats 1600000 in
theorem implWordVal_odd3 (o : Int) (m : Bool) (x : Int) (w : World) (h0 : 0 < x) (hx : x ≤ 9223372036854775807) (h1 : x % 2 = 1) (p q : Int) (r : Bool) (C : Hid (∀ W, Calls Tryz.prog 115 #[.int .i64 3, .int .i64 (x / 2), .int .i64 9973] W fun e w' => e = .returned (.tuple #[.agg #[.int .i64 p, .int .i64 q], .bool r]) ∧ Below W.heap.size W w')) :
    Calls Tryz.prog 106 #[.agg #[.int .i64 3, .int .i64 o, .bool m], .int .i64 x] w fun e w' => e = .returned (.tuple #[.agg #[.int .i64 p, .int .i64 q], .bool r]) ∧ Below w.heap.size w w' := by
  have h2 : ¬ x = 0 := by omega
  have h3 : 0 ≤ x := by omega
  go_enter Tryz.func106, Tryz.ntmps106
  go_wp2_with fail
  refine (C.out _).mono ?_
  rintro e w1 ⟨rfl, hb⟩
  have R := hide ((Rec.new' (w.alloc (.cells #[.int .i64 3, .int .i64 o, .bool m] 70)) 49 [.int .i64 0, .int .i64 0] _ rfl).below hb (by simp))
  have c0 := R.out.cell (o := 0) rfl
  have c1 := R.out.cell (o := 1) rfl
  have f0 := R.out.frozen 0
  have f1 := R.out.frozen 1
  have RF := hide ((R.out.set 0 (.int .i64 p)).set 1 (.int .i64 q))
  have r0 := RF.out.cell (o := 0) rfl
  have r1 := RF.out.cell (o := 1) rfl
  have B : Hid (Below w.heap.size w w1) := Below.trans (by (repeat (first | exact Below.refl _ _ | refine Below.alloc ?_ (by simp) _))) (hb.mono (by simp; omega))
  simp only [World.size_alloc] at c0 c1 f0 f1 r0 r1
  clear hb
  go_wp2_with fail
  refine bodyPost_ret (v := .tuple #[.agg #[.int .i64 p, .int .i64 q], .bool r]) (by simp [results, Tryz.results106, go_sem, r0, r1]) rfl ⟨rfl, ?_⟩
  exact (B.out.setCell (by simp) _).setCell (by simp) _
set_option maxHeartbeats 1600000 in
theorem implWordVal_even3 (o : Int) (m : Bool) (x : Int) (w : World) (h0 : 0 < x) (hx : x ≤ 9223372036854775807) (h1 : x % 2 = 0) (p q : Int) (r : Bool) (C : Hid (∀ W, Calls Tryz.prog 115 #[.int .i64 4, .int .i64 (x / 2 - 1), .int .i64 160] W fun e w' => e = .returned (.tuple #[.agg #[.int .i64 p, .int .i64 q], .bool r]) ∧ Below W.heap.size W w')) :
    Calls Tryz.prog 106 #[.agg #[.int .i64 3, .int .i64 o, .bool m], .int .i64 x] w fun e w' => e = .returned (.tuple #[.agg #[.int .i64 p, .int .i64 q], .bool r]) ∧ Below w.heap.size w w' := by
  have h2 : ¬ x = 0 := by omega
  have h3 : 0 ≤ x := by omega
  go_enter Tryz.func106, Tryz.ntmps106
  go_wp2_with fail
  refine (C.out _).mono ?_
  rintro e w1 ⟨rfl, hb⟩
  have R := hide ((Rec.new' (w.alloc (.cells #[.int .i64 3, .int .i64 o, .bool m] 70)) 49 [.int .i64 0, .int .i64 0] _ rfl).below hb (by simp))
  have c0 := R.out.cell (o := 0) rfl
  have c1 := R.out.cell (o := 1) rfl
  have f0 := R.out.frozen 0
  have f1 := R.out.frozen 1
  have RF := hide ((R.out.set 0 (.int .i64 p)).set 1 (.int .i64 q))
  have r0 := RF.out.cell (o := 0) rfl
  have r1 := RF.out.cell (o := 1) rfl
  have B : Hid (Below w.heap.size w w1) := Below.trans (by (repeat (first | exact Below.refl _ _ | refine Below.alloc ?_ (by simp) _))) (hb.mono (by simp; omega))
  simp only [World.size_alloc] at c0 c1 f0 f1 r0 r1
  clear hb
  go_wp2_with fail
  refine bodyPost_ret (v := .tuple #[.agg #[.int .i64 p, .int .i64 q], .bool r]) (by simp [results, Tryz.results106, go_sem, r0, r1]) rfl ⟨rfl, ?_⟩
  exact (B.out.setCell (by simp) _).setCell (by simp) _
theorem implWordVal_any (k o : Int) (m : Bool) (x : Int) (w : World) (hx : x ≤ 9223372036854775807) :
    Calls Tryz.prog 106 #[.agg #[.int .i64 k, .int .i64 o, .bool m], .int .i64 x] w fun e w' => e = .returned (valOr (wordVal k x)) ∧ Below w.heap.size w w' := by
  obtain ⟨p, q, r, hv⟩ := valOr_tuple (wordVal k x)
  rw [hv]
  by_cases h0 : x < 0
  · have hw : wordVal k x = none := by simp [wordVal, h0]
    rw [← hv, hw]
    exact implWordVal_none k o m x w (.inl h0)
  have h0' : 0 ≤ x := by omega
  by_cases h1 : k = 1
  · subst h1
    have hw : wordVal 1 x = if x < 9973 then some (1, x) else none := by simp [wordVal, h0]
    exact implWordVal_num o m x w h0' p q r (fun W => by rw [← hv, hw]; exact implWordIn_any 1 x 9973 W)
  by_cases h2 : k = 2 ∨ k = 3
  · by_cases h3 : x = 0
    · have hw : wordVal k x = if k = 2 then some (2, 0) else none := by simp [wordVal, h1, h2, h3]
      rcases h2 with rfl | rfl
      · exact implWordVal_zero2 o m x w h3 p q r (fun W => by rw [← hv, hw]; exact implWordNone_any 2 o m W)
      · exact implWordVal_zero3 o m x w h3 p q r (fun W => by rw [← hv, hw]; exact implWordNone_any 3 o m W)
    by_cases h4 : x % 2 = 1
    · have hw : wordVal k x = if x / 2 < 9973 then some (3, x / 2) else none := by simp [wordVal, h0, h1, h2, h3, h4]
      rcases h2 with rfl | rfl
      · exact implWordVal_odd2 o m x w (by omega) hx h4 p q r (fun W => by rw [← hv, hw]; exact implWordIn_any 3 (x / 2) 9973 W)
      · exact implWordVal_odd3 o m x w (by omega) hx h4 p q r (fun W => by rw [← hv, hw]; exact implWordIn_any 3 (x / 2) 9973 W)
    · have hw : wordVal k x = if x / 2 - 1 < 160 then some (4, x / 2 - 1) else none := by simp [wordVal, h0, h1, h2, h3, h4]
      rcases h2 with rfl | rfl
      · exact implWordVal_even2 o m x w (by omega) hx (by omega) p q r (fun W => by rw [← hv, hw]; exact implWordIn_any 4 (x / 2 - 1) 160 W)
      · exact implWordVal_even3 o m x w (by omega) hx (by omega) p q r (fun W => by rw [← hv, hw]; exact implWordIn_any 4 (x / 2 - 1) 160 W)
  · have hw : wordVal k x = none := by simp [wordVal, h0, h1, h2]
    rw [← hv, hw]
    exact implWordVal_none k o m x w (.inr ⟨h0', h1, fun e => h2 (.inl e), fun e => h2 (.inr e)⟩)
theorem l7Val_num (o : Int) (m : Bool) (x : Int) (w : World) :
    Calls Tryz.prog 64 #[.agg #[.int .i64 1, .int .i64 o, .bool m], .int .i64 x] w fun e w' => e = .returned (.agg #[.int .i64 1, .int .i64 x]) ∧ Below w.heap.size w w' := by
  go_enter Tryz.func64, Tryz.ntmps64
  go_wp2_with fail
  refine (l5NumVal_any x _).mono ?_
  rintro e w1 ⟨rfl, hb⟩
  have R := hide ((Rec.new' (w.alloc (.cells #[.int .i64 1, .int .i64 o, .bool m] 70)) 49 [.int .i64 0, .int .i64 0] _ rfl).below hb (by simp))
  have c0 := R.out.cell (o := 0) rfl
  have c1 := R.out.cell (o := 1) rfl
  have f0 := R.out.frozen 0
  have f1 := R.out.frozen 1
  have RF := hide ((R.out.set 0 (.int .i64 1)).set 1 (.int .i64 x))
  have r0 := RF.out.cell (o := 0) rfl
  have r1 := RF.out.cell (o := 1) rfl
  have B : Hid (Below w.heap.size w w1) := Below.trans (by (repeat (first | exact Below.refl _ _ | refine Below.alloc ?_ (by simp) _))) (hb.mono (by simp; omega))
  simp only [World.size_alloc] at c0 c1 f0 f1 r0 r1
  clear hb
  go_wp2_with fail
  refine bodyPost_ret (v := .agg #[.int .i64 1, .int .i64 x]) (by simp [results, Tryz.results64, go_sem, r0, r1]) rfl ⟨rfl, ?_⟩
  exact (B.out.setCell (by simp) _).setCell (by simp) _
/-- What l7Val answers of a reference. -/
def L7Val (x a b : Int) : Prop := 0 ≤ x → a = (if x = 0 then 2 else if x % 2 = 1 then 3 else 4) ∧ b = (if x = 0 then 0 else if x % 2 = 1 then x / 2 else x / 2 - 1)
theorem l7Val_ref (k o : Int) (m : Bool) (x : Int) (w : World) (h : ¬ k = 1) (hx : x ≤ 9223372036854775807) (hx' : -9223372036854775808 ≤ x) (hn : 0 ≤ x) :
    Calls Tryz.prog 64 #[.agg #[.int .i64 k, .int .i64 o, .bool m], .int .i64 x] w fun e w' => ∃ a b, e = .returned (.agg #[.int .i64 a, .int .i64 b]) ∧ L7Val x a b ∧ Below w.heap.size w w' := by
  by_cases h0 : x = 0
  · subst h0
    go_enter Tryz.func64, Tryz.ntmps64
    go_wp2_with fail
    refine bodyPost_ret (v := .agg #[.int .i64 2, .int .i64 0]) (by simp [results, Tryz.results64, go_sem]) rfl ⟨2, 0, rfl, fun _ => ⟨by simp, by simp⟩, ?_⟩
    repeat (first | exact Below.refl _ _ | refine Below.setCell ?_ (by simp) _ | refine Below.alloc ?_ (by simp) _)
  by_cases h1 : x % 2 = 1
  · go_enter Tryz.func64, Tryz.ntmps64
    go_wp2_with fail
    refine bodyPost_ret (v := .agg #[.int .i64 3, .int .i64 (x / 2)]) (by simp [results, Tryz.results64, go_sem]) rfl ⟨3, x / 2, rfl, fun _ => ⟨by simp [h0, h1], by simp [h0, h1]⟩, ?_⟩
    repeat (first | exact Below.refl _ _ | refine Below.setCell ?_ (by simp) _ | refine Below.alloc ?_ (by simp) _)
  · have h2 : (x % 2 == 1) = false := by simpa using h1
    go_enter Tryz.func64, Tryz.ntmps64
    go_wp2_with fail
    refine bodyPost_ret (v := .agg #[.int .i64 4, .int .i64 (x / 2 - 1)]) (by simp [results, Tryz.results64, go_sem]) rfl ⟨4, x / 2 - 1, rfl, fun _ => ⟨by simp [h0, h1], by simp [h0, h1]⟩, ?_⟩
    repeat (first | exact Below.refl _ _ | refine Below.setCell ?_ (by simp) _ | refine Below.alloc ?_ (by simp) _)
theorem l7Val_minus (k o : Int) (m : Bool) (x : Int) (h : ¬ k = 1) (hx : x ≤ 9223372036854775807) (hx' : -9223372036854775808 ≤ x) (hn : x < 0) :
    ∃ a b : Int, ∀ w, Calls Tryz.prog 64 #[.agg #[.int .i64 k, .int .i64 o, .bool m], .int .i64 x] w fun e w' => e = .returned (.agg #[.int .i64 a, .int .i64 b]) ∧ Below w.heap.size w w' := by
  have h0 : ¬ x = 0 := by omega
  by_cases h1 : (x.tmod 2 == 1) = true
  · refine ⟨3, x.tdiv 2, fun w => ?_⟩
    go_enter Tryz.func64, Tryz.ntmps64
    go_wp2_with fail
    refine bodyPost_ret (v := .agg #[.int .i64 3, .int .i64 (x.tdiv 2)]) (by simp [results, Tryz.results64, go_sem]) rfl ⟨rfl, ?_⟩
    repeat (first | exact Below.refl _ _ | refine Below.setCell ?_ (by simp) _ | refine Below.alloc ?_ (by simp) _)
  · have h1' : (x.tmod 2 == 1) = false := by simpa using h1
    refine ⟨4, wrap64 (x.tdiv 2 - 1), fun w => ?_⟩
    clear h1
    go_enter Tryz.func64, Tryz.ntmps64
    go_wp2_with fail
    refine bodyPost_ret (v := .agg #[.int .i64 4, .int .i64 (wrap64 (x.tdiv 2 - 1))]) (by simp [results, Tryz.results64, go_sem]) rfl ⟨rfl, ?_⟩
    repeat (first | exact Below.refl _ _ | refine Below.setCell ?_ (by simp) _ | refine Below.alloc ?_ (by simp) _)
set_option maxHeartbeats 1600000 in
theorem specWordVal_low (k o : Int) (m : Bool) (x a b : Int) (w : World) (h1 : k < 1)
    (C : Hid (∀ W, Calls Tryz.prog 64 #[.agg #[.int .i64 k, .int .i64 o, .bool m], .int .i64 x] W fun e w' => e = .returned (.agg #[.int .i64 a, .int .i64 b]) ∧ Below W.heap.size W w')) :
    Calls Tryz.prog 48 #[.agg #[.int .i64 k, .int .i64 o, .bool m], .int .i64 x] w fun e w' => e = .returned (.tuple #[.agg #[.int .i64 0, .int .i64 0], .bool false]) ∧ Below w.heap.size w w' := by
  go_enter Tryz.func48, Tryz.ntmps48
  go_wp2_with fail
  refine (C.out _).mono ?_
  rintro e w1 ⟨rfl, hb⟩
  have B1 : Hid (Below w.heap.size w w1) := Below.trans (by (repeat (first | exact Below.refl _ _ | refine Below.alloc ?_ (by simp) _))) (hb.mono (by simp; omega))
  have P1 := hide (((Rec.new' w 70 [.int .i64 k, .int .i64 o, .bool m] _ rfl).alloc (.cells #[.int .i64 0, .int .i64 0] 49)).below hb (by simp; omega))
  have Q1 := hide ((Rec.new' (w.alloc (.cells #[.int .i64 k, .int .i64 o, .bool m] 70)) 49 [.int .i64 0, .int .i64 0] (w.heap.size + 1) (by simp)).below hb (by simp))
  have s1 := P1.out.lt
  have s2 := Q1.out.lt
  have p0 := P1.out.cell (o := 0) rfl
  have q0 := Q1.out.cell (o := 0) rfl
  have q1 := Q1.out.cell (o := 1) rfl
  have y0 := Q1.out.frozen 0
  have y1 := Q1.out.frozen 1
  have RF := hide (((Q1.out.set 0 (.int .i64 0)).set 1 (.int .i64 0)).alloc (.cells #[.int .i64 a, .int .i64 b] 49))
  have r0 := RF.out.cell (o := 0) rfl
  have r1 := RF.out.cell (o := 1) rfl
  clear hb
  go_wp2_with fail
  refine bodyPost_ret (v := .tuple #[.agg #[.int .i64 0, .int .i64 0], .bool false]) (by simp [results, Tryz.results48, go_sem, r0, r1]) rfl ⟨rfl, ?_⟩
  exact ((B1.out.setCell (by simp) _).setCell (by simp) _).alloc (by have := B1.out.size; simp; omega) _
set_option maxHeartbeats 1600000 in
theorem specWordVal_high (k o : Int) (m : Bool) (x a b : Int) (w : World) (h1 : 3 < k)
    (C : Hid (∀ W, Calls Tryz.prog 64 #[.agg #[.int .i64 k, .int .i64 o, .bool m], .int .i64 x] W fun e w' => e = .returned (.agg #[.int .i64 a, .int .i64 b]) ∧ Below W.heap.size W w')) :
    Calls Tryz.prog 48 #[.agg #[.int .i64 k, .int .i64 o, .bool m], .int .i64 x] w fun e w' => e = .returned (.tuple #[.agg #[.int .i64 0, .int .i64 0], .bool false]) ∧ Below w.heap.size w w' := by
  have h2 : ¬ k < 1 := by omega
  go_enter Tryz.func48, Tryz.ntmps48
  go_wp2_with fail
  refine (C.out _).mono ?_
  rintro e w1 ⟨rfl, hb⟩
  have B1 : Hid (Below w.heap.size w w1) := Below.trans (by (repeat (first | exact Below.refl _ _ | refine Below.alloc ?_ (by simp) _))) (hb.mono (by simp; omega))
  have P1 := hide (((Rec.new' w 70 [.int .i64 k, .int .i64 o, .bool m] _ rfl).alloc (.cells #[.int .i64 0, .int .i64 0] 49)).below hb (by simp; omega))
  have Q1 := hide ((Rec.new' (w.alloc (.cells #[.int .i64 k, .int .i64 o, .bool m] 70)) 49 [.int .i64 0, .int .i64 0] (w.heap.size + 1) (by simp)).below hb (by simp))
  have s1 := P1.out.lt
  have s2 := Q1.out.lt
  have p0 := P1.out.cell (o := 0) rfl
  have q0 := Q1.out.cell (o := 0) rfl
  have q1 := Q1.out.cell (o := 1) rfl
  have y0 := Q1.out.frozen 0
  have y1 := Q1.out.frozen 1
  have RF := hide (((Q1.out.set 0 (.int .i64 0)).set 1 (.int .i64 0)).alloc (.cells #[.int .i64 a, .int .i64 b] 49))
  have r0 := RF.out.cell (o := 0) rfl
  have r1 := RF.out.cell (o := 1) rfl
  clear hb
  go_wp2_with fail
  refine bodyPost_ret (v := .tuple #[.agg #[.int .i64 0, .int .i64 0], .bool false]) (by simp [results, Tryz.results48, go_sem, r0, r1]) rfl ⟨rfl, ?_⟩
  exact ((B1.out.setCell (by simp) _).setCell (by simp) _).alloc (by have := B1.out.size; simp; omega) _
set_option maxHeartbeats 1600000 in
theorem specWordVal_minus (k o : Int) (m : Bool) (x a b : Int) (w : World) (h1 : 1 ≤ k) (h2 : k ≤ 3) (h3 : x < 0)
    (C : Hid (∀ W, Calls Tryz.prog 64 #[.agg #[.int .i64 k, .int .i64 o, .bool m], .int .i64 x] W fun e w' => e = .returned (.agg #[.int .i64 a, .int .i64 b]) ∧ Below W.heap.size W w')) :
    Calls Tryz.prog 48 #[.agg #[.int .i64 k, .int .i64 o, .bool m], .int .i64 x] w fun e w' => e = .returned (.tuple #[.agg #[.int .i64 0, .int .i64 0], .bool false]) ∧ Below w.heap.size w w' := by
  go_enter Tryz.func48, Tryz.ntmps48
  go_wp2_with fail
  refine (C.out _).mono ?_
  rintro e w1 ⟨rfl, hb⟩
  have B1 : Hid (Below w.heap.size w w1) := Below.trans (by (repeat (first | exact Below.refl _ _ | refine Below.alloc ?_ (by simp) _))) (hb.mono (by simp; omega))
  have P1 := hide (((Rec.new' w 70 [.int .i64 k, .int .i64 o, .bool m] _ rfl).alloc (.cells #[.int .i64 0, .int .i64 0] 49)).below hb (by simp; omega))
  have Q1 := hide ((Rec.new' (w.alloc (.cells #[.int .i64 k, .int .i64 o, .bool m] 70)) 49 [.int .i64 0, .int .i64 0] (w.heap.size + 1) (by simp)).below hb (by simp))
  have s1 := P1.out.lt
  have s2 := Q1.out.lt
  have p0 := P1.out.cell (o := 0) rfl
  have q0 := Q1.out.cell (o := 0) rfl
  have q1 := Q1.out.cell (o := 1) rfl
  have y0 := Q1.out.frozen 0
  have y1 := Q1.out.frozen 1
  have RF := hide (((Q1.out.set 0 (.int .i64 0)).set 1 (.int .i64 0)).alloc (.cells #[.int .i64 a, .int .i64 b] 49))
  have r0 := RF.out.cell (o := 0) rfl
  have r1 := RF.out.cell (o := 1) rfl
  clear hb
  go_wp2_with fail
  refine bodyPost_ret (v := .tuple #[.agg #[.int .i64 0, .int .i64 0], .bool false]) (by simp [results, Tryz.results48, go_sem, r0, r1]) rfl ⟨rfl, ?_⟩
  exact ((B1.out.setCell (by simp) _).setCell (by simp) _).alloc (by have := B1.out.size; simp; omega) _
set_option maxHeartbeats 1600000 in
theorem specWordVal_unform (k o : Int) (m : Bool) (x a b : Int) (w : World) (h1 : 1 ≤ k) (h2 : k ≤ 3) (h3 : 0 ≤ x) (hf : valForm a b 160 = false)
    (C : Hid (∀ W, Calls Tryz.prog 64 #[.agg #[.int .i64 k, .int .i64 o, .bool m], .int .i64 x] W fun e w' => e = .returned (.agg #[.int .i64 a, .int .i64 b]) ∧ Below W.heap.size W w')) :
    Calls Tryz.prog 48 #[.agg #[.int .i64 k, .int .i64 o, .bool m], .int .i64 x] w fun e w' => e = .returned (.tuple #[.agg #[.int .i64 0, .int .i64 0], .bool false]) ∧ Below w.heap.size w w' := by
  go_enter Tryz.func48, Tryz.ntmps48
  go_wp2_with fail
  refine (C.out _).mono ?_
  rintro e w1 ⟨rfl, hb⟩
  have B1 : Hid (Below w.heap.size w w1) := Below.trans (by (repeat (first | exact Below.refl _ _ | refine Below.alloc ?_ (by simp) _))) (hb.mono (by simp; omega))
  have P1 := hide (((Rec.new' w 70 [.int .i64 k, .int .i64 o, .bool m] _ rfl).alloc (.cells #[.int .i64 0, .int .i64 0] 49)).below hb (by simp; omega))
  have Q1 := hide ((Rec.new' (w.alloc (.cells #[.int .i64 k, .int .i64 o, .bool m] 70)) 49 [.int .i64 0, .int .i64 0] (w.heap.size + 1) (by simp)).below hb (by simp))
  have s1 := P1.out.lt
  have s2 := Q1.out.lt
  have p0 := P1.out.cell (o := 0) rfl
  have q0 := Q1.out.cell (o := 0) rfl
  have q1 := Q1.out.cell (o := 1) rfl
  have y0 := Q1.out.frozen 0
  have y1 := Q1.out.frozen 1
  clear hb
  go_wp2_with fail
  refine (l7Form_any a b _).mono ?_
  rintro e w2 ⟨rfl, hb2⟩
  have B2 : Hid (Below w.heap.size w w2) := (B1.out.alloc B1.out.size _).trans (hb2.mono (by have := B1.out.size; simp; omega))
  have P2 := hide ((P1.out.alloc (.cells #[.int .i64 a, .int .i64 b] 49)).below hb2 (by simp; omega))
  have Q2 := hide ((Q1.out.alloc (.cells #[.int .i64 a, .int .i64 b] 49)).below hb2 (by simp; omega))
  have V2 := hide ((Rec.new' w1 49 [.int .i64 a, .int .i64 b] _ rfl).below hb2 (by simp))
  clear p0 q0 q1 y0 y1
  have p0 := P2.out.cell (o := 0) rfl
  have q0 := Q2.out.cell (o := 0) rfl
  have q1 := Q2.out.cell (o := 1) rfl
  have y0 := Q2.out.frozen 0
  have y1 := Q2.out.frozen 1
  have v0 := V2.out.cell (o := 0) rfl
  have v1 := V2.out.cell (o := 1) rfl
  rw [hf]
  clear hb2
  have RF := hide ((Q2.out.set 0 (.int .i64 0)).set 1 (.int .i64 0))
  have r0 := RF.out.cell (o := 0) rfl
  have r1 := RF.out.cell (o := 1) rfl
  clear hf
  go_wp2_with fail
  all_goals refine bodyPost_ret (v := .tuple #[.agg #[.int .i64 0, .int .i64 0], .bool false]) (by simp [results, Tryz.results48, go_sem, r0, r1]) rfl ⟨rfl, ?_⟩
  all_goals exact (B2.out.setCell (by simp) _).setCell (by simp) _
set_option maxHeartbeats 1600000 in
theorem specWordVal_sure (k o : Int) (m : Bool) (x a b : Int) (w : World) (h3 : 0 ≤ x) (hk : k = 3) (ha : a = 2) (hf : valForm a b 160 = true)
    (C : Hid (∀ W, Calls Tryz.prog 64 #[.agg #[.int .i64 k, .int .i64 o, .bool m], .int .i64 x] W fun e w' => e = .returned (.agg #[.int .i64 a, .int .i64 b]) ∧ Below W.heap.size W w')) :
    Calls Tryz.prog 48 #[.agg #[.int .i64 k, .int .i64 o, .bool m], .int .i64 x] w fun e w' => e = .returned (.tuple #[.agg #[.int .i64 0, .int .i64 0], .bool false]) ∧ Below w.heap.size w w' := by
  subst hk ha
  go_enter Tryz.func48, Tryz.ntmps48
  go_wp2_with fail
  refine (C.out _).mono ?_
  rintro e w1 ⟨rfl, hb⟩
  have B1 : Hid (Below w.heap.size w w1) := Below.trans (by (repeat (first | exact Below.refl _ _ | refine Below.alloc ?_ (by simp) _))) (hb.mono (by simp; omega))
  have P1 := hide (((Rec.new' w 70 [.int .i64 3, .int .i64 o, .bool m] _ rfl).alloc (.cells #[.int .i64 0, .int .i64 0] 49)).below hb (by simp; omega))
  have Q1 := hide ((Rec.new' (w.alloc (.cells #[.int .i64 3, .int .i64 o, .bool m] 70)) 49 [.int .i64 0, .int .i64 0] (w.heap.size + 1) (by simp)).below hb (by simp))
  have s1 := P1.out.lt
  have s2 := Q1.out.lt
  have p0 := P1.out.cell (o := 0) rfl
  have q0 := Q1.out.cell (o := 0) rfl
  have q1 := Q1.out.cell (o := 1) rfl
  have y0 := Q1.out.frozen 0
  have y1 := Q1.out.frozen 1
  clear hb
  go_wp2_with fail
  refine (l7Form_any 2 b _).mono ?_
  rintro e w2 ⟨rfl, hb2⟩
  have B2 : Hid (Below w.heap.size w w2) := (B1.out.alloc B1.out.size _).trans (hb2.mono (by have := B1.out.size; simp; omega))
  have P2 := hide ((P1.out.alloc (.cells #[.int .i64 2, .int .i64 b] 49)).below hb2 (by simp; omega))
  have Q2 := hide ((Q1.out.alloc (.cells #[.int .i64 2, .int .i64 b] 49)).below hb2 (by simp; omega))
  have V2 := hide ((Rec.new' w1 49 [.int .i64 2, .int .i64 b] _ rfl).below hb2 (by simp))
  clear p0 q0 q1 y0 y1
  have p0 := P2.out.cell (o := 0) rfl
  have q0 := Q2.out.cell (o := 0) rfl
  have q1 := Q2.out.cell (o := 1) rfl
  have y0 := Q2.out.frozen 0
  have y1 := Q2.out.frozen 1
  have v0 := V2.out.cell (o := 0) rfl
  have v1 := V2.out.cell (o := 1) rfl
  rw [hf]
  clear hb2
  have RF := hide ((Q2.out.set 0 (.int .i64 0)).set 1 (.int .i64 0))
  have r0 := RF.out.cell (o := 0) rfl
  have r1 := RF.out.cell (o := 1) rfl
  clear hf
  go_wp2_with fail
  all_goals refine bodyPost_ret (v := .tuple #[.agg #[.int .i64 0, .int .i64 0], .bool false]) (by simp [results, Tryz.results48, go_sem, r0, r1]) rfl ⟨rfl, ?_⟩
  all_goals exact (B2.out.setCell (by simp) _).setCell (by simp) _
set_option maxHeartbeats 1600000 in
theorem specWordVal_yes (k o : Int) (m : Bool) (x a b : Int) (w : World) (h1 : 1 ≤ k) (h2 : k ≤ 3) (h3 : 0 ≤ x) (hf : valForm a b 160 = true) (hd : ¬ k = 3)
    (C : Hid (∀ W, Calls Tryz.prog 64 #[.agg #[.int .i64 k, .int .i64 o, .bool m], .int .i64 x] W fun e w' => e = .returned (.agg #[.int .i64 a, .int .i64 b]) ∧ Below W.heap.size W w')) :
    Calls Tryz.prog 48 #[.agg #[.int .i64 k, .int .i64 o, .bool m], .int .i64 x] w fun e w' => e = .returned (.tuple #[.agg #[.int .i64 a, .int .i64 b], .bool true]) ∧ Below w.heap.size w w' := by
  go_enter Tryz.func48, Tryz.ntmps48
  go_wp2_with fail
  refine (C.out _).mono ?_
  rintro e w1 ⟨rfl, hb⟩
  have B1 : Hid (Below w.heap.size w w1) := Below.trans (by (repeat (first | exact Below.refl _ _ | refine Below.alloc ?_ (by simp) _))) (hb.mono (by simp; omega))
  have P1 := hide (((Rec.new' w 70 [.int .i64 k, .int .i64 o, .bool m] _ rfl).alloc (.cells #[.int .i64 0, .int .i64 0] 49)).below hb (by simp; omega))
  have Q1 := hide ((Rec.new' (w.alloc (.cells #[.int .i64 k, .int .i64 o, .bool m] 70)) 49 [.int .i64 0, .int .i64 0] (w.heap.size + 1) (by simp)).below hb (by simp))
  have s1 := P1.out.lt
  have s2 := Q1.out.lt
  have p0 := P1.out.cell (o := 0) rfl
  have q0 := Q1.out.cell (o := 0) rfl
  have q1 := Q1.out.cell (o := 1) rfl
  have y0 := Q1.out.frozen 0
  have y1 := Q1.out.frozen 1
  clear hb
  go_wp2_with fail
  refine (l7Form_any a b _).mono ?_
  rintro e w2 ⟨rfl, hb2⟩
  have B2 : Hid (Below w.heap.size w w2) := (B1.out.alloc B1.out.size _).trans (hb2.mono (by have := B1.out.size; simp; omega))
  have P2 := hide ((P1.out.alloc (.cells #[.int .i64 a, .int .i64 b] 49)).below hb2 (by simp; omega))
  have Q2 := hide ((Q1.out.alloc (.cells #[.int .i64 a, .int .i64 b] 49)).below hb2 (by simp; omega))
  have V2 := hide ((Rec.new' w1 49 [.int .i64 a, .int .i64 b] _ rfl).below hb2 (by simp))
  clear p0 q0 q1 y0 y1
  have p0 := P2.out.cell (o := 0) rfl
  have q0 := Q2.out.cell (o := 0) rfl
  have q1 := Q2.out.cell (o := 1) rfl
  have y0 := Q2.out.frozen 0
  have y1 := Q2.out.frozen 1
  have v0 := V2.out.cell (o := 0) rfl
  have v1 := V2.out.cell (o := 1) rfl
  rw [hf]
  clear hb2
  have RF := hide ((Q2.out.set 0 (.int .i64 a)).set 1 (.int .i64 b))
  have r0 := RF.out.cell (o := 0) rfl
  have r1 := RF.out.cell (o := 1) rfl
  clear hf
  go_wp2_with fail
  all_goals refine bodyPost_ret (v := .tuple #[.agg #[.int .i64 a, .int .i64 b], .bool true]) (by simp [results, Tryz.results48, go_sem, r0, r1]) rfl ⟨rfl, ?_⟩
  all_goals exact (B2.out.setCell (by simp) _).setCell (by simp) _
set_option maxHeartbeats 1600000 in
theorem specWordVal_yes3 (k o : Int) (m : Bool) (x a b : Int) (w : World) (h3 : 0 ≤ x) (hk : k = 3) (hf : valForm a b 160 = true) (hd : ¬ a = 2)
    (C : Hid (∀ W, Calls Tryz.prog 64 #[.agg #[.int .i64 k, .int .i64 o, .bool m], .int .i64 x] W fun e w' => e = .returned (.agg #[.int .i64 a, .int .i64 b]) ∧ Below W.heap.size W w')) :
    Calls Tryz.prog 48 #[.agg #[.int .i64 k, .int .i64 o, .bool m], .int .i64 x] w fun e w' => e = .returned (.tuple #[.agg #[.int .i64 a, .int .i64 b], .bool true]) ∧ Below w.heap.size w w' := by
  subst hk
  have hd' : (a == 2) = false := by simpa using hd
  go_enter Tryz.func48, Tryz.ntmps48
  go_wp2_with fail
  refine (C.out _).mono ?_
  rintro e w1 ⟨rfl, hb⟩
  have B1 : Hid (Below w.heap.size w w1) := Below.trans (by (repeat (first | exact Below.refl _ _ | refine Below.alloc ?_ (by simp) _))) (hb.mono (by simp; omega))
  have P1 := hide (((Rec.new' w 70 [.int .i64 3, .int .i64 o, .bool m] _ rfl).alloc (.cells #[.int .i64 0, .int .i64 0] 49)).below hb (by simp; omega))
  have Q1 := hide ((Rec.new' (w.alloc (.cells #[.int .i64 3, .int .i64 o, .bool m] 70)) 49 [.int .i64 0, .int .i64 0] (w.heap.size + 1) (by simp)).below hb (by simp))
  have s1 := P1.out.lt
  have s2 := Q1.out.lt
  have p0 := P1.out.cell (o := 0) rfl
  have q0 := Q1.out.cell (o := 0) rfl
  have q1 := Q1.out.cell (o := 1) rfl
  have y0 := Q1.out.frozen 0
  have y1 := Q1.out.frozen 1
  clear hb
  go_wp2_with fail
  refine (l7Form_any a b _).mono ?_
  rintro e w2 ⟨rfl, hb2⟩
  have B2 : Hid (Below w.heap.size w w2) := (B1.out.alloc B1.out.size _).trans (hb2.mono (by have := B1.out.size; simp; omega))
  have P2 := hide ((P1.out.alloc (.cells #[.int .i64 a, .int .i64 b] 49)).below hb2 (by simp; omega))
  have Q2 := hide ((Q1.out.alloc (.cells #[.int .i64 a, .int .i64 b] 49)).below hb2 (by simp; omega))
  have V2 := hide ((Rec.new' w1 49 [.int .i64 a, .int .i64 b] _ rfl).below hb2 (by simp))
  clear p0 q0 q1 y0 y1
  have p0 := P2.out.cell (o := 0) rfl
  have q0 := Q2.out.cell (o := 0) rfl
  have q1 := Q2.out.cell (o := 1) rfl
  have y0 := Q2.out.frozen 0
  have y1 := Q2.out.frozen 1
  have v0 := V2.out.cell (o := 0) rfl
  have v1 := V2.out.cell (o := 1) rfl
  rw [hf]
  clear hb2
  have RF := hide ((Q2.out.set 0 (.int .i64 a)).set 1 (.int .i64 b))
  have r0 := RF.out.cell (o := 0) rfl
  have r1 := RF.out.cell (o := 1) rfl
  clear hf
  go_wp2_with fail
  all_goals refine bodyPost_ret (v := .tuple #[.agg #[.int .i64 a, .int .i64 b], .bool true]) (by simp [results, Tryz.results48, go_sem, r0, r1]) rfl ⟨rfl, ?_⟩
  all_goals exact (B2.out.setCell (by simp) _).setCell (by simp) _
theorem specWordVal_any (k o : Int) (m : Bool) (x : Int) (w : World) (hx : x ≤ 9223372036854775807) (hx' : -9223372036854775808 ≤ x) :
    Calls Tryz.prog 48 #[.agg #[.int .i64 k, .int .i64 o, .bool m], .int .i64 x] w fun e w' => e = .returned (valOr (wordVal k x)) ∧ Below w.heap.size w w' := by
  have zip : valOr none = .tuple #[.agg #[.int .i64 0, .int .i64 0], .bool false] := rfl
  have hit : ∀ a b, valOr (some (a, b)) = .tuple #[.agg #[.int .i64 a, .int .i64 b], .bool true] := fun _ _ => rfl
  have go : ∀ a b, (∀ W, Calls Tryz.prog 64 #[.agg #[.int .i64 k, .int .i64 o, .bool m], .int .i64 x] W fun e w' => e = .returned (.agg #[.int .i64 a, .int .i64 b]) ∧ Below W.heap.size W w') → (0 ≤ x → 1 ≤ k → k ≤ 3 → wordVal k x = if valForm a b 160 = true ∧ ¬ (k = 3 ∧ a = 2) then some (a, b) else none) → Calls Tryz.prog 48 #[.agg #[.int .i64 k, .int .i64 o, .bool m], .int .i64 x] w fun e w' => e = .returned (valOr (wordVal k x)) ∧ Below w.heap.size w w' := by
    intro a b C hv
    by_cases h1 : k < 1
    · rw [show wordVal k x = none by simp [wordVal, show ¬ k = 1 by omega, show ¬ (k = 2 ∨ k = 3) by omega]]
      exact specWordVal_low k o m x a b w h1 C
    by_cases h2 : 3 < k
    · rw [show wordVal k x = none by simp [wordVal, show ¬ k = 1 by omega, show ¬ (k = 2 ∨ k = 3) by omega]]
      exact specWordVal_high k o m x a b w h2 C
    by_cases h3 : x < 0
    · rw [show wordVal k x = none by simp [wordVal, h3]]
      exact specWordVal_minus k o m x a b w (by omega) (by omega) h3 C
    rw [hv (by omega) (by omega) (by omega)]
    by_cases hf : valForm a b 160 = true
    · by_cases h4 : k = 3
      · by_cases h5 : a = 2
        · rw [if_neg (fun e => e.2 ⟨h4, h5⟩)]
          exact specWordVal_sure k o m x a b w (by omega) h4 h5 hf C
        · rw [if_pos ⟨hf, fun e => h5 e.2⟩]
          exact specWordVal_yes3 k o m x a b w (by omega) h4 hf h5 C
      · rw [if_pos ⟨hf, fun e => h4 e.1⟩]
        exact specWordVal_yes k o m x a b w (by omega) (by omega) (by omega) hf h4 C
    · rw [if_neg (fun e => hf e.1)]
      exact specWordVal_unform k o m x a b w (by omega) (by omega) (by omega) (by simpa using hf) C
  by_cases h1 : k = 1
  · subst h1
    refine go 1 x (fun W => l7Val_num o m x W) (fun h0 _ _ => ?_)
    simp [wordVal, valForm, h0, show ¬ x < 0 by omega]
  · by_cases h0 : 0 ≤ x
    · refine go (if x = 0 then 2 else if x % 2 = 1 then 3 else 4) (if x = 0 then 0 else if x % 2 = 1 then x / 2 else x / 2 - 1) (fun W => (l7Val_ref k o m x W h1 hx hx' h0).mono ?_) (fun _ h2 h3 => ?_)
      · rintro e w' ⟨a, b, rfl, hl, hb⟩
        obtain ⟨rfl, rfl⟩ := hl h0
        exact ⟨rfl, hb⟩
      · have hk : k = 2 ∨ k = 3 := by omega
        by_cases e0 : x = 0
        · subst e0
          rcases hk with rfl | rfl <;> simp [wordVal, valForm]
        · by_cases e1 : x % 2 = 1
          · have g1 : 0 ≤ x / 2 := by omega
            rcases hk with rfl | rfl <;> simp [wordVal, valForm, e0, e1, show ¬ x < 0 by omega, g1]
          · have g1 : 1 ≤ x / 2 := by omega
            rcases hk with rfl | rfl <;> simp [wordVal, valForm, e0, e1, show ¬ x < 0 by omega, g1]
    · obtain ⟨a, b, hab⟩ : ∃ a b : Int, ∀ W, Calls Tryz.prog 64 #[.agg #[.int .i64 k, .int .i64 o, .bool m], .int .i64 x] W fun e w' => e = .returned (.agg #[.int .i64 a, .int .i64 b]) ∧ Below W.heap.size W w' := l7Val_minus k o m x h1 hx hx' (by omega)
      exact go a b hab (fun e => absurd e h0)
end Go.Proofs.YtembifoimiochaaGreatDoor
namespace Go.Proofs.YtembifoimiochaaGreatDoor
open Go.ChangeShapes Go.WideShapes Go.ChangeAt Go.RowKit Go.Joins Go.Deep
set_option linter.unusedVariables false
structure GVal where
  kind : Int
  n : Int
def GVal.d : GVal := ⟨0, 0⟩
/-- x lies at ⟨b, o⟩. -/
def ValAt (md : Bool) (w : World) (lo hi b o : Nat) (x : GVal) : Prop :=
  w.cell? ⟨b, o, none⟩ = some (.int .i64 x.kind) ∧ w.cell? ⟨b, o + 1, none⟩ = some (.int .i64 x.n)
theorem ValAt.same {md : Bool} {lo hi lo' hi' b o : Nat} {w w' : World} {x : GVal} (h : ValAt md w lo hi b o x) (hs : Same lo hi w w') (h1 : lo' ≤ lo) (h2 : hi ≤ hi') (h3 : lo ≤ b) (h4 : b < hi) : ValAt md w' lo' hi' b o x := by
  obtain ⟨e0, e1⟩ := h
  exact ⟨(hs.cell h3 h4).trans e0, (hs.cell h3 h4).trans e1⟩
theorem ValAt.plain {md : Bool} {lo hi b o : Nat} {w : World} {x : GVal} (h : ValAt md w lo hi b o x) : ValAt false w lo hi b o x := by
  obtain ⟨e0, e1⟩ := h
  exact ⟨e0, e1⟩
def ValB (N : Nat) (x : GVal) : Prop := True
def valAt' (l : List GVal) (i : Nat) : GVal := l.getD i GVal.d
/-- xs lies at a; in a block of its own, if md. -/
def ValsM (md : Bool) (w : World) (lo hi : Nat) (a : Option Addr) (xs : List GVal) : Prop :=
  xs = [] ∨ ∃ b off, a = some ⟨b, off, none⟩ ∧ lo ≤ b ∧ b < hi ∧ (md = true → off = 0 ∧ ∃ m, Own w b m 49 ∧ xs.length * 2 ≤ m) ∧ ∀ i, i < xs.length → ValAt md w lo hi b (off + i * 2) (valAt' xs i)
theorem ValsM.same {md : Bool} {lo hi lo' hi' : Nat} {w w' : World} {a : Option Addr} {xs : List GVal} (h : ValsM md w lo hi a xs) (hs : Same lo hi w w') (h1 : lo' ≤ lo) (h2 : hi ≤ hi') : ValsM md w' lo' hi' a xs := by
  rcases h with rfl | ⟨b, off, rfl, h3, h4, h5, h6⟩
  · exact .inl rfl
  · exact .inr ⟨b, off, rfl, by omega, by omega, fun e => ⟨(h5 e).1, (h5 e).2.imp fun m hm => ⟨hm.1.of_block (hs b h3 h4), hm.2⟩⟩, fun i hi => (h6 i hi).same hs h1 h2 h3 h4⟩
theorem ValsM.plain {md : Bool} {lo hi : Nat} {w : World} {a : Option Addr} {xs : List GVal} (h : ValsM md w lo hi a xs) : ValsM false w lo hi a xs := by
  rcases h with rfl | ⟨b, off, rfl, h3, h4, h5, h6⟩
  · exact .inl rfl
  · exact .inr ⟨b, off, rfl, h3, h4, fun e => (by cases e), fun i hi => (h6 i hi).plain⟩
theorem ValsM.keep {md : Bool} {lo hi : Nat} {w w' : World} {a : Option Addr} {xs : List GVal} (h : ValsM md w lo hi a xs) (hb : Below hi w w') : ValsM md w' lo hi a xs := h.same (.of_below hb (Nat.le_refl _)) (Nat.le_refl _) (Nat.le_refl _)
theorem ValsM.wide {md : Bool} {lo hi lo' hi' : Nat} {w : World} {a : Option Addr} {xs : List GVal} (h : ValsM md w lo hi a xs) (h1 : lo' ≤ lo) (h2 : hi ≤ hi') : ValsM md w lo' hi' a xs := h.same (Same.refl _ _ _) h1 h2
def ValsB (N : Nat) (xs : List GVal) : Prop := xs.length ≤ N
theorem Tryz.infoVal : (Tryz.prog.info? 49).map (fun i => (i.zero, i.size, i.bytes)) = some (some (.agg #[.int .i64 0, .int .i64 0]), 2, 16) := by kernel_rfl
structure GThing where
  typ : Int
  vals : List GVal
def GThing.d : GThing := ⟨0, []⟩
/-- x lies at ⟨b, o⟩. -/
def ThingAt (md : Bool) (w : World) (lo hi b o : Nat) (x : GThing) : Prop :=
  ∃ a1 c1, w.cell? ⟨b, o, none⟩ = some (.int .i64 x.typ) ∧ w.cell? ⟨b, o + 1, none⟩ = some (.slice a1 x.vals.length c1) ∧ ValsM md w lo hi a1 x.vals
theorem ThingAt.same {md : Bool} {lo hi lo' hi' b o : Nat} {w w' : World} {x : GThing} (h : ThingAt md w lo hi b o x) (hs : Same lo hi w w') (h1 : lo' ≤ lo) (h2 : hi ≤ hi') (h3 : lo ≤ b) (h4 : b < hi) : ThingAt md w' lo' hi' b o x := by
  obtain ⟨a1, c1, e0, e1, l1⟩ := h
  exact ⟨a1, c1, (hs.cell h3 h4).trans e0, (hs.cell h3 h4).trans e1, l1.same hs h1 h2⟩
theorem ThingAt.plain {md : Bool} {lo hi b o : Nat} {w : World} {x : GThing} (h : ThingAt md w lo hi b o x) : ThingAt false w lo hi b o x := by
  obtain ⟨a1, c1, e0, e1, l1⟩ := h
  exact ⟨a1, c1, e0, e1, l1.plain⟩
def ThingB (N : Nat) (x : GThing) : Prop := ValsB N x.vals
def thingAt' (l : List GThing) (i : Nat) : GThing := l.getD i GThing.d
/-- xs lies at a; in a block of its own, if md. -/
def ThingsM (md : Bool) (w : World) (lo hi : Nat) (a : Option Addr) (xs : List GThing) : Prop :=
  xs = [] ∨ ∃ b off, a = some ⟨b, off, none⟩ ∧ lo ≤ b ∧ b < hi ∧ (md = true → off = 0 ∧ ∃ m, Own w b m 100 ∧ xs.length * 2 ≤ m) ∧ ∀ i, i < xs.length → ThingAt md w lo hi b (off + i * 2) (thingAt' xs i)
theorem ThingsM.same {md : Bool} {lo hi lo' hi' : Nat} {w w' : World} {a : Option Addr} {xs : List GThing} (h : ThingsM md w lo hi a xs) (hs : Same lo hi w w') (h1 : lo' ≤ lo) (h2 : hi ≤ hi') : ThingsM md w' lo' hi' a xs := by
  rcases h with rfl | ⟨b, off, rfl, h3, h4, h5, h6⟩
  · exact .inl rfl
  · exact .inr ⟨b, off, rfl, by omega, by omega, fun e => ⟨(h5 e).1, (h5 e).2.imp fun m hm => ⟨hm.1.of_block (hs b h3 h4), hm.2⟩⟩, fun i hi => (h6 i hi).same hs h1 h2 h3 h4⟩
theorem ThingsM.plain {md : Bool} {lo hi : Nat} {w : World} {a : Option Addr} {xs : List GThing} (h : ThingsM md w lo hi a xs) : ThingsM false w lo hi a xs := by
  rcases h with rfl | ⟨b, off, rfl, h3, h4, h5, h6⟩
  · exact .inl rfl
  · exact .inr ⟨b, off, rfl, h3, h4, fun e => (by cases e), fun i hi => (h6 i hi).plain⟩
theorem ThingsM.keep {md : Bool} {lo hi : Nat} {w w' : World} {a : Option Addr} {xs : List GThing} (h : ThingsM md w lo hi a xs) (hb : Below hi w w') : ThingsM md w' lo hi a xs := h.same (.of_below hb (Nat.le_refl _)) (Nat.le_refl _) (Nat.le_refl _)
theorem ThingsM.wide {md : Bool} {lo hi lo' hi' : Nat} {w : World} {a : Option Addr} {xs : List GThing} (h : ThingsM md w lo hi a xs) (h1 : lo' ≤ lo) (h2 : hi ≤ hi') : ThingsM md w lo' hi' a xs := h.same (Same.refl _ _ _) h1 h2
def ThingsB (N : Nat) (xs : List GThing) : Prop := xs.length ≤ N ∧ ∀ i, i < xs.length → ThingB N (thingAt' xs i)
end Go.Proofs.YtembifoimiochaaGreatDoor
namespace Go.Proofs.YtembifoimiochaaGreatDoor
open Go.ChangeShapes Go.WideShapes Go.ChangeAt Go.RowKit
set_option linter.unusedVariables false
/-- What a chip or a thing is of. -/
def ofV (xs : List GThing) (k n : Int) : Int := if k = 3 then -2 else (thingAt' xs n.toNat).typ
/-- A value is right: a thing has a type that there is. -/
def valOkF (gs : List (List Ty)) (xs : List GThing) (k n : Int) : Bool := valForm k n (xs.length : Nat) && (!(k == 4) || isTypeF gs (thingAt' xs n.toNat).typ)
def fitsV (gs : List (List Ty)) (xs : List GThing) (k n : Int) (f : Fd) : Bool :=
  fieldOk f.kind f.of (kinCount gs : Nat) && (valOkF gs xs k n && (if f.kind = 1 ∨ k = 1 then (f.kind == 1) && (k == 1) else if k = 2 then f.kind == 2 else under gs (ofV xs k n) f.of))
def valFitsF (gs : List (List Ty)) (xs : List GThing) (k n : Int) (f : Fd) : Bool := kinOkF gs && fitsV gs xs k n f
def tellV (gs : List (List Ty)) (xs : List GThing) (k n : Int) : Int := if k = 2 then -1 else if k = 3 then -2 - n else if k = 4 then 9973 + (canon gs (thingAt' xs n.toNat).typ.toNat : Nat) else n
def valTellF (gs : List (List Ty)) (xs : List GThing) (k n : Int) : Int := if kinOkF gs && valOkF gs xs k n then tellV gs xs k n else 0
theorem valForm_thing {n m : Int} (h : valForm 4 n m = true) : 0 ≤ n ∧ n < m := by simpa [valForm] using h
theorem valForm_kinds {k n m : Int} (h : valForm k n m = true) : k = 1 ∨ k = 2 ∨ k = 3 ∨ k = 4 := by
  unfold valForm at h
  split at h
  · rename_i h1; omega
  · split at h
    · omega
    · split at h
      · omega
      · cases h
/-- The type of a thing that is there. -/
theorem thing_typ {md : Bool} {w : World} {lo hi : Nat} {a : Option Addr} {xs : List GThing} {m : Nat} (h : ThingsM md w lo hi a xs) (hm : m < xs.length) : ∃ b off, a = some ⟨b, off, none⟩ ∧ b < hi ∧ w.cell? ⟨b, off + m * 2, none⟩ = some (.int .i64 (thingAt' xs m).typ) := by
  rcases h with rfl | ⟨b, off, e, h1, h2, _, h3⟩
  · exact absurd hm (Nat.not_lt_zero _)
  · obtain ⟨a1, c1, e0, _⟩ := h3 m hm
    exact ⟨b, off, e, h2, e0⟩
theorem two_below (w : World) (o0 o1 : Obj) : Below w.heap.size w ((w.alloc o0).alloc o1) := ((Below.refl _ _).alloc (Nat.le_refl _) _).alloc (by simp) _
set_option maxHeartbeats 1600000 in
theorem valOk_any {md : Bool} (ra ca ta : Option Addr) (rc cc tc lo hi : Nat) (gs : List (List Ty)) (xs : List GThing) (k n : Int) (w : World) (hN : kinCount gs ≤ 1099511627776) (hm : xs.length ≤ 1048576) (hx : ThingsM md w lo hi ta xs) (hh : hi ≤ w.heap.size) :
    Calls Tryz.prog 88 #[.agg #[.slice ra (kinCount gs) rc, .slice ca (kinCount gs) cc], .slice ta xs.length tc, .agg #[.int .i64 k, .int .i64 n]] w fun e w' => e = .returned (.bool (valOkF gs xs k n)) ∧ Below w.heap.size w w' := by
  have b0 := two_below w (.cells #[.slice ra (kinCount gs) rc, .slice ca (kinCount gs) cc] 93) (.cells #[.int .i64 k, .int .i64 n] 49)
  have B0 := hide b0
  clear b0
  by_cases h4 : k = 4
  · subst h4
    by_cases hn : 0 ≤ n ∧ n < (xs.length : Int)
    · obtain ⟨m, rfl⟩ := Int.eq_ofNat_of_zero_le hn.1
      have hml : m < xs.length := by omega
      have HZ : Hid (valOkF gs xs 4 m = isTypeF gs (thingAt' xs m).typ) := by
        show _ = _
        have : valForm 4 (m : Int) (xs.length : Nat) = true := by simp [valForm]; omega
        unfold valOkF; rw [this]; simp
      obtain ⟨b, off, rfl, hb, hc⟩ := thing_typ hx hml
      have m1 : (0 : Int) ≤ (m : Int) := by omega
      have m2 : (m : Int) < (xs.length : Int) := by omega
      have b5 : b < w.heap.size := by omega
      have b6 : b < w.heap.size + 1 := by omega
      clear hx hn
      generalize (thingAt' xs m).typ = ty at hc HZ
      have rt : Rec ((w.alloc (.cells #[.slice ra (kinCount gs) rc, .slice ca (kinCount gs) cc] 93)).alloc (.cells #[.int .i64 4, .int .i64 m] 49)) w.heap.size 93 [.slice ra (kinCount gs) rc, .slice ca (kinCount gs) cc] := (Rec.new _ _ _).alloc _
      have rv : Rec ((w.alloc (.cells #[.slice ra (kinCount gs) rc, .slice ca (kinCount gs) cc] 93)).alloc (.cells #[.int .i64 4, .int .i64 m] 49)) (w.heap.size + 1) 49 [.int .i64 4, .int .i64 m] := Rec.new' _ _ _ _ (by simp)
      generalize hW : (w.alloc (.cells #[.slice ra (kinCount gs) rc, .slice ca (kinCount gs) cc] 93)).alloc (.cells #[.int .i64 4, .int .i64 m] 49) = W at B0 rt rv
      have HW := hide hW
      have x0 := (B0.out.cell (p := ⟨b, off + m * 2, none⟩) b5).trans hc
      have t0 := rt.cell (o := 0) rfl
      have t1 := rt.cell (o := 1) rfl
      have v0 := rv.cell (o := 0) rfl
      have v1 := rv.cell (o := 1) rfl
      clear hW rt rv hc
      go_enter Tryz.func88, Tryz.ntmps88
      go_wp2_with fail
      rw [HW.out]
      first
      | (go_region_held3 (fun w' => (w'.cell? ⟨w.heap.size, 0, none⟩ = some (.slice ra (kinCount gs) rc) ∧ w'.cell? ⟨w.heap.size, 1, none⟩ = some (.slice ca (kinCount gs) cc)) ∧ (w'.cell? ⟨w.heap.size + 1, 0, none⟩ = some (.int .i64 4) ∧ w'.cell? ⟨w.heap.size + 1, 1, none⟩ = some (.int .i64 m)) ∧ w'.cell? ⟨b, off + m * 2, none⟩ = some (.int .i64 ty))
          (go_keep)
          ((go_at_call 107; refine (isType_any ra ca rc cc gs ty _ hN).mono ?_; rintro e w1 ⟨rfl, hb1⟩; have B1 := hide (B0.out.drew.trans (hb1.mono B0.out.size)); have qq : ∀ q o v, W.cell? ⟨q, o, none⟩ = some v → w1.cell? ⟨q, o, none⟩ = some v := fun q o v hv => (hb1.cell (p := ⟨q, o, none⟩) (cell_lt hv)).trans hv; have x0 := qq _ _ _ x0; have t0 := qq _ _ _ t0; have t1 := qq _ _ _ t1; have v0 := qq _ _ _ v0; have v1 := qq _ _ _ v1; clear qq hb1)))
      | fail
      go_wp2_with fail
      go_ret
      exact ⟨ret_bool HZ.out.symm, B1.out⟩
    · have HZ : Hid (valOkF gs xs 4 n = false) := by
        show _ = _
        have : valForm 4 n (xs.length : Nat) = false := by rw [Bool.eq_false_iff]; intro h; exact hn (valForm_thing h)
        unfold valOkF; rw [this]; rfl
      have hc : n < 0 ∨ (0 ≤ n ∧ (xs.length : Int) ≤ n) := by omega
      clear hx hn
      have rt : Rec ((w.alloc (.cells #[.slice ra (kinCount gs) rc, .slice ca (kinCount gs) cc] 93)).alloc (.cells #[.int .i64 4, .int .i64 n] 49)) w.heap.size 93 [.slice ra (kinCount gs) rc, .slice ca (kinCount gs) cc] := (Rec.new _ _ _).alloc _
      have rv : Rec ((w.alloc (.cells #[.slice ra (kinCount gs) rc, .slice ca (kinCount gs) cc] 93)).alloc (.cells #[.int .i64 4, .int .i64 n] 49)) (w.heap.size + 1) 49 [.int .i64 4, .int .i64 n] := Rec.new' _ _ _ _ (by simp)
      generalize hW : (w.alloc (.cells #[.slice ra (kinCount gs) rc, .slice ca (kinCount gs) cc] 93)).alloc (.cells #[.int .i64 4, .int .i64 n] 49) = W at B0 rt rv
      have HW := hide hW
      have t0 := rt.cell (o := 0) rfl
      have t1 := rt.cell (o := 1) rfl
      have v0 := rv.cell (o := 0) rfl
      have v1 := rv.cell (o := 1) rfl
      clear hW rt rv
      rcases hc with h1 | ⟨h1, h2⟩
      · have d1 : decide (0 ≤ n) = false := by simpa using h1
        go_enter Tryz.func88, Tryz.ntmps88
        go_wp2_with fail
        rw [HW.out]
        go_quiet (fail)
        go_wp2_with fail
        go_ret
        exact ⟨ret_bool HZ.out.symm, below_drewN B0.out _⟩
      · have d1 : decide (0 ≤ n) = true := by simpa using h1
        have d2 : decide (n < (xs.length : Int)) = false := by simpa using h2
        go_enter Tryz.func88, Tryz.ntmps88
        go_wp2_with fail
        rw [HW.out]
        go_quiet (fail)
        go_wp2_with fail
        go_ret
        exact ⟨ret_bool HZ.out.symm, below_drewN B0.out _⟩
  · have HZ : Hid (valOkF gs xs k n = valForm k n (xs.length : Nat)) := by
      show _ = _
      have : (k == 4) = false := beq_eq_false_iff_ne.2 h4
      unfold valOkF; rw [this]; simp
    have n4 : (k == 4) = false := beq_eq_false_iff_ne.2 h4
    clear hx
    by_cases h1 : k = 1
    · subst h1
      have HV : Hid (valForm 1 n (xs.length : Nat) = decide (0 ≤ n ∧ n < 9973)) := by show _ = _; simp [valForm]
      go_enter Tryz.func88, Tryz.ntmps88
      go_wp2_with fail
      all_goals go_ret
      all_goals refine ⟨ret_bool ?_, B0.out⟩
      all_goals (rw [HZ.out, HV.out, Bool.eq_iff_iff]; simp_all <;> omega)
    by_cases h3 : k = 3
    · subst h3
      have HV : Hid (valForm 3 n (xs.length : Nat) = decide (0 ≤ n ∧ n < 9973)) := by show _ = _; simp [valForm]
      go_enter Tryz.func88, Tryz.ntmps88
      go_wp2_with fail
      all_goals go_ret
      all_goals refine ⟨ret_bool ?_, B0.out⟩
      all_goals (rw [HZ.out, HV.out, Bool.eq_iff_iff]; simp_all <;> omega)
    by_cases h2 : k = 2
    · subst h2
      have HV : Hid (valForm 2 n (xs.length : Nat) = decide (n = 0)) := by show _ = _; simp [valForm]
      go_enter Tryz.func88, Tryz.ntmps88
      go_wp2_with fail
      go_ret
      exact ⟨ret_bool (by rw [HZ.out, HV.out, Bool.eq_iff_iff]; simp), B0.out⟩
    have n1 : (k == 1) = false := beq_eq_false_iff_ne.2 h1
    have n2 : (k == 2) = false := beq_eq_false_iff_ne.2 h2
    have n3 : (k == 3) = false := beq_eq_false_iff_ne.2 h3
    have HV : Hid (valForm k n (xs.length : Nat) = false) := by show _ = _; simp [valForm, h1, h2, h3, h4]
    go_enter Tryz.func88, Tryz.ntmps88
    go_wp2_with fail
    go_ret
    exact ⟨ret_bool (by rw [HZ.out, HV.out]), B0.out⟩
set_option maxHeartbeats 800000 in
theorem valOf_any {md : Bool} (ta : Option Addr) (tc lo hi : Nat) (xs : List GThing) (k n : Int) (w : World) (hm : xs.length ≤ 1048576) (hx : ThingsM md w lo hi ta xs) (hh : hi ≤ w.heap.size) (hn : k = 3 ∨ (k = 4 ∧ 0 ≤ n ∧ n < (xs.length : Int))) :
    Calls Tryz.prog 90 #[.slice ta xs.length tc, .agg #[.int .i64 k, .int .i64 n]] w fun e w' => e = .returned (.int .i64 (ofV xs k n)) ∧ Below w.heap.size w w' := by
  by_cases h3 : k = 3
  · subst h3
    have HZ : Hid (ofV xs 3 n = -2) := by show _ = _; simp [ofV]
    clear hx hn
    go_enter Tryz.func90, Tryz.ntmps90
    go_wp2_with fail
    go_ret
    exact ⟨ret_int HZ.out.symm, (Below.refl _ _).alloc (Nat.le_refl _) _⟩
  · obtain ⟨rfl, p0, p1⟩ := hn.resolve_left h3
    obtain ⟨m, rfl⟩ := Int.eq_ofNat_of_zero_le p0
    have HZ : Hid (ofV xs 4 m = (thingAt' xs m).typ) := by show _ = _; simp [ofV]
    obtain ⟨b, off, rfl, hb, hc⟩ := thing_typ hx (show m < xs.length by omega)
    have m1 : (0 : Int) ≤ (m : Int) := by omega
    have m2 : (m : Int) < (xs.length : Int) := by omega
    have b5 : b < w.heap.size := by omega
    clear hx hn h3
    generalize (thingAt' xs m).typ = ty at hc HZ
    go_enter Tryz.func90, Tryz.ntmps90
    go_wp2_with fail
    go_ret
    exact ⟨ret_int HZ.out.symm, (Below.refl _ _).alloc (Nat.le_refl _) _⟩
set_option maxHeartbeats 800000 in
theorem valOf_other (ta : Option Addr) (tl tc : Nat) (k n : Int) (w : World) (h3 : k ≠ 3) (h4 : k ≠ 4) :
    Calls Tryz.prog 90 #[.slice ta tl tc, .agg #[.int .i64 k, .int .i64 n]] w fun e w' => e = .returned (.int .i64 (-1)) ∧ Below w.heap.size w w' := by
  have n3 : (k == 3) = false := beq_eq_false_iff_ne.2 h3
  have n4 : (k == 4) = false := beq_eq_false_iff_ne.2 h4
  go_enter Tryz.func90, Tryz.ntmps90
  go_wp2_with fail
  go_ret
  exact ⟨rfl, (Below.refl _ _).alloc (Nat.le_refl _) _⟩
/-- What a chip or a right thing is of is a type that there is, or -2. -/
theorem ofV_range {gs : List (List Ty)} {xs : List GThing} {k n : Int} (h1 : k ≠ 1) (h2 : k ≠ 2) (h : valOkF gs xs k n = true) : (k = 3 ∨ (k = 4 ∧ 0 ≤ n ∧ n < (xs.length : Int))) ∧ -2 ≤ ofV xs k n ∧ ofV xs k n < (kinCount gs : Int) := by
  unfold valOkF at h
  simp only [Bool.and_eq_true] at h
  obtain ⟨a, b⟩ := h
  rcases valForm_kinds a with rfl | rfl | rfl | rfl
  · exact absurd rfl h1
  · exact absurd rfl h2
  · refine ⟨.inl rfl, ?_⟩
    simp [ofV]
    omega
  · have c := valForm_thing a
    refine ⟨.inr ⟨rfl, c⟩, ?_⟩
    simp [isTypeF] at b
    simp [ofV]
    omega
set_option maxHeartbeats 3200000 in
theorem tabValFits_any {md : Bool} (ra : Option Addr) (rc cb co cc lo hi : Nat) (ta : Option Addr) (tc lo' hi' : Nat) (gs : List (List Ty)) (xs : List GThing) (k n fk fo : Int) (fm : Bool) (w : World) (hP : Parts gs) (hT : TabIn w lo hi ra cb co gs) (hh : hi ≤ w.heap.size) (hm : xs.length ≤ 1048576) (hx : ThingsM md w lo' hi' ta xs) (hh' : hi' ≤ w.heap.size) :
    Calls Tryz.prog 57 #[.agg #[.slice ra (kinCount gs) rc, .slice (some ⟨cb, co, none⟩) (kinCount gs) cc], .slice ta xs.length tc, .agg #[.int .i64 k, .int .i64 n], .agg #[.int .i64 fk, .int .i64 fo, .bool fm]] w fun e w' => e = .returned (.bool (fitsV gs xs k n ⟨fk, fo, fm⟩)) ∧ Below w.heap.size w w' := by
  have m8 := hP.2.1
  have HF : Hid (fitsV gs xs k n ⟨fk, fo, fm⟩ = (fieldOk fk fo (kinCount gs : Nat) && (valOkF gs xs k n && (if fk = 1 ∨ k = 1 then (fk == 1) && (k == 1) else if k = 2 then fk == 2 else under gs (ofV xs k n) fo)))) := rfl
  generalize fitsV gs xs k n ⟨fk, fo, fm⟩ = R at *
  have b0 := three_new w (.cells #[.slice ra (kinCount gs) rc, .slice (some ⟨cb, co, none⟩) (kinCount gs) cc] 93) (.cells #[.int .i64 k, .int .i64 n] 49) (.cells #[.int .i64 fk, .int .i64 fo, .bool fm] 70)
  have rt : Rec (((w.alloc (.cells #[.slice ra (kinCount gs) rc, .slice (some ⟨cb, co, none⟩) (kinCount gs) cc] 93)).alloc (.cells #[.int .i64 k, .int .i64 n] 49)).alloc (.cells #[.int .i64 fk, .int .i64 fo, .bool fm] 70)) w.heap.size 93 [.slice ra (kinCount gs) rc, .slice (some ⟨cb, co, none⟩) (kinCount gs) cc] := ((Rec.new _ _ _).alloc _).alloc _
  have rv : Rec (((w.alloc (.cells #[.slice ra (kinCount gs) rc, .slice (some ⟨cb, co, none⟩) (kinCount gs) cc] 93)).alloc (.cells #[.int .i64 k, .int .i64 n] 49)).alloc (.cells #[.int .i64 fk, .int .i64 fo, .bool fm] 70)) (w.heap.size + 1) 49 [.int .i64 k, .int .i64 n] := (Rec.new' _ _ _ _ (by simp)).alloc _
  have rf : Rec (((w.alloc (.cells #[.slice ra (kinCount gs) rc, .slice (some ⟨cb, co, none⟩) (kinCount gs) cc] 93)).alloc (.cells #[.int .i64 k, .int .i64 n] 49)).alloc (.cells #[.int .i64 fk, .int .i64 fo, .bool fm] 70)) (w.heap.size + 1 + 1) 70 [.int .i64 fk, .int .i64 fo, .bool fm] := Rec.new' _ _ _ _ (by simp)
  have B0 := hide b0
  have RT := hide rt
  have RV := hide rv
  have RF := hide rf
  have HT := hide hT
  have HP := hide hP
  have HX := hide hx
  clear b0 rt rv rf hT hP hx
  go_enter Tryz.func57, Tryz.ntmps57
  go_wp2_with fail
  refine (implFieldOk_any fk fo _ fm _).mono ?_
  rintro e w1 ⟨rfl, hb1⟩
  have B1 := hide (B0.out.trans (hb1.mono B0.out.size))
  have T1 := hide (RT.out.below hb1 RT.out.lt)
  have V1 := hide (RV.out.below hb1 RV.out.lt)
  have F1 := hide (RF.out.below hb1 RF.out.lt)
  clear hb1 B0 RT RV RF
  cases h1 : fieldOk fk fo (kinCount gs : Nat) with
  | false =>
    have HZ : Hid (R = false) := by show _ = _; rw [HF.out, h1]; rfl
    clear h1
    go_wp2_with fail
    go_ret
    exact ⟨ret_bool HZ.out.symm, B1.out⟩
  | true =>
    have H1 := hide h1
    have t0 := T1.out.cell (o := 0) rfl
    have t1 := T1.out.cell (o := 1) rfl
    have v0 := V1.out.cell (o := 0) rfl
    have v1 := V1.out.cell (o := 1) rfl
    clear h1
    go_wp2_with fail
    refine (valOk_any ra _ ta rc cc tc lo' hi' gs xs k n w1 (by omega) hm (HX.out.keep (B1.out.mono hh')) (Nat.le_trans hh' B1.out.size)).mono ?_
    rintro e w2 ⟨rfl, hb2⟩
    have B2 := hide (B1.out.trans (hb2.mono B1.out.size))
    have T2 := hide (T1.out.below hb2 T1.out.lt)
    have V2 := hide (V1.out.below hb2 V1.out.lt)
    have F2 := hide (F1.out.below hb2 F1.out.lt)
    clear hb2 B1 T1 V1 F1 t0 t1 v0 v1
    cases h2 : valOkF gs xs k n with
    | false =>
      have HZ : Hid (R = false) := by show _ = _; rw [HF.out, H1.out, h2]; rfl
      clear h2
      go_wp2_with fail
      go_ret
      exact ⟨ret_bool HZ.out.symm, B2.out⟩
    | true =>
      have H2 := hide h2
      have HS : Hid (R = (if fk = 1 ∨ k = 1 then (fk == 1) && (k == 1) else if k = 2 then fk == 2 else under gs (ofV xs k n) fo)) := by show _ = _; rw [HF.out, H1.out, h2]; rfl
      clear h2 HF
      have f0 := F2.out.cell (o := 0) rfl
      have f1 := F2.out.cell (o := 1) rfl
      have v0 := V2.out.cell (o := 0) rfl
      have v1 := V2.out.cell (o := 1) rfl
      have t0 := T2.out.cell (o := 0) rfl
      have t1 := T2.out.cell (o := 1) rfl
      by_cases e1 : fk = 1
      · subst e1
        have HZ : Hid (R = (k == 1)) := by show _ = _; rw [HS.out]; simp
        clear HS
        go_wp2_with fail
        go_ret
        exact ⟨ret_bool HZ.out.symm, B2.out⟩
      have n1 : (fk == 1) = false := beq_eq_false_iff_ne.2 e1
      by_cases e2 : k = 1
      · subst e2
        have HZ : Hid (R = false) := by show _ = _; rw [HS.out]; simp [e1]
        clear HS
        go_wp2_with fail
        go_ret
        exact ⟨ret_bool HZ.out.symm, B2.out⟩
      have n2 : (k == 1) = false := beq_eq_false_iff_ne.2 e2
      by_cases e3 : k = 2
      · subst e3
        have HZ : Hid (R = (fk == 2)) := by show _ = _; rw [HS.out]; simp [e1]
        clear HS
        go_wp2_with fail
        go_ret
        exact ⟨ret_bool HZ.out.symm, B2.out⟩
      have n3 : (k == 2) = false := beq_eq_false_iff_ne.2 e3
      have r1 := fieldOk_range (by omega) H1.out e1
      have r2 := ofV_range e2 e3 H2.out
      have HU : Hid (R = under gs (ofV xs k n) fo) := by show _ = _; rw [HS.out, if_neg (by omega), if_neg e3]
      clear HS
      have f2 := F2.out.cell (o := 2) rfl
      have HO := hide (fun w1 (hb : Below w.heap.size w w1) => valOf_any ta tc lo' hi' xs k n w1 hm (HX.out.keep (hb.mono hh')) (Nat.le_trans hh' hb.size) r2.1)
      have HN := hide (fun w1 (hb : Below w.heap.size w w1) => under_any ra rc cb co cc lo hi gs (ofV xs k n) fo w1 HP.out (HT.out.keep (hb.mono hh)) (Nat.le_trans hh hb.size) r2.2.1 r2.2.2 r1.1 (by omega))
      generalize under gs (ofV xs k n) fo = U at HU HN
      generalize ofV xs k n = q at HO HN r2
      go_wp2_with fail
      go_region_held3 (fun w' => (w'.cell? ⟨w.heap.size, 0, none⟩ = some (.slice ra (kinCount gs) rc) ∧ w'.cell? ⟨w.heap.size, 1, none⟩ = some (.slice (some ⟨cb, co, none⟩) (kinCount gs) cc)) ∧ (w'.cell? ⟨w.heap.size + 1, 0, none⟩ = some (.int .i64 k) ∧ w'.cell? ⟨w.heap.size + 1, 1, none⟩ = some (.int .i64 n)) ∧ (w'.cell? ⟨w.heap.size + 1 + 1, 0, none⟩ = some (.int .i64 fk) ∧ w'.cell? ⟨w.heap.size + 1 + 1, 1, none⟩ = some (.int .i64 fo) ∧ w'.cell? ⟨w.heap.size + 1 + 1, 2, none⟩ = some (.bool fm)))
        (go_keep)
        ((first
          | (go_at_call 90; refine (HO.out _ B2.out.drew).mono ?_; rintro e w3 ⟨rfl, hb3⟩; have B3 := hide (B2.out.drew.trans (hb3.mono B2.out.size)); have T3 : Hid (Rec w3 w.heap.size 93 [.slice ra (kinCount gs) rc, .slice (some ⟨cb, co, none⟩) (kinCount gs) cc]) := Rec.below (w := w2.drew) T2.out hb3 T2.out.lt; have V3 : Hid (Rec w3 (w.heap.size + 1) 49 [.int .i64 k, .int .i64 n]) := Rec.below (w := w2.drew) V2.out hb3 V2.out.lt; have F3 : Hid (Rec w3 (w.heap.size + 1 + 1) 70 [.int .i64 fk, .int .i64 fo, .bool fm]) := Rec.below (w := w2.drew) F2.out hb3 F2.out.lt; clear hb3; have t0 := T3.out.cell (o := 0) rfl; have t1 := T3.out.cell (o := 1) rfl; have v0 := V3.out.cell (o := 0) rfl; have v1 := V3.out.cell (o := 1) rfl; have f0 := F3.out.cell (o := 0) rfl; have f1 := F3.out.cell (o := 1) rfl; have f2 := F3.out.cell (o := 2) rfl)
          | (go_at_call 89; refine (HN.out _ B3.out).mono ?_; rintro e w4 ⟨rfl, hb4⟩; have B3 := hide (B3.out.trans (hb4.mono B3.out.size)); have T3 := hide (T3.out.below hb4 T3.out.lt); have V3 := hide (V3.out.below hb4 V3.out.lt); have F3 := hide (F3.out.below hb4 F3.out.lt); clear hb4; have t0 := T3.out.cell (o := 0) rfl; have t1 := T3.out.cell (o := 1) rfl; have v0 := V3.out.cell (o := 0) rfl; have v1 := V3.out.cell (o := 1) rfl; have f0 := F3.out.cell (o := 0) rfl; have f1 := F3.out.cell (o := 1) rfl; have f2 := F3.out.cell (o := 2) rfl)))
      go_wp2_with fail
      go_ret
      exact ⟨ret_bool HU.out.symm, B3.out⟩
end Go.Proofs.YtembifoimiochaaGreatDoor
