/- Values and words: WordVal of the program. Written by tools/made/word3.py. -/
import Derived.Test.YtogdkabmhhbelaaWord2
namespace Go.Proofs.Ytogdkabmhhbelaa
open Go.ChangeShapes Go.WideShapes Go.ChangeAt Go.RowKit
set_option linter.unusedVariables false

theorem valOr_tuple (x : Option (Int × Int)) : ∃ a b c, valOr x = .tuple #[.agg #[.int .i64 a, .int .i64 b], .bool c] := by
  rcases x with _ | ⟨a, b⟩
  · exact ⟨0, 0, false, rfl⟩
  · exact ⟨a, b, true, rfl⟩

theorem implWordVal_none (k o : Int) (m : Bool) (x : Int) (w : World) (h : x < 0 ∨ (0 ≤ x ∧ ¬ k = 1 ∧ ¬ k = 2 ∧ ¬ k = 3)) :
    Calls Try.prog 11 #[.agg #[.int .i64 k, .int .i64 o, .bool m], .int .i64 x] w fun e w' => e = .returned (.tuple #[.agg #[.int .i64 0, .int .i64 0], .bool false]) ∧ Below w.heap.size w w' := by
  rcases h with h0 | ⟨h0, h1, h2, h3⟩
  · go_enter Try.func11, Try.ntmps11
    go_wp2_with fail
    refine bodyPost_ret (v := .tuple #[.agg #[.int .i64 0, .int .i64 0], .bool false]) (by simp [results, Try.results11, go_sem]) rfl ⟨rfl, ?_⟩
    repeat (first | exact Below.refl _ _ | refine Below.setCell ?_ (by simp) _ | refine Below.alloc ?_ (by simp) _)
  · have g1 : (k == 1) = false := by simpa using h1
    have g2 : (k != 2) = true := by simpa using h2
    have g3 : (k != 3) = true := by simpa using h3
    have g2' : (k == 2) = false := by simpa using h2
    have g3' : (k == 3) = false := by simpa using h3
    go_enter Try.func11, Try.ntmps11
    go_wp2_with fail
    refine bodyPost_ret (v := .tuple #[.agg #[.int .i64 0, .int .i64 0], .bool false]) (by simp [results, Try.results11, go_sem]) rfl ⟨rfl, ?_⟩
    repeat (first | exact Below.refl _ _ | refine Below.setCell ?_ (by simp) _ | refine Below.alloc ?_ (by simp) _)

set_option maxHeartbeats 1600000 in
theorem implWordVal_num (o : Int) (m : Bool) (x : Int) (w : World) (h0 : 0 ≤ x) (p q : Int) (r : Bool) (C : Hid (∀ W, Calls Try.prog 31 #[.int .i64 1, .int .i64 x, .int .i64 9973] W fun e w' => e = .returned (.tuple #[.agg #[.int .i64 p, .int .i64 q], .bool r]) ∧ Below W.heap.size W w')) :
    Calls Try.prog 11 #[.agg #[.int .i64 1, .int .i64 o, .bool m], .int .i64 x] w fun e w' => e = .returned (.tuple #[.agg #[.int .i64 p, .int .i64 q], .bool r]) ∧ Below w.heap.size w w' := by
  go_enter Try.func11, Try.ntmps11
  go_wp2_with fail
  refine (C.out _).mono ?_
  rintro e w1 ⟨rfl, hb⟩
  have R := hide ((Rec.new' (w.alloc (.cells #[.int .i64 1, .int .i64 o, .bool m] 27)) 24 [.int .i64 0, .int .i64 0] _ rfl).below hb (by simp))
  have c0 := R.out.cell (o := 0) rfl
  have c1 := R.out.cell (o := 1) rfl
  have f0 := R.out.frozen 0
  have f1 := R.out.frozen 1
  have RF := hide ((R.out.set 0 (.int .i64 p)).set 1 (.int .i64 q))
  have r0 := RF.out.cell (o := 0) rfl
  have r1 := RF.out.cell (o := 1) rfl
  have B : Hid (Below w.heap.size w w1) := Below.trans (by (repeat (first | exact Below.refl _ _ | refine Below.alloc ?_ (by simp) _))) (hb.mono (by simp; omega))
  simp only [World.size_alloc] at c0 c1 f0 f1 r0 r1
  clear hb
  go_wp2_with fail
  refine bodyPost_ret (v := .tuple #[.agg #[.int .i64 p, .int .i64 q], .bool r]) (by simp [results, Try.results11, go_sem, r0, r1]) rfl ⟨rfl, ?_⟩
  exact (B.out.setCell (by simp) _).setCell (by simp) _

set_option maxHeartbeats 1600000 in
theorem implWordVal_zero2 (o : Int) (m : Bool) (x : Int) (w : World) (h0 : x = 0) (p q : Int) (r : Bool) (C : Hid (∀ W, Calls Try.prog 32 #[.agg #[.int .i64 2, .int .i64 o, .bool m]] W fun e w' => e = .returned (.tuple #[.agg #[.int .i64 p, .int .i64 q], .bool r]) ∧ Below W.heap.size W w')) :
    Calls Try.prog 11 #[.agg #[.int .i64 2, .int .i64 o, .bool m], .int .i64 x] w fun e w' => e = .returned (.tuple #[.agg #[.int .i64 p, .int .i64 q], .bool r]) ∧ Below w.heap.size w w' := by
  subst h0
  go_enter Try.func11, Try.ntmps11
  go_wp2_with fail
  refine (C.out _).mono ?_
  rintro e w1 ⟨rfl, hb⟩
  have R := hide ((Rec.new' (w.alloc (.cells #[.int .i64 2, .int .i64 o, .bool m] 27)) 24 [.int .i64 0, .int .i64 0] _ rfl).below hb (by simp))
  have c0 := R.out.cell (o := 0) rfl
  have c1 := R.out.cell (o := 1) rfl
  have f0 := R.out.frozen 0
  have f1 := R.out.frozen 1
  have RF := hide ((R.out.set 0 (.int .i64 p)).set 1 (.int .i64 q))
  have r0 := RF.out.cell (o := 0) rfl
  have r1 := RF.out.cell (o := 1) rfl
  have B : Hid (Below w.heap.size w w1) := Below.trans (by (repeat (first | exact Below.refl _ _ | refine Below.alloc ?_ (by simp) _))) (hb.mono (by simp; omega))
  simp only [World.size_alloc] at c0 c1 f0 f1 r0 r1
  clear hb
  go_wp2_with fail
  refine bodyPost_ret (v := .tuple #[.agg #[.int .i64 p, .int .i64 q], .bool r]) (by simp [results, Try.results11, go_sem, r0, r1]) rfl ⟨rfl, ?_⟩
  exact (B.out.setCell (by simp) _).setCell (by simp) _

set_option maxHeartbeats 1600000 in
theorem implWordVal_odd2 (o : Int) (m : Bool) (x : Int) (w : World) (h0 : 0 < x) (hx : x ≤ 9223372036854775807) (h1 : x % 2 = 1) (p q : Int) (r : Bool) (C : Hid (∀ W, Calls Try.prog 31 #[.int .i64 3, .int .i64 (x / 2), .int .i64 9973] W fun e w' => e = .returned (.tuple #[.agg #[.int .i64 p, .int .i64 q], .bool r]) ∧ Below W.heap.size W w')) :
    Calls Try.prog 11 #[.agg #[.int .i64 2, .int .i64 o, .bool m], .int .i64 x] w fun e w' => e = .returned (.tuple #[.agg #[.int .i64 p, .int .i64 q], .bool r]) ∧ Below w.heap.size w w' := by
  have h2 : ¬ x = 0 := by omega
  have h3 : 0 ≤ x := by omega
  go_enter Try.func11, Try.ntmps11
  go_wp2_with fail
  refine (C.out _).mono ?_
  rintro e w1 ⟨rfl, hb⟩
  have R := hide ((Rec.new' (w.alloc (.cells #[.int .i64 2, .int .i64 o, .bool m] 27)) 24 [.int .i64 0, .int .i64 0] _ rfl).below hb (by simp))
  have c0 := R.out.cell (o := 0) rfl
  have c1 := R.out.cell (o := 1) rfl
  have f0 := R.out.frozen 0
  have f1 := R.out.frozen 1
  have RF := hide ((R.out.set 0 (.int .i64 p)).set 1 (.int .i64 q))
  have r0 := RF.out.cell (o := 0) rfl
  have r1 := RF.out.cell (o := 1) rfl
  have B : Hid (Below w.heap.size w w1) := Below.trans (by (repeat (first | exact Below.refl _ _ | refine Below.alloc ?_ (by simp) _))) (hb.mono (by simp; omega))
  simp only [World.size_alloc] at c0 c1 f0 f1 r0 r1
  clear hb
  go_wp2_with fail
  refine bodyPost_ret (v := .tuple #[.agg #[.int .i64 p, .int .i64 q], .bool r]) (by simp [results, Try.results11, go_sem, r0, r1]) rfl ⟨rfl, ?_⟩
  exact (B.out.setCell (by simp) _).setCell (by simp) _

set_option maxHeartbeats 1600000 in
theorem implWordVal_even2 (o : Int) (m : Bool) (x : Int) (w : World) (h0 : 0 < x) (hx : x ≤ 9223372036854775807) (h1 : x % 2 = 0) (p q : Int) (r : Bool) (C : Hid (∀ W, Calls Try.prog 31 #[.int .i64 4, .int .i64 (x / 2 - 1), .int .i64 160] W fun e w' => e = .returned (.tuple #[.agg #[.int .i64 p, .int .i64 q], .bool r]) ∧ Below W.heap.size W w')) :
    Calls Try.prog 11 #[.agg #[.int .i64 2, .int .i64 o, .bool m], .int .i64 x] w fun e w' => e = .returned (.tuple #[.agg #[.int .i64 p, .int .i64 q], .bool r]) ∧ Below w.heap.size w w' := by
  have h2 : ¬ x = 0 := by omega
  have h3 : 0 ≤ x := by omega
  go_enter Try.func11, Try.ntmps11
  go_wp2_with fail
  refine (C.out _).mono ?_
  rintro e w1 ⟨rfl, hb⟩
  have R := hide ((Rec.new' (w.alloc (.cells #[.int .i64 2, .int .i64 o, .bool m] 27)) 24 [.int .i64 0, .int .i64 0] _ rfl).below hb (by simp))
  have c0 := R.out.cell (o := 0) rfl
  have c1 := R.out.cell (o := 1) rfl
  have f0 := R.out.frozen 0
  have f1 := R.out.frozen 1
  have RF := hide ((R.out.set 0 (.int .i64 p)).set 1 (.int .i64 q))
  have r0 := RF.out.cell (o := 0) rfl
  have r1 := RF.out.cell (o := 1) rfl
  have B : Hid (Below w.heap.size w w1) := Below.trans (by (repeat (first | exact Below.refl _ _ | refine Below.alloc ?_ (by simp) _))) (hb.mono (by simp; omega))
  simp only [World.size_alloc] at c0 c1 f0 f1 r0 r1
  clear hb
  go_wp2_with fail
  refine bodyPost_ret (v := .tuple #[.agg #[.int .i64 p, .int .i64 q], .bool r]) (by simp [results, Try.results11, go_sem, r0, r1]) rfl ⟨rfl, ?_⟩
  exact (B.out.setCell (by simp) _).setCell (by simp) _

set_option maxHeartbeats 1600000 in
theorem implWordVal_zero3 (o : Int) (m : Bool) (x : Int) (w : World) (h0 : x = 0) (p q : Int) (r : Bool) (C : Hid (∀ W, Calls Try.prog 32 #[.agg #[.int .i64 3, .int .i64 o, .bool m]] W fun e w' => e = .returned (.tuple #[.agg #[.int .i64 p, .int .i64 q], .bool r]) ∧ Below W.heap.size W w')) :
    Calls Try.prog 11 #[.agg #[.int .i64 3, .int .i64 o, .bool m], .int .i64 x] w fun e w' => e = .returned (.tuple #[.agg #[.int .i64 p, .int .i64 q], .bool r]) ∧ Below w.heap.size w w' := by
  subst h0
  go_enter Try.func11, Try.ntmps11
  go_wp2_with fail
  refine (C.out _).mono ?_
  rintro e w1 ⟨rfl, hb⟩
  have R := hide ((Rec.new' (w.alloc (.cells #[.int .i64 3, .int .i64 o, .bool m] 27)) 24 [.int .i64 0, .int .i64 0] _ rfl).below hb (by simp))
  have c0 := R.out.cell (o := 0) rfl
  have c1 := R.out.cell (o := 1) rfl
  have f0 := R.out.frozen 0
  have f1 := R.out.frozen 1
  have RF := hide ((R.out.set 0 (.int .i64 p)).set 1 (.int .i64 q))
  have r0 := RF.out.cell (o := 0) rfl
  have r1 := RF.out.cell (o := 1) rfl
  have B : Hid (Below w.heap.size w w1) := Below.trans (by (repeat (first | exact Below.refl _ _ | refine Below.alloc ?_ (by simp) _))) (hb.mono (by simp; omega))
  simp only [World.size_alloc] at c0 c1 f0 f1 r0 r1
  clear hb
  go_wp2_with fail
  refine bodyPost_ret (v := .tuple #[.agg #[.int .i64 p, .int .i64 q], .bool r]) (by simp [results, Try.results11, go_sem, r0, r1]) rfl ⟨rfl, ?_⟩
  exact (B.out.setCell (by simp) _).setCell (by simp) _

set_option maxHeartbeats 1600000 in
theorem implWordVal_odd3 (o : Int) (m : Bool) (x : Int) (w : World) (h0 : 0 < x) (hx : x ≤ 9223372036854775807) (h1 : x % 2 = 1) (p q : Int) (r : Bool) (C : Hid (∀ W, Calls Try.prog 31 #[.int .i64 3, .int .i64 (x / 2), .int .i64 9973] W fun e w' => e = .returned (.tuple #[.agg #[.int .i64 p, .int .i64 q], .bool r]) ∧ Below W.heap.size W w')) :
    Calls Try.prog 11 #[.agg #[.int .i64 3, .int .i64 o, .bool m], .int .i64 x] w fun e w' => e = .returned (.tuple #[.agg #[.int .i64 p, .int .i64 q], .bool r]) ∧ Below w.heap.size w w' := by
  have h2 : ¬ x = 0 := by omega
  have h3 : 0 ≤ x := by omega
  go_enter Try.func11, Try.ntmps11
  go_wp2_with fail
  refine (C.out _).mono ?_
  rintro e w1 ⟨rfl, hb⟩
  have R := hide ((Rec.new' (w.alloc (.cells #[.int .i64 3, .int .i64 o, .bool m] 27)) 24 [.int .i64 0, .int .i64 0] _ rfl).below hb (by simp))
  have c0 := R.out.cell (o := 0) rfl
  have c1 := R.out.cell (o := 1) rfl
  have f0 := R.out.frozen 0
  have f1 := R.out.frozen 1
  have RF := hide ((R.out.set 0 (.int .i64 p)).set 1 (.int .i64 q))
  have r0 := RF.out.cell (o := 0) rfl
  have r1 := RF.out.cell (o := 1) rfl
  have B : Hid (Below w.heap.size w w1) := Below.trans (by (repeat (first | exact Below.refl _ _ | refine Below.alloc ?_ (by simp) _))) (hb.mono (by simp; omega))
  simp only [World.size_alloc] at c0 c1 f0 f1 r0 r1
  clear hb
  go_wp2_with fail
  refine bodyPost_ret (v := .tuple #[.agg #[.int .i64 p, .int .i64 q], .bool r]) (by simp [results, Try.results11, go_sem, r0, r1]) rfl ⟨rfl, ?_⟩
  exact (B.out.setCell (by simp) _).setCell (by simp) _

set_option maxHeartbeats 1600000 in
theorem implWordVal_even3 (o : Int) (m : Bool) (x : Int) (w : World) (h0 : 0 < x) (hx : x ≤ 9223372036854775807) (h1 : x % 2 = 0) (p q : Int) (r : Bool) (C : Hid (∀ W, Calls Try.prog 31 #[.int .i64 4, .int .i64 (x / 2 - 1), .int .i64 160] W fun e w' => e = .returned (.tuple #[.agg #[.int .i64 p, .int .i64 q], .bool r]) ∧ Below W.heap.size W w')) :
    Calls Try.prog 11 #[.agg #[.int .i64 3, .int .i64 o, .bool m], .int .i64 x] w fun e w' => e = .returned (.tuple #[.agg #[.int .i64 p, .int .i64 q], .bool r]) ∧ Below w.heap.size w w' := by
  have h2 : ¬ x = 0 := by omega
  have h3 : 0 ≤ x := by omega
  go_enter Try.func11, Try.ntmps11
  go_wp2_with fail
  refine (C.out _).mono ?_
  rintro e w1 ⟨rfl, hb⟩
  have R := hide ((Rec.new' (w.alloc (.cells #[.int .i64 3, .int .i64 o, .bool m] 27)) 24 [.int .i64 0, .int .i64 0] _ rfl).below hb (by simp))
  have c0 := R.out.cell (o := 0) rfl
  have c1 := R.out.cell (o := 1) rfl
  have f0 := R.out.frozen 0
  have f1 := R.out.frozen 1
  have RF := hide ((R.out.set 0 (.int .i64 p)).set 1 (.int .i64 q))
  have r0 := RF.out.cell (o := 0) rfl
  have r1 := RF.out.cell (o := 1) rfl
  have B : Hid (Below w.heap.size w w1) := Below.trans (by (repeat (first | exact Below.refl _ _ | refine Below.alloc ?_ (by simp) _))) (hb.mono (by simp; omega))
  simp only [World.size_alloc] at c0 c1 f0 f1 r0 r1
  clear hb
  go_wp2_with fail
  refine bodyPost_ret (v := .tuple #[.agg #[.int .i64 p, .int .i64 q], .bool r]) (by simp [results, Try.results11, go_sem, r0, r1]) rfl ⟨rfl, ?_⟩
  exact (B.out.setCell (by simp) _).setCell (by simp) _

theorem implWordVal_any (k o : Int) (m : Bool) (x : Int) (w : World) (hx : x ≤ 9223372036854775807) :
    Calls Try.prog 11 #[.agg #[.int .i64 k, .int .i64 o, .bool m], .int .i64 x] w fun e w' => e = .returned (valOr (wordVal k x)) ∧ Below w.heap.size w w' := by
  obtain ⟨p, q, r, hv⟩ := valOr_tuple (wordVal k x)
  rw [hv]
  by_cases h0 : x < 0
  · have hw : wordVal k x = none := by simp [wordVal, h0]
    rw [← hv, hw]
    exact implWordVal_none k o m x w (.inl h0)
  have h0' : 0 ≤ x := by omega
  by_cases h1 : k = 1
  · subst h1
    have hw : wordVal 1 x = if x < 9973 then some (1, x) else none := by simp [wordVal, h0]
    exact implWordVal_num o m x w h0' p q r (fun W => by rw [← hv, hw]; exact implWordIn_any 1 x 9973 W)
  by_cases h2 : k = 2 ∨ k = 3
  · by_cases h3 : x = 0
    · have hw : wordVal k x = if k = 2 then some (2, 0) else none := by simp [wordVal, h1, h2, h3]
      rcases h2 with rfl | rfl
      · exact implWordVal_zero2 o m x w h3 p q r (fun W => by rw [← hv, hw]; exact implWordNone_any 2 o m W)
      · exact implWordVal_zero3 o m x w h3 p q r (fun W => by rw [← hv, hw]; exact implWordNone_any 3 o m W)
    by_cases h4 : x % 2 = 1
    · have hw : wordVal k x = if x / 2 < 9973 then some (3, x / 2) else none := by simp [wordVal, h0, h1, h2, h3, h4]
      rcases h2 with rfl | rfl
      · exact implWordVal_odd2 o m x w (by omega) hx h4 p q r (fun W => by rw [← hv, hw]; exact implWordIn_any 3 (x / 2) 9973 W)
      · exact implWordVal_odd3 o m x w (by omega) hx h4 p q r (fun W => by rw [← hv, hw]; exact implWordIn_any 3 (x / 2) 9973 W)
    · have hw : wordVal k x = if x / 2 - 1 < 160 then some (4, x / 2 - 1) else none := by simp [wordVal, h0, h1, h2, h3, h4]
      rcases h2 with rfl | rfl
      · exact implWordVal_even2 o m x w (by omega) hx (by omega) p q r (fun W => by rw [← hv, hw]; exact implWordIn_any 4 (x / 2 - 1) 160 W)
      · exact implWordVal_even3 o m x w (by omega) hx (by omega) p q r (fun W => by rw [← hv, hw]; exact implWordIn_any 4 (x / 2 - 1) 160 W)
  · have hw : wordVal k x = none := by simp [wordVal, h0, h1, h2]
    rw [← hv, hw]
    exact implWordVal_none k o m x w (.inr ⟨h0', h1, fun e => h2 (.inl e), fun e => h2 (.inr e)⟩)
end Go.Proofs.Ytogdkabmhhbelaa
