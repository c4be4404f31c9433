/- Values and words: WordVal of the model. Written by tools/made/word4.py. -/
import Derived.Test.YtogdkabmhhbelaaWord3
namespace Go.Proofs.Ytogdkabmhhbelaa
open Go.ChangeShapes Go.WideShapes Go.ChangeAt Go.RowKit
set_option linter.unusedVariables false

theorem l5NumVal_any (n : Int) (w : World) :
    Calls Try.prog 42 #[.int .i64 n] w fun e w' => e = .returned (.agg #[.int .i64 1, .int .i64 n]) ∧ Below w.heap.size w w' := by
  go_enter Try.func42, Try.ntmps42
  go_wp2_with fail
  refine bodyPost_ret (v := .agg #[.int .i64 1, .int .i64 n]) (by simp [results, Try.results42, go_sem]) rfl ⟨rfl, ?_⟩
  repeat (first | exact Below.refl _ _ | refine Below.setCell ?_ (by simp) _ | refine Below.alloc ?_ (by simp) _)

theorem l7Val_num (o : Int) (m : Bool) (x : Int) (w : World) :
    Calls Try.prog 33 #[.agg #[.int .i64 1, .int .i64 o, .bool m], .int .i64 x] w fun e w' => e = .returned (.agg #[.int .i64 1, .int .i64 x]) ∧ Below w.heap.size w w' := by
  go_enter Try.func33, Try.ntmps33
  go_wp2_with fail
  refine (l5NumVal_any x _).mono ?_
  rintro e w1 ⟨rfl, hb⟩
  have R := hide ((Rec.new' (w.alloc (.cells #[.int .i64 1, .int .i64 o, .bool m] 27)) 24 [.int .i64 0, .int .i64 0] _ rfl).below hb (by simp))
  have c0 := R.out.cell (o := 0) rfl
  have c1 := R.out.cell (o := 1) rfl
  have f0 := R.out.frozen 0
  have f1 := R.out.frozen 1
  have RF := hide ((R.out.set 0 (.int .i64 1)).set 1 (.int .i64 x))
  have r0 := RF.out.cell (o := 0) rfl
  have r1 := RF.out.cell (o := 1) rfl
  have B : Hid (Below w.heap.size w w1) := Below.trans (by (repeat (first | exact Below.refl _ _ | refine Below.alloc ?_ (by simp) _))) (hb.mono (by simp; omega))
  simp only [World.size_alloc] at c0 c1 f0 f1 r0 r1
  clear hb
  go_wp2_with fail
  refine bodyPost_ret (v := .agg #[.int .i64 1, .int .i64 x]) (by simp [results, Try.results33, go_sem, r0, r1]) rfl ⟨rfl, ?_⟩
  exact (B.out.setCell (by simp) _).setCell (by simp) _

/-- What l7Val answers of a reference. -/
def L7Val (x a b : Int) : Prop := 0 ≤ x → a = (if x = 0 then 2 else if x % 2 = 1 then 3 else 4) ∧ b = (if x = 0 then 0 else if x % 2 = 1 then x / 2 else x / 2 - 1)

theorem l7Val_ref (k o : Int) (m : Bool) (x : Int) (w : World) (h : ¬ k = 1) (hx : x ≤ 9223372036854775807) (hx' : -9223372036854775808 ≤ x) (hn : 0 ≤ x) :
    Calls Try.prog 33 #[.agg #[.int .i64 k, .int .i64 o, .bool m], .int .i64 x] w fun e w' => ∃ a b, e = .returned (.agg #[.int .i64 a, .int .i64 b]) ∧ L7Val x a b ∧ Below w.heap.size w w' := by
  by_cases h0 : x = 0
  · subst h0
    go_enter Try.func33, Try.ntmps33
    go_wp2_with fail
    refine bodyPost_ret (v := .agg #[.int .i64 2, .int .i64 0]) (by simp [results, Try.results33, go_sem]) rfl ⟨2, 0, rfl, fun _ => ⟨by simp, by simp⟩, ?_⟩
    repeat (first | exact Below.refl _ _ | refine Below.setCell ?_ (by simp) _ | refine Below.alloc ?_ (by simp) _)
  by_cases h1 : x % 2 = 1
  · go_enter Try.func33, Try.ntmps33
    go_wp2_with fail
    refine bodyPost_ret (v := .agg #[.int .i64 3, .int .i64 (x / 2)]) (by simp [results, Try.results33, go_sem]) rfl ⟨3, x / 2, rfl, fun _ => ⟨by simp [h0, h1], by simp [h0, h1]⟩, ?_⟩
    repeat (first | exact Below.refl _ _ | refine Below.setCell ?_ (by simp) _ | refine Below.alloc ?_ (by simp) _)
  · have h2 : (x % 2 == 1) = false := by simpa using h1
    go_enter Try.func33, Try.ntmps33
    go_wp2_with fail
    refine bodyPost_ret (v := .agg #[.int .i64 4, .int .i64 (x / 2 - 1)]) (by simp [results, Try.results33, go_sem]) rfl ⟨4, x / 2 - 1, rfl, fun _ => ⟨by simp [h0, h1], by simp [h0, h1]⟩, ?_⟩
    repeat (first | exact Below.refl _ _ | refine Below.setCell ?_ (by simp) _ | refine Below.alloc ?_ (by simp) _)

theorem l7Val_minus (k o : Int) (m : Bool) (x : Int) (h : ¬ k = 1) (hx : x ≤ 9223372036854775807) (hx' : -9223372036854775808 ≤ x) (hn : x < 0) :
    ∃ a b : Int, ∀ w, Calls Try.prog 33 #[.agg #[.int .i64 k, .int .i64 o, .bool m], .int .i64 x] w fun e w' => e = .returned (.agg #[.int .i64 a, .int .i64 b]) ∧ Below w.heap.size w w' := by
  have h0 : ¬ x = 0 := by omega
  by_cases h1 : (x.tmod 2 == 1) = true
  · refine ⟨3, x.tdiv 2, fun w => ?_⟩
    go_enter Try.func33, Try.ntmps33
    go_wp2_with fail
    refine bodyPost_ret (v := .agg #[.int .i64 3, .int .i64 (x.tdiv 2)]) (by simp [results, Try.results33, go_sem]) rfl ⟨rfl, ?_⟩
    repeat (first | exact Below.refl _ _ | refine Below.setCell ?_ (by simp) _ | refine Below.alloc ?_ (by simp) _)
  · have h1' : (x.tmod 2 == 1) = false := by simpa using h1
    refine ⟨4, wrap64 (x.tdiv 2 - 1), fun w => ?_⟩
    clear h1
    go_enter Try.func33, Try.ntmps33
    go_wp2_with fail
    refine bodyPost_ret (v := .agg #[.int .i64 4, .int .i64 (wrap64 (x.tdiv 2 - 1))]) (by simp [results, Try.results33, go_sem]) rfl ⟨rfl, ?_⟩
    repeat (first | exact Below.refl _ _ | refine Below.setCell ?_ (by simp) _ | refine Below.alloc ?_ (by simp) _)

set_option maxHeartbeats 1600000 in
theorem specWordVal_low (k o : Int) (m : Bool) (x a b : Int) (w : World) (h1 : k < 1)
    (C : Hid (∀ W, Calls Try.prog 33 #[.agg #[.int .i64 k, .int .i64 o, .bool m], .int .i64 x] W fun e w' => e = .returned (.agg #[.int .i64 a, .int .i64 b]) ∧ Below W.heap.size W w')) :
    Calls Try.prog 12 #[.agg #[.int .i64 k, .int .i64 o, .bool m], .int .i64 x] w fun e w' => e = .returned (.tuple #[.agg #[.int .i64 0, .int .i64 0], .bool false]) ∧ Below w.heap.size w w' := by
  go_enter Try.func12, Try.ntmps12
  go_wp2_with fail
  refine (C.out _).mono ?_
  rintro e w1 ⟨rfl, hb⟩
  have B1 : Hid (Below w.heap.size w w1) := Below.trans (by (repeat (first | exact Below.refl _ _ | refine Below.alloc ?_ (by simp) _))) (hb.mono (by simp; omega))
  have P1 := hide (((Rec.new' w 27 [.int .i64 k, .int .i64 o, .bool m] _ rfl).alloc (.cells #[.int .i64 0, .int .i64 0] 24)).below hb (by simp; omega))
  have Q1 := hide ((Rec.new' (w.alloc (.cells #[.int .i64 k, .int .i64 o, .bool m] 27)) 24 [.int .i64 0, .int .i64 0] (w.heap.size + 1) (by simp)).below hb (by simp))
  have s1 := P1.out.lt
  have s2 := Q1.out.lt
  have p0 := P1.out.cell (o := 0) rfl
  have q0 := Q1.out.cell (o := 0) rfl
  have q1 := Q1.out.cell (o := 1) rfl
  have y0 := Q1.out.frozen 0
  have y1 := Q1.out.frozen 1
  have RF := hide (((Q1.out.set 0 (.int .i64 0)).set 1 (.int .i64 0)).alloc (.cells #[.int .i64 a, .int .i64 b] 24))
  have r0 := RF.out.cell (o := 0) rfl
  have r1 := RF.out.cell (o := 1) rfl
  clear hb
  go_wp2_with fail
  refine bodyPost_ret (v := .tuple #[.agg #[.int .i64 0, .int .i64 0], .bool false]) (by simp [results, Try.results12, go_sem, r0, r1]) rfl ⟨rfl, ?_⟩
  exact ((B1.out.setCell (by simp) _).setCell (by simp) _).alloc (by have := B1.out.size; simp; omega) _

set_option maxHeartbeats 1600000 in
theorem specWordVal_high (k o : Int) (m : Bool) (x a b : Int) (w : World) (h1 : 3 < k)
    (C : Hid (∀ W, Calls Try.prog 33 #[.agg #[.int .i64 k, .int .i64 o, .bool m], .int .i64 x] W fun e w' => e = .returned (.agg #[.int .i64 a, .int .i64 b]) ∧ Below W.heap.size W w')) :
    Calls Try.prog 12 #[.agg #[.int .i64 k, .int .i64 o, .bool m], .int .i64 x] w fun e w' => e = .returned (.tuple #[.agg #[.int .i64 0, .int .i64 0], .bool false]) ∧ Below w.heap.size w w' := by
  have h2 : ¬ k < 1 := by omega
  go_enter Try.func12, Try.ntmps12
  go_wp2_with fail
  refine (C.out _).mono ?_
  rintro e w1 ⟨rfl, hb⟩
  have B1 : Hid (Below w.heap.size w w1) := Below.trans (by (repeat (first | exact Below.refl _ _ | refine Below.alloc ?_ (by simp) _))) (hb.mono (by simp; omega))
  have P1 := hide (((Rec.new' w 27 [.int .i64 k, .int .i64 o, .bool m] _ rfl).alloc (.cells #[.int .i64 0, .int .i64 0] 24)).below hb (by simp; omega))
  have Q1 := hide ((Rec.new' (w.alloc (.cells #[.int .i64 k, .int .i64 o, .bool m] 27)) 24 [.int .i64 0, .int .i64 0] (w.heap.size + 1) (by simp)).below hb (by simp))
  have s1 := P1.out.lt
  have s2 := Q1.out.lt
  have p0 := P1.out.cell (o := 0) rfl
  have q0 := Q1.out.cell (o := 0) rfl
  have q1 := Q1.out.cell (o := 1) rfl
  have y0 := Q1.out.frozen 0
  have y1 := Q1.out.frozen 1
  have RF := hide (((Q1.out.set 0 (.int .i64 0)).set 1 (.int .i64 0)).alloc (.cells #[.int .i64 a, .int .i64 b] 24))
  have r0 := RF.out.cell (o := 0) rfl
  have r1 := RF.out.cell (o := 1) rfl
  clear hb
  go_wp2_with fail
  refine bodyPost_ret (v := .tuple #[.agg #[.int .i64 0, .int .i64 0], .bool false]) (by simp [results, Try.results12, go_sem, r0, r1]) rfl ⟨rfl, ?_⟩
  exact ((B1.out.setCell (by simp) _).setCell (by simp) _).alloc (by have := B1.out.size; simp; omega) _

set_option maxHeartbeats 1600000 in
theorem specWordVal_minus (k o : Int) (m : Bool) (x a b : Int) (w : World) (h1 : 1 ≤ k) (h2 : k ≤ 3) (h3 : x < 0)
    (C : Hid (∀ W, Calls Try.prog 33 #[.agg #[.int .i64 k, .int .i64 o, .bool m], .int .i64 x] W fun e w' => e = .returned (.agg #[.int .i64 a, .int .i64 b]) ∧ Below W.heap.size W w')) :
    Calls Try.prog 12 #[.agg #[.int .i64 k, .int .i64 o, .bool m], .int .i64 x] w fun e w' => e = .returned (.tuple #[.agg #[.int .i64 0, .int .i64 0], .bool false]) ∧ Below w.heap.size w w' := by
  go_enter Try.func12, Try.ntmps12
  go_wp2_with fail
  refine (C.out _).mono ?_
  rintro e w1 ⟨rfl, hb⟩
  have B1 : Hid (Below w.heap.size w w1) := Below.trans (by (repeat (first | exact Below.refl _ _ | refine Below.alloc ?_ (by simp) _))) (hb.mono (by simp; omega))
  have P1 := hide (((Rec.new' w 27 [.int .i64 k, .int .i64 o, .bool m] _ rfl).alloc (.cells #[.int .i64 0, .int .i64 0] 24)).below hb (by simp; omega))
  have Q1 := hide ((Rec.new' (w.alloc (.cells #[.int .i64 k, .int .i64 o, .bool m] 27)) 24 [.int .i64 0, .int .i64 0] (w.heap.size + 1) (by simp)).below hb (by simp))
  have s1 := P1.out.lt
  have s2 := Q1.out.lt
  have p0 := P1.out.cell (o := 0) rfl
  have q0 := Q1.out.cell (o := 0) rfl
  have q1 := Q1.out.cell (o := 1) rfl
  have y0 := Q1.out.frozen 0
  have y1 := Q1.out.frozen 1
  have RF := hide (((Q1.out.set 0 (.int .i64 0)).set 1 (.int .i64 0)).alloc (.cells #[.int .i64 a, .int .i64 b] 24))
  have r0 := RF.out.cell (o := 0) rfl
  have r1 := RF.out.cell (o := 1) rfl
  clear hb
  go_wp2_with fail
  refine bodyPost_ret (v := .tuple #[.agg #[.int .i64 0, .int .i64 0], .bool false]) (by simp [results, Try.results12, go_sem, r0, r1]) rfl ⟨rfl, ?_⟩
  exact ((B1.out.setCell (by simp) _).setCell (by simp) _).alloc (by have := B1.out.size; simp; omega) _

set_option maxHeartbeats 1600000 in
theorem specWordVal_unform (k o : Int) (m : Bool) (x a b : Int) (w : World) (h1 : 1 ≤ k) (h2 : k ≤ 3) (h3 : 0 ≤ x) (hf : valForm a b 160 = false)
    (C : Hid (∀ W, Calls Try.prog 33 #[.agg #[.int .i64 k, .int .i64 o, .bool m], .int .i64 x] W fun e w' => e = .returned (.agg #[.int .i64 a, .int .i64 b]) ∧ Below W.heap.size W w')) :
    Calls Try.prog 12 #[.agg #[.int .i64 k, .int .i64 o, .bool m], .int .i64 x] w fun e w' => e = .returned (.tuple #[.agg #[.int .i64 0, .int .i64 0], .bool false]) ∧ Below w.heap.size w w' := by
  go_enter Try.func12, Try.ntmps12
  go_wp2_with fail
  refine (C.out _).mono ?_
  rintro e w1 ⟨rfl, hb⟩
  have B1 : Hid (Below w.heap.size w w1) := Below.trans (by (repeat (first | exact Below.refl _ _ | refine Below.alloc ?_ (by simp) _))) (hb.mono (by simp; omega))
  have P1 := hide (((Rec.new' w 27 [.int .i64 k, .int .i64 o, .bool m] _ rfl).alloc (.cells #[.int .i64 0, .int .i64 0] 24)).below hb (by simp; omega))
  have Q1 := hide ((Rec.new' (w.alloc (.cells #[.int .i64 k, .int .i64 o, .bool m] 27)) 24 [.int .i64 0, .int .i64 0] (w.heap.size + 1) (by simp)).below hb (by simp))
  have s1 := P1.out.lt
  have s2 := Q1.out.lt
  have p0 := P1.out.cell (o := 0) rfl
  have q0 := Q1.out.cell (o := 0) rfl
  have q1 := Q1.out.cell (o := 1) rfl
  have y0 := Q1.out.frozen 0
  have y1 := Q1.out.frozen 1
  clear hb
  go_wp2_with fail
  refine (l7Form_any a b _).mono ?_
  rintro e w2 ⟨rfl, hb2⟩
  have B2 : Hid (Below w.heap.size w w2) := (B1.out.alloc B1.out.size _).trans (hb2.mono (by have := B1.out.size; simp; omega))
  have P2 := hide ((P1.out.alloc (.cells #[.int .i64 a, .int .i64 b] 24)).below hb2 (by simp; omega))
  have Q2 := hide ((Q1.out.alloc (.cells #[.int .i64 a, .int .i64 b] 24)).below hb2 (by simp; omega))
  have V2 := hide ((Rec.new' w1 24 [.int .i64 a, .int .i64 b] _ rfl).below hb2 (by simp))
  clear p0 q0 q1 y0 y1
  have p0 := P2.out.cell (o := 0) rfl
  have q0 := Q2.out.cell (o := 0) rfl
  have q1 := Q2.out.cell (o := 1) rfl
  have y0 := Q2.out.frozen 0
  have y1 := Q2.out.frozen 1
  have v0 := V2.out.cell (o := 0) rfl
  have v1 := V2.out.cell (o := 1) rfl
  rw [hf]
  clear hb2
  have RF := hide ((Q2.out.set 0 (.int .i64 0)).set 1 (.int .i64 0))
  have r0 := RF.out.cell (o := 0) rfl
  have r1 := RF.out.cell (o := 1) rfl
  clear hf
  go_wp2_with fail
  all_goals refine bodyPost_ret (v := .tuple #[.agg #[.int .i64 0, .int .i64 0], .bool false]) (by simp [results, Try.results12, go_sem, r0, r1]) rfl ⟨rfl, ?_⟩
  all_goals exact (B2.out.setCell (by simp) _).setCell (by simp) _

set_option maxHeartbeats 1600000 in
theorem specWordVal_sure (k o : Int) (m : Bool) (x a b : Int) (w : World) (h3 : 0 ≤ x) (hk : k = 3) (ha : a = 2) (hf : valForm a b 160 = true)
    (C : Hid (∀ W, Calls Try.prog 33 #[.agg #[.int .i64 k, .int .i64 o, .bool m], .int .i64 x] W fun e w' => e = .returned (.agg #[.int .i64 a, .int .i64 b]) ∧ Below W.heap.size W w')) :
    Calls Try.prog 12 #[.agg #[.int .i64 k, .int .i64 o, .bool m], .int .i64 x] w fun e w' => e = .returned (.tuple #[.agg #[.int .i64 0, .int .i64 0], .bool false]) ∧ Below w.heap.size w w' := by
  subst hk ha
  go_enter Try.func12, Try.ntmps12
  go_wp2_with fail
  refine (C.out _).mono ?_
  rintro e w1 ⟨rfl, hb⟩
  have B1 : Hid (Below w.heap.size w w1) := Below.trans (by (repeat (first | exact Below.refl _ _ | refine Below.alloc ?_ (by simp) _))) (hb.mono (by simp; omega))
  have P1 := hide (((Rec.new' w 27 [.int .i64 3, .int .i64 o, .bool m] _ rfl).alloc (.cells #[.int .i64 0, .int .i64 0] 24)).below hb (by simp; omega))
  have Q1 := hide ((Rec.new' (w.alloc (.cells #[.int .i64 3, .int .i64 o, .bool m] 27)) 24 [.int .i64 0, .int .i64 0] (w.heap.size + 1) (by simp)).below hb (by simp))
  have s1 := P1.out.lt
  have s2 := Q1.out.lt
  have p0 := P1.out.cell (o := 0) rfl
  have q0 := Q1.out.cell (o := 0) rfl
  have q1 := Q1.out.cell (o := 1) rfl
  have y0 := Q1.out.frozen 0
  have y1 := Q1.out.frozen 1
  clear hb
  go_wp2_with fail
  refine (l7Form_any 2 b _).mono ?_
  rintro e w2 ⟨rfl, hb2⟩
  have B2 : Hid (Below w.heap.size w w2) := (B1.out.alloc B1.out.size _).trans (hb2.mono (by have := B1.out.size; simp; omega))
  have P2 := hide ((P1.out.alloc (.cells #[.int .i64 2, .int .i64 b] 24)).below hb2 (by simp; omega))
  have Q2 := hide ((Q1.out.alloc (.cells #[.int .i64 2, .int .i64 b] 24)).below hb2 (by simp; omega))
  have V2 := hide ((Rec.new' w1 24 [.int .i64 2, .int .i64 b] _ rfl).below hb2 (by simp))
  clear p0 q0 q1 y0 y1
  have p0 := P2.out.cell (o := 0) rfl
  have q0 := Q2.out.cell (o := 0) rfl
  have q1 := Q2.out.cell (o := 1) rfl
  have y0 := Q2.out.frozen 0
  have y1 := Q2.out.frozen 1
  have v0 := V2.out.cell (o := 0) rfl
  have v1 := V2.out.cell (o := 1) rfl
  rw [hf]
  clear hb2
  have RF := hide ((Q2.out.set 0 (.int .i64 0)).set 1 (.int .i64 0))
  have r0 := RF.out.cell (o := 0) rfl
  have r1 := RF.out.cell (o := 1) rfl
  clear hf
  go_wp2_with fail
  all_goals refine bodyPost_ret (v := .tuple #[.agg #[.int .i64 0, .int .i64 0], .bool false]) (by simp [results, Try.results12, go_sem, r0, r1]) rfl ⟨rfl, ?_⟩
  all_goals exact (B2.out.setCell (by simp) _).setCell (by simp) _

set_option maxHeartbeats 1600000 in
theorem specWordVal_yes (k o : Int) (m : Bool) (x a b : Int) (w : World) (h1 : 1 ≤ k) (h2 : k ≤ 3) (h3 : 0 ≤ x) (hf : valForm a b 160 = true) (hd : ¬ k = 3)
    (C : Hid (∀ W, Calls Try.prog 33 #[.agg #[.int .i64 k, .int .i64 o, .bool m], .int .i64 x] W fun e w' => e = .returned (.agg #[.int .i64 a, .int .i64 b]) ∧ Below W.heap.size W w')) :
    Calls Try.prog 12 #[.agg #[.int .i64 k, .int .i64 o, .bool m], .int .i64 x] w fun e w' => e = .returned (.tuple #[.agg #[.int .i64 a, .int .i64 b], .bool true]) ∧ Below w.heap.size w w' := by
  go_enter Try.func12, Try.ntmps12
  go_wp2_with fail
  refine (C.out _).mono ?_
  rintro e w1 ⟨rfl, hb⟩
  have B1 : Hid (Below w.heap.size w w1) := Below.trans (by (repeat (first | exact Below.refl _ _ | refine Below.alloc ?_ (by simp) _))) (hb.mono (by simp; omega))
  have P1 := hide (((Rec.new' w 27 [.int .i64 k, .int .i64 o, .bool m] _ rfl).alloc (.cells #[.int .i64 0, .int .i64 0] 24)).below hb (by simp; omega))
  have Q1 := hide ((Rec.new' (w.alloc (.cells #[.int .i64 k, .int .i64 o, .bool m] 27)) 24 [.int .i64 0, .int .i64 0] (w.heap.size + 1) (by simp)).below hb (by simp))
  have s1 := P1.out.lt
  have s2 := Q1.out.lt
  have p0 := P1.out.cell (o := 0) rfl
  have q0 := Q1.out.cell (o := 0) rfl
  have q1 := Q1.out.cell (o := 1) rfl
  have y0 := Q1.out.frozen 0
  have y1 := Q1.out.frozen 1
  clear hb
  go_wp2_with fail
  refine (l7Form_any a b _).mono ?_
  rintro e w2 ⟨rfl, hb2⟩
  have B2 : Hid (Below w.heap.size w w2) := (B1.out.alloc B1.out.size _).trans (hb2.mono (by have := B1.out.size; simp; omega))
  have P2 := hide ((P1.out.alloc (.cells #[.int .i64 a, .int .i64 b] 24)).below hb2 (by simp; omega))
  have Q2 := hide ((Q1.out.alloc (.cells #[.int .i64 a, .int .i64 b] 24)).below hb2 (by simp; omega))
  have V2 := hide ((Rec.new' w1 24 [.int .i64 a, .int .i64 b] _ rfl).below hb2 (by simp))
  clear p0 q0 q1 y0 y1
  have p0 := P2.out.cell (o := 0) rfl
  have q0 := Q2.out.cell (o := 0) rfl
  have q1 := Q2.out.cell (o := 1) rfl
  have y0 := Q2.out.frozen 0
  have y1 := Q2.out.frozen 1
  have v0 := V2.out.cell (o := 0) rfl
  have v1 := V2.out.cell (o := 1) rfl
  rw [hf]
  clear hb2
  have RF := hide ((Q2.out.set 0 (.int .i64 a)).set 1 (.int .i64 b))
  have r0 := RF.out.cell (o := 0) rfl
  have r1 := RF.out.cell (o := 1) rfl
  clear hf
  go_wp2_with fail
  all_goals refine bodyPost_ret (v := .tuple #[.agg #[.int .i64 a, .int .i64 b], .bool true]) (by simp [results, Try.results12, go_sem, r0, r1]) rfl ⟨rfl, ?_⟩
  all_goals exact (B2.out.setCell (by simp) _).setCell (by simp) _

set_option maxHeartbeats 1600000 in
theorem specWordVal_yes3 (k o : Int) (m : Bool) (x a b : Int) (w : World) (h3 : 0 ≤ x) (hk : k = 3) (hf : valForm a b 160 = true) (hd : ¬ a = 2)
    (C : Hid (∀ W, Calls Try.prog 33 #[.agg #[.int .i64 k, .int .i64 o, .bool m], .int .i64 x] W fun e w' => e = .returned (.agg #[.int .i64 a, .int .i64 b]) ∧ Below W.heap.size W w')) :
    Calls Try.prog 12 #[.agg #[.int .i64 k, .int .i64 o, .bool m], .int .i64 x] w fun e w' => e = .returned (.tuple #[.agg #[.int .i64 a, .int .i64 b], .bool true]) ∧ Below w.heap.size w w' := by
  subst hk
  have hd' : (a == 2) = false := by simpa using hd
  go_enter Try.func12, Try.ntmps12
  go_wp2_with fail
  refine (C.out _).mono ?_
  rintro e w1 ⟨rfl, hb⟩
  have B1 : Hid (Below w.heap.size w w1) := Below.trans (by (repeat (first | exact Below.refl _ _ | refine Below.alloc ?_ (by simp) _))) (hb.mono (by simp; omega))
  have P1 := hide (((Rec.new' w 27 [.int .i64 3, .int .i64 o, .bool m] _ rfl).alloc (.cells #[.int .i64 0, .int .i64 0] 24)).below hb (by simp; omega))
  have Q1 := hide ((Rec.new' (w.alloc (.cells #[.int .i64 3, .int .i64 o, .bool m] 27)) 24 [.int .i64 0, .int .i64 0] (w.heap.size + 1) (by simp)).below hb (by simp))
  have s1 := P1.out.lt
  have s2 := Q1.out.lt
  have p0 := P1.out.cell (o := 0) rfl
  have q0 := Q1.out.cell (o := 0) rfl
  have q1 := Q1.out.cell (o := 1) rfl
  have y0 := Q1.out.frozen 0
  have y1 := Q1.out.frozen 1
  clear hb
  go_wp2_with fail
  refine (l7Form_any a b _).mono ?_
  rintro e w2 ⟨rfl, hb2⟩
  have B2 : Hid (Below w.heap.size w w2) := (B1.out.alloc B1.out.size _).trans (hb2.mono (by have := B1.out.size; simp; omega))
  have P2 := hide ((P1.out.alloc (.cells #[.int .i64 a, .int .i64 b] 24)).below hb2 (by simp; omega))
  have Q2 := hide ((Q1.out.alloc (.cells #[.int .i64 a, .int .i64 b] 24)).below hb2 (by simp; omega))
  have V2 := hide ((Rec.new' w1 24 [.int .i64 a, .int .i64 b] _ rfl).below hb2 (by simp))
  clear p0 q0 q1 y0 y1
  have p0 := P2.out.cell (o := 0) rfl
  have q0 := Q2.out.cell (o := 0) rfl
  have q1 := Q2.out.cell (o := 1) rfl
  have y0 := Q2.out.frozen 0
  have y1 := Q2.out.frozen 1
  have v0 := V2.out.cell (o := 0) rfl
  have v1 := V2.out.cell (o := 1) rfl
  rw [hf]
  clear hb2
  have RF := hide ((Q2.out.set 0 (.int .i64 a)).set 1 (.int .i64 b))
  have r0 := RF.out.cell (o := 0) rfl
  have r1 := RF.out.cell (o := 1) rfl
  clear hf
  go_wp2_with fail
  all_goals refine bodyPost_ret (v := .tuple #[.agg #[.int .i64 a, .int .i64 b], .bool true]) (by simp [results, Try.results12, go_sem, r0, r1]) rfl ⟨rfl, ?_⟩
  all_goals exact (B2.out.setCell (by simp) _).setCell (by simp) _

theorem specWordVal_any (k o : Int) (m : Bool) (x : Int) (w : World) (hx : x ≤ 9223372036854775807) (hx' : -9223372036854775808 ≤ x) :
    Calls Try.prog 12 #[.agg #[.int .i64 k, .int .i64 o, .bool m], .int .i64 x] w fun e w' => e = .returned (valOr (wordVal k x)) ∧ Below w.heap.size w w' := by
  have zip : valOr none = .tuple #[.agg #[.int .i64 0, .int .i64 0], .bool false] := rfl
  have hit : ∀ a b, valOr (some (a, b)) = .tuple #[.agg #[.int .i64 a, .int .i64 b], .bool true] := fun _ _ => rfl
  have go : ∀ a b, (∀ W, Calls Try.prog 33 #[.agg #[.int .i64 k, .int .i64 o, .bool m], .int .i64 x] W fun e w' => e = .returned (.agg #[.int .i64 a, .int .i64 b]) ∧ Below W.heap.size W w') → (0 ≤ x → 1 ≤ k → k ≤ 3 → wordVal k x = if valForm a b 160 = true ∧ ¬ (k = 3 ∧ a = 2) then some (a, b) else none) → Calls Try.prog 12 #[.agg #[.int .i64 k, .int .i64 o, .bool m], .int .i64 x] w fun e w' => e = .returned (valOr (wordVal k x)) ∧ Below w.heap.size w w' := by
    intro a b C hv
    by_cases h1 : k < 1
    · rw [show wordVal k x = none by simp [wordVal, show ¬ k = 1 by omega, show ¬ (k = 2 ∨ k = 3) by omega]]
      exact specWordVal_low k o m x a b w h1 C
    by_cases h2 : 3 < k
    · rw [show wordVal k x = none by simp [wordVal, show ¬ k = 1 by omega, show ¬ (k = 2 ∨ k = 3) by omega]]
      exact specWordVal_high k o m x a b w h2 C
    by_cases h3 : x < 0
    · rw [show wordVal k x = none by simp [wordVal, h3]]
      exact specWordVal_minus k o m x a b w (by omega) (by omega) h3 C
    rw [hv (by omega) (by omega) (by omega)]
    by_cases hf : valForm a b 160 = true
    · by_cases h4 : k = 3
      · by_cases h5 : a = 2
        · rw [if_neg (fun e => e.2 ⟨h4, h5⟩)]
          exact specWordVal_sure k o m x a b w (by omega) h4 h5 hf C
        · rw [if_pos ⟨hf, fun e => h5 e.2⟩]
          exact specWordVal_yes3 k o m x a b w (by omega) h4 hf h5 C
      · rw [if_pos ⟨hf, fun e => h4 e.1⟩]
        exact specWordVal_yes k o m x a b w (by omega) (by omega) (by omega) hf h4 C
    · rw [if_neg (fun e => hf e.1)]
      exact specWordVal_unform k o m x a b w (by omega) (by omega) (by omega) (by simpa using hf) C
  by_cases h1 : k = 1
  · subst h1
    refine go 1 x (fun W => l7Val_num o m x W) (fun h0 _ _ => ?_)
    simp [wordVal, valForm, h0, show ¬ x < 0 by omega]
  · by_cases h0 : 0 ≤ x
    · refine go (if x = 0 then 2 else if x % 2 = 1 then 3 else 4) (if x = 0 then 0 else if x % 2 = 1 then x / 2 else x / 2 - 1) (fun W => (l7Val_ref k o m x W h1 hx hx' h0).mono ?_) (fun _ h2 h3 => ?_)
      · rintro e w' ⟨a, b, rfl, hl, hb⟩
        obtain ⟨rfl, rfl⟩ := hl h0
        exact ⟨rfl, hb⟩
      · have hk : k = 2 ∨ k = 3 := by omega
        by_cases e0 : x = 0
        · subst e0
          rcases hk with rfl | rfl <;> simp [wordVal, valForm]
        · by_cases e1 : x % 2 = 1
          · have g1 : 0 ≤ x / 2 := by omega
            rcases hk with rfl | rfl <;> simp [wordVal, valForm, e0, e1, show ¬ x < 0 by omega, g1]
          · have g1 : 1 ≤ x / 2 := by omega
            rcases hk with rfl | rfl <;> simp [wordVal, valForm, e0, e1, show ¬ x < 0 by omega, g1]
    · obtain ⟨a, b, hab⟩ : ∃ a b : Int, ∀ W, Calls Try.prog 33 #[.agg #[.int .i64 k, .int .i64 o, .bool m], .int .i64 x] W fun e w' => e = .returned (.agg #[.int .i64 a, .int .i64 b]) ∧ Below W.heap.size W w' := l7Val_minus k o m x h1 hx hx' (by omega)
      exact go a b hab (fun e => absurd e h0)
end Go.Proofs.Ytogdkabmhhbelaa
