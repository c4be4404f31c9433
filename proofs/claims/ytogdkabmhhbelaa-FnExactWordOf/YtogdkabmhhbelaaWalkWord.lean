/- The laws FnExactWordOf and FnExactWordVal, walked. -/
import Derived.Test.YtogdkabmhhbelaaWord4
namespace Go.Proofs.Ytogdkabmhhbelaa
open Go.ChangeShapes Go.WideShapes Go.ChangeAt Go.RowKit
set_option linter.unusedVariables false

theorem toVal_two (k n : Int) (w : World) :
    Calls Try.prog 14 #[.agg #[.int .i64 k, .int .i64 n]] w fun e w' => e = .returned (.agg #[.int .i64 k, .int .i64 n]) ∧ Below w.heap.size w w' := by
  go_enter Try.func14, Try.ntmps14
  go_wp2
  refine bodyPost_ret (v := .agg #[.int .i64 k, .int .i64 n]) (by simp [results, Try.results14, go_sem]) rfl ⟨rfl, ?_⟩
  repeat (first | exact Below.refl _ _ | refine Below.alloc ?_ (by simp <;> omega) _)
theorem eqVal_two (k n : Int) (w : World) :
    Calls Try.prog 16 #[.agg #[.int .i64 k, .int .i64 n], .agg #[.int .i64 k, .int .i64 n]] w fun e w' => e = .returned (.bool true) ∧ Below w.heap.size w w' := by
  go_enter Try.func16, Try.ntmps16
  go_wp2_with fail
  go_ret
  exact ⟨rfl, ((Below.refl _ _).alloc (Nat.le_refl _) _).alloc (by simp) _⟩
theorem toField_three (k o : Int) (m : Bool) (w : World) :
    Calls Try.prog 15 #[.agg #[.int .i64 k, .int .i64 o, .bool m]] w fun e w' => e = .returned (.agg #[.int .i64 k, .int .i64 o, .bool m]) ∧ Below w.heap.size w w' := by
  go_enter Try.func15, Try.ntmps15
  go_wp2
  refine bodyPost_ret (v := .agg #[.int .i64 k, .int .i64 o, .bool m]) (by simp [results, Try.results15, go_sem]) rfl ⟨rfl, ?_⟩
  repeat (first | exact Below.refl _ _ | refine Below.alloc ?_ (by simp <;> omega) _)

set_option maxHeartbeats 800000 in
theorem fnExactWordOf_walk (k n : Int) (_ : (Lit.int .i64 k).wf = true) (_ : (Lit.int .i64 n).wf = true) (w : World) :
    Calls Try.prog 4 #[.agg #[.int .i64 k, .int .i64 n]] w fun e w' => e = .returned (.bool true) ∧ Below w.heap.size w w' := by
  go_enter Try.func4, Try.ntmps4
  go_wp2_with fail
  refine (toVal_two k n _).mono ?_
  rintro e w1 ⟨rfl, hb1⟩
  have B1 : Hid (Below w.heap.size w w1) := ((Below.refl _ _).alloc (Nat.le_refl _) _).trans (hb1.mono (by simp))
  have P1 := hide ((Rec.new' w 34 [.int .i64 k, .int .i64 n] _ rfl).below hb1 (by simp))
  have c0 := P1.out.cell (o := 0) rfl
  have c1 := P1.out.cell (o := 1) rfl
  clear hb1
  go_wp2_with fail
  refine (specWordOf_any k n _).mono ?_
  rintro e w2 ⟨rfl, hb2⟩
  have B2 : Hid (Below w.heap.size w w2) := B1.out.trans (hb2.mono B1.out.size)
  have P2 := hide (P1.out.below hb2 P1.out.lt)
  clear c0 c1
  have c0 := P2.out.cell (o := 0) rfl
  have c1 := P2.out.cell (o := 1) rfl
  clear hb2
  go_wp2_with fail
  refine (toVal_two k n _).mono ?_
  rintro e w3 ⟨rfl, hb3⟩
  have B3 : Hid (Below w.heap.size w w3) := B2.out.trans (hb3.mono B2.out.size)
  clear c0 c1 hb3
  go_wp2_with fail
  refine (implWordOf_any k n _).mono ?_
  rintro e w4 ⟨rfl, hb4⟩
  go_wp2_with fail
  go_ret
  exact ⟨rfl, B3.out.trans (hb4.mono B3.out.size)⟩

set_option maxHeartbeats 1600000 in
theorem fnExactWordVal_walk (k o : Int) (m : Bool) (x : Int) (hx0 : (Lit.int .i64 x).wf = true) (w : World) :
    Calls Try.prog 5 #[.agg #[.int .i64 k, .int .i64 o, .bool m], .int .i64 x] w fun e w' => e = .returned (.bool true) ∧ Below w.heap.size w w' := by
  have hx : Hid (x ≤ 9223372036854775807 ∧ -9223372036854775808 ≤ x) := by
    simp [Lit.wf, IntKind.min, IntKind.max, IntKind.bits, IntKind.signed] at hx0
    exact ⟨by omega, by omega⟩
  clear hx0
  obtain ⟨p, q, r, hv⟩ := valOr_tuple (wordVal k x)
  have CS : Hid (∀ W, Calls Try.prog 12 #[.agg #[.int .i64 k, .int .i64 o, .bool m], .int .i64 x] W fun e w' => e = .returned (.tuple #[.agg #[.int .i64 p, .int .i64 q], .bool r]) ∧ Below W.heap.size W w') := fun W => by
    rw [← hv]; exact specWordVal_any k o m x W hx.out.1 hx.out.2
  have CI : Hid (∀ W, Calls Try.prog 11 #[.agg #[.int .i64 k, .int .i64 o, .bool m], .int .i64 x] W fun e w' => e = .returned (.tuple #[.agg #[.int .i64 p, .int .i64 q], .bool r]) ∧ Below W.heap.size W w') := fun W => by
    rw [← hv]; exact implWordVal_any k o m x W hx.out.1
  clear hv
  go_enter Try.func5, Try.ntmps5
  go_wp2_with fail
  refine (toField_three k o m _).mono ?_
  rintro e w1 ⟨rfl, hb1⟩
  have B1 : Hid (Below w.heap.size w w1) := ((Below.refl _ _).alloc (Nat.le_refl _) _).trans (hb1.mono (by simp))
  have P1 := hide ((Rec.new' w 37 [.int .i64 k, .int .i64 o, .bool m] _ rfl).below hb1 (by simp))
  have c0 := P1.out.cell (o := 0) rfl
  have c1 := P1.out.cell (o := 1) rfl
  have c2 := P1.out.cell (o := 2) rfl
  clear hb1
  go_wp2_with fail
  refine (CS.out _).mono ?_
  rintro e w2 ⟨rfl, hb2⟩
  have B2 : Hid (Below w.heap.size w w2) := B1.out.trans (hb2.mono B1.out.size)
  have P2 := hide (P1.out.below hb2 P1.out.lt)
  have s2 := P2.out.lt
  clear c0 c1 c2
  have c0 := P2.out.cell (o := 0) rfl
  have c1 := P2.out.cell (o := 1) rfl
  have c2 := P2.out.cell (o := 2) rfl
  clear hb2
  go_wp2_with fail
  refine (toField_three k o m _).mono ?_
  rintro e w3 ⟨rfl, hb3⟩
  have B3 : Hid (Below w.heap.size w w3) := (B2.out.alloc B2.out.size _).trans (hb3.mono (by have := B2.out.size; simp; omega))
  have Q3 := hide ((Rec.new' w2 24 [.int .i64 p, .int .i64 q] _ rfl).below hb3 (by simp))
  have s3 := Q3.out.lt
  clear c0 c1 c2 hb3
  have q0 := Q3.out.cell (o := 0) rfl
  have q1 := Q3.out.cell (o := 1) rfl
  go_wp2_with fail
  refine (CI.out _).mono ?_
  rintro e w4 ⟨rfl, hb4⟩
  have B4 : Hid (Below w.heap.size w w4) := B3.out.trans (hb4.mono B3.out.size)
  have Q4 := hide (Q3.out.below hb4 Q3.out.lt)
  have s4 := Q4.out.lt
  clear q0 q1 hb4
  have q0 := Q4.out.cell (o := 0) rfl
  have q1 := Q4.out.cell (o := 1) rfl
  go_wp2_with fail
  refine (eqVal_two p q _).mono ?_
  rintro e w5 ⟨rfl, hb5⟩
  have B5 : Hid (Below w.heap.size w w5) := (B4.out.alloc B4.out.size _).trans (hb5.mono (by have := B4.out.size; simp; omega))
  clear hb5
  go_wp2_with fail
  go_ret
  exact ⟨rfl, B5.out⟩
end Go.Proofs.Ytogdkabmhhbelaa
