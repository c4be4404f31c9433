/- What is drawn for FieldOk and SortOk: any field, and a number below 6. -/
import Derived.Test.YtfnipbnchkonoaaDoorKaDraw
namespace Go.Proofs.YtfnipbnchkonoaaDoor
open Go.ChangeShapes Go.WideShapes Go.ChangeAt Go.RowKit
set_option linter.unusedVariables false

set_option maxHeartbeats 1000000 in
theorem drawFieldOk_any (a : Option Addr) (cap n : Nat) (w : World) (hc : n ≤ cap) (h : BytesIn w w.heap.size a n) :
    Calls Tryd.prog 38 #[.slice a n cap] w fun e w' => ∃ (k o : Int) (m : Bool) (x : Int), e = .returned (.tuple #[.agg #[.int .i64 k, .int .i64 o, .bool m], .int .i64 x]) ∧ 0 ≤ x ∧ x < 6 ∧ Below w.heap.size w w' := by
  go_enter Tryd.func38, Tryd.ntmps38
  go_wp2_with fail
  refine (open_any a cap n _ hc ((h.keep ((Below.refl _ _).alloc (Nat.le_refl _) _)).wider (by simp))).mono ?_
  rintro e w1 ⟨rfl, r1, b1, s1⟩
  have R1 : Hid (Rec w1 w.heap.size 35 [.int .i64 0, .int .i64 0, .bool false]) := (Rec.new' _ _ _ _ rfl).below b1 (by simp)
  have O1 : Hid (Only (w.heap.size + 1) w w1) := (Only.of_below (Below.al (Below.refl _ _) (Nat.le_refl _) _)).trans (Only.of_below b1)
  simp only [World.size_alloc] at r1 s1
  clear b1 h
  go_wp2_with fail
  refine (pick_only (w.heap.size + 1) 0 _ w1 (by omega) r1).mono ?_
  rintro e w2 ⟨k2, rfl, _, l2, u2, r2, o2, s2⟩
  have h2 : k2 < 6 := u2 (by omega)
  have R2 : Hid (Rec w2 w.heap.size 35 [.int .i64 0, .int .i64 0, .bool false]) := R1.out.only o2 (by omega)
  have O2 : Hid (Only (w.heap.size + 1) w w2) := O1.out.trans o2
  clear u2 o2 r1
  go_wp2_with fail
  refine (l1Field_any (w.heap.size + 1) (0 + 1) (k2 + 1) w2 (by omega) r2 (by omega) (by omega)).mono ?_
  rintro e w3 ⟨fk, fo, fm, rfl, ⟨p3, hp3, r3⟩, o3⟩
  have R3 : Hid (Rec w3 w.heap.size 35 [.int .i64 0, .int .i64 0, .bool false]) := R2.out.only o3 (by omega)
  have O3 : Hid (Only (w.heap.size + 1) w w3) := O2.out.trans o3
  have z3 := r3.lt
  clear o3 r2
  go_wp2_with fail
  refine (pick_only (w.heap.size + 1) p3 _ _ (by omega) (r3.alloc _)).mono ?_
  rintro e w4 ⟨k4, rfl, _, l4, u4, r4, o4, s4⟩
  have R4 : Hid (Rec w4 w.heap.size 35 [.int .i64 0, .int .i64 0, .bool false]) := (R3.out.alloc _).only o4 (by omega)
  have S4 : Hid (Rec w4 w3.heap.size 35 [.int .i64 fk, .int .i64 fo, .bool fm]) := (Rec.new' _ _ _ _ rfl).only o4 (by omega)
  have O4 : Hid (Only (w.heap.size + 1) w w4) := (O3.out.alloc _).trans o4
  clear u4 o4 r3
  by_cases h4 : k4 = 0
  · subst h4
    go_wp2_with fail
    refine (pick_only (w.heap.size + 1) (p3 + 1) _ _ (by omega) r4).mono ?_
    rintro e w5 ⟨k5, rfl, _, l5, u5, r5, o5, s5⟩
    have h5 : k5 < 6 := u5 (by omega)
    have R5 : Hid (Rec w5 w.heap.size 35 [.int .i64 0, .int .i64 0, .bool false]) := R4.out.only o5 (by omega)
    have S5 : Hid (Rec w5 w3.heap.size 35 [.int .i64 fk, .int .i64 fo, .bool fm]) := S4.out.only o5 (by omega)
    have O5 : Hid (Only (w.heap.size + 1) w w5) := O4.out.trans o5
    clear u5 o5
    have d0_5 := R5.out.cell (o := 0) rfl
    have e0_5 := R5.out.frozen 0
    have i0_5 := S5.out.cell (o := 0) rfl
    have j0_5 := S5.out.frozen 0
    have d1_5 := R5.out.cell (o := 1) rfl
    have e1_5 := R5.out.frozen 1
    have i1_5 := S5.out.cell (o := 1) rfl
    have j1_5 := S5.out.frozen 1
    have d2_5 := R5.out.cell (o := 2) rfl
    have e2_5 := R5.out.frozen 2
    have i2_5 := S5.out.cell (o := 2) rfl
    have j2_5 := S5.out.frozen 2
    go_wp2_with fail
    refine bodyPost_ret (v := .tuple #[.agg #[.int .i64 (k5 - 1), .int .i64 fo, .bool fm], .int .i64 k2]) (by simp [results, Tryd.results38, go_sem, d0_5, d1_5, d2_5]) rfl ⟨_, _, _, _, rfl, l2, h2, ?_⟩
    (repeat (first | refine Below.setCell ?_ (by simp <;> omega) _ | exact (O5.out.below (by omega) (Nat.le_refl _))))
  · by_cases h4' : k4 = 1
    · subst h4'
      go_wp2_with fail
      refine (pick_only (w.heap.size + 1) (p3 + 1) _ _ (by omega) r4).mono ?_
      rintro e w5 ⟨k5, rfl, _, l5, u5, r5, o5, s5⟩
      have h5 : k5 < 6 := u5 (by omega)
      have R5 : Hid (Rec w5 w.heap.size 35 [.int .i64 0, .int .i64 0, .bool false]) := R4.out.only o5 (by omega)
      have S5 : Hid (Rec w5 w3.heap.size 35 [.int .i64 fk, .int .i64 fo, .bool fm]) := S4.out.only o5 (by omega)
      have O5 : Hid (Only (w.heap.size + 1) w w5) := O4.out.trans o5
      clear u5 o5
      have d0_5 := R5.out.cell (o := 0) rfl
      have e0_5 := R5.out.frozen 0
      have i0_5 := S5.out.cell (o := 0) rfl
      have j0_5 := S5.out.frozen 0
      have d1_5 := R5.out.cell (o := 1) rfl
      have e1_5 := R5.out.frozen 1
      have i1_5 := S5.out.cell (o := 1) rfl
      have j1_5 := S5.out.frozen 1
      have d2_5 := R5.out.cell (o := 2) rfl
      have e2_5 := R5.out.frozen 2
      have i2_5 := S5.out.cell (o := 2) rfl
      have j2_5 := S5.out.frozen 2
      go_wp2_with fail
      refine bodyPost_ret (v := .tuple #[.agg #[.int .i64 fk, .int .i64 (k5 - 4), .bool fm], .int .i64 k2]) (by simp [results, Tryd.results38, go_sem, d0_5, d1_5, d2_5]) rfl ⟨_, _, _, _, rfl, l2, h2, ?_⟩
      (repeat (first | refine Below.setCell ?_ (by simp <;> omega) _ | exact (O5.out.below (by omega) (Nat.le_refl _))))
    · have q0 : (k4 == 0) = false := by simpa using h4
      have q1 : (k4 == 1) = false := by simpa using h4'
      have d0_4 := R4.out.cell (o := 0) rfl
      have e0_4 := R4.out.frozen 0
      have i0_4 := S4.out.cell (o := 0) rfl
      have j0_4 := S4.out.frozen 0
      have d1_4 := R4.out.cell (o := 1) rfl
      have e1_4 := R4.out.frozen 1
      have i1_4 := S4.out.cell (o := 1) rfl
      have j1_4 := S4.out.frozen 1
      have d2_4 := R4.out.cell (o := 2) rfl
      have e2_4 := R4.out.frozen 2
      have i2_4 := S4.out.cell (o := 2) rfl
      have j2_4 := S4.out.frozen 2
      go_wp2_with fail
      refine bodyPost_ret (v := .tuple #[.agg #[.int .i64 fk, .int .i64 fo, .bool fm], .int .i64 k2]) (by simp [results, Tryd.results38, go_sem, d0_4, d1_4, d2_4]) rfl ⟨_, _, _, _, rfl, l2, h2, ?_⟩
      (repeat (first | refine Below.setCell ?_ (by simp <;> omega) _ | exact (O4.out.below (by omega) (Nat.le_refl _))))
end Go.Proofs.YtfnipbnchkonoaaDoor
