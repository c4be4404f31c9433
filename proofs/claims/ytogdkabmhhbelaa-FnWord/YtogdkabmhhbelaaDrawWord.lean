/- What is drawn for WordOf and WordVal: any value; any field and a small word. -/
import Derived.Test.YtogdkabmhhbelaaDrawVal
import Derived.Deep.RegionHeld3
namespace Go.Proofs.Ytogdkabmhhbelaa
open Go.ChangeShapes Go.WideShapes Go.ChangeAt Go.RowKit
set_option linter.unusedVariables false

set_option maxHeartbeats 1000000 in
theorem drawWordOf_any (a : Option Addr) (cap n : Nat) (w : World) (hc : n ≤ cap) (h : BytesIn w w.heap.size a n) :
    Calls Try.prog 8 #[.slice a n cap] w fun e w' => ∃ (k x : Int), e = .returned (.agg #[.int .i64 k, .int .i64 x]) ∧ Below w.heap.size w w' := by
  go_enter Try.func8, Try.ntmps8
  go_wp2_with fail
  refine (open_any a cap n _ hc ((h.keep ((Below.refl _ _).alloc (Nat.le_refl _) _)).wider (by simp))).mono ?_
  rintro e w1 ⟨rfl, r1, b1, s1⟩
  have R1 : Hid (Rec w1 w.heap.size 24 [.int .i64 0, .int .i64 0]) := (Rec.new' _ _ _ _ rfl).below b1 (by simp)
  have O1 : Hid (Only (w.heap.size + 1) w w1) := (Only.of_below (Below.al (Below.refl _ _) (Nat.le_refl _) _)).trans (Only.of_below b1)
  simp only [World.size_alloc] at r1 s1
  clear b1 h
  go_wp2_with fail
  refine (num_list [3, 50, 160] (w.heap.size + 1) 0 _ _ _ (by first | rfl | omega | simp) (by omega) r1 (by simp) (by simp)).mono ?_
  rintro e w2 ⟨i2, hi2, rfl, r2, o2, s2⟩
  have k2 : 0 ≤ nAt [3, 50, 160] i2 ∧ nAt [3, 50, 160] i2 < 1000000 := by
    match i2, hi2 with
    | 0, _ => decide
    | 1, _ => decide
    | 2, _ => decide
  have R2 : Hid (Rec w2 w.heap.size 24 [.int .i64 0, .int .i64 0]) := R1.out.only o2 (by omega)
  have O2 : Hid (Only (w.heap.size + 1) w w2) := O1.out.trans o2
  generalize nAt [3, 50, 160] i2 = th at k2 ⊢
  obtain ⟨k2, k2'⟩ := k2
  clear o2 hi2 r1
  go_wp2_with fail
  refine (l5Val_any (w.heap.size + 1) (0 + 1) th w2 (by omega) r2 k2 k2').mono ?_
  rintro e w3 ⟨k, x, rfl, ⟨p3, hp3, r3⟩, o3⟩
  have R3 : Hid (Rec w3 w.heap.size 24 [.int .i64 0, .int .i64 0]) := R2.out.only o3 (by omega)
  have O3 : Hid (Only (w.heap.size + 1) w w3) := O2.out.trans o3
  have c0 := R3.out.cell (o := 0) rfl
  have c1 := R3.out.cell (o := 1) rfl
  have f0 := R3.out.frozen 0
  have f1 := R3.out.frozen 1
  have RF := hide ((R3.out.set 0 (.int .i64 k)).set 1 (.int .i64 x))
  have d0 := RF.out.cell (o := 0) rfl
  have d1 := RF.out.cell (o := 1) rfl
  clear o3
  go_wp2_with fail
  refine bodyPost_ret (v := .agg #[.int .i64 k, .int .i64 x]) (by simp [results, Try.results8, go_sem, d0, d1]) rfl ⟨_, _, rfl, ?_⟩
  (repeat (first | refine Below.setCell ?_ (by simp <;> omega) _ | exact (O3.out.below (by omega) (Nat.le_refl _))))

def wordList : List Int := [0, 1, 2, 3, 4, 320, 321, 322, 9972, 9973, 19945, 19946, 19947, -1, -2, 40]
theorem wordList_small (i : Nat) : -9223372036854775808 ≤ nAt wordList i ∧ nAt wordList i ≤ 9223372036854775807 := by
  by_cases h : i < 16
  · have : ∀ j, j < 16 → -9223372036854775808 ≤ nAt wordList j ∧ nAt wordList j ≤ 9223372036854775807 := by decide
    exact this i h
  · have : nAt wordList i = 0 := by
      unfold nAt
      rw [List.getD, List.getElem?_eq_none (by simp [wordList]; omega)]; rfl
    rw [this]; decide

set_option maxHeartbeats 2000000 in
theorem drawWordVal_any (a : Option Addr) (cap n : Nat) (w : World) (hc : n ≤ cap) (h : BytesIn w w.heap.size a n) :
    Calls Try.prog 9 #[.slice a n cap] w fun e w' => ∃ (k o : Int) (m : Bool) (x : Int), e = .returned (.tuple #[.agg #[.int .i64 k, .int .i64 o, .bool m], .int .i64 x]) ∧ x ≤ 9223372036854775807 ∧ -9223372036854775808 ≤ x ∧ Below w.heap.size w w' := by
  go_enter Try.func9, Try.ntmps9
  go_wp2_with fail
  refine (open_any a cap n _ hc ((h.keep ((Below.refl _ _).alloc (Nat.le_refl _) _)).wider (by simp))).mono ?_
  rintro e w1 ⟨rfl, r1, b1, s1⟩
  have R1 : Hid (Rec w1 w.heap.size 27 [.int .i64 0, .int .i64 0, .bool false]) := (Rec.new' _ _ _ _ rfl).below b1 (by simp)
  have O1 : Hid (Only (w.heap.size + 1) w w1) := (Only.of_below (Below.al (Below.refl _ _) (Nat.le_refl _) _)).trans (Only.of_below b1)
  simp only [World.size_alloc] at r1 s1
  clear b1 h
  go_wp2_with fail
  refine (l1Field_any (w.heap.size + 1) 0 3 w1 (by omega) r1 (by omega) (by omega)).mono ?_
  rintro e w3 ⟨fk, fo, fm, rfl, ⟨p3, hp3, r3⟩, o3⟩
  have R3 : Hid (Rec w3 w.heap.size 27 [.int .i64 0, .int .i64 0, .bool false]) := R1.out.only o3 (by omega)
  have O3 : Hid (Only (w.heap.size + 1) w w3) := O1.out.trans o3
  have z3 := r3.lt
  have n3 : w3.heap.size ≠ w.heap.size := by omega
  clear o3 r1
  go_wp2_with fail
  refine (pick_only (w.heap.size + 1) p3 _ _ (by omega) (r3.alloc _)).mono ?_
  rintro e w4 ⟨k4, rfl, _, l4, u4, r4, o4, s4⟩
  have R4 : Hid (Rec w4 w.heap.size 27 [.int .i64 0, .int .i64 0, .bool false]) := (R3.out.alloc _).only o4 (by omega)
  have S4 : Hid (Rec w4 w3.heap.size 27 [.int .i64 fk, .int .i64 fo, .bool fm]) := (Rec.new' _ _ _ _ rfl).only o4 (by omega)
  have O4 : Hid (Only (w.heap.size + 1) w w4) := (O3.out.alloc _).trans o4
  have s4' : w4.heap.size = w3.heap.size + 1 := by simpa using s4
  clear u4 o4 r3 s4
  by_cases h4 : k4 = 0
  · subst h4
    go_wp2_with fail
    refine (num_list [0, 4, -1] (w.heap.size + 1) (p3 + 1) _ _ _ (by first | rfl | omega | simp) (by omega) r4 (by simp) (by simp)).mono ?_
    rintro e w5 ⟨i5, hi5, rfl, r5, o5, s5⟩
    have R5 : Hid (Rec w5 w.heap.size 27 [.int .i64 0, .int .i64 0, .bool false]) := R4.out.only o5 (by omega)
    have S5 : Hid (Rec w5 w3.heap.size 27 [.int .i64 fk, .int .i64 fo, .bool fm]) := S4.out.only o5 (by omega)
    have O5 : Hid (Only (w.heap.size + 1) w w5) := O4.out.trans o5
    generalize nAt [0, 4, -1] i5 = k5
    clear o5 hi5 r4
    have i0 := S5.out.cell (o := 0) rfl
    have i1 := S5.out.cell (o := 1) rfl
    have i2 := S5.out.cell (o := 2) rfl
    have j0 := S5.out.frozen 0
    have rX : Rd (w5.setCell ⟨w3.heap.size, 0, none⟩ (.int .i64 k5)) (w.heap.size + 1) (p3 + 1 + 1) := r5.keep' ((Below.refl _ _).setCell (by simp; omega) _)
    have SX : Hid (Rec (w5.setCell ⟨w3.heap.size, 0, none⟩ (.int .i64 k5)) w3.heap.size 27 [.int .i64 k5, .int .i64 fo, .bool fm]) := S5.out.set 0 _
    have RX : Hid (Rec (w5.setCell ⟨w3.heap.size, 0, none⟩ (.int .i64 k5)) w.heap.size 27 [.int .i64 0, .int .i64 0, .bool false]) := R5.out.other (by omega) _ _
    have OX : Hid (Only (w.heap.size + 1) w (w5.setCell ⟨w3.heap.size, 0, none⟩ (.int .i64 k5))) := O5.out.setNew (by omega) _ _
    have x0 := SX.out.cell (o := 0) rfl
    have x1 := SX.out.cell (o := 1) rfl
    have x2 := SX.out.cell (o := 2) rfl
    have s5' : w5.heap.size = w3.heap.size + 1 + 1 := by omega
    go_wp2_with fail
    go_region_held3 (fun w' => w'.cell? ⟨w3.heap.size, 0, none⟩ = some (.int .i64 k5) ∧ w'.cell? ⟨w3.heap.size, 1, none⟩ = some (.int .i64 fo) ∧ w'.cell? ⟨w3.heap.size, 2, none⟩ = some (.bool fm)) (first | go_keep | (refine ⟨?_, ?_, ?_⟩ <;> (rw [cell_ne _ n3, cell_ne _ n3, cell_ne _ n3]; assumption)))
      ((go_at_call 28; refine (num_listD wordList (w.heap.size + 1) (p3 + 1 + 1) _ _ _ (by first | rfl | omega | (simp; omega)) (by omega) rX (by simp [wordList]) (by simp [wordList])).mono ?_; rintro e w6 ⟨i6, hi6, rfl, r6, o6, s6⟩; have S6 : Hid (Rec w6 w3.heap.size 27 [.int .i64 k5, .int .i64 fo, .bool fm]) := SX.out.only o6 (by omega); have R6 : Hid (Rec w6 w.heap.size 27 [.int .i64 0, .int .i64 0, .bool false]) := RX.out.only o6 (by omega); have O6 : Hid (Only (w.heap.size + 1) w w6) := OX.out.trans o6; have t0 := S6.out.cell (o := 0) rfl; have t1 := S6.out.cell (o := 1) rfl; have t2 := S6.out.cell (o := 2) rfl; have q0 := R6.out.cell (o := 0) rfl; have q1 := R6.out.cell (o := 1) rfl; have q2 := R6.out.cell (o := 2) rfl; have f0 := R6.out.frozen 0; have f1 := R6.out.frozen 1; have f2 := R6.out.frozen 2))
    have RF := hide (((R6.out.set 0 (.int .i64 k5)).set 1 (.int .i64 fo)).set 2 (.bool fm))
    have d0 := RF.out.cell (o := 0) rfl
    have d1 := RF.out.cell (o := 1) rfl
    have d2 := RF.out.cell (o := 2) rfl
    have wl := wordList_small i6
    generalize nAt wordList i6 = x6 at wl ⊢
    obtain ⟨wl1, wl2⟩ := wl
    go_wp2_with fail
    refine bodyPost_ret (v := .tuple #[.agg #[.int .i64 k5, .int .i64 fo, .bool fm], .int .i64 x6]) (by simp [results, Try.results9, go_sem, d0, d1, d2]) rfl ⟨_, _, _, _, rfl, wl2, wl1, ?_⟩
    (repeat (first | refine Below.setCell ?_ (by simp <;> omega) _ | exact (O6.out.below (by omega) (Nat.le_refl _))))
  · have h4' : (k4 == 0) = false := by simpa using h4
    have i0 := S4.out.cell (o := 0) rfl
    have i1 := S4.out.cell (o := 1) rfl
    have i2 := S4.out.cell (o := 2) rfl
    go_wp2_with fail
    go_region_held3 (fun w' => w'.cell? ⟨w3.heap.size, 0, none⟩ = some (.int .i64 fk) ∧ w'.cell? ⟨w3.heap.size, 1, none⟩ = some (.int .i64 fo) ∧ w'.cell? ⟨w3.heap.size, 2, none⟩ = some (.bool fm)) (first | go_keep | (refine ⟨?_, ?_, ?_⟩ <;> (rw [cell_ne _ n3, cell_ne _ n3, cell_ne _ n3]; assumption)))
      ((go_at_call 28; refine (num_listD wordList (w.heap.size + 1) (p3 + 1) _ w4 _ (by first | rfl | omega | simp) (by omega) r4 (by simp [wordList]) (by simp [wordList])).mono ?_; rintro e w6 ⟨i6, hi6, rfl, r6, o6, s6⟩; have S6 : Hid (Rec w6 w3.heap.size 27 [.int .i64 fk, .int .i64 fo, .bool fm]) := S4.out.only o6 (by omega); have R6 : Hid (Rec w6 w.heap.size 27 [.int .i64 0, .int .i64 0, .bool false]) := R4.out.only o6 (by omega); have O6 : Hid (Only (w.heap.size + 1) w w6) := O4.out.trans o6; have t0 := S6.out.cell (o := 0) rfl; have t1 := S6.out.cell (o := 1) rfl; have t2 := S6.out.cell (o := 2) rfl; have q0 := R6.out.cell (o := 0) rfl; have q1 := R6.out.cell (o := 1) rfl; have q2 := R6.out.cell (o := 2) rfl; have f0 := R6.out.frozen 0; have f1 := R6.out.frozen 1; have f2 := R6.out.frozen 2))
    have RF := hide (((R6.out.set 0 (.int .i64 fk)).set 1 (.int .i64 fo)).set 2 (.bool fm))
    have d0 := RF.out.cell (o := 0) rfl
    have d1 := RF.out.cell (o := 1) rfl
    have d2 := RF.out.cell (o := 2) rfl
    have wl := wordList_small i6
    generalize nAt wordList i6 = x6 at wl ⊢
    obtain ⟨wl1, wl2⟩ := wl
    go_wp2_with fail
    refine bodyPost_ret (v := .tuple #[.agg #[.int .i64 fk, .int .i64 fo, .bool fm], .int .i64 x6]) (by simp [results, Try.results9, go_sem, d0, d1, d2]) rfl ⟨_, _, _, _, rfl, wl2, wl1, ?_⟩
    (repeat (first | refine Below.setCell ?_ (by simp <;> omega) _ | exact (O6.out.below (by omega) (Nat.le_refl _))))
end Go.Proofs.Ytogdkabmhhbelaa
