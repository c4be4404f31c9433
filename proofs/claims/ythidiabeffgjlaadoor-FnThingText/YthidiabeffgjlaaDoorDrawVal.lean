/- A value, drawn from bytes. Written by tools/made/drawval.py. -/
import Derived.Test.YthidiabeffgjlaaDoorDrawField0P
import Derived.Test.YthidiabeffgjlaaDoorNumVal
namespace Go.Proofs.YthidiabeffgjlaaDoor
open Go.ChangeShapes Go.WideShapes Go.ChangeAt Go.RowKit
set_option linter.unusedVariables false

theorem nAt_small (l : List Int) (h : ∀ x ∈ l, -10000 ≤ x ∧ x ≤ 10000) (i : Nat) : -10000 ≤ nAt l i ∧ nAt l i ≤ 10000 := by
  unfold nAt
  rw [List.getD_eq_getElem?_getD]
  cases e : l[i]? with
  | none => simp
  | some x => simpa using h x (List.mem_of_getElem? e)

set_option maxHeartbeats 3200000 in
theorem l5Val_any (g p : Nat) (things : Int) (w : World) (hp : p < 900000) (h : Rd w g p) (hn : 0 ≤ things) (hn2 : things < 1000000) :
    Calls Tryd.prog 13 #[.pointer (some ⟨g, 0, none⟩), .int .i64 things] w fun e w' => ∃ (k n : Int), e = .returned (.agg #[.int .i64 k, .int .i64 n]) ∧ (-10000 ≤ n ∧ n ≤ 1000000) ∧ (∃ p', p' ≤ p + 3 ∧ Rd w' g p') ∧ Only g w w' := by
  have hg := h.lt
  go_enter Tryd.func13, Tryd.ntmps13
  go_wp2_with fail
  refine (pick_only g p _ _ (by omega) (h.alloc _)).mono ?_
  rintro e w1 ⟨k1, rfl, _, l1, u1, r1, o1, s1⟩
  have u1' := u1 (by omega)
  have R1 : Hid (Rec w1 w.heap.size 29 [.int .i64 0, .int .i64 0]) := (Rec.new' _ _ _ _ rfl).only o1 (Nat.ne_of_gt hg)
  have O1 : Hid (Only g w w1) := ((Only.refl g w).alloc _).trans o1
  have z1 := R1.out.lt
  simp only [World.size_alloc] at s1
  clear o1 h u1
  by_cases h0 : k1 = 0
  · subst h0
    go_wp2_with fail
    refine (num_list [0, 1, 2, 9972, 9973] g (p + 1) _ _ _ (by first | rfl | omega | simp) (by omega) r1 (by simp) (by simp)).mono ?_
    rintro e w2 ⟨i2, hi2, rfl, r2, o2, s2⟩
    have R2 : Hid (Rec w2 w.heap.size 29 [.int .i64 0, .int .i64 0]) := R1.out.only o2 (Nat.ne_of_gt hg)
    have O2 : Hid (Only g w w2) := O1.out.trans o2
    have z2 := R2.out.lt
    have kb2 : -10000 ≤ nAt [0, 1, 2, 9972, 9973] i2 ∧ nAt [0, 1, 2, 9972, 9973] i2 ≤ 10000 := nAt_small [0, 1, 2, 9972, 9973] (by decide) i2
    generalize nAt [0, 1, 2, 9972, 9973] i2 = k2 at kb2 ⊢
    clear o2 hi2
    go_wp2_with fail
    refine (l5NumVal_any k2 w2).mono ?_
    rintro e w3 ⟨rfl, b3⟩
    have R3 : Hid (Rec w3 w.heap.size 29 [.int .i64 0, .int .i64 0]) := R2.out.below b3 R2.out.lt
    have O3 : Hid (Only g w w3) := O2.out.trans (Only.of_below b3)
    have r3 := r2.keep b3
    clear b3
    have c0 := R3.out.cell (o := 0) rfl
    have c1 := R3.out.cell (o := 1) rfl
    have f0 := R3.out.frozen 0
    have f1 := R3.out.frozen 1
    have RF := hide ((R3.out.set 0 (.int .i64 1)).set 1 (.int .i64 k2))
    have d0 := RF.out.cell (o := 0) rfl
    have d1 := RF.out.cell (o := 1) rfl
    go_wp2_with fail
    refine bodyPost_ret (v := .agg #[.int .i64 1, .int .i64 k2]) (by simp [results, Tryd.results13, go_sem, d0, d1]) rfl ⟨_, _, rfl, (by omega), ⟨p + 2, by omega, ?_⟩, ?_⟩
    · refine r3.keep' ?_
      (repeat (first | refine Below.setCell ?_ (by simp <;> omega) _ | refine Below.alloc ?_ (by simp <;> omega) _ | exact Below.refl _ _))
    · (repeat (first | refine Only.setNew ?_ (by omega) _ _ | refine Only.alloc ?_ _ | exact O3.out))
  by_cases h1 : k1 = 1
  · subst h1
    go_wp2_with fail
    refine (pick_only g (p + 1) _ _ (by omega) r1).mono ?_
    rintro e w2 ⟨k2, rfl, _, l2, u2, r2, o2, s2⟩
    have u2' := u2 (by omega)
    have R2 : Hid (Rec w2 w.heap.size 29 [.int .i64 0, .int .i64 0]) := R1.out.only o2 (Nat.ne_of_gt hg)
    have O2 : Hid (Only g w w2) := O1.out.trans o2
    have z2 := R2.out.lt
    clear o2 u2
    have c0 := R2.out.cell (o := 0) rfl
    have c1 := R2.out.cell (o := 1) rfl
    have f0 := R2.out.frozen 0
    have f1 := R2.out.frozen 1
    have RF := hide ((R2.out.set 0 (.int .i64 2)).set 1 (.int .i64 (k2 / 19)))
    have d0 := RF.out.cell (o := 0) rfl
    have d1 := RF.out.cell (o := 1) rfl
    go_wp2_with fail
    refine bodyPost_ret (v := .agg #[.int .i64 2, .int .i64 (k2 / 19)]) (by simp [results, Tryd.results13, go_sem, d0, d1]) rfl ⟨_, _, rfl, (by omega), ⟨p + 2, by omega, ?_⟩, ?_⟩
    · refine r2.keep' ?_
      (repeat (first | refine Below.setCell ?_ (by simp <;> omega) _ | refine Below.alloc ?_ (by simp <;> omega) _ | exact Below.refl _ _))
    · (repeat (first | refine Only.setNew ?_ (by omega) _ _ | refine Only.alloc ?_ _ | exact O2.out))
  by_cases h2 : k1 = 2
  · subst h2
    go_wp2_with fail
    refine (num_list [0, 5, 9972, -1] g (p + 1) _ _ _ (by first | rfl | omega | simp) (by omega) r1 (by simp) (by simp)).mono ?_
    rintro e w2 ⟨i2, hi2, rfl, r2, o2, s2⟩
    have R2 : Hid (Rec w2 w.heap.size 29 [.int .i64 0, .int .i64 0]) := R1.out.only o2 (Nat.ne_of_gt hg)
    have O2 : Hid (Only g w w2) := O1.out.trans o2
    have z2 := R2.out.lt
    have kb2 : -10000 ≤ nAt [0, 5, 9972, -1] i2 ∧ nAt [0, 5, 9972, -1] i2 ≤ 10000 := nAt_small [0, 5, 9972, -1] (by decide) i2
    generalize nAt [0, 5, 9972, -1] i2 = k2 at kb2 ⊢
    clear o2 hi2
    have c0 := R2.out.cell (o := 0) rfl
    have c1 := R2.out.cell (o := 1) rfl
    have f0 := R2.out.frozen 0
    have f1 := R2.out.frozen 1
    have RF := hide ((R2.out.set 0 (.int .i64 3)).set 1 (.int .i64 k2))
    have d0 := RF.out.cell (o := 0) rfl
    have d1 := RF.out.cell (o := 1) rfl
    go_wp2_with fail
    refine bodyPost_ret (v := .agg #[.int .i64 3, .int .i64 k2]) (by simp [results, Tryd.results13, go_sem, d0, d1]) rfl ⟨_, _, rfl, (by omega), ⟨p + 2, by omega, ?_⟩, ?_⟩
    · refine r2.keep' ?_
      (repeat (first | refine Below.setCell ?_ (by simp <;> omega) _ | refine Below.alloc ?_ (by simp <;> omega) _ | exact Below.refl _ _))
    · (repeat (first | refine Only.setNew ?_ (by omega) _ _ | refine Only.alloc ?_ _ | exact O2.out))
  by_cases h3 : k1 = 3
  · subst h3
    go_wp2_with fail
    refine (num_list [0, 5, 1, 2] g (p + 1) _ _ _ (by first | rfl | omega | simp) (by omega) r1 (by simp) (by simp)).mono ?_
    rintro e w2 ⟨i2, hi2, rfl, r2, o2, s2⟩
    have R2 : Hid (Rec w2 w.heap.size 29 [.int .i64 0, .int .i64 0]) := R1.out.only o2 (Nat.ne_of_gt hg)
    have O2 : Hid (Only g w w2) := O1.out.trans o2
    have z2 := R2.out.lt
    have kb2 : -10000 ≤ nAt [0, 5, 1, 2] i2 ∧ nAt [0, 5, 1, 2] i2 ≤ 10000 := nAt_small [0, 5, 1, 2] (by decide) i2
    generalize nAt [0, 5, 1, 2] i2 = k2 at kb2 ⊢
    clear o2 hi2
    go_wp2_with fail
    refine (pick_only g (p + 1 + 1) _ _ (by omega) r2).mono ?_
    rintro e w3 ⟨k3, rfl, _, l3, u3, r3, o3, s3⟩
    have u3' := u3 (by omega)
    have R3 : Hid (Rec w3 w.heap.size 29 [.int .i64 0, .int .i64 0]) := R2.out.only o3 (Nat.ne_of_gt hg)
    have O3 : Hid (Only g w w3) := O2.out.trans o3
    have z3 := R3.out.lt
    clear o3 u3
    have c0 := R3.out.cell (o := 0) rfl
    have c1 := R3.out.cell (o := 1) rfl
    have f0 := R3.out.frozen 0
    have f1 := R3.out.frozen 1
    have RF := hide ((R3.out.set 0 (.int .i64 k2)).set 1 (.int .i64 k3))
    have d0 := RF.out.cell (o := 0) rfl
    have d1 := RF.out.cell (o := 1) rfl
    go_wp2_with fail
    refine bodyPost_ret (v := .agg #[.int .i64 k2, .int .i64 k3]) (by simp [results, Tryd.results13, go_sem, d0, d1]) rfl ⟨_, _, rfl, (by omega), ⟨p + 3, by omega, ?_⟩, ?_⟩
    · refine r3.keep' ?_
      (repeat (first | refine Below.setCell ?_ (by simp <;> omega) _ | refine Below.alloc ?_ (by simp <;> omega) _ | exact Below.refl _ _))
    · (repeat (first | refine Only.setNew ?_ (by omega) _ _ | refine Only.alloc ?_ _ | exact O3.out))
  have h4 : k1 = 4 := by omega
  subst h4
  go_wp2_with fail
  refine (pick_only g (p + 1) _ _ (by omega) r1).mono ?_
  rintro e w2 ⟨k2, rfl, _, l2, u2, r2, o2, s2⟩
  have u2' := u2 (by omega)
  have R2 : Hid (Rec w2 w.heap.size 29 [.int .i64 0, .int .i64 0]) := R1.out.only o2 (Nat.ne_of_gt hg)
  have O2 : Hid (Only g w w2) := O1.out.trans o2
  have z2 := R2.out.lt
  clear o2 u2
  have c0 := R2.out.cell (o := 0) rfl
  have c1 := R2.out.cell (o := 1) rfl
  have f0 := R2.out.frozen 0
  have f1 := R2.out.frozen 1
  have RF := hide ((R2.out.set 0 (.int .i64 4)).set 1 (.int .i64 k2))
  have d0 := RF.out.cell (o := 0) rfl
  have d1 := RF.out.cell (o := 1) rfl
  go_wp2_with fail
  refine bodyPost_ret (v := .agg #[.int .i64 4, .int .i64 k2]) (by simp [results, Tryd.results13, go_sem, d0, d1]) rfl ⟨_, _, rfl, (by omega), ⟨p + 2, by omega, ?_⟩, ?_⟩
  · refine r2.keep' ?_
    (repeat (first | refine Below.setCell ?_ (by simp <;> omega) _ | refine Below.alloc ?_ (by simp <;> omega) _ | exact Below.refl _ _))
  · (repeat (first | refine Only.setNew ?_ (by omega) _ _ | refine Only.alloc ?_ _ | exact O2.out))
end Go.Proofs.YthidiabeffgjlaaDoor
