/- What is drawn of instructions. -/
import Derived.Test.YtdicmlbgpbglpaaDoorDrawList
import Derived.Test.YtdicmlbgpbglpaaDoorInsOk
namespace Go.Proofs.YtdicmlbgpbglpaaDoor
open Go.ChangeShapes Go.WideShapes Go.ChangeAt Go.RowKit
set_option linter.unusedVariables false

/-- Three numbers in block b, that may be written. -/
structure Ins3 (w : World) (b : Nat) (x y z : Int) : Prop where
  c0 : w.cell? ⟨b, 0, none⟩ = some (.int .i64 x)
  c1 : w.cell? ⟨b, 1, none⟩ = some (.int .i64 y)
  c2 : w.cell? ⟨b, 2, none⟩ = some (.int .i64 z)
  fr : ∀ o, w.frozen? ⟨b, o, none⟩ = false

theorem Only.frozen {g : Nat} {w w' : World} (h : Only g w w') {b o : Nat} (h1 : b ≠ g) (h2 : b < w.heap.size) : w'.frozen? ⟨b, o, Option.none⟩ = w.frozen? ⟨b, o, Option.none⟩ :=
  World.frozen?_of_block (w := w) (h.block b h1 h2)

theorem Ins3.lt {w : World} {b : Nat} {x y z : Int} (h : Ins3 w b x y z) : b < w.heap.size := cell_lt h.c0

theorem Ins3.keep {g : Nat} {w w' : World} {b : Nat} {x y z : Int} (h : Ins3 w b x y z) (ho : Only g w w') (hb : b ≠ g) : Ins3 w' b x y z :=
  ⟨by rw [ho.cell hb h.lt]; exact h.c0, by rw [ho.cell hb h.lt]; exact h.c1, by rw [ho.cell hb h.lt]; exact h.c2, fun o => by rw [ho.frozen hb h.lt]; exact h.fr o⟩

theorem Ins3.set0 {w : World} {b : Nat} {x y z : Int} (h : Ins3 w b x y z) (v : Int) : Ins3 (w.setCell ⟨b, 0, none⟩ (.int .i64 v)) b v y z :=
  ⟨World.cell?_setCell_same' w _ _ (by rw [h.c0]; rfl), by rw [World.cell?_setCell_other w _ _ _ (by intro h; cases h)]; exact h.c1, by rw [World.cell?_setCell_other w _ _ _ (by intro h; cases h)]; exact h.c2, fun o => by rw [World.frozen?_setCell]; exact h.fr o⟩
theorem Ins3.set1 {w : World} {b : Nat} {x y z : Int} (h : Ins3 w b x y z) (v : Int) : Ins3 (w.setCell ⟨b, 1, none⟩ (.int .i64 v)) b x v z :=
  ⟨by rw [World.cell?_setCell_other w _ _ _ (by intro h; cases h)]; exact h.c0, World.cell?_setCell_same' w _ _ (by rw [h.c1]; rfl), by rw [World.cell?_setCell_other w _ _ _ (by intro h; cases h)]; exact h.c2, fun o => by rw [World.frozen?_setCell]; exact h.fr o⟩
theorem Ins3.set2 {w : World} {b : Nat} {x y z : Int} (h : Ins3 w b x y z) (v : Int) : Ins3 (w.setCell ⟨b, 2, none⟩ (.int .i64 v)) b x y v :=
  ⟨by rw [World.cell?_setCell_other w _ _ _ (by intro h; cases h)]; exact h.c0, by rw [World.cell?_setCell_other w _ _ _ (by intro h; cases h)]; exact h.c1, World.cell?_setCell_same' w _ _ (by rw [h.c2]; rfl), fun o => by rw [World.frozen?_setCell]; exact h.fr o⟩

theorem Ins3.far {w : World} {b : Nat} {x y z : Int} (h : Ins3 w b x y z) {b' : Nat} (hb : b' ≠ b) (o : Nat) (v : Value) : Ins3 (w.setCell ⟨b', o, none⟩ v) b x y z :=
  ⟨by rw [World.cell?_setCell_far w _ _ v (by simpa using hb)]; exact h.c0, by rw [World.cell?_setCell_far w _ _ v (by simpa using hb)]; exact h.c1, by rw [World.cell?_setCell_far w _ _ v (by simpa using hb)]; exact h.c2, fun o => by rw [World.frozen?_setCell]; exact h.fr o⟩

theorem ins3_new (w : World) (x y z : Int) (T : TypeId) : Ins3 (w.alloc (.cells #[.int .i64 x, .int .i64 y, .int .i64 z] T)) w.heap.size x y z :=
  ⟨by simp, by simp, by simp, fun o => by simp⟩

theorem Rd.set {w : World} {g p b : Nat} (h : Rd w g p) (hb : g < b) (o : Nat) (v : Value) : Rd (w.setCell ⟨b, o, none⟩ v) g p := by
  obtain ⟨a, m, cap, c0, c1, f1, hm, hx⟩ := h
  have far : ∀ b' i, b' ≤ g → (w.setCell ⟨b, o, none⟩ v).cell? ⟨b', i, none⟩ = w.cell? ⟨b', i, none⟩ := fun b' i h => World.cell?_setCell_far w _ _ v (by simp; omega)
  refine ⟨a, m, cap, by rw [far _ _ (Nat.le_refl _)]; exact c0, by rw [far _ _ (Nat.le_refl _)]; exact c1, by rw [World.frozen?_setCell]; exact f1, hm, ?_⟩
  rcases hx with hx | ⟨b', off, rfl, hbg, hx⟩
  · exact .inl hx
  · refine .inr ⟨b', off, rfl, hbg, fun i hi => ?_⟩
    rw [far _ _ (by omega)]; exact hx i hi

/-- A new block may be written. -/
theorem Only.set {g : Nat} {a w : World} (h : Only g a w) {b : Nat} (hb : a.heap.size ≤ b) (o : Nat) (v : Value) : Only g a (w.setCell ⟨b, o, Option.none⟩ v) :=
  ⟨h.none.setCell (Nat.zero_le _) v, fun k h1 h2 => (Below.heap_setCell w _ v k (by simp; omega)).trans (h.block k h1 h2)⟩

set_option maxHeartbeats 1000000 in
theorem l2Ins_any (g p : Nat) (w : World) (hp : p < 999990) (h : Rd w g p) :
    Calls Tryd.prog 59 #[.pointer (some ⟨g, 0, none⟩)] w fun e w' => ∃ o x y : Int, e = .returned (.agg #[.int .i64 o, .int .i64 x, .int .i64 y]) ∧ ∃ p', p' ≤ p + 5 ∧ Rd w' g p' ∧ Only g w w' := by
  go_enter Tryd.func59, Tryd.ntmps59
  go_wp2_with fail
  refine (pick_only g p _ _ (by omega) (h.alloc _)).mono ?_
  rintro e w1 ⟨k, rfl, _, hk0, hk1, r1, o1, s1⟩
  have hk2 := hk1 (by omega)
  clear hk1
  have g0 := h.lt
  have O1 : Only g w w1 := ((Only.refl g w).alloc _).trans o1
  simp at s1
  have R1 : Ins3 w1 w.heap.size 0 0 0 := (ins3_new w 0 0 0 _).keep o1 (by omega)
  have I2 : Ins3 (w1.alloc (.cells #[.int .i64 (1 + k), .int .i64 0, .int .i64 0] 35)) (w.heap.size + 1) (1 + k) 0 0 := s1 ▸ ins3_new w1 (1 + k) 0 0 _
  have R2 : Ins3 (w1.alloc (.cells #[.int .i64 (1 + k), .int .i64 0, .int .i64 0] 35)) w.heap.size 0 0 0 := R1.keep ((Only.refl g w1).alloc _) (by omega)
  have O2 : Only g w (w1.alloc (.cells #[.int .i64 (1 + k), .int .i64 0, .int .i64 0] 35)) := O1.alloc _
  have r2 := r1.alloc (.cells #[.int .i64 (1 + k), .int .i64 0, .int .i64 0] 35)
  have HI2 := hide I2
  have HR2 := hide R2
  have HR1 := hide R1
  clear I2 R2 R1
  rcases (by unfold spanN; split; exact .inr (.inr rfl); split; exact .inr (.inl rfl); exact .inl rfl : spanN (1 + k) = 0 ∨ spanN (1 + k) = 1 ∨ spanN (1 + k) = 2) with hn | hn | hn
  · have HN : Hid ((spanN (1 + k) : Int) = 0) := by simp [Hid, hn]
    have HO : Hid (decide (1 + k = 12 ∨ 1 + k = 22 ∨ 1 + k = 23) = false) := by simp only [Hid]; rw [decide_eq_false_iff_not]; intro h; rcases h with h | h | h <;> rw [h] at hn <;> simp [spanN] at hn
    clear hn
    obtain ⟨q0, q1, q2, qf⟩ := HR1.out
    go_wp2_with (first | (go_at_call 45; refine (specInsHas_at _ _ HN.out _).mono ?_; rintro e w' ⟨rfl, rfl⟩) | (go_at_call 47; refine (isOf_at _ _ HO.out _).mono ?_; rintro e w' ⟨rfl, rfl⟩) | (go_at_call 52; refine (most_any _ _).mono ?_; rintro e w' ⟨rfl, rfl⟩))
    refine bodyPost_ret (v := .agg #[.int .i64 (1 + k), .int .i64 0, .int .i64 0]) (by simp [results, Tryd.results59, go_sem, *]) rfl ⟨_, _, _, rfl, p + 1, by omega, (((r1.set g0 _ _).set g0 _ _).set g0 _ _).alloc _, (((O1.set (Nat.le_refl _) _ _).set (Nat.le_refl _) _ _).set (Nat.le_refl _) _ _).alloc _⟩
  · have HN : Hid ((spanN (1 + k) : Int) = 1) := by simp [Hid, hn]
    by_cases ho : 1 + k = 12 ∨ 1 + k = 22 ∨ 1 + k = 23
    · have HO : Hid (decide (1 + k = 12 ∨ 1 + k = 22 ∨ 1 + k = 23) = true) := by simp [Hid, ho]
      clear hn ho
      go_wp2_with (first | (go_at_call 45; refine (specInsHas_at _ _ HN.out _).mono ?_; rintro e w' ⟨rfl, rfl⟩) | (go_at_call 47; refine (isOf_at _ _ HO.out _).mono ?_; rintro e w' ⟨rfl, rfl⟩) | (go_at_call 52; refine (most_any _ _).mono ?_; rintro e w' ⟨rfl, rfl⟩))
      refine (pick_only g (p + 1) _ _ (by omega) r2).mono ?_
      rintro e w3 ⟨k3, rfl, _, _, _, r3, o3, s3⟩
      simp [s1] at s3
      have I3 := HI2.out.keep o3 (by omega)
      have R3 := HR2.out.keep o3 (by omega)
      have O3 := O2.trans o3
      have i0 := I3.c0; have i1 := I3.c1; have i2 := I3.c2; have if3 := I3.fr
      have q0 := R3.c0; have q1 := R3.c1; have q2 := R3.c2; have qf := R3.fr
      go_wp2_with (first | (go_at_call 45; refine (specInsHas_at _ _ HN.out _).mono ?_; rintro e w' ⟨rfl, rfl⟩) | (go_at_call 47; refine (isOf_at _ _ HO.out _).mono ?_; rintro e w' ⟨rfl, rfl⟩) | (go_at_call 52; refine (most_any _ _).mono ?_; rintro e w' ⟨rfl, rfl⟩))
      refine (pick_only g (p + 2) _ _ (by omega) (r3.set (b := w.heap.size + 1) (by omega) _ _)).mono ?_
      rintro e w4 ⟨k4, rfl, _, hk4, hk5, r4, o4, s4⟩
      have I4 := (I3.set1 k3).keep o4 (by omega)
      have R4 := (R3.far (b' := w.heap.size + 1) (by omega) 1 (.int .i64 k3)).keep o4 (by omega)
      have O4 := (O3.set (b := w.heap.size + 1) (by omega) 1 (.int .i64 k3)).trans o4
      simp [s3] at s4
      clear i0 i1 i2 if3 q0 q1 q2 qf
      have i0 := I4.c0; have i1 := I4.c1; have i2 := I4.c2; have if4 := I4.fr
      have q0 := R4.c0; have q1 := R4.c1; have q2 := R4.c2; have qf := R4.fr
      by_cases hz : k4 = 0
      · subst hz
        go_wp2_with fail
        refine (num_list [-1, -2] g (p + 3) _ w4 _ (by omega) (by omega) r4 (by simp) (by simp)).mono ?_
        rintro e w5 ⟨k5, _, rfl, r5, o5, s5⟩
        have I5 := I4.keep o5 (by omega)
        have R5 := R4.keep o5 (by omega)
        have O5 := O4.trans o5
        clear i0 i1 i2 if4 q0 q1 q2 qf
        have i0 := I5.c0; have i1 := I5.c1; have i2 := I5.c2; have if5 := I5.fr
        have q0 := R5.c0; have q1 := R5.c1; have q2 := R5.c2; have qf := R5.fr
        go_wp2_with fail
        refine bodyPost_ret (v := .agg #[.int .i64 (1 + k), .int .i64 (nAt [-1, -2] k5), .int .i64 0]) (by simp [results, Tryd.results59, go_sem, *]) rfl ⟨_, _, _, rfl, p + 4, by omega, ((((r5.set (b := w.heap.size + 1) (by omega) _ _).set g0 _ _).set g0 _ _).set g0 _ _), ((((O5.set (b := w.heap.size + 1) (by omega) _ _).set (Nat.le_refl _) _ _).set (Nat.le_refl _) _ _).set (Nat.le_refl _) _ _)⟩
      · have hz2 : (k4 == 0) = false := by simp [hz]
        go_wp2_with fail
        refine bodyPost_ret (v := .agg #[.int .i64 (1 + k), .int .i64 k3, .int .i64 0]) (by simp [results, Tryd.results59, go_sem, *]) rfl ⟨_, _, _, rfl, p + 3, by omega, (((r4.set g0 _ _).set g0 _ _).set g0 _ _), (((O4.set (Nat.le_refl _) _ _).set (Nat.le_refl _) _ _).set (Nat.le_refl _) _ _)⟩
    · have HO : Hid (decide (1 + k = 12 ∨ 1 + k = 22 ∨ 1 + k = 23) = false) := by simp only [Hid]; rw [decide_eq_false_iff_not]; exact ho
      clear hn ho
      go_wp2_with (first | (go_at_call 45; refine (specInsHas_at _ _ HN.out _).mono ?_; rintro e w' ⟨rfl, rfl⟩) | (go_at_call 47; refine (isOf_at _ _ HO.out _).mono ?_; rintro e w' ⟨rfl, rfl⟩) | (go_at_call 52; refine (most_any _ _).mono ?_; rintro e w' ⟨rfl, rfl⟩))
      refine (pick_only g (p + 1) _ _ (by omega) r2).mono ?_
      rintro e w3 ⟨k3, rfl, _, _, _, r3, o3, s3⟩
      simp [s1] at s3
      have I3 := HI2.out.keep o3 (by omega)
      have R3 := HR2.out.keep o3 (by omega)
      have O3 := O2.trans o3
      obtain ⟨i0, i1, i2, if3⟩ := I3
      obtain ⟨q0, q1, q2, qf⟩ := R3
      go_wp2_with (first | (go_at_call 45; refine (specInsHas_at _ _ HN.out _).mono ?_; rintro e w' ⟨rfl, rfl⟩) | (go_at_call 47; refine (isOf_at _ _ HO.out _).mono ?_; rintro e w' ⟨rfl, rfl⟩) | (go_at_call 52; refine (most_any _ _).mono ?_; rintro e w' ⟨rfl, rfl⟩))
      refine bodyPost_ret (v := .agg #[.int .i64 (1 + k), .int .i64 k3, .int .i64 0]) (by simp [results, Tryd.results59, go_sem, *]) rfl ⟨_, _, _, rfl, p + 2, by omega, ((((((r3.set (b := w.heap.size + 1) (by omega) _ _)).set g0 _ _).set g0 _ _).set g0 _ _)), ((((((O3.set (b := w.heap.size + 1) (by omega) _ _)).set (Nat.le_refl _) _ _).set (Nat.le_refl _) _ _).set (Nat.le_refl _) _ _))⟩
  · have HN : Hid ((spanN (1 + k) : Int) = 2) := by simp [Hid, hn]
    have HO : Hid (decide (1 + k = 12 ∨ 1 + k = 22 ∨ 1 + k = 23) = false) := by simp only [Hid]; rw [decide_eq_false_iff_not]; intro h; rcases h with h | h | h <;> rw [h] at hn <;> simp [spanN] at hn
    clear hn
    go_wp2_with (first | (go_at_call 45; refine (specInsHas_at _ _ HN.out _).mono ?_; rintro e w' ⟨rfl, rfl⟩) | (go_at_call 47; refine (isOf_at _ _ HO.out _).mono ?_; rintro e w' ⟨rfl, rfl⟩) | (go_at_call 52; refine (most_any _ _).mono ?_; rintro e w' ⟨rfl, rfl⟩))
    refine (pick_only g (p + 1) _ _ (by omega) r2).mono ?_
    rintro e w3 ⟨k3, rfl, _, _, _, r3, o3, s3⟩
    simp [s1] at s3
    have I3 := HI2.out.keep o3 (by omega)
    have R3 := HR2.out.keep o3 (by omega)
    have O3 := O2.trans o3
    have i0 := I3.c0; have i1 := I3.c1; have i2 := I3.c2; have if3 := I3.fr
    have q0 := R3.c0; have q1 := R3.c1; have q2 := R3.c2; have qf := R3.fr
    go_wp2_with (first | (go_at_call 45; refine (specInsHas_at _ _ HN.out _).mono ?_; rintro e w' ⟨rfl, rfl⟩) | (go_at_call 47; refine (isOf_at _ _ HO.out _).mono ?_; rintro e w' ⟨rfl, rfl⟩) | (go_at_call 52; refine (most_any _ _).mono ?_; rintro e w' ⟨rfl, rfl⟩))
    refine (pick_only g (p + 2) _ _ (by omega) (r3.set (b := w.heap.size + 1) (by omega) _ _)).mono ?_
    rintro e w4 ⟨k4, rfl, _, hk4, hk5, r4, o4, s4⟩
    have I4 := (I3.set1 k3).keep o4 (by omega)
    have R4 := (R3.far (b' := w.heap.size + 1) (by omega) 1 (.int .i64 k3)).keep o4 (by omega)
    have O4 := (O3.set (b := w.heap.size + 1) (by omega) 1 (.int .i64 k3)).trans o4
    simp [s3] at s4
    clear i0 i1 i2 if3 q0 q1 q2 qf
    have i0 := I4.c0; have i1 := I4.c1; have i2 := I4.c2; have if4 := I4.fr
    have q0 := R4.c0; have q1 := R4.c1; have q2 := R4.c2; have qf := R4.fr
    go_wp2_with (first | (go_at_call 45; refine (specInsHas_at _ _ HN.out _).mono ?_; rintro e w' ⟨rfl, rfl⟩) | (go_at_call 47; refine (isOf_at _ _ HO.out _).mono ?_; rintro e w' ⟨rfl, rfl⟩) | (go_at_call 52; refine (most_any _ _).mono ?_; rintro e w' ⟨rfl, rfl⟩))
    refine bodyPost_ret (v := .agg #[.int .i64 (1 + k), .int .i64 k3, .int .i64 k4]) (by simp [results, Tryd.results59, go_sem, *]) rfl ⟨_, _, _, rfl, p + 3, by omega, ((((r4.set (b := w.heap.size + 1) (by omega) _ _).set g0 _ _).set g0 _ _).set g0 _ _), ((((O4.set (b := w.heap.size + 1) (by omega) _ _).set (Nat.le_refl _) _ _).set (Nat.le_refl _) _ _).set (Nat.le_refl _) _ _)⟩
end Go.Proofs.YtdicmlbgpbglpaaDoor
