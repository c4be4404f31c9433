/- The law of InsLeaves on drawn instructions. -/
import Derived.Test.YthnccdmkhllibaaDrawBent
import Derived.Test.YthnccdmkhllibaaInsLeave
namespace Go.Proofs.Ythnccdmkhllibaa
open Go.ChangeShapes Go.WideShapes Go.ChangeAt Go.RowKit
set_option linter.unusedVariables false

set_option maxHeartbeats 1000000 in
theorem dDrawInsLeaves_any (a : Option Addr) (cap n : Nat) (w : World) (hc : n ≤ cap) (h : BytesIn w w.heap.size a n) :
    Calls Try.prog 10 #[.slice a n cap] w fun e w' => ∃ o x y : Int, e = .returned (.agg #[.int .i64 o, .int .i64 x, .int .i64 y]) ∧ Below w.heap.size w w' := by
  go_enter Try.func10, Try.ntmps10
  go_wp2_with fail
  refine (open_any a cap n _ hc (((h.keep ((Below.refl _ _).alloc (Nat.le_refl _) _))).wider (by simp))).mono ?_
  rintro e w1 ⟨rfl, r1, b1, s1⟩
  simp at s1
  have R1 : Ins3 w1 w.heap.size 0 0 0 := (ins3_new w 0 0 0 _).keep (g := w.heap.size + 1) (Only.of_below b1) (by omega)
  have B1 : Below w.heap.size w w1 := ((Below.refl _ _).alloc (Nat.le_refl _) _).trans (b1.mono (by simp))
  go_wp2_with fail
  refine (l2Bent_any (w.heap.size + 1) 0 w1 (by omega) (by simpa using r1)).mono ?_
  rintro e w2 ⟨o, x, y, rfl, p2, _, r2, o2⟩
  have R2 := R1.keep o2 (by omega)
  have B2 : Below w.heap.size w w2 := B1.trans (o2.below (by omega) (by omega))
  have q0 := R2.c0; have q1 := R2.c1; have q2 := R2.c2; have qf := R2.fr
  go_wp2_with fail
  refine bodyPost_ret (v := .agg #[.int .i64 o, .int .i64 x, .int .i64 y]) (by simp [results, Try.results10, go_sem, *]) rfl ⟨_, _, _, rfl, ((B2.setCell (Nat.le_refl _) _).setCell (Nat.le_refl _) _).setCell (Nat.le_refl _) _⟩

theorem leaves_at (op a b : Int) (c : Bool) (h : decide (op = 25 ∨ op = 28 ∨ op = 29) = c) (w0 w : World) (B0 : Below w0.heap.size w0 w) (q : Nat) (u0 u1 u2 : Value) (h0 : w.cell? ⟨q, 0, none⟩ = some u0) (h1 : w.cell? ⟨q, 1, none⟩ = some u1) (h2 : w.cell? ⟨q, 2, none⟩ = some u2) :
    Calls Try.prog 11 #[.agg #[.int .i64 op, .int .i64 a, .int .i64 b]] w fun e w' => e = .returned (.bool c) ∧ w'.cell? ⟨q, 0, none⟩ = some u0 ∧ w'.cell? ⟨q, 1, none⟩ = some u1 ∧ w'.cell? ⟨q, 2, none⟩ = some u2 ∧ Below w0.heap.size w0 w' := by
  refine (implInsLeaves_any op a b w).mono ?_
  rintro e w' ⟨rfl, hb⟩
  have hq : q < w.heap.size := cell_lt h0
  exact ⟨by rw [h], by rw [hb.cell (p := ⟨q, 0, none⟩) hq]; exact h0, by rw [hb.cell (p := ⟨q, 1, none⟩) hq]; exact h1, by rw [hb.cell (p := ⟨q, 2, none⟩) hq]; exact h2, B0.trans (hb.mono B0.size)⟩

theorem specLeaves_at (op a b : Int) (c : Bool) (h : decide (op = 25 ∨ op = 28 ∨ op = 29) = c) (w0 w : World) (B0 : Below w0.heap.size w0 w) (q : Nat) (u0 u1 u2 : Value) (h0 : w.cell? ⟨q, 0, none⟩ = some u0) (h1 : w.cell? ⟨q, 1, none⟩ = some u1) (h2 : w.cell? ⟨q, 2, none⟩ = some u2) :
    Calls Try.prog 12 #[.agg #[.int .i64 op, .int .i64 a, .int .i64 b]] w fun e w' => e = .returned (.bool c) ∧ w'.cell? ⟨q, 0, none⟩ = some u0 ∧ w'.cell? ⟨q, 1, none⟩ = some u1 ∧ w'.cell? ⟨q, 2, none⟩ = some u2 ∧ Below w0.heap.size w0 w' := by
  refine (specInsLeaves_any op a b w).mono ?_
  rintro e w' ⟨rfl, hb⟩
  have hq : q < w.heap.size := cell_lt h0
  exact ⟨by rw [h], by rw [hb.cell (p := ⟨q, 0, none⟩) hq]; exact h0, by rw [hb.cell (p := ⟨q, 1, none⟩) hq]; exact h1, by rw [hb.cell (p := ⟨q, 2, none⟩) hq]; exact h2, B0.trans (hb.mono B0.size)⟩

theorem leaves_keep (op a b : Int) (c : Bool) (h : decide (op = 25 ∨ op = 28 ∨ op = 29) = c) (w0 w : World) (B0 : Below w0.heap.size w0 w) :
    Calls Try.prog 11 #[.agg #[.int .i64 op, .int .i64 a, .int .i64 b]] w fun e w' => e = .returned (.bool c) ∧ (∀ q o v, w.cell? ⟨q, o, none⟩ = some v → w'.cell? ⟨q, o, none⟩ = some v) ∧ Below w0.heap.size w0 w' := by
  refine (implInsLeaves_any op a b w).mono ?_
  rintro e w' ⟨rfl, hb⟩
  exact ⟨by rw [h], fun q o v hv => by rw [hb.cell (p := ⟨q, o, none⟩) (cell_lt hv)]; exact hv, B0.trans (hb.mono B0.size)⟩

end Go.Proofs.Ythnccdmkhllibaa
