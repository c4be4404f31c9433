/- What is drawn for InsOk, InsText and InsHas. -/
import Derived.Test.YthnccdmkhllibaaDoorDrawBent
namespace Go.Proofs.YthnccdmkhllibaaDoor
open Go.ChangeShapes Go.WideShapes Go.ChangeAt Go.RowKit
set_option linter.unusedVariables false

set_option maxHeartbeats 1000000 in
theorem dDrawInsOk_any (a : Option Addr) (cap n : Nat) (w : World) (hc : n ≤ cap) (h : BytesIn w w.heap.size a n) :
    Calls Tryd.prog 15 #[.slice a n cap] w fun e w' => ∃ o x y : Int, e = .returned (.agg #[.int .i64 o, .int .i64 x, .int .i64 y]) ∧ Below w.heap.size w w' := by
  go_enter Tryd.func15, Tryd.ntmps15
  go_wp2_with fail
  refine (open_any a cap n _ hc (((h.keep ((Below.refl _ _).alloc (Nat.le_refl _) _))).wider (by simp))).mono ?_
  rintro e w1 ⟨rfl, r1, b1, s1⟩
  simp at s1
  have R1 : Ins3 w1 w.heap.size 0 0 0 := (ins3_new w 0 0 0 _).keep (g := w.heap.size + 1) (Only.of_below b1) (by omega)
  have B1 : Below w.heap.size w w1 := ((Below.refl _ _).alloc (Nat.le_refl _) _).trans (b1.mono (by simp))
  go_wp2_with fail
  refine (l2Bent_any (w.heap.size + 1) 0 w1 (by omega) (by simpa using r1)).mono ?_
  rintro e w2 ⟨o, x, y, rfl, p2, _, r2, o2⟩
  have R2 := R1.keep o2 (by omega)
  have B2 : Below w.heap.size w w2 := B1.trans (o2.below (by omega) (by omega))
  have q0 := R2.c0; have q1 := R2.c1; have q2 := R2.c2; have qf := R2.fr
  go_wp2_with fail
  refine bodyPost_ret (v := .agg #[.int .i64 o, .int .i64 x, .int .i64 y]) (by simp [results, Tryd.results15, go_sem, *]) rfl ⟨_, _, _, rfl, ((B2.setCell (Nat.le_refl _) _).setCell (Nat.le_refl _) _).setCell (Nat.le_refl _) _⟩

set_option maxHeartbeats 1000000 in
theorem dDrawInsText_any (a : Option Addr) (cap n : Nat) (w : World) (hc : n ≤ cap) (h : BytesIn w w.heap.size a n) :
    Calls Tryd.prog 7 #[.slice a n cap] w fun e w' => ∃ o x y : Int, e = .returned (.agg #[.int .i64 o, .int .i64 x, .int .i64 y]) ∧ Below w.heap.size w w' := by
  go_enter Tryd.func7, Tryd.ntmps7
  go_wp2_with fail
  refine (open_any a cap n _ hc (((h.keep ((Below.refl _ _).alloc (Nat.le_refl _) _))).wider (by simp))).mono ?_
  rintro e w1 ⟨rfl, r1, b1, s1⟩
  simp at s1
  have R1 : Ins3 w1 w.heap.size 0 0 0 := (ins3_new w 0 0 0 _).keep (g := w.heap.size + 1) (Only.of_below b1) (by omega)
  have B1 : Below w.heap.size w w1 := ((Below.refl _ _).alloc (Nat.le_refl _) _).trans (b1.mono (by simp))
  go_wp2_with fail
  refine (l2Bent_any (w.heap.size + 1) 0 w1 (by omega) (by simpa using r1)).mono ?_
  rintro e w2 ⟨o, x, y, rfl, p2, _, r2, o2⟩
  have R2 := R1.keep o2 (by omega)
  have B2 : Below w.heap.size w w2 := B1.trans (o2.below (by omega) (by omega))
  have q0 := R2.c0; have q1 := R2.c1; have q2 := R2.c2; have qf := R2.fr
  go_wp2_with fail
  refine bodyPost_ret (v := .agg #[.int .i64 o, .int .i64 x, .int .i64 y]) (by simp [results, Tryd.results7, go_sem, *]) rfl ⟨_, _, _, rfl, ((B2.setCell (Nat.le_refl _) _).setCell (Nat.le_refl _) _).setCell (Nat.le_refl _) _⟩

set_option maxHeartbeats 1000000 in
theorem dDrawInsHas_any (a : Option Addr) (cap n : Nat) (w : World) (hc : n ≤ cap) (h : BytesIn w w.heap.size a n) :
    Calls Tryd.prog 16 #[.slice a n cap] w fun e w' => ∃ o : Int, e = .returned (.int .i64 o) ∧ Below w.heap.size w w' := by
  go_enter Tryd.func16, Tryd.ntmps16
  go_wp2_with fail
  refine (open_any a cap n w hc h).mono ?_
  rintro e w1 ⟨rfl, r1, b1, s1⟩
  go_wp2_with fail
  refine (pick_only w.heap.size 0 37 w1 (by omega) r1).mono ?_
  rintro e w2 ⟨k, rfl, _, k0, k1, r2, o2, s2⟩
  go_wp2_with fail
  go_ret
  exact ⟨_, rfl, b1.trans (o2.below (Nat.le_refl _) (by omega))⟩
end Go.Proofs.YthnccdmkhllibaaDoor
