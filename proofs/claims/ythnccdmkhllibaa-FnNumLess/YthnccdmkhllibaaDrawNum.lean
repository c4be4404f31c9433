/- What is drawn for NumDo: a kind and two numbers. -/
import Derived.Test.YthnccdmkhllibaaDraw2
namespace Go.Proofs.Ythnccdmkhllibaa
open Go.ChangeShapes Go.WideShapes Go.ChangeAt Go.RowKit
set_option linter.unusedVariables false

theorem cells_list (w : World) (l : List Int) (T : TypeId) (i : Nat) (hi : i < l.length) : (w.alloc (.cells (l.map (Value.int .i64)).toArray T)).cell? ⟨w.heap.size, i, none⟩ = some (.int .i64 (nAt l i)) := by
  simp [nAt, hi]

theorem Rd.alloc {w : World} {g p : Nat} (h : Rd w g p) (o : Obj) : Rd (w.alloc o) g p := h.keep ((Below.refl _ _).alloc (Nat.le_refl _) o)

/-- A number of a list that was written out just now. -/
theorem num_list (l : List Int) (g p q : Nat) (w : World) (T : TypeId) (hq : q = w.heap.size) (hp : p < 1000000) (h : Rd w g p) (h0 : 0 < l.length) (hl : l.length < 1000000) :
    Calls Try.prog 23 #[.pointer (some ⟨g, 0, none⟩), .slice (some ⟨q, 0, none⟩) l.length l.length] (w.alloc (.cells (l.map (Value.int .i64)).toArray T)) fun e w' =>
      ∃ k, k < l.length ∧ e = .returned (.int .i64 (nAt l k)) ∧ Rd w' g (p + 1) ∧ Only g w w' ∧ w'.heap.size = w.heap.size + 1 := by
  subst hq
  refine (num_any g p _ hp (h.alloc _) w.heap.size l.length l.length (nAt l) (Nat.ne_of_gt h.lt) (by simp) h0 hl (fun i hi => cells_list w l T i hi)).mono ?_
  rintro e w' ⟨k, hk, rfl, hr, ho, hs⟩
  exact ⟨k, hk, rfl, hr, ((Only.refl g w).alloc _).trans ho, by rw [hs]; simp⟩

set_option maxHeartbeats 1000000 in
theorem drawNumDo_any (a : Option Addr) (cap n : Nat) (w : World) (hc : n ≤ cap) (h : BytesIn w w.heap.size a n) :
    Calls Try.prog 13 #[.slice a n cap] w fun e w' => ∃ o x y : Int, e = .returned (.tuple #[.int .i64 o, .int .i64 x, .int .i64 y]) ∧ Below w.heap.size w w' := by
  go_enter Try.func13, Try.ntmps13
  go_wp2_with fail
  refine (open_any a cap n w hc h).mono ?_
  rintro e w1 ⟨rfl, r1, b1, s1⟩
  go_wp2_with fail
  refine (num_list [7, 8, 9, 8, 1] w.heap.size 0 _ _ _ (by simp [s1]) (by omega) (r1.alloc _) (by simp) (by simp)).mono ?_
  rintro e w2 ⟨k2, hk2, rfl, r2, o2, s2⟩
  have c2 : ∀ i, i < 10 → w2.cell? ⟨w.heap.size + 1, i, none⟩ = some (.int .i64 (nAt [0, 1, 2, 7, 9972, 9973, -1, 5000, 9223372036854775807, -9223372036854775808] i)) := by
    intro i hi
    rw [o2.cell (by omega) (by simp; omega), ← s1]
    exact cells_list w1 [0, 1, 2, 7, 9972, 9973, -1, 5000, 9223372036854775807, -9223372036854775808] _ i hi
  have C2 := hide c2
  clear c2
  go_wp2_with fail
  refine (num_any w.heap.size 1 w2 (by omega) r2 (w.heap.size + 1) 10 10 _ (by omega) (by simp at s2; omega) (by omega) (by omega) C2.out).mono ?_
  rintro e w3 ⟨k3, hk3, rfl, r3, o3, s3⟩
  have c3 : ∀ i, i < 10 → w3.cell? ⟨w.heap.size + 1, i, none⟩ = some (.int .i64 (nAt [0, 1, 2, 7, 9972, 9973, -1, 5000, 9223372036854775807, -9223372036854775808] i)) := by
    intro i hi
    rw [o3.cell (by omega) (by simp at s2; omega)]
    exact C2.out i hi
  have C3 := hide c3
  clear c3
  go_wp2_with fail
  refine (num_any w.heap.size 2 w3 (by omega) r3 (w.heap.size + 1) 10 10 _ (by omega) (by simp at s2; omega) (by omega) (by omega) C3.out).mono ?_
  rintro e w4 ⟨k4, hk4, rfl, r4, o4, s4⟩
  go_wp2_with fail
  refine bodyPost_ret (v := .tuple #[.int .i64 (nAt [7, 8, 9, 8, 1] k2), .int .i64 (nAt [0, 1, 2, 7, 9972, 9973, -1, 5000, 9223372036854775807, -9223372036854775808] k3), .int .i64 (nAt [0, 1, 2, 7, 9972, 9973, -1, 5000, 9223372036854775807, -9223372036854775808] k4)]) (by simp [results, Try.results13, go_sem]) rfl ⟨_, _, _, rfl, ?_⟩
  have B2 : Below w.heap.size w w2 := (b1.alloc (by omega) _).trans (o2.below (Nat.le_refl _) (by simp; omega))
  have B3 := B2.trans (o3.below (Nat.le_refl _) (by simp at s2; omega))
  exact B3.trans (o4.below (Nat.le_refl _) (by simp at s2; omega))
end Go.Proofs.Ythnccdmkhllibaa
