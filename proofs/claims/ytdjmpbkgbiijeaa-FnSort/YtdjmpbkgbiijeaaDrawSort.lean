/- DrawSortOk, drawn. -/
import Derived.Test.YtdjmpbkgbiijeaaDrawField
namespace Go.Proofs.Ytdjmpbkgbiijeaa
open Go.ChangeShapes Go.WideShapes Go.ChangeAt Go.RowKit
set_option linter.unusedVariables false

theorem drawSortOk_any (a : Option Addr) (cap n : Nat) (w : World) (hc : n ≤ cap) (h : BytesIn w w.heap.size a n) :
    Calls Try.prog 4 #[.slice a n cap] w fun e w' => ∃ (k o : Int) (m : Bool) (x : Int), e = .returned (.tuple #[.agg #[.int .i64 k, .int .i64 o, .bool m], .int .i64 x]) ∧ 0 ≤ x ∧ x < 6 ∧ Below w.heap.size w w' := by
  go_enter Try.func4, Try.ntmps4
  go_wp2_with fail
  refine (drawFieldOk_any a cap n _ hc ((h.keep ((Below.refl _ _).alloc (Nat.le_refl _) _)).wider (by simp))).mono ?_
  rintro e w1 ⟨k, o, m, x, rfl, x1, x2, b1⟩
  have R1 : Hid (Rec w1 w.heap.size 24 [.int .i64 0, .int .i64 0, .bool false]) := (Rec.new' _ _ _ _ rfl).below b1 (by simp)
  have B1 : Hid (Below w.heap.size w w1) := Below.trans (Below.al (Below.refl _ _) (Nat.le_refl _) _) (b1.mono (by go_size))
  have d0 := R1.out.cell (o := 0) rfl
  have d1 := R1.out.cell (o := 1) rfl
  have d2 := R1.out.cell (o := 2) rfl
  have e0 := R1.out.frozen 0
  have e1 := R1.out.frozen 1
  have e2 := R1.out.frozen 2
  clear b1
  go_wp2_with fail
  refine bodyPost_ret (v := .tuple #[.agg #[.int .i64 k, .int .i64 o, .bool m], .int .i64 x]) (by simp [results, Try.results4, go_sem, d0, d1, d2]) rfl ⟨_, _, _, _, rfl, x1, x2, ?_⟩
  (repeat (first | refine Below.setCell ?_ (by simp <;> omega) _ | exact B1.out))
end Go.Proofs.Ytdjmpbkgbiijeaa
