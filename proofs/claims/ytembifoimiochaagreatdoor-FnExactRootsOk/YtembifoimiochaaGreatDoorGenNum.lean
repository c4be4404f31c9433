/- Lists of numbers, in the one form that the generated texts take. -/
import Derived.Test.YtembifoimiochaaGreatDoorPaOne
import Derived.Test.YtembifoimiochaaGreatDoorIntsTo
import Derived.Test.YtembifoimiochaaGreatDoorPhGen
namespace Go.Proofs.YtembifoimiochaaGreatDoor
open Go.ChangeShapes Go.WideShapes Go.ChangeAt Go.RowKit Go.Joins Go.Deep
set_option linter.unusedVariables false

theorem toIntS_g {md : Bool} (a : Option Addr) (cap lo hi : Nat) (xs : List Int) (w : World) (hn : NumsB 1048576 xs) (hx : NumsM md w lo hi a xs) (hh : hi ≤ w.heap.size) :
    Calls Tryz.prog 20 #[.slice a xs.length cap] w fun e w' => ∃ na, e = .returned (.slice na xs.length xs.length) ∧ NumsM true w' w.heap.size w'.heap.size na xs ∧ Below w.heap.size w w' := by
  refine (toIntS_core a cap xs.length (nAt xs) w hn ?_).mono ?_
  · rcases hx with rfl | ⟨b, off, rfl, h1, h2, _, h3⟩
    · exact .inl (Nat.le_refl _)
    · exact .inr ⟨b, off, rfl, Nat.lt_of_lt_of_le h2 hh, h3⟩
  · rintro e w' ⟨rfl, hr, hsz, hb⟩
    refine ⟨_, rfl, .inr ⟨_, _, rfl, Nat.le_refl _, by omega, fun _ => ⟨rfl, xs.length, ?_, Nat.le_refl _⟩, fun i hi => ?_⟩, hb⟩
    · obtain ⟨c, h1, h2, _⟩ := hr
      exact ⟨c, h1, h2⟩
    · rw [Nat.zero_add, hr.cell hi]
      simp [filled, hi]

set_option maxHeartbeats 400000 in
theorem szIntS_g {md : Bool} (a : Option Addr) (cap lo hi : Nat) (xs : List Int) (left : Int) (w : World) (hl : NumsB 9223372036854775807 xs) (hx : NumsM md w lo hi a xs) (hh : hi ≤ w.heap.size) (l0 : 0 ≤ left) (l1 : left ≤ 1048576) :
    Calls Tryz.prog 16 #[.slice a xs.length cap, .int .i64 left] w fun e w' => ∃ r : Int, e = .returned (.int .i64 r) ∧ -1 ≤ r ∧ r ≤ left ∧ (0 ≤ r → NumsB 1048576 xs) ∧ Below w.heap.size w w' := by
  have hn : xs.length ≤ 9223372036854775807 := hl
  clear hl hx
  by_cases hlt : left - (xs.length : Int) < 0
  · go_enter Tryz.func16, Tryz.ntmps16
    go_wp2_with fail
    go_ret
    exact ⟨-1, rfl, by omega, by omega, fun _ => (by unfold NumsB; omega), Below.refl _ _⟩
  · go_enter Tryz.func16, Tryz.ntmps16
    go_wp2_with fail
    go_ret
    exact ⟨left - xs.length, rfl, by omega, by omega, fun _ => (by unfold NumsB; omega), Below.refl _ _⟩

theorem eqIntS_g {md md' : Bool} (a a' : Option Addr) (cap cap' lo hi lo' hi' : Nat) (xs : List Int) (w : World) (hn : NumsB 1048576 xs) (hx : NumsM md w lo hi a xs) (hy : NumsM md' w lo' hi' a' xs) (hh : hi ≤ w.heap.size) (hh' : hi' ≤ w.heap.size) :
    Calls Tryz.prog 24 #[.slice a xs.length cap, .slice a' xs.length cap'] w fun e w' => e = .returned (.bool true) ∧ Below w.heap.size w w' := by
  refine (eqIntS_any a a' cap cap' lo hi lo' hi' xs w hn hx.ints hy.ints).mono ?_
  rintro e w' ⟨rfl, m, rfl⟩
  exact ⟨rfl, below_drewN (Below.refl _ _) m⟩
end Go.Proofs.YtembifoimiochaaGreatDoor
