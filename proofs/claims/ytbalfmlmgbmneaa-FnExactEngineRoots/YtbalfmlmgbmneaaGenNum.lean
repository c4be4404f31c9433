/- Lists of numbers, in the one form that the generated texts take. -/
import Derived.Test.YtbalfmlmgbmneaaGenRoot
import Derived.Test.YtbalfmlmgbmneaaIntsTo
namespace Go.Proofs.Ytbalfmlmgbmneaa
open Go.ChangeShapes Go.WideShapes Go.ChangeAt Go.RowKit Go.Joins Go.Deep
set_option linter.unusedVariables false

/-- xs lies at a; in a block of its own, if md. -/
def NumsM (md : Bool) (w : World) (lo hi : Nat) (a : Option Addr) (xs : List Int) : Prop :=
  xs = [] ∨ ∃ b off, a = some ⟨b, off, none⟩ ∧ lo ≤ b ∧ b < hi ∧ (md = true → off = 0 ∧ ∃ m, Own w b m 3 ∧ xs.length ≤ m) ∧ ∀ i, i < xs.length → w.cell? ⟨b, off + i, none⟩ = some (.int .i64 (nAt xs i))
theorem NumsM.same {md : Bool} {lo hi lo' hi' : Nat} {w w' : World} {a : Option Addr} {xs : List Int} (h : NumsM md w lo hi a xs) (hs : Same lo hi w w') (h1 : lo' ≤ lo) (h2 : hi ≤ hi') : NumsM md w' lo' hi' a xs := by
  rcases h with rfl | ⟨b, off, rfl, h3, h4, h5, h6⟩
  · exact .inl rfl
  · exact .inr ⟨b, off, rfl, by omega, by omega, fun e => ⟨(h5 e).1, (h5 e).2.imp fun m hm => ⟨hm.1.of_block (hs b h3 h4), hm.2⟩⟩, fun i hi => (hs.cell h3 h4).trans (h6 i hi)⟩
theorem NumsM.plain {md : Bool} {lo hi : Nat} {w : World} {a : Option Addr} {xs : List Int} (h : NumsM md w lo hi a xs) : NumsM false w lo hi a xs := by
  rcases h with rfl | ⟨b, off, rfl, h3, h4, h5, h6⟩
  · exact .inl rfl
  · exact .inr ⟨b, off, rfl, h3, h4, fun e => (by cases e), h6⟩
theorem NumsM.keep {md : Bool} {lo hi : Nat} {w w' : World} {a : Option Addr} {xs : List Int} (h : NumsM md w lo hi a xs) (hb : Below hi w w') : NumsM md w' lo hi a xs := h.same (.of_below hb (Nat.le_refl _)) (Nat.le_refl _) (Nat.le_refl _)
theorem NumsM.wide {md : Bool} {lo hi lo' hi' : Nat} {w : World} {a : Option Addr} {xs : List Int} (h : NumsM md w lo hi a xs) (h1 : lo' ≤ lo) (h2 : hi ≤ hi') : NumsM md w lo' hi' a xs := h.same (Same.refl _ _ _) h1 h2
theorem NumsM.ints {md : Bool} {lo hi : Nat} {w : World} {a : Option Addr} {xs : List Int} (h : NumsM md w lo hi a xs) : IntsIn w lo hi a xs := by
  rcases h with rfl | ⟨b, off, rfl, h3, h4, h5, h6⟩
  · exact .inl rfl
  · exact .inr ⟨b, off, rfl, h3, h4, h6⟩
def NumsB (N : Nat) (xs : List Int) : Prop := xs.length ≤ N

theorem toIntS_g {md : Bool} (a : Option Addr) (cap lo hi : Nat) (xs : List Int) (w : World) (hn : NumsB 1048576 xs) (hx : NumsM md w lo hi a xs) (hh : hi ≤ w.heap.size) :
    Calls Try.prog 20 #[.slice a xs.length cap] w fun e w' => ∃ na, e = .returned (.slice na xs.length xs.length) ∧ NumsM true w' w.heap.size w'.heap.size na xs ∧ Below w.heap.size w w' := by
  refine (toIntS_core a cap xs.length (nAt xs) w hn ?_).mono ?_
  · rcases hx with rfl | ⟨b, off, rfl, h1, h2, _, h3⟩
    · exact .inl (Nat.le_refl _)
    · exact .inr ⟨b, off, rfl, Nat.lt_of_lt_of_le h2 hh, h3⟩
  · rintro e w' ⟨rfl, hr, hsz, hb⟩
    refine ⟨_, rfl, .inr ⟨_, _, rfl, Nat.le_refl _, by omega, fun _ => ⟨rfl, xs.length, ?_, Nat.le_refl _⟩, fun i hi => ?_⟩, hb⟩
    · obtain ⟨c, h1, h2, _⟩ := hr
      exact ⟨c, h1, h2⟩
    · rw [Nat.zero_add, hr.cell hi]
      simp [filled, hi]

set_option maxHeartbeats 400000 in
theorem szIntS_g {md : Bool} (a : Option Addr) (cap lo hi : Nat) (xs : List Int) (left : Int) (w : World) (hl : NumsB 9223372036854775807 xs) (hx : NumsM md w lo hi a xs) (hh : hi ≤ w.heap.size) (l0 : 0 ≤ left) (l1 : left ≤ 1048576) :
    Calls Try.prog 16 #[.slice a xs.length cap, .int .i64 left] w fun e w' => ∃ r : Int, e = .returned (.int .i64 r) ∧ -1 ≤ r ∧ r ≤ left ∧ (0 ≤ r → NumsB 1048576 xs) ∧ Below w.heap.size w w' := by
  have hn : xs.length ≤ 9223372036854775807 := hl
  clear hl hx
  by_cases hlt : left - (xs.length : Int) < 0
  · go_enter Try.func16, Try.ntmps16
    go_wp2_with fail
    go_ret
    exact ⟨-1, rfl, by omega, by omega, fun _ => (by unfold NumsB; omega), Below.refl _ _⟩
  · go_enter Try.func16, Try.ntmps16
    go_wp2_with fail
    go_ret
    exact ⟨left - xs.length, rfl, by omega, by omega, fun _ => (by unfold NumsB; omega), Below.refl _ _⟩

theorem eqIntS_g {md md' : Bool} (a a' : Option Addr) (cap cap' lo hi lo' hi' : Nat) (xs : List Int) (w : World) (hn : NumsB 1048576 xs) (hx : NumsM md w lo hi a xs) (hy : NumsM md' w lo' hi' a' xs) (hh : hi ≤ w.heap.size) (hh' : hi' ≤ w.heap.size) :
    Calls Try.prog 27 #[.slice a xs.length cap, .slice a' xs.length cap'] w fun e w' => e = .returned (.bool true) ∧ Below w.heap.size w w' := by
  refine (eqIntS_any a a' cap cap' lo hi lo' hi' xs w hn hx.ints hy.ints).mono ?_
  rintro e w' ⟨rfl, m, rfl⟩
  exact ⟨rfl, below_drewN (Below.refl _ _) m⟩
end Go.Proofs.Ytbalfmlmgbmneaa
