/- Slices of ints: how they lie in memory; toIntS copies them into new memory; eqIntS holds two against one another. -/
import Derived.Test.YtembifoimiochaaGreatDoorPhGen
import Derived.Test.YtembifoimiochaaGreatDoorEqInt
namespace Go.Proofs.YtembifoimiochaaGreatDoor
open Go.ChangeShapes Go.WideShapes Go.ChangeAt Go.RowKit
set_option linter.unusedVariables false

theorem Tryz.infoInt : (Tryz.prog.info? 3).map (fun i => (i.zero, i.size, i.bytes)) = some (some (.int .i64 0), 1, 8) := by kernel_rfl

/-- Numbers by their places, in a row that is filled up to k. -/
def filled (f : Nat → Int) (k : Nat) : Nat → Value := fun j => if j < k then .int .i64 (f j) else .int .i64 0

theorem filled_step (f : Nat → Int) (k : Nat) {n : Nat} (j : Nat) (_ : j < n) : (if j = k then Value.int .i64 (f k) else filled f k j) = filled f (k + 1) j := by
  unfold filled
  by_cases e : j = k
  · subst e; simp
  · rw [if_neg e]
    by_cases h : j < k
    · rw [if_pos h, if_pos (by omega)]
    · rw [if_neg h, if_neg (by omega)]

set_option maxHeartbeats 400000 in
theorem toIntS_core (a : Option Addr) (cap n : Nat) (f : Nat → Int) (w : World) (hn : n ≤ 1048576)
    (hx : n ≤ 0 ∨ ∃ b off, a = some ⟨b, off, none⟩ ∧ b < w.heap.size ∧ ∀ i, i < n → w.cell? ⟨b, off + i, none⟩ = some (.int .i64 (f i))) :
    Calls Tryz.prog 20 #[.slice a n cap] w fun e w' => e = .returned (.slice (some ⟨w.heap.size, 0, none⟩) n n) ∧ w'.rowIs w.heap.size 3 n (filled f n) ∧ w'.heap.size = w.heap.size + 1 ∧ Below w.heap.size w w' := by
  have hmk := run_make_row' (P := Tryz.prog) 23 3 (.int .i64 0) 8 Tryz.underlying23 Tryz.infoInt rfl .i64 .i64 n (by omega) (by omega)
  rcases hx with h0 | ⟨b, off, rfl, h2, h3⟩
  all_goals
    go_enter Tryz.func20, Tryz.ntmps20
    go_wp2
    go_loopw [4] (fun i wr => ∃ k : Nat, k ≤ n ∧ i = .int .i64 k ∧ wr.rowIs w.heap.size 3 n (filled f k) ∧ wr.heap.size = w.heap.size + 1 ∧ Below w.heap.size w wr) (fun i wr => n - (intOf i).toNat)
    case atStart => exact ⟨0, Nat.zero_le _, rfl, (World.rowIs_made w _ n _).congr (fun j _ => by simp [filled]), by simp, (Below.refl _ _).alloc (Nat.le_refl _) _⟩
    case round =>
      obtain ⟨k, hk, rfl, hr, hsz, hb⟩ := hrel
      by_cases hlt : k < n
      · first
        | (exfalso; omega)
        | (have hc := h3 k hlt
           rw [← hb.cell (p := ⟨b, off + k, none⟩) h2] at hc
           have hd := hr.cell hlt
           have hf := hr.frozen k
           clear h3
           go_wp2
           exact ⟨⟨k + 1, by omega, by go_num, (hr.set k _).congr (filled_step f k), by simpa using hsz, hb.setCell (Nat.le_refl _) _⟩, by simp [intOf]; omega⟩)
      · have hkn : Hid (k = n) := Nat.le_antisymm hk (Nat.le_of_not_lt hlt)
        go_wp2
        go_ret
        rw [hkn.out] at hr
        exact ⟨rfl, hr, hsz, hb⟩

theorem toIntS_any (a : Option Addr) (cap lo hi : Nat) (xs : List Int) (w : World) (hn : xs.length ≤ 1048576) (hx : IntsIn w lo hi a xs) (hh : hi ≤ w.heap.size) :
    Calls Tryz.prog 20 #[.slice a xs.length cap] w fun e w' => ∃ na, e = .returned (.slice na xs.length xs.length) ∧ IntsIn w' w.heap.size w'.heap.size na xs ∧ Below w.heap.size w w' := by
  refine (toIntS_core a cap xs.length (nAt xs) w hn ?_).mono ?_
  · rcases hx with rfl | ⟨b, off, rfl, h1, h2, h3⟩
    · exact .inl (Nat.le_refl _)
    · exact .inr ⟨b, off, rfl, Nat.lt_of_lt_of_le h2 hh, h3⟩
  · rintro e w' ⟨rfl, hr, hsz, hb⟩
    refine ⟨_, rfl, .inr ⟨_, _, rfl, Nat.le_refl _, by omega, fun i hi => ?_⟩, hb⟩
    rw [Nat.zero_add, hr.cell hi]
    simp [filled, hi]

theorem eqIntS_any (a a' : Option Addr) (cap cap' lo hi lo' hi' : Nat) (xs : List Int) (w : World) (hn : xs.length ≤ 1048576) (hx : IntsIn w lo hi a xs) (hy : IntsIn w lo' hi' a' xs) :
    Calls Tryz.prog 24 #[.slice a xs.length cap, .slice a' xs.length cap'] w fun e w' => e = .returned (.bool true) ∧ ∃ m, w' = w.drewN m := by
  refine eqIntS_core a a' cap cap' xs.length (nAt xs) w hn ?_
  rcases hx with rfl | ⟨b, off, rfl, h1, h2, h3⟩
  · exact .inl (Nat.le_refl _)
  · rcases hy with rfl | ⟨b', off', rfl, h1', h2', h3'⟩
    · exact .inl (Nat.le_refl _)
    · exact .inr ⟨b, off, b', off', rfl, rfl, h3, h3'⟩
end Go.Proofs.YtembifoimiochaaGreatDoor
