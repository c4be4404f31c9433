/- kinFewEnough, kinFieldsFew and kinWellFormed of the program. -/
import Derived.Test.YtlmciclkfmeepaaDoorCanonB
import Derived.Test.YtlmciclkfmeepaaDoorRowFlat
namespace Go.Proofs.YtlmciclkfmeepaaDoor
open Go.ChangeShapes Go.WideShapes Go.ChangeAt Go.RowKit
set_option linter.unusedVariables false

def someF (gs : List (List Ty)) (k : Nat) : Bool := allTo (fun x => decide (0 < (grAt gs x).length)) k
def fewF (gs : List (List Ty)) : Bool := decide (gs.length ≤ 4) && (someF gs gs.length && decide (kinCount gs ≤ 8))

set_option maxHeartbeats 800000 in
theorem kinFewEnough_any (ga : Option Addr) (gc lo hi : Nat) (gs : List (List Ty)) (w : World) (hN : Few gs) (hx : GroupsIn w lo hi ga gs) :
    Calls Tryd.prog 44 #[.slice ga gs.length gc] w fun e w' => e = .returned (.bool (fewF gs)) ∧ w' = w := by
  have HC := hide (implKinCount_any ga gc lo hi gs w hN hx)
  have HN := hide hN
  have n1 := hN.1
  have n2 := kinCount_le hN
  clear hN
  by_cases h4 : gs.length ≤ 4
  · have hx' : gs.length ≤ 0 ∨ ∃ b off, ga = some ⟨b, off, none⟩ ∧ lo ≤ b ∧ b < hi ∧ ∀ i, i < gs.length → GroupAt w lo hi b (off + i) (grAt gs i) := by
      rcases hx with rfl | ⟨b, off, rfl, h1, h2, h3⟩
      · exact .inl (Nat.le_refl _)
      · exact .inr ⟨b, off, rfl, h1, h2, h3⟩
    clear hx
    have HF : Hid (fewF gs = (someF gs gs.length && decide (kinCount gs ≤ 8))) := by show _ = _; simp [fewF, h4]
    rcases hx' with h0 | ⟨b, off, rfl, h1, h2, h3⟩
    all_goals
      go_enter Tryd.func44, Tryd.ntmps44
      go_wp2_with fail
      go_loop [10] (fun i => ∃ k : Nat, k ≤ gs.length ∧ i = .int .i64 k ∧ someF gs k = true) (fun i => gs.length - (intOf i).toNat)
      case atStart => exact ⟨0, Nat.zero_le _, rfl, rfl⟩
      case round =>
        obtain ⟨k, hk, rfl, hA⟩ := hrel
        have HA := hide hA
        clear hA
        by_cases hkn : k < gs.length
        · first
          | (exfalso; omega)
          | (obtain ⟨ta, tc, c3, c4⟩ := h3 k hkn
             have q2 := (HN.out.2 k hkn).1
             clear h3 c4
             by_cases h0 : (grAt gs k).length = 0
             · have HZ : Hid (fewF gs = false) := by
                 show _ = _
                 have : someF gs gs.length = false := allTo_false hkn (by simp [h0])
                 rw [HF.out, this]; rfl
               rw [h0] at c3
               clear h0
               go_wp2_with fail
               go_ret
               exact ⟨ret_bool HZ.out.symm, rfl⟩
             · have h0' : (((grAt gs k).length : Int) == 0) = false := beq_eq_false_iff_ne.2 (by omega)
               go_wp2_with fail
               exact ⟨⟨k + 1, by omega, by go_num, by show (someF gs k && _) = true; rw [HA.out]; simp; omega⟩, by simp [intOf]; omega⟩)
        · have hke : Hid (k = gs.length) := Nat.le_antisymm hk (Nat.le_of_not_lt hkn)
          go_wp2_with fail
          refine HC.out.mono ?_
          rintro e w1 ⟨rfl, rfl⟩
          go_wp2_with fail
          go_ret
          refine ⟨ret_bool ?_, rfl⟩
          rw [HF.out, ← hke.out, HA.out, Bool.eq_iff_iff]
          simp <;> omega
  · have HF : Hid (fewF gs = false) := by show _ = _; simp [fewF, h4]
    go_enter Tryd.func44, Tryd.ntmps44
    go_wp2_with fail
    go_ret
    exact ⟨ret_bool HF.out.symm, rfl⟩

/-- kinFieldsFew. -/
def fieldsFewF (k : Int) (n : Nat) : Bool := if k = 1 then decide (n ≤ 4) else if k = 2 then decide (n = 1) else false

set_option maxHeartbeats 800000 in
theorem kinFieldsFew_any (k u : Int) (l : Bool) (fa : Option Addr) (n fc : Nat) (w : World) (hn : n ≤ 1048576) :
    Calls Tryd.prog 63 #[.agg #[.int .i64 k, .int .i64 u, .bool l, .slice fa n fc]] w fun e w' => e = .returned (.bool (fieldsFewF k n)) ∧ Below w.heap.size w w' := by
  by_cases h1 : k = 1
  · subst h1
    go_enter Tryd.func63, Tryd.ntmps63
    go_wp2_with fail
    go_ret
    refine ⟨ret_bool ?_, (Below.refl _ _).alloc (Nat.le_refl _) _⟩
    rw [Bool.eq_iff_iff]; simp [fieldsFewF]; try omega
  by_cases h2 : k = 2
  · subst h2
    go_enter Tryd.func63, Tryd.ntmps63
    go_wp2_with fail
    go_ret
    refine ⟨ret_bool ?_, (Below.refl _ _).alloc (Nat.le_refl _) _⟩
    rw [Bool.eq_iff_iff]; simp [fieldsFewF]; try omega
  have n1 : (k == 1) = false := beq_eq_false_iff_ne.2 h1
  have n2 : (k == 2) = false := beq_eq_false_iff_ne.2 h2
  have HF : Hid (fieldsFewF k n = false) := by show _ = _; simp [fieldsFewF, h1, h2]
  clear h1 h2
  go_enter Tryd.func63, Tryd.ntmps63
  go_wp2_with fail
  go_ret
  exact ⟨ret_bool HF.out.symm, (Below.refl _ _).alloc (Nat.le_refl _) _⟩
end Go.Proofs.YtlmciclkfmeepaaDoor
