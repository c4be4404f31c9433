/- Groups that are not right: the mathematics that FnKinBent wants. -/
import Derived.Test.YtejkebfhiddhmaaDoorKaMore
import Derived.Test.YtejkebfhiddhmaaDoorKaCanon
namespace Go.Proofs.YtejkebfhiddhmaaDoor
set_option linter.unusedVariables false

section
variable {gs : List (List Ty)}

/-- The first type of a group that stands behind the others, and its second. -/
theorem tyN_snoc (gs : List (List Ty)) (t : List Ty) (i : Nat) (hi : i < t.length) : tyN (gs ++ [t]) (kinCount gs + i) = tyAt t i := by
  have hk := kinCount_snoc gs t
  have hlt : kinCount gs + i < kinCount (gs ++ [t]) := by omega
  have hg : grp (gs ++ [t]) (kinCount gs + i) = gs.length := by
    obtain ⟨k1, k2, k3⟩ := grp_spec (gs ++ [t]) (kinCount gs + i) hlt
    refine grp_uniq k2 k3 (by rw [countTo_more (Nat.le_refl _)]; unfold kinCount; omega) ?_
    have := kinCount_snoc gs t
    unfold kinCount at this ⊢
    simp only [List.length_append, List.length_singleton] at this
    rw [this]; omega
  unfold tyN
  rw [flat_at hlt, hg, grAt_append_one, beg_more (Nat.le_refl _)]
  congr 1
  unfold beg kinCount
  omega
theorem not_ok_parts {gs : List (List Ty)} (h : ¬ Parts gs) : kinOkF gs = false := by
  cases e : kinOkF gs with
  | false => rfl
  | true => exact absurd ((kinOk_iff _).1 e).1 h
theorem not_ok_long {gs : List (List Ty)} (h : 4 < gs.length) : kinOkF gs = false := not_ok_parts fun hP => by have := hP.1; omega
theorem not_ok_none : kinOkF (gs ++ [[]]) = false := not_ok_parts fun hP => by
  have := (hP.2.2 gs.length (by simp)).1
  rw [grAt_append_one] at this
  simp at this
/-- A type of the last group that is not written right. -/
theorem not_ok_form {t : List Ty} (i : Nat) (hi : i < t.length) (h : formOk (tyAt t i) ((kinCount gs + i : Nat) : Int) ((kinCount gs + t.length : Nat) : Int) = false) : kinOkF (gs ++ [t]) = false := not_ok_parts fun hP => by
  have := (hP.2.2 gs.length (by simp)).2 i (by rw [grAt_append_one]; exact hi)
  rw [grAt_append_one, countTo_more (Nat.le_refl _)] at this
  have e : countTo (grAt gs) gs.length = kinCount gs := rfl
  rw [e, h] at this
  cases this
theorem not_ok_below {t : List Ty} (i : Nat) (hi : i < t.length) (h0 : 0 ≤ (tyAt t i).up) (h : belowF (gs ++ [t]) (tyAt t i) (tyN (gs ++ [t]) (tyAt t i).up.toNat) = false) : kinOkF (gs ++ [t]) = false := by
  cases e : kinOkF (gs ++ [t]) with
  | false => rfl
  | true =>
    have hk := kinCount_snoc gs t
    have := ((kinOk_iff _).1 e).2 (kinCount gs + i) (by omega)
    rw [tyN_snoc gs t i hi, h] at this
    rcases this with h1 | h1
    · omega
    · cases h1

def boxN : Ty := ⟨1, -1, false, []⟩
def bentA (n : Int) : List Ty := [⟨1, n, false, []⟩]
def bentB (n : Int) : List Ty := [⟨1, -1, true, []⟩, ⟨1, n, false, []⟩]
def bentC : List Ty := [⟨2, -1, false, [⟨1, 0, false⟩, ⟨1, 0, false⟩]⟩]
def bentD (n : Int) : List Ty := [⟨1, -1, false, [⟨2, n + 1, false⟩]⟩]
def bentE (n : Int) : List Ty := [⟨1, -1, false, [⟨2, n + 1, false⟩]⟩, ⟨1, n, false, [⟨3, n + 1, false⟩]⟩]

theorem bentA_no : kinOkF (gs ++ [bentA (kinCount gs : Nat)]) = false := by
  refine not_ok_form 0 (by simp [bentA]) ?_
  simp [bentA, tyAt, formOk]
theorem bentB_no : kinOkF (gs ++ [bentB (kinCount gs : Nat)]) = false := by
  refine not_ok_below 1 (by simp [bentB]) (by simp [bentB, tyAt]) ?_
  have e : (tyAt (bentB (kinCount gs : Nat)) 1).up.toNat = kinCount gs + 0 := by simp [bentB, tyAt]
  rw [e, tyN_snoc gs _ 0 (by simp [bentB])]
  simp [bentB, tyAt, belowF]
theorem bentC_no : kinOkF (gs ++ [bentC]) = false := by
  refine not_ok_form 0 (by simp [bentC]) ?_
  simp [bentC, tyAt, formOk]
theorem bentD_no : kinOkF (gs ++ [bentD (kinCount gs : Nat)]) = false := by
  refine not_ok_form 0 (by simp [bentD]) ?_
  simp [bentD, tyAt, formOk, allTo, fdAt, fieldOk]
  omega
theorem bentE_ok (h : kinOkF gs = true) (h1 : gs.length < 4) (h2 : kinCount gs + 2 ≤ 8) : kinOkF (gs ++ [bentE (kinCount gs : Nat)]) = true := by
  have hP := kinOk_parts h
  refine kinOk_snoc h ⟨by simp; omega, by rw [kinCount_snoc]; simp [bentE]; omega, fun x hx => ?_⟩ (fun i hi => ?_)
  · by_cases c : x < gs.length
    · rw [grAt_append_left _ _ _ c, countTo_more (by omega)]
      exact hP.2.2 x c
    · have : x = gs.length := by simp at hx; omega
      subst this
      rw [grAt_append_one, countTo_more (Nat.le_refl _)]
      refine ⟨by simp [bentE], fun i hi => ?_⟩
      have e : countTo (grAt gs) gs.length = kinCount gs := rfl
      rw [e]
      have : i = 0 ∨ i = 1 := by simp [bentE] at hi; omega
      rcases this with rfl | rfl
      · simp [bentE, tyAt, formOk, allTo, fdAt, fieldOk]; omega
      · simp [bentE, tyAt, formOk, allTo, fdAt, fieldOk]; omega
  · have : i = 0 ∨ i = 1 := by simp [bentE] at hi; omega
    rcases this with rfl | rfl
    · left; simp [bentE, tyAt]
    · right
      have e : (tyAt (bentE (kinCount gs : Nat)) 1).up.toNat = kinCount gs + 0 := by simp [bentE, tyAt]
      rw [e, tyN_snoc gs _ 0 (by simp [bentE])]
      simp [bentE, tyAt, belowF, allTo, fdAt, fitsF, sortF, under]
end
end Go.Proofs.YtejkebfhiddhmaaDoor
