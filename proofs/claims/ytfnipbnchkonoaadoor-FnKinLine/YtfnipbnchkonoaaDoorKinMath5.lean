/- Lines: a type is under another one just if its line leads to that one. -/
import Derived.Test.YtfnipbnchkonoaaDoorWalkFnKinCut
namespace Go.Proofs.YtfnipbnchkonoaaDoor
open Go.ChangeShapes Go.WideShapes Go.ChangeAt Go.RowKit Go.Deep
set_option linter.unusedVariables false

/-- The line of a type of right groups. -/
def lineN (gs : List (List Ty)) (p : Nat) : List Int := (lineUp gs (p : Int) (kinCount gs + 1)).reverse
section
variable {gs : List (List Ty)}
theorem lineUp_stable (hP : Parts gs) {f f' : Nat} {a : Int} (h1 : a < (f : Int)) (h2 : a < (f' : Int)) : lineUp gs a f = lineUp gs a f' := by
  unfold lineUp
  rw [upL_stable (fun i hi => by have := (parts_flat hP hi).2.1; omega) f f' a h1 h2]
theorem lineN_step (hP : Parts gs) {p : Nat} (hp : p < kinCount gs) : lineN gs p = (lineUp gs (tyN gs p).up (kinCount gs + 1)).reverse ++ [(canon gs p : Int)] := by
  have hu := (parts_flat hP hp).2.1
  unfold lineN
  rw [lineUp_succ gs p (kinCount gs) hp, List.reverse_cons, lineUp_stable hP (f := kinCount gs) (f' := kinCount gs + 1) (by omega) (by omega)]
theorem lineN_up (hP : Parts gs) {p u : Nat} (hp : p < kinCount gs) (hu : (tyN gs p).up = (u : Int)) : lineN gs p = lineN gs u ++ [(canon gs p : Int)] := by
  rw [lineN_step hP hp, hu]; rfl
theorem lineN_root (hP : Parts gs) {p : Nat} (hp : p < kinCount gs) (hu : (tyN gs p).up < 0) : lineN gs p = [(canon gs p : Int)] := by
  rw [lineN_step hP hp, lineUp_neg _ _ _ hu]; rfl
theorem lineN_cases (hP : Parts gs) {p : Nat} (hp : p < kinCount gs) : ((tyN gs p).up < 0 ∧ lineN gs p = [(canon gs p : Int)]) ∨ ∃ u : Nat, (tyN gs p).up = (u : Int) ∧ u < p ∧ u < kinCount gs ∧ lineN gs p = lineN gs u ++ [(canon gs p : Int)] := by
  have hu := (parts_flat hP hp).2.1
  by_cases h : (tyN gs p).up < 0
  · exact .inl ⟨h, lineN_root hP hp h⟩
  · obtain ⟨u, hU⟩ := Int.eq_ofNat_of_zero_le (show 0 ≤ (tyN gs p).up by omega)
    exact .inr ⟨u, hU, by omega, by omega, lineN_up hP hp hU⟩
theorem lineN_last (hP : Parts gs) {p : Nat} (hp : p < kinCount gs) : ∃ l, lineN gs p = l ++ [(canon gs p : Int)] := ⟨_, lineN_step hP hp⟩
theorem lineN_same (hP : Parts gs) : ∀ p, p < kinCount gs → ∀ q, q < kinCount gs → canon gs p = canon gs q → lineN gs p = lineN gs q := by
  intro p
  induction p using Nat.strongRecOn with
  | _ p ih =>
    intro hp q hq hc
    have hs := (same_iff hP hp hq).2 hc
    rcases lineN_cases hP hp with ⟨h1, e1⟩ | ⟨u, hu, hlt, hul, e1⟩
    · rcases lineN_cases hP hq with ⟨h2, e2⟩ | ⟨v, hv, hvt, hvl, e2⟩
      · rw [e1, e2, hc]
      · rcases up_same hP hp hq hs with ⟨_, h⟩ | ⟨h, _⟩ <;> omega
    · rcases lineN_cases hP hq with ⟨h2, e2⟩ | ⟨v, hv, hvt, hvl, e2⟩
      · rcases up_same hP hp hq hs with ⟨h, _⟩ | ⟨_, h, _⟩ <;> omega
      · rcases up_same hP hp hq hs with ⟨h, _⟩ | ⟨_, _, h3⟩
        · omega
        · rw [hu, hv, Int.toNat_natCast, Int.toNat_natCast] at h3
          rw [e1, e2, hc, ih u hlt hul v hvl ((same_iff hP hul hvl).1 h3)]
theorem lineN_inj (hP : Parts gs) {p q : Nat} (hp : p < kinCount gs) (hq : q < kinCount gs) : lineN gs p = lineN gs q ↔ canon gs p = canon gs q := by
  constructor
  · intro h
    obtain ⟨l, e⟩ := lineN_last hP hp
    obtain ⟨m, f⟩ := lineN_last hP hq
    rw [e, f] at h
    have := (List.append_inj' h rfl).2
    simp at this
    omega
  · exact lineN_same hP p hp q hq
/-- Each beginning of a line is the line of what is above. -/
theorem lineN_take (hP : Parts gs) : ∀ p, p < kinCount gs → ∀ k, k < (lineN gs p).length → ∃ r, Above gs p r ∧ (lineN gs p).take (k + 1) = lineN gs r := by
  intro p
  induction p using Nat.strongRecOn with
  | _ p ih =>
    intro hp k hk
    rcases lineN_cases hP hp with ⟨h1, e1⟩ | ⟨u, hu, hlt, hul, e1⟩
    · rw [e1] at hk ⊢
      refine ⟨p, .refl p, ?_⟩
      rw [e1]
      exact List.take_of_length_le (by simp)
    · by_cases hl : k < (lineN gs u).length
      · obtain ⟨r, hr, e⟩ := ih u hlt hul k hl
        refine ⟨r, .step u hu hr, ?_⟩
        rw [e1, List.take_append_of_le_length (by omega)]
        exact e
      · refine ⟨p, .refl p, ?_⟩
        rw [e1] at hk ⊢
        exact List.take_of_length_le (by simp at hk ⊢; omega)
theorem above_line (hP : Parts gs) {p r : Nat} (h : Above gs p r) : p < kinCount gs → ∃ l, lineN gs p = lineN gs r ++ l := by
  induction h with
  | refl p => intro _; exact ⟨[], by simp⟩
  | @step p r u hu h ih =>
    intro hp
    have b := (parts_flat hP hp).2.1
    obtain ⟨l, e⟩ := ih (by omega)
    exact ⟨l ++ [(canon gs p : Int)], by rw [lineN_up hP hp hu, e, List.append_assoc]⟩
/-- Being under is having the other's line at the beginning of one's own; one look at it is enough. -/
theorem under_line (hP : Parts gs) {p q : Nat} (hp : p < kinCount gs) (hq : q < kinCount gs) :
    (under gs p q = true ↔ (lineN gs q).length ≤ (lineN gs p).length ∧ (lineN gs p).getD ((lineN gs q).length - 1) 0 = (lineN gs q).getD ((lineN gs q).length - 1) 0) ∧ (under gs p q = true → (lineN gs p).take (lineN gs q).length = lineN gs q) := by
  obtain ⟨m, f⟩ := lineN_last hP hq
  have hlen : (lineN gs q).length = m.length + 1 := by rw [f]; simp
  have hlast : (lineN gs q).getD ((lineN gs q).length - 1) 0 = (canon gs q : Int) := by rw [hlen, f]; simp
  have pre : under gs p q = true → ∃ l, lineN gs p = lineN gs q ++ l := by
    intro h
    obtain ⟨r, hr, hc⟩ := (under_iff hP hp hq).1 h
    have := hr.le hP hp
    obtain ⟨l, e⟩ := above_line hP hr hp
    exact ⟨l, by rw [e, lineN_same hP r (by omega) q hq hc]⟩
  refine ⟨⟨fun h => ?_, fun ⟨h1, h2⟩ => ?_⟩, fun h => ?_⟩
  · obtain ⟨l, e⟩ := pre h
    refine ⟨by rw [e]; simp, ?_⟩
    rw [e]
    simp only [List.getD_eq_getElem?_getD]
    rw [List.getElem?_append_left (by omega)]
  · obtain ⟨r, hr, e⟩ := lineN_take hP p hp (m.length) (by omega)
    have hrl := hr.le hP hp
    refine (under_iff hP hp hq).2 ⟨r, hr, ?_⟩
    obtain ⟨s, g⟩ := lineN_last hP (p := r) (by omega)
    have hsl : s.length = m.length := by
      have := congrArg List.length e
      rw [g, List.length_take] at this
      simp at this
      omega
    have hx : (lineN gs p).getD m.length 0 = (canon gs r : Int) := by
      have h3 : ((lineN gs p).take (m.length + 1)).getD m.length 0 = (canon gs r : Int) := by rw [e, g, ← hsl]; simp
      rw [← h3]
      simp
    rw [hlast, hlen, Nat.add_sub_cancel, hx] at h2
    omega
  · obtain ⟨l, e⟩ := pre h
    rw [e]; simp
end
end Go.Proofs.YtfnipbnchkonoaaDoor
