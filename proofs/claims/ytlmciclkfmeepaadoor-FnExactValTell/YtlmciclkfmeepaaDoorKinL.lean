/- KinOk, plainly: what the program looks at is what the model looks at. -/
import Derived.Test.YtlmciclkfmeepaaDoorKinK
namespace Go.Proofs.YtlmciclkfmeepaaDoor
open Go.ChangeShapes Go.WideShapes Go.ChangeAt Go.RowKit
set_option linter.unusedVariables false

/-- A type's form is right, among its group's types. -/
def formN (gs : List (List Ty)) (p : Nat) : Bool := formOk (tyN gs p) (p : Nat) (beg gs (grp gs p + 1) : Nat)
/-- What is above a type is right by its form. -/
def upN (gs : List (List Ty)) (p : Nat) : Bool :=
  decide ((tyN gs p).up < 0) || (((tyN gs (tyN gs p).up.toNat).kind == (tyN gs p).kind) && (!(tyN gs (tyN gs p).up.toNat).last && decide ((tyN gs (tyN gs p).up.toNat).fields.length ≤ (tyN gs p).fields.length)))

theorem grp_place {gs : List (List Ty)} {p : Nat} (hp : p < kinCount gs) : grp gs p < gs.length ∧ p - beg gs (grp gs p) < (grAt gs (grp gs p)).length ∧ beg gs (grp gs p) + (p - beg gs (grp gs p)) = p := by
  obtain ⟨g1, g2, g3⟩ := grp_spec gs p hp
  refine ⟨g1, ?_, ?_⟩
  · unfold beg; simp only [countTo] at g3; omega
  · unfold beg; omega

theorem kr_of {gs : List (List Ty)} {p : Nat} (hp : p < kinCount gs) : krAt (rowsOf gs) p = ⟨tyN gs p, beg gs (grp gs p), beg gs (grp gs p + 1)⟩ := by
  obtain ⟨h1, h2, h3⟩ := grp_place hp
  have h := rows_at (gs := gs) h1 h2
  rw [h3] at h
  rw [h]
  unfold tyN
  rw [flat_at hp]

theorem bool_iff {a b : Bool} (h : a = true ↔ b = true) : a = b := Bool.eq_iff_iff.2 h

theorem wellF_eq {gs : List (List Ty)} {p : Nat} (hp : p < kinCount gs) : wellF (rowsOf gs) p = (formN gs p && upN gs p) := by
  apply bool_iff
  have hk : ∀ q, q < p → (krAt (rowsOf gs) q).t = tyN gs q := fun q hq => rows_ty gs (by omega)
  unfold wellF formN upN formOk okFields fieldsFewF upF
  rw [kr_of hp]
  simp only [Bool.and_eq_true, Bool.or_eq_true, decide_eq_true_eq]
  by_cases hu : 0 ≤ (tyN gs p).up ∧ (tyN gs p).up < (p : Int)
  · have e := hk (tyN gs p).up.toNat (by omega)
    rw [e]
    generalize tyN gs (tyN gs p).up.toNat = u
    generalize allTo (fun i => fieldOk (fdAt (tyN gs p).fields i).kind (fdAt (tyN gs p).fields i).of ((beg gs (grp gs p + 1) : Nat) : Int)) (tyN gs p).fields.length = A
    generalize tyN gs p = t at *
    constructor
    · rintro ⟨h1, h2, h3⟩
      split at h1
      · rename_i hk1
        simp only [decide_eq_true_eq] at h1
        refine ⟨⟨⟨⟨by omega, hu.2⟩, h1⟩, .inl hk1, h2⟩, ?_⟩
        rcases h3 with h3 | ⟨_, h3⟩
        · omega
        · exact .inr h3
      · split at h1
        · rename_i hk1 hk2
          simp only [decide_eq_true_eq] at h1
          refine ⟨⟨⟨⟨by omega, hu.2⟩, by omega⟩, .inr ⟨hk2, h1⟩, h2⟩, ?_⟩
          rcases h3 with h3 | ⟨_, h3⟩
          · omega
          · exact .inr h3
        · cases h1
    · rintro ⟨⟨⟨⟨h1, h2⟩, h3⟩, h4, h5⟩, h6⟩
      refine ⟨?_, h5, .inr ⟨hu, ?_⟩⟩
      · rcases h4 with h4 | ⟨h4, h4'⟩
        · rw [if_pos h4]; simpa using h3
        · rw [if_neg (by omega), if_pos h4]; simpa using h4'
      · rcases h6 with h6 | h6
        · omega
        · exact h6
  · generalize allTo (fun i => fieldOk (fdAt (tyN gs p).fields i).kind (fdAt (tyN gs p).fields i).of ((beg gs (grp gs p + 1) : Nat) : Int)) (tyN gs p).fields.length = A
    generalize tyN gs p = t at *
    constructor
    · rintro ⟨h1, h2, h3⟩
      have hm1 : t.up = -1 := by
        rcases h3 with h3 | ⟨h3, _⟩
        · exact h3
        · exact absurd h3 hu
      split at h1
      · rename_i hk1
        simp only [decide_eq_true_eq] at h1
        exact ⟨⟨⟨⟨by omega, by omega⟩, h1⟩, .inl hk1, h2⟩, .inl (by omega)⟩
      · split at h1
        · rename_i hk1 hk2
          simp only [decide_eq_true_eq] at h1
          exact ⟨⟨⟨⟨by omega, by omega⟩, by omega⟩, .inr ⟨hk2, h1⟩, h2⟩, .inl (by omega)⟩
        · cases h1
    · rintro ⟨⟨⟨⟨h1, h2⟩, h3⟩, h4, h5⟩, h6⟩
      refine ⟨?_, h5, .inl (by omega)⟩
      rcases h4 with h4 | ⟨h4, h4'⟩
      · rw [if_pos h4]; simpa using h3
      · rw [if_neg (by omega), if_pos h4]; simpa using h4'

theorem parts_of_forms {gs : List (List Ty)} (hf : fewF gs = true) (h : ∀ p, p < kinCount gs → formN gs p = true) : Parts gs := by
  unfold fewF at hf
  simp only [Bool.and_eq_true, decide_eq_true_eq] at hf
  obtain ⟨h4, hs, h8⟩ := hf
  refine ⟨h4, h8, fun x hx => ⟨?_, fun i hi => ?_⟩⟩
  · have := allTo_true hs x hx
    simpa using this
  · obtain ⟨g1, g2⟩ := grp_at hx hi
    have e := h _ g1
    unfold formN at e
    rw [g2] at e
    have et : tyN gs (beg gs x + i) = tyAt (grAt gs x) i := by
      unfold tyN
      rw [flat_at g1, g2]
      rw [show beg gs x + i - beg gs x = i by omega]
    rw [et] at e
    exact e
theorem forms_of_parts {gs : List (List Ty)} (hP : Parts gs) : fewF gs = true ∧ ∀ p, p < kinCount gs → formN gs p = true := by
  obtain ⟨h4, h8, h⟩ := hP
  refine ⟨?_, fun p hp => ?_⟩
  · unfold fewF
    simp only [Bool.and_eq_true, decide_eq_true_eq]
    exact ⟨h4, allTo_of fun x hx => by simpa using (h x hx).1, h8⟩
  · obtain ⟨g1, g2, g3⟩ := grp_place hp
    have e := (h _ g1).2 _ g2
    unfold formN
    have et : tyN gs p = tyAt (grAt gs (grp gs p)) (p - beg gs (grp gs p)) := by unfold tyN; rw [flat_at hp]
    rw [et]
    have e1 : countTo (grAt gs) (grp gs p) + (p - beg gs (grp gs p)) = p := g3
    rw [e1] at e
    exact e

theorem fieldUnder_sort {gs : List (List Ty)} {f g : Fd} (hf : fieldOk f.kind f.of (kinCount gs : Nat) = true) (hg : fieldOk g.kind g.of (kinCount gs : Nat) = true) : fieldUnderF gs f g = sortF gs f g := by
  unfold fieldUnderF; rw [hf, hg]; rfl
theorem fitsU_eq {gs : List (List Ty)} {f g : Fd} (hf : fieldOk f.kind f.of (kinCount gs : Nat) = true) (hg : fieldOk g.kind g.of (kinCount gs : Nat) = true) : fitsU gs f g = fitsF gs f g := by
  unfold fitsU fitsF; rw [fieldUnder_sort hf hg, fieldUnder_sort hg hf]

def wellAll (gs : List (List Ty)) (k : Nat) : Bool := allTo (wellF (rowsOf gs)) k
def fitsAll (gs : List (List Ty)) (k : Nat) : Bool := allTo (fitsAboveF gs) k

theorem wellAll_parts {gs : List (List Ty)} (hf : fewF gs = true) (hw : wellAll gs (kinCount gs) = true) : Parts gs ∧ ∀ p, p < kinCount gs → upN gs p = true := by
  have h : ∀ p, p < kinCount gs → formN gs p = true ∧ upN gs p = true := fun p hp => by
    have := allTo_true hw p hp
    rw [wellF_eq hp] at this
    simpa using this
  exact ⟨parts_of_forms hf fun p hp => (h p hp).1, fun p hp => (h p hp).2⟩

theorem kinOk_few {gs : List (List Ty)} (h : fewF gs = false) : kinOkF gs = false := by
  cases hp : partsF gs with
  | false => simp [kinOkF, hp]
  | true =>
    have := (forms_of_parts ((partsF_iff gs).1 hp)).1
    rw [h] at this; cases this
theorem kinOk_well {gs : List (List Ty)} (h : wellAll gs (kinCount gs) = false) : kinOkF gs = false := by
  cases hk : kinOkF gs with
  | false => rfl
  | true =>
    exfalso
    unfold kinOkF at hk
    simp only [Bool.and_eq_true] at hk
    obtain ⟨hp, hb⟩ := hk
    have hP := (partsF_iff gs).1 hp
    have : wellAll gs (kinCount gs) = true := allTo_of fun p hp' => by
      rw [wellF_eq hp', (forms_of_parts hP).2 p hp']
      have hbp := allTo_true hb p hp'
      unfold upN
      simp only [Bool.true_and]
      simp only [Bool.or_eq_true, decide_eq_true_eq] at hbp ⊢
      rcases hbp with h1 | h1
      · exact .inl h1
      · right
        unfold belowF at h1
        simp only [Bool.and_eq_true, beq_iff_eq] at h1 ⊢
        exact ⟨h1.1.1.1.symm, h1.1.1.2, h1.1.2⟩
    rw [h] at this; cases this
theorem kinOk_fits {gs : List (List Ty)} (hf : fewF gs = true) (hw : wellAll gs (kinCount gs) = true) : kinOkF gs = fitsAll gs (kinCount gs) := by
  obtain ⟨hP, hu⟩ := wellAll_parts hf hw
  unfold kinOkF fitsAll
  rw [(partsF_iff gs).2 hP, Bool.true_and]
  refine allTo_congr fun p hp => ?_
  have hup := hu p hp
  unfold fitsAboveF aboveF
  unfold upN at hup
  by_cases hneg : (tyN gs p).up < 0
  · simp [hneg]
  · have e : decide ((tyN gs p).up < 0) = false := by simp [hneg]
    rw [e] at hup ⊢
    simp only [Bool.false_or, Bool.and_eq_true, beq_iff_eq, decide_eq_true_eq] at hup ⊢
    obtain ⟨h1, h2, h3⟩ := hup
    obtain ⟨_, ⟨_, u2⟩, uf⟩ := parts_flat hP hp
    obtain ⟨_, _, vf⟩ := parts_flat hP (p := (tyN gs p).up.toNat) (by omega)
    unfold belowF
    have e1 : ((tyN gs p).kind == (tyN gs (tyN gs p).up.toNat).kind) = true := by simp [h1]
    have e3 : decide ((tyN gs (tyN gs p).up.toNat).fields.length ≤ (tyN gs p).fields.length) = true := by simpa using h3
    rw [e1, h2, e3]
    simp only [Bool.true_and]
    exact allTo_congr fun i hi => (fitsU_eq (uf i (by omega)) (vf i hi)).symm
end Go.Proofs.YtlmciclkfmeepaaDoor
