/- The least type that is the same as each, plainly: types are the same just if their groups have one text and they stand at one place. -/
import Derived.Test.YtlmciclkfmeepaaDoorCanonA
namespace Go.Proofs.YtlmciclkfmeepaaDoor
open Go.ChangeShapes Go.WideShapes Go.ChangeAt Go.RowKit
set_option linter.unusedVariables false

/-- The least from i on, below i + f, at which p holds; i + f if there is none. -/
def firstFrom (p : Nat → Bool) : Nat → Nat → Nat
  | 0, i => i
  | f + 1, i => if p i then i else firstFrom p f (i + 1)
theorem firstFrom_spec (p : Nat → Bool) : ∀ f i, i ≤ firstFrom p f i ∧ firstFrom p f i ≤ i + f ∧ (firstFrom p f i < i + f → p (firstFrom p f i) = true) ∧ ∀ j, i ≤ j → j < firstFrom p f i → p j = false := by
  intro f
  induction f with
  | zero => intro i; refine ⟨Nat.le_refl _, Nat.le_refl _, fun h => absurd h (Nat.lt_irrefl _), fun j h1 h2 => ?_⟩; simp only [firstFrom] at h2; omega
  | succ f ih =>
    intro i
    unfold firstFrom
    split
    · rename_i h
      exact ⟨Nat.le_refl _, by omega, fun _ => h, fun j h1 h2 => by omega⟩
    · rename_i h
      obtain ⟨a, b, c, d⟩ := ih (i + 1)
      refine ⟨by omega, by omega, fun hl => c (by omega), fun j h1 h2 => ?_⟩
      by_cases e : j = i
      · subst e; simpa using h
      · exact d j (by omega) h2

/-- The least type that is the same. -/
def canon (gs : List (List Ty)) (a : Nat) : Nat := firstFrom (fun i => same gs i a) a 0
/-- The text of a group. -/
def txt (gs : List (List Ty)) (x : Nat) : List UInt8 := grpTxt (canon gs) (beg gs x) (grAt gs x)
/-- The first group of that text. -/
def lead (gs : List (List Ty)) (x : Nat) : Nat := firstFrom (fun y => decide (txt gs y = txt gs x)) x 0

theorem canon_le (gs : List (List Ty)) (a : Nat) : canon gs a ≤ a := by have := (firstFrom_spec (fun i => same gs i a) a 0).2.1; rw [Nat.zero_add] at this; exact this
theorem lead_le (gs : List (List Ty)) (x : Nat) : lead gs x ≤ x := by have := (firstFrom_spec (fun y => decide (txt gs y = txt gs x)) x 0).2.1; rw [Nat.zero_add] at this; exact this
theorem lead_txt (gs : List (List Ty)) (x : Nat) : txt gs (lead gs x) = txt gs x := by
  have h := (firstFrom_spec (fun y => decide (txt gs y = txt gs x)) x 0).2.2.1
  by_cases e : lead gs x = x
  · rw [e]
  · have := lead_le gs x
    exact of_decide_eq_true (h (show lead gs x < 0 + x by omega))
theorem lead_least (gs : List (List Ty)) (x y : Nat) (h : txt gs y = txt gs x) : lead gs x ≤ y := by
  by_cases e : y < lead gs x
  · have := (firstFrom_spec (fun y => decide (txt gs y = txt gs x)) x 0).2.2.2 y (Nat.zero_le _) e
    simp [h] at this
  · omega
theorem same_refl (gs : List (List Ty)) (a : Nat) : same gs a a = true := by
  show sameStep _ gs a a = true
  simp [sameStep]
theorem canon_same (gs : List (List Ty)) (a : Nat) : same gs (canon gs a) a = true := by
  have h := (firstFrom_spec (fun i => same gs i a) a 0).2.2.1
  by_cases e : canon gs a = a
  · rw [e]; exact same_refl gs a
  · have := canon_le gs a
    exact h (show canon gs a < 0 + a by omega)
theorem canon_least (gs : List (List Ty)) (a j : Nat) (h : j < canon gs a) : same gs j a = false := (firstFrom_spec (fun i => same gs i a) a 0).2.2.2 j (Nat.zero_le _) h

def KeyEq (gs : List (List Ty)) (p q : Nat) : Prop := p - beg gs (grp gs p) = q - beg gs (grp gs q) ∧ txt gs (grp gs p) = txt gs (grp gs q)

theorem canon_key {gs : List (List Ty)} {M : Nat} (hk : ∀ p q, p < M → q < M → (same gs p q = true ↔ KeyEq gs p q)) {a b : Nat} (ha : a < M) (hb : b < M) : canon gs a = canon gs b ↔ KeyEq gs a b := by
  have la := canon_le gs a
  have lb := canon_le gs b
  have ka := (hk _ _ (by omega) ha).1 (canon_same gs a)
  have kb := (hk _ _ (by omega) hb).1 (canon_same gs b)
  constructor
  · intro e
    rw [e] at ka
    exact ⟨ka.1.symm.trans kb.1, ka.2.symm.trans kb.2⟩
  · intro h
    have h1 : ¬ canon gs a < canon gs b := fun hl => by
      have := canon_least gs b _ hl
      rw [(hk _ _ (by omega) hb).2 ⟨ka.1.trans h.1, ka.2.trans h.2⟩] at this
      cases this
    have h2 : ¬ canon gs b < canon gs a := fun hl => by
      have := canon_least gs a _ hl
      rw [(hk _ _ (by omega) ha).2 ⟨kb.1.trans h.1.symm, kb.2.trans h.2.symm⟩] at this
      cases this
    omega

theorem canon_small {gs : List (List Ty)} {o : Int} (h1 : -2 ≤ o) (h2 : o < 8) : NameOk (canon gs) o := ⟨h1, h2, fun a ha => by have := canon_le gs a; omega⟩

theorem parts_tyOk {gs : List (List Ty)} (hP : Parts gs) {x : Nat} (hx : x < gs.length) : ∀ i, i < (grAt gs x).length → TyOk (canon gs) (tyAt (grAt gs x) i) := by
  intro i hi
  have h := (hP.2.2 x hx).2 i hi
  have hc : countTo (grAt gs) (x + 1) ≤ kinCount gs := countTo_mono (grAt gs) hx
  have h8 := hP.2.1
  simp only [countTo] at hc
  unfold formOk at h
  simp only [Bool.and_eq_true, Bool.or_eq_true, decide_eq_true_eq] at h
  obtain ⟨⟨⟨a1, a2⟩, a3⟩, a4, a5⟩ := h
  refine ⟨by omega, canon_small (by omega) (by omega), fun j hj => ?_⟩
  have hf := allTo_true a5 j hj
  unfold fieldOk at hf
  split at hf
  · simp at hf; exact ⟨by omega, canon_small (by omega) (by omega)⟩
  · split at hf
    · simp at hf; exact ⟨by omega, canon_small (by omega) (by omega)⟩
    · simp at hf

theorem matchF_congr2 {S S' : Nat → Nat → Bool} {gs : List (List Ty)} {a b : Int} {x y : Nat} (h : ∀ p q, p < beg gs x → q < beg gs y → S p q = S' p q) : matchF S gs a b x y = matchF S' gs a b x y := by
  unfold matchF
  split
  · rfl
  · split
    · rfl
    · by_cases c : a < (beg gs x : Int)
      · by_cases d : b < (beg gs y : Int)
        · rw [h _ _ (by omega) (by omega)]
        · simp [d]
      · simp [c]

theorem allTo_iff {p : Nat → Bool} {n : Nat} : allTo p n = true ↔ ∀ i, i < n → p i = true := ⟨allTo_true, allTo_of⟩

theorem alike_iff {gs : List (List Ty)} {S C x y} {s t : Ty} (hS : ∀ p q, p < beg gs x → q < beg gs y → (S p q = true ↔ C p = C q)) (hs : TyOk C s) (ht : TyOk C t) :
    alikeF S gs s t x y = true ↔ TEq C (beg gs x) (beg gs y) s t := by
  have hm : ∀ a b, matchF S gs a b x y = matchF (fun a b => C a == C b) gs a b x y := fun a b => matchF_congr2 fun p q hp hq => by
    rw [Bool.eq_iff_iff, hS p q hp hq]; simp
  unfold alikeF TEq
  rw [hm]
  simp only [Bool.and_eq_true, beq_iff_eq]
  rw [← nameK_iff hs.2.1 ht.2.1, allTo_iff]
  constructor
  · rintro ⟨⟨⟨a, b⟩, c⟩, d, e⟩
    refine ⟨a, b, d, c, fun i hi => ?_⟩
    have := e i hi
    unfold fAlike at this
    rw [hm] at this
    simp only [Bool.and_eq_true, Bool.or_eq_true, beq_iff_eq] at this
    rw [← nameK_iff (hs.2.2 i hi).2 (ht.2.2 i (by omega)).2] at this
    exact ⟨this.1.1, this.1.2, this.2⟩
  · rintro ⟨a, b, d, c, e⟩
    refine ⟨⟨⟨a, b⟩, c⟩, d, fun i hi => ?_⟩
    obtain ⟨f1, f2, f3⟩ := e i hi
    unfold fAlike
    rw [hm]
    simp only [Bool.and_eq_true, Bool.or_eq_true, beq_iff_eq]
    rw [← nameK_iff (hs.2.2 i hi).2 (ht.2.2 i (by omega)).2]
    exact ⟨⟨f1, f2⟩, f3⟩

/-- Types are the same just if they have one key. -/
theorem same_key {gs : List (List Ty)} (hP : Parts gs) : ∀ M, M ≤ gs.length → ∀ p q, p < beg gs M → q < beg gs M → (same gs p q = true ↔ KeyEq gs p q) := by
  intro M
  induction M with
  | zero => intro _ p q hp; exact absurd hp (Nat.not_lt_zero _)
  | succ M ih =>
    intro hM p q hp hq
    have ih' := ih (by omega)
    have hc : beg gs (M + 1) ≤ kinCount gs := beg_le hM
    have gp := grp_spec gs p (by omega)
    have gq := grp_spec gs q (by omega)
    have hpM : grp gs p ≤ M := by
      by_cases h : M + 1 ≤ grp gs p
      · have := countTo_mono (grAt gs) h; unfold beg at hp; omega
      · omega
    have hqM : grp gs q ≤ M := by
      by_cases h : M + 1 ≤ grp gs q
      · have := countTo_mono (grAt gs) h; unfold beg at hq; omega
      · omega
    rw [same_step gs p q (by omega)]
    unfold sameStep
    by_cases e : p = q
    · subst e; simp [KeyEq]
    rw [if_neg e]
    have tx := grpTxt_iff (C := canon gs) (b := beg gs (grp gs p)) (c := beg gs (grp gs q)) (grAt gs (grp gs p)) (grAt gs (grp gs q)) (parts_tyOk hP gp.1) (parts_tyOk hP gq.1)
    have hS : ∀ a b, a < beg gs (grp gs p) → b < beg gs (grp gs q) → (same gs a b = true ↔ canon gs a = canon gs b) := fun a b ha hb => by
      have m1 : beg gs (grp gs p) ≤ beg gs M := countTo_mono (grAt gs) hpM
      have m2 : beg gs (grp gs q) ≤ beg gs M := countTo_mono (grAt gs) hqM
      rw [canon_key (M := beg gs M) ih' (by omega) (by omega)]
      exact ih' a b (by omega) (by omega)
    constructor
    · intro h
      split at h
      · cases h
      · rename_i hn
        have hn2 : p - beg gs (grp gs p) = q - beg gs (grp gs q) := Classical.byContradiction fun hh => hn (.inr (.inl hh))
        have hn3 : (grAt gs (grp gs p)).length = (grAt gs (grp gs q)).length := Classical.byContradiction fun hh => hn (.inr (.inr hh))
        refine ⟨hn2, tx.2 ⟨hn3, fun i hi => ?_⟩⟩
        exact (alike_iff hS (parts_tyOk hP gp.1 i hi) (parts_tyOk hP gq.1 i (by omega))).1 (allTo_true h i hi)
    · rintro ⟨h1, h2⟩
      obtain ⟨h3, h4⟩ := tx.1 h2
      have hne : grp gs p ≠ grp gs q := fun hh => e (by
        rw [hh] at h1 gp
        unfold beg at h1
        omega)
      rw [if_neg (by rintro (h | h | h); exact hne h; exact h h1; exact h h3)]
      exact allTo_of fun i hi => (alike_iff hS (parts_tyOk hP gp.1 i hi) (parts_tyOk hP gq.1 i (by omega))).2 (h4 i hi)

theorem same_canon {gs : List (List Ty)} (hP : Parts gs) {p q : Nat} (hp : p < kinCount gs) (hq : q < kinCount gs) : same gs p q = decide (canon gs p = canon gs q) := by
  rw [Bool.eq_iff_iff, same_key hP gs.length (Nat.le_refl _) p q hp hq, decide_eq_true_eq]
  exact (canon_key (M := beg gs gs.length) (same_key hP gs.length (Nat.le_refl _)) hp hq).symm

theorem grp_at {gs : List (List Ty)} {x i : Nat} (hx : x < gs.length) (hi : i < (grAt gs x).length) : beg gs x + i < kinCount gs ∧ grp gs (beg gs x + i) = x := by
  have hc : countTo (grAt gs) (x + 1) ≤ kinCount gs := countTo_mono (grAt gs) hx
  have h1 : countTo (grAt gs) (x + 1) = countTo (grAt gs) x + (grAt gs x).length := rfl
  have hl : beg gs x + i < kinCount gs := by unfold beg; omega
  have := grp_spec gs _ hl
  exact ⟨hl, grp_uniq this.2.1 this.2.2 (by unfold beg; omega) (by unfold beg; omega)⟩

theorem lead_len {gs : List (List Ty)} (hP : Parts gs) {x : Nat} (hx : x < gs.length) : (grAt gs (lead gs x)).length = (grAt gs x).length := by
  have h := lead_le gs x
  exact ((grpTxt_iff (C := canon gs) (b := beg gs (lead gs x)) (c := beg gs x) (grAt gs (lead gs x)) (grAt gs x) (parts_tyOk hP (by omega)) (parts_tyOk hP hx)).1 (lead_txt gs x)).1

/-- The least type that is the same stands in the first group of that text, at the same place. -/
theorem canon_at {gs : List (List Ty)} (hP : Parts gs) {x i : Nat} (hx : x < gs.length) (hi : i < (grAt gs x).length) : canon gs (beg gs x + i) = beg gs (lead gs x) + i := by
  have hl := lead_le gs x
  obtain ⟨p1, p2⟩ := grp_at hx hi
  obtain ⟨q1, q2⟩ := grp_at (gs := gs) (x := lead gs x) (i := i) (by omega) (by rw [lead_len hP hx]; exact hi)
  have sk := same_key hP gs.length (Nat.le_refl _)
  have hqp : same gs (beg gs (lead gs x) + i) (beg gs x + i) = true := by
    refine (sk _ _ q1 p1).2 ⟨?_, ?_⟩
    · rw [p2, q2]; omega
    · rw [p2, q2]; exact lead_txt gs x
  have h1 : ¬ beg gs (lead gs x) + i < canon gs (beg gs x + i) := fun h => by
    have := canon_least gs _ _ h
    rw [hqp] at this; cases this
  have hcl := canon_le gs (beg gs x + i)
  have hc : canon gs (beg gs x + i) < kinCount gs := by omega
  obtain ⟨k1, k2⟩ := (sk _ _ (show _ < beg gs gs.length from hc) p1).1 (canon_same gs (beg gs x + i))
  rw [p2] at k1 k2
  have hj := grp_spec gs _ hc
  have h2 := lead_least gs x _ k2
  have h3 : beg gs (lead gs x) ≤ beg gs (grp gs (canon gs (beg gs x + i))) := countTo_mono (grAt gs) h2
  have h4 : beg gs (grp gs (canon gs (beg gs x + i))) ≤ canon gs (beg gs x + i) := hj.2.1
  omega
end Go.Proofs.YtlmciclkfmeepaaDoor
