/- PbKinA: CanonA, CanonB, KinA, KinB, ItoaRow, KinC, KinD, KinE. -/
import Derived.Test.YtblliefejffhoaaGreatDoorSpecF
import Derived.Lib.ItoaNum
import Derived.Test.YtblliefejffhoaaGreatDoorRowFlat
import Derived.Shelf.Strconv.Itoa3
import Derived.Shelf.Lay
import Derived.Ground.NamesProg
import Derived.Test.YtblliefejffhoaaGreatDoorBase
import Derived.BigCall
import Derived.Laws.BytesString
import Derived.Maps.OwnOps
import Derived.Maps.OwnSet
/- The text that a group is written as, plainly: two groups have one text just if they are written alike. -/
namespace Go.Proofs.YtblliefejffhoaaGreatDoor
open Go.ChangeShapes Go.WideShapes Go.ChangeAt Go.RowKit
set_option linter.unusedVariables false

/-- A byte that ends a word. -/
def sepB (c : UInt8) : Bool := c == 32 || c == 44 || c == 59
abbrev Tok := UInt8 × List UInt8
def tokOk (t : Tok) : Prop := sepB t.1 = true ∧ ∀ c ∈ t.2, sepB c = false
def toksTxt (l : List Tok) : List UInt8 := l.flatMap fun t => t.1 :: t.2

theorem toksTxt_cons (t : Tok) (l : List Tok) : toksTxt (t :: l) = t.1 :: (t.2 ++ toksTxt l) := by simp [toksTxt]
theorem toksTxt_append (a b : List Tok) : toksTxt (a ++ b) = toksTxt a ++ toksTxt b := by simp [toksTxt]

def Starts (r : List UInt8) : Prop := r = [] ∨ ∃ c t, r = c :: t ∧ sepB c = true
theorem toksTxt_starts (l : List Tok) (h : ∀ t ∈ l, tokOk t) : Starts (toksTxt l) := by
  cases l with
  | nil => exact .inl rfl
  | cons t l => exact .inr ⟨t.1, _, toksTxt_cons t l, (h t (by simp)).1⟩

theorem word_inj : ∀ (a b r s : List UInt8), (∀ c ∈ a, sepB c = false) → (∀ c ∈ b, sepB c = false) → Starts r → Starts s → a ++ r = b ++ s → a = b ∧ r = s := by
  intro a
  induction a with
  | nil =>
    intro b r s _ hb hr hs e
    cases b with
    | nil => exact ⟨rfl, e⟩
    | cons c b =>
      rcases hr with rfl | ⟨d, t, rfl, hd⟩
      · simp at e
      · simp at e
        have := hb c (by simp)
        rw [← e.1, hd] at this
        cases this
  | cons c a ih =>
    intro b r s ha hb hr hs e
    cases b with
    | nil =>
      rcases hs with rfl | ⟨d, t, rfl, hd⟩
      · simp at e
      · simp at e
        have := ha c (by simp)
        rw [e.1, hd] at this
        cases this
    | cons d b =>
      simp at e
      obtain ⟨h1, h2⟩ := ih b r s (fun x hx => ha x (by simp [hx])) (fun x hx => hb x (by simp [hx])) hr hs e.2
      exact ⟨by rw [e.1, h1], h2⟩

theorem toks_inj : ∀ (x y : List Tok), (∀ t ∈ x, tokOk t) → (∀ t ∈ y, tokOk t) → toksTxt x = toksTxt y → x = y := by
  intro x
  induction x with
  | nil =>
    intro y _ _ e
    cases y with
    | nil => rfl
    | cons t y => rw [toksTxt_cons] at e; simp [toksTxt] at e
  | cons t x ih =>
    intro y hx hy e
    cases y with
    | nil => rw [toksTxt_cons] at e; simp [toksTxt] at e
    | cons u y =>
      rw [toksTxt_cons, toksTxt_cons] at e
      simp only [List.cons.injEq] at e
      obtain ⟨e1, e2⟩ := e
      have hx' : ∀ t ∈ x, tokOk t := fun z hz => hx z (by simp [hz])
      have hy' : ∀ t ∈ y, tokOk t := fun z hz => hy z (by simp [hz])
      obtain ⟨h1, h2⟩ := word_inj t.2 u.2 _ _ (hx t (by simp)).2 (hy u (by simp)).2 (toksTxt_starts x hx') (toksTxt_starts y hy') e2
      rw [ih y hx' hy' h2, Prod.ext e1 h1]

/-- Small numbers' texts. -/
def sm (n : Int) : List UInt8 := if n < 0 then [45, UInt8.ofNat (48 + n.natAbs)] else [UInt8.ofNat (48 + n.toNat)]
theorem itoa_sm (n : Int) (h1 : -9 ≤ n) (h2 : n ≤ 9) : Lib.itoa n = sm n := by
  unfold Lib.itoa sm
  split
  · rw [Lib.decDigits]; simp; omega
  · rw [Lib.decDigits]; simp; omega

theorem sm_inj_fin : ∀ a b : Fin 12, sm ((a.val : Int) - 2) = sm ((b.val : Int) - 2) → a = b := by decide +kernel
theorem sm_sep_fin : ∀ a : Fin 12, ∀ c ∈ sm ((a.val : Int) - 2), sepB c = false ∧ c ≠ 43 := by decide +kernel
theorem fin12 {a : Int} (h1 : -2 ≤ a) (h2 : a ≤ 9) : ∃ f : Fin 12, a = (f.val : Int) - 2 := ⟨⟨(a + 2).toNat, by omega⟩, by simp; omega⟩
theorem itoa_inj {a b : Int} (h1 : -2 ≤ a) (h2 : a ≤ 9) (h3 : -2 ≤ b) (h4 : b ≤ 9) (e : Lib.itoa a = Lib.itoa b) : a = b := by
  rw [itoa_sm a (by omega) (by omega), itoa_sm b (by omega) (by omega)] at e
  obtain ⟨f, rfl⟩ := fin12 h1 h2
  obtain ⟨g, rfl⟩ := fin12 h3 h4
  rw [sm_inj_fin f g e]
theorem itoa_word {a : Int} (h1 : -2 ≤ a) (h2 : a ≤ 9) : ∀ c ∈ Lib.itoa a, sepB c = false ∧ c ≠ 43 := by
  rw [itoa_sm a (by omega) (by omega)]
  obtain ⟨f, rfl⟩ := fin12 h1 h2
  exact sm_sep_fin f
/-- strconv.FormatBool. -/
def boolW (b : Bool) : List UInt8 := if b then [116, 114, 117, 101] else [102, 97, 108, 115, 101]
theorem boolW_inj {a b : Bool} (h : boolW a = boolW b) : a = b := by cases a <;> cases b <;> simp [boolW] at h ⊢
theorem boolW_word (b : Bool) : ∀ c ∈ boolW b, sepB c = false := by cases b <;> decide

/-- What a number names, out of a group that begins at b, where C is the least of each that is the same. -/
def nameK (C : Nat → Nat) (b : Nat) (o : Int) : List UInt8 :=
  if o < 0 then Lib.itoa o else if (b : Int) ≤ o then 43 :: Lib.itoa (o - b) else Lib.itoa (C o.toNat : Nat)

/-- A name that may stand there. -/
def NameOk (C : Nat → Nat) (o : Int) : Prop := -2 ≤ o ∧ o < 8 ∧ ∀ a, a < 8 → C a < 8

theorem nameK_word {C : Nat → Nat} {b : Nat} {o : Int} (h : NameOk C o) : ∀ c ∈ nameK C b o, sepB c = false := by
  obtain ⟨h1, h2, h3⟩ := h
  unfold nameK
  split
  · exact fun c hc => (itoa_word h1 (by omega) c hc).1
  · split
    · intro c hc
      simp at hc
      rcases hc with rfl | hc
      · decide
      · exact (itoa_word (by omega) (by omega) c hc).1
    · have := h3 o.toNat (by omega)
      exact fun c hc => (itoa_word (by omega) (by omega) c hc).1

theorem nameK_iff {C : Nat → Nat} {gs : List (List Ty)} {x y : Nat} {o p : Int} (ho : NameOk C o) (hp : NameOk C p) :
    nameK C (beg gs x) o = nameK C (beg gs y) p ↔ matchF (fun a b => C a == C b) gs o p x y = true := by
  obtain ⟨o1, o2, o3⟩ := ho
  obtain ⟨p1, p2, _⟩ := hp
  unfold nameK matchF
  have plus : ∀ {a : Int} {l : List UInt8}, -2 ≤ a → a ≤ 9 → 43 :: l ≠ Lib.itoa a := fun {a l} h1 h2 e =>
    absurd rfl (itoa_word h1 h2 43 (by rw [← e]; simp)).2
  by_cases h1 : o < 0
  · rw [if_pos h1, if_pos (show o < 0 ∨ p < 0 from .inl h1)]
    by_cases h2 : p < 0
    · rw [if_pos h2, beq_iff_eq]
      exact ⟨itoa_inj o1 (by omega) p1 (by omega), fun e => by rw [e]⟩
    · rw [if_neg h2, beq_iff_eq]
      constructor
      · intro e
        split at e
        · exact absurd e.symm (plus o1 (by omega))
        · have := o3 p.toNat (by omega)
          have := itoa_inj o1 (by omega) (by omega) (by omega) e
          omega
      · intro e; omega
  · rw [if_neg h1]
    by_cases h2 : p < 0
    · rw [if_pos h2, if_pos (show o < 0 ∨ p < 0 from .inr h2), beq_iff_eq]
      constructor
      · intro e
        split at e
        · exact absurd e (plus p1 (by omega))
        · have := o3 o.toNat (by omega)
          have := itoa_inj (by omega) (by omega) p1 (by omega) e
          omega
      · intro e; omega
    · rw [if_neg h2, if_neg (show ¬ (o < 0 ∨ p < 0) by omega)]
      by_cases h3 : (beg gs x : Int) ≤ o
      · rw [if_pos h3]
        by_cases h4 : (beg gs y : Int) ≤ p
        · rw [if_pos h4, if_pos ⟨h3, h4⟩, beq_iff_eq]
          constructor
          · intro e
            simp only [List.cons.injEq, true_and] at e
            exact itoa_inj (by omega) (by omega) (by omega) (by omega) e
          · intro e; rw [e]
        · rw [if_neg h4, if_neg (show ¬ ((beg gs x : Int) ≤ o ∧ (beg gs y : Int) ≤ p) by omega)]
          have := o3 p.toNat (by omega)
          constructor
          · intro e; exact absurd e (plus (by omega) (by omega))
          · intro e; simp at e; omega
      · rw [if_neg h3, if_neg (show ¬ ((beg gs x : Int) ≤ o ∧ (beg gs y : Int) ≤ p) by omega)]
        have t1 := o3 o.toNat (by omega)
        by_cases h4 : (beg gs y : Int) ≤ p
        · rw [if_pos h4]
          constructor
          · intro e; exact absurd e.symm (plus (by omega) (by omega))
          · intro e; simp at e; omega
        · rw [if_neg h4]
          have t2 := o3 p.toNat (by omega)
          simp only [Bool.and_eq_true, decide_eq_true_eq, beq_iff_eq]
          constructor
          · intro e
            have := itoa_inj (by omega) (by omega) (by omega) (by omega) e
            exact ⟨⟨by omega, by omega⟩, by omega⟩
          · rintro ⟨_, e⟩; rw [e]

/-- The words of a field, of a type, of a group. -/
def fldTok (C : Nat → Nat) (b : Nat) (f : Fd) : List Tok := (44, Lib.itoa f.kind) :: (32, boolW f.mt) :: (if f.kind = 1 then [] else [(32, nameK C b f.of)])
def fldsTok (C : Nat → Nat) (b : Nat) (fs : List Fd) : List Tok := fs.flatMap (fldTok C b)
def rowTok (C : Nat → Nat) (b : Nat) (t : Ty) : List Tok := (59, Lib.itoa t.kind) :: (32, boolW t.last) :: (32, nameK C b t.up) :: fldsTok C b t.fields
def rowsTok (C : Nat → Nat) (b : Nat) (ts : List Ty) : List Tok := ts.flatMap (rowTok C b)
def grpTok (C : Nat → Nat) (b : Nat) (ts : List Ty) : List Tok := rowsTok C b ts ++ [(59, [])]

def fldTxt (C : Nat → Nat) (b : Nat) (f : Fd) : List UInt8 := toksTxt (fldTok C b f)
def fldsTxt (C : Nat → Nat) (b : Nat) (fs : List Fd) : List UInt8 := toksTxt (fldsTok C b fs)
def rowTxt (C : Nat → Nat) (b : Nat) (t : Ty) : List UInt8 := Lib.itoa t.kind ++ (32 :: (boolW t.last ++ (32 :: (nameK C b t.up ++ (fldsTxt C b t.fields ++ [59])))))
def grpTxt (C : Nat → Nat) (b : Nat) (ts : List Ty) : List UInt8 := ts.flatMap (rowTxt C b)

theorem grpTxt_toks (C : Nat → Nat) (b : Nat) (ts : List Ty) : 59 :: grpTxt C b ts = toksTxt (grpTok C b ts) := by
  induction ts with
  | nil => rfl
  | cons t ts ih =>
    have e : toksTxt (grpTok C b (t :: ts)) = toksTxt (rowTok C b t) ++ toksTxt (grpTok C b ts) := by
      simp [grpTok, rowsTok, toksTxt_append]
    rw [e, ← ih]
    simp [grpTxt, rowTxt, rowTok, toksTxt_cons, fldsTxt]

/-- What a field, and a type, must keep to. -/
def FdOk (C : Nat → Nat) (f : Fd) : Prop := (1 ≤ f.kind ∧ f.kind ≤ 3) ∧ NameOk C f.of
def TyOk (C : Nat → Nat) (t : Ty) : Prop := (1 ≤ t.kind ∧ t.kind ≤ 2) ∧ NameOk C t.up ∧ ∀ i, i < t.fields.length → FdOk C (fdAt t.fields i)

theorem fdAt_mem {l : List Fd} {f : Fd} (h : f ∈ l) : ∃ i, i < l.length ∧ fdAt l i = f := by
  obtain ⟨i, hi, e⟩ := List.getElem_of_mem h
  exact ⟨i, hi, by simp [fdAt, List.getD, List.getElem?_eq_getElem hi, e]⟩
theorem tyAt_mem {l : List Ty} {t : Ty} (h : t ∈ l) : ∃ i, i < l.length ∧ tyAt l i = t := by
  obtain ⟨i, hi, e⟩ := List.getElem_of_mem h
  exact ⟨i, hi, by simp [tyAt, List.getD, List.getElem?_eq_getElem hi, e]⟩

theorem fldTok_ok {C : Nat → Nat} {b : Nat} {f : Fd} (h : FdOk C f) : ∀ t ∈ fldTok C b f, tokOk t := by
  obtain ⟨⟨k1, k2⟩, hn⟩ := h
  intro t ht
  simp only [fldTok, List.mem_cons] at ht
  rcases ht with rfl | rfl | ht
  · exact ⟨rfl, fun c hc => (itoa_word (by omega) (by omega) c hc).1⟩
  · exact ⟨rfl, boolW_word _⟩
  · split at ht
    · simp at ht
    · simp at ht
      subst ht
      exact ⟨rfl, nameK_word hn⟩
theorem fldsTok_ok {C : Nat → Nat} {b : Nat} {fs : List Fd} (h : ∀ i, i < fs.length → FdOk C (fdAt fs i)) : ∀ t ∈ fldsTok C b fs, tokOk t := by
  intro t ht
  simp only [fldsTok, List.mem_flatMap] at ht
  obtain ⟨f, hf, ht⟩ := ht
  obtain ⟨i, hi, rfl⟩ := fdAt_mem hf
  exact fldTok_ok (h i hi) t ht
theorem rowTok_ok {C : Nat → Nat} {b : Nat} {t : Ty} (h : TyOk C t) : ∀ k ∈ rowTok C b t, tokOk k := by
  obtain ⟨⟨k1, k2⟩, hn, hf⟩ := h
  intro k hk
  simp only [rowTok, List.mem_cons] at hk
  rcases hk with rfl | rfl | rfl | hk
  · exact ⟨rfl, fun c hc => (itoa_word (by omega) (by omega) c hc).1⟩
  · exact ⟨rfl, boolW_word _⟩
  · exact ⟨rfl, nameK_word hn⟩
  · exact fldsTok_ok hf k hk
theorem grpTok_ok {C : Nat → Nat} {b : Nat} {ts : List Ty} (h : ∀ i, i < ts.length → TyOk C (tyAt ts i)) : ∀ k ∈ grpTok C b ts, tokOk k := by
  intro k hk
  simp only [grpTok, rowsTok, List.mem_append, List.mem_flatMap, List.mem_singleton] at hk
  rcases hk with ⟨t, ht, hk⟩ | rfl
  · obtain ⟨i, hi, rfl⟩ := tyAt_mem ht
    exact rowTok_ok (h i hi) k hk
  · exact ⟨rfl, fun c hc => by simp at hc⟩

/-- Two fields, and two types, that have the same words. -/
def FEq (C : Nat → Nat) (b c : Nat) (f g : Fd) : Prop := f.kind = g.kind ∧ f.mt = g.mt ∧ (f.kind = 1 ∨ nameK C b f.of = nameK C c g.of)
def TEq (C : Nat → Nat) (b c : Nat) (s t : Ty) : Prop := s.kind = t.kind ∧ s.last = t.last ∧ nameK C b s.up = nameK C c t.up ∧ s.fields.length = t.fields.length ∧ ∀ i, i < s.fields.length → FEq C b c (fdAt s.fields i) (fdAt t.fields i)

/-- What stands behind fields: another type, or the end. -/
def Semi (R : List Tok) : Prop := ∃ w T, R = (59, w) :: T

theorem fldTok_eq {C : Nat → Nat} {b c : Nat} {f g : Fd} (h : FEq C b c f g) : fldTok C b f = fldTok C c g := by
  obtain ⟨h1, h2, h3⟩ := h
  unfold fldTok
  rw [← h1, ← h2]
  by_cases e : f.kind = 1
  · rw [if_pos e, if_pos e]
  · rw [if_neg e, if_neg e, h3.resolve_left e]

theorem fdAt_cons_zero (f : Fd) (l : List Fd) : fdAt (f :: l) 0 = f := rfl
theorem fdAt_cons_succ (f : Fd) (l : List Fd) (i : Nat) : fdAt (f :: l) (i + 1) = fdAt l i := rfl
theorem tyAt_cons_zero (f : Ty) (l : List Ty) : tyAt (f :: l) 0 = f := rfl
theorem tyAt_cons_succ (f : Ty) (l : List Ty) (i : Nat) : tyAt (f :: l) (i + 1) = tyAt l i := rfl

theorem fldsTok_inj {C : Nat → Nat} {b c : Nat} : ∀ (fs gs : List Fd) (R S : List Tok), (∀ i, i < fs.length → FdOk C (fdAt fs i)) → (∀ i, i < gs.length → FdOk C (fdAt gs i)) → Semi R → Semi S →
    fldsTok C b fs ++ R = fldsTok C c gs ++ S → (fs.length = gs.length ∧ ∀ i, i < fs.length → FEq C b c (fdAt fs i) (fdAt gs i)) ∧ R = S := by
  intro fs
  induction fs with
  | nil =>
    intro gs R S _ hg hR hS e
    cases gs with
    | nil => exact ⟨⟨rfl, fun i hi => absurd hi (Nat.not_lt_zero _)⟩, e⟩
    | cons g gs =>
      obtain ⟨w, T, rfl⟩ := hR
      simp [fldsTok, fldTok] at e
  | cons f fs ih =>
    intro gs R S hf hg hR hS e
    cases gs with
    | nil =>
      obtain ⟨w, T, rfl⟩ := hS
      simp [fldsTok, fldTok] at e
    | cons g gs =>
      have f0 := hf 0 (by simp)
      have g0 := hg 0 (by simp)
      rw [fdAt_cons_zero] at f0 g0
      have e' : fldTok C b f ++ (fldsTok C b fs ++ R) = fldTok C c g ++ (fldsTok C c gs ++ S) := by simpa [fldsTok] using e
      have key : FEq C b c f g ∧ fldsTok C b fs ++ R = fldsTok C c gs ++ S := by
        unfold fldTok at e'
        simp only [List.cons_append, List.cons.injEq, Prod.mk.injEq, true_and] at e'
        obtain ⟨k1, k2, k3⟩ := e'
        have hk := itoa_inj (by have := f0.1; omega) (by have := f0.1; omega) (by have := g0.1; omega) (by have := g0.1; omega) k1
        have hm := boolW_inj k2
        rw [← hk] at k3
        by_cases e1 : f.kind = 1
        · rw [if_pos e1, if_pos e1] at k3
          exact ⟨⟨hk, hm, .inl e1⟩, by simpa using k3⟩
        · rw [if_neg e1, if_neg e1] at k3
          simp only [List.cons_append, List.nil_append, List.cons.injEq, Prod.mk.injEq, true_and] at k3
          exact ⟨⟨hk, hm, .inr k3.1⟩, k3.2⟩
      obtain ⟨⟨h1, h2⟩, h3⟩ := ih gs R S (fun i hi => hf (i + 1) (by simpa using hi)) (fun i hi => hg (i + 1) (by simpa using hi)) hR hS key.2
      refine ⟨⟨by simp [h1], fun i hi => ?_⟩, h3⟩
      cases i with
      | zero => exact key.1
      | succ i => rw [fdAt_cons_succ, fdAt_cons_succ]; exact h2 i (by simpa using hi)

theorem fldsTok_eq {C : Nat → Nat} {b c : Nat} : ∀ (fs gs : List Fd), fs.length = gs.length → (∀ i, i < fs.length → FEq C b c (fdAt fs i) (fdAt gs i)) → fldsTok C b fs = fldsTok C c gs := by
  intro fs
  induction fs with
  | nil =>
    intro gs h _
    cases gs with
    | nil => rfl
    | cons g gs => simp at h
  | cons f fs ih =>
    intro gs h hE
    cases gs with
    | nil => simp at h
    | cons g gs =>
      show fldTok C b f ++ fldsTok C b fs = fldTok C c g ++ fldsTok C c gs
      rw [fldTok_eq (f := f) (g := g) (hE 0 (by simp)), ih gs (by simpa using h) (fun i hi => hE (i + 1) (by simpa using hi))]

theorem rowTok_eq {C : Nat → Nat} {b c : Nat} {s t : Ty} (h : TEq C b c s t) : rowTok C b s = rowTok C c t := by
  obtain ⟨h1, h2, h3, h4, h5⟩ := h
  unfold rowTok
  rw [h1, h2, h3, fldsTok_eq _ _ h4 h5]

theorem grpTok_semi (C : Nat → Nat) (b : Nat) (ts : List Ty) : Semi (grpTok C b ts) := by
  cases ts with
  | nil => exact ⟨_, _, rfl⟩
  | cons t ts => exact ⟨Lib.itoa t.kind, _, by simp [grpTok, rowsTok, rowTok]; rfl⟩

theorem grpTok_inj {C : Nat → Nat} {b c : Nat} : ∀ (ts us : List Ty), (∀ i, i < ts.length → TyOk C (tyAt ts i)) → (∀ i, i < us.length → TyOk C (tyAt us i)) →
    grpTok C b ts = grpTok C c us → ts.length = us.length ∧ ∀ i, i < ts.length → TEq C b c (tyAt ts i) (tyAt us i) := by
  intro ts
  induction ts with
  | nil =>
    intro us _ hu e
    cases us with
    | nil => exact ⟨rfl, fun i hi => absurd hi (Nat.not_lt_zero _)⟩
    | cons u us =>
      have := (hu 0 (by simp)).1
      rw [tyAt_cons_zero] at this
      simp [grpTok, rowsTok, rowTok] at e
  | cons t ts ih =>
    intro us ht hu e
    cases us with
    | nil => simp [grpTok, rowsTok, rowTok] at e
    | cons u us =>
      have t0 := ht 0 (by simp)
      have u0 := hu 0 (by simp)
      rw [tyAt_cons_zero] at t0 u0
      have e' : rowTok C b t ++ grpTok C b ts = rowTok C c u ++ grpTok C c us := by simpa [grpTok, rowsTok] using e
      unfold rowTok at e'
      simp only [List.cons_append, List.cons.injEq, Prod.mk.injEq, true_and] at e'
      obtain ⟨k1, k2, k3, k4⟩ := e'
      obtain ⟨⟨f1, f2⟩, f3⟩ := fldsTok_inj t.fields u.fields _ _ t0.2.2 u0.2.2 (grpTok_semi C b ts) (grpTok_semi C c us) k4
      obtain ⟨h1, h2⟩ := ih us (fun i hi => ht (i + 1) (by simpa using hi)) (fun i hi => hu (i + 1) (by simpa using hi)) f3
      have hk := itoa_inj (by have := t0.1; omega) (by have := t0.1; omega) (by have := u0.1; omega) (by have := u0.1; omega) k1
      refine ⟨by simp [h1], fun i hi => ?_⟩
      cases i with
      | zero => exact ⟨hk, boolW_inj k2, k3, f1, f2⟩
      | succ i => rw [tyAt_cons_succ, tyAt_cons_succ]; exact h2 i (by simpa using hi)

theorem grpTok_eq {C : Nat → Nat} {b c : Nat} : ∀ (ts us : List Ty), ts.length = us.length → (∀ i, i < ts.length → TEq C b c (tyAt ts i) (tyAt us i)) → grpTok C b ts = grpTok C c us := by
  intro ts
  induction ts with
  | nil =>
    intro us h _
    cases us with
    | nil => rfl
    | cons u us => simp at h
  | cons t ts ih =>
    intro us h hE
    cases us with
    | nil => simp at h
    | cons u us =>
      have e : ∀ (b : Nat) (t : Ty) (ts : List Ty), grpTok C b (t :: ts) = rowTok C b t ++ grpTok C b ts := fun b t ts => by simp [grpTok, rowsTok]
      rw [e, e, rowTok_eq (s := t) (t := u) (hE 0 (by simp)), ih us (by simpa using h) (fun i hi => hE (i + 1) (by simpa using hi))]

/-- Two groups have one text just if they are written alike. -/
theorem grpTxt_iff {C : Nat → Nat} {b c : Nat} (ts us : List Ty) (ht : ∀ i, i < ts.length → TyOk C (tyAt ts i)) (hu : ∀ i, i < us.length → TyOk C (tyAt us i)) :
    grpTxt C b ts = grpTxt C c us ↔ ts.length = us.length ∧ ∀ i, i < ts.length → TEq C b c (tyAt ts i) (tyAt us i) := by
  constructor
  · intro e
    refine grpTok_inj ts us ht hu (toks_inj _ _ (grpTok_ok ht) (grpTok_ok hu) ?_)
    rw [← grpTxt_toks, ← grpTxt_toks, e]
  · rintro ⟨h1, h2⟩
    have := congrArg toksTxt (grpTok_eq (C := C) (b := b) (c := c) ts us h1 h2)
    rw [← grpTxt_toks, ← grpTxt_toks] at this
    simpa using this
end Go.Proofs.YtblliefejffhoaaGreatDoor

/- The least type that is the same as each, plainly: types are the same just if their groups have one text and they stand at one place. -/
namespace Go.Proofs.YtblliefejffhoaaGreatDoor
open Go.ChangeShapes Go.WideShapes Go.ChangeAt Go.RowKit
set_option linter.unusedVariables false

/-- The least from i on, below i + f, at which p holds; i + f if there is none. -/
def firstFrom (p : Nat → Bool) : Nat → Nat → Nat
  | 0, i => i
  | f + 1, i => if p i then i else firstFrom p f (i + 1)
theorem firstFrom_spec (p : Nat → Bool) : ∀ f i, i ≤ firstFrom p f i ∧ firstFrom p f i ≤ i + f ∧ (firstFrom p f i < i + f → p (firstFrom p f i) = true) ∧ ∀ j, i ≤ j → j < firstFrom p f i → p j = false := by
  intro f
  induction f with
  | zero => intro i; refine ⟨Nat.le_refl _, Nat.le_refl _, fun h => absurd h (Nat.lt_irrefl _), fun j h1 h2 => ?_⟩; simp only [firstFrom] at h2; omega
  | succ f ih =>
    intro i
    unfold firstFrom
    split
    · rename_i h
      exact ⟨Nat.le_refl _, by omega, fun _ => h, fun j h1 h2 => by omega⟩
    · rename_i h
      obtain ⟨a, b, c, d⟩ := ih (i + 1)
      refine ⟨by omega, by omega, fun hl => c (by omega), fun j h1 h2 => ?_⟩
      by_cases e : j = i
      · subst e; simpa using h
      · exact d j (by omega) h2

/-- The least type that is the same. -/
def canon (gs : List (List Ty)) (a : Nat) : Nat := firstFrom (fun i => same gs i a) a 0
/-- The text of a group. -/
def txt (gs : List (List Ty)) (x : Nat) : List UInt8 := grpTxt (canon gs) (beg gs x) (grAt gs x)
/-- The first group of that text. -/
def lead (gs : List (List Ty)) (x : Nat) : Nat := firstFrom (fun y => decide (txt gs y = txt gs x)) x 0

theorem canon_le (gs : List (List Ty)) (a : Nat) : canon gs a ≤ a := by have := (firstFrom_spec (fun i => same gs i a) a 0).2.1; rw [Nat.zero_add] at this; exact this
theorem lead_le (gs : List (List Ty)) (x : Nat) : lead gs x ≤ x := by have := (firstFrom_spec (fun y => decide (txt gs y = txt gs x)) x 0).2.1; rw [Nat.zero_add] at this; exact this
theorem lead_txt (gs : List (List Ty)) (x : Nat) : txt gs (lead gs x) = txt gs x := by
  have h := (firstFrom_spec (fun y => decide (txt gs y = txt gs x)) x 0).2.2.1
  by_cases e : lead gs x = x
  · rw [e]
  · have := lead_le gs x
    exact of_decide_eq_true (h (show lead gs x < 0 + x by omega))
theorem lead_least (gs : List (List Ty)) (x y : Nat) (h : txt gs y = txt gs x) : lead gs x ≤ y := by
  by_cases e : y < lead gs x
  · have := (firstFrom_spec (fun y => decide (txt gs y = txt gs x)) x 0).2.2.2 y (Nat.zero_le _) e
    simp [h] at this
  · omega
theorem same_refl (gs : List (List Ty)) (a : Nat) : same gs a a = true := by
  show sameStep _ gs a a = true
  simp [sameStep]
theorem canon_same (gs : List (List Ty)) (a : Nat) : same gs (canon gs a) a = true := by
  have h := (firstFrom_spec (fun i => same gs i a) a 0).2.2.1
  by_cases e : canon gs a = a
  · rw [e]; exact same_refl gs a
  · have := canon_le gs a
    exact h (show canon gs a < 0 + a by omega)
theorem canon_least (gs : List (List Ty)) (a j : Nat) (h : j < canon gs a) : same gs j a = false := (firstFrom_spec (fun i => same gs i a) a 0).2.2.2 j (Nat.zero_le _) h

def KeyEq (gs : List (List Ty)) (p q : Nat) : Prop := p - beg gs (grp gs p) = q - beg gs (grp gs q) ∧ txt gs (grp gs p) = txt gs (grp gs q)

theorem canon_key {gs : List (List Ty)} {M : Nat} (hk : ∀ p q, p < M → q < M → (same gs p q = true ↔ KeyEq gs p q)) {a b : Nat} (ha : a < M) (hb : b < M) : canon gs a = canon gs b ↔ KeyEq gs a b := by
  have la := canon_le gs a
  have lb := canon_le gs b
  have ka := (hk _ _ (by omega) ha).1 (canon_same gs a)
  have kb := (hk _ _ (by omega) hb).1 (canon_same gs b)
  constructor
  · intro e
    rw [e] at ka
    exact ⟨ka.1.symm.trans kb.1, ka.2.symm.trans kb.2⟩
  · intro h
    have h1 : ¬ canon gs a < canon gs b := fun hl => by
      have := canon_least gs b _ hl
      rw [(hk _ _ (by omega) hb).2 ⟨ka.1.trans h.1, ka.2.trans h.2⟩] at this
      cases this
    have h2 : ¬ canon gs b < canon gs a := fun hl => by
      have := canon_least gs a _ hl
      rw [(hk _ _ (by omega) ha).2 ⟨kb.1.trans h.1.symm, kb.2.trans h.2.symm⟩] at this
      cases this
    omega

theorem canon_small {gs : List (List Ty)} {o : Int} (h1 : -2 ≤ o) (h2 : o < 8) : NameOk (canon gs) o := ⟨h1, h2, fun a ha => by have := canon_le gs a; omega⟩

theorem parts_tyOk {gs : List (List Ty)} (hP : Parts gs) {x : Nat} (hx : x < gs.length) : ∀ i, i < (grAt gs x).length → TyOk (canon gs) (tyAt (grAt gs x) i) := by
  intro i hi
  have h := (hP.2.2 x hx).2 i hi
  have hc : countTo (grAt gs) (x + 1) ≤ kinCount gs := countTo_mono (grAt gs) hx
  have h8 := hP.2.1
  simp only [countTo] at hc
  unfold formOk at h
  simp only [Bool.and_eq_true, Bool.or_eq_true, decide_eq_true_eq] at h
  obtain ⟨⟨⟨a1, a2⟩, a3⟩, a4, a5⟩ := h
  refine ⟨by omega, canon_small (by omega) (by omega), fun j hj => ?_⟩
  have hf := allTo_true a5 j hj
  unfold fieldOk at hf
  split at hf
  · simp at hf; exact ⟨by omega, canon_small (by omega) (by omega)⟩
  · split at hf
    · simp at hf; exact ⟨by omega, canon_small (by omega) (by omega)⟩
    · simp at hf

theorem matchF_congr2 {S S' : Nat → Nat → Bool} {gs : List (List Ty)} {a b : Int} {x y : Nat} (h : ∀ p q, p < beg gs x → q < beg gs y → S p q = S' p q) : matchF S gs a b x y = matchF S' gs a b x y := by
  unfold matchF
  split
  · rfl
  · split
    · rfl
    · by_cases c : a < (beg gs x : Int)
      · by_cases d : b < (beg gs y : Int)
        · rw [h _ _ (by omega) (by omega)]
        · simp [d]
      · simp [c]

theorem allTo_iff {p : Nat → Bool} {n : Nat} : allTo p n = true ↔ ∀ i, i < n → p i = true := ⟨allTo_true, allTo_of⟩

theorem alike_iff {gs : List (List Ty)} {S C x y} {s t : Ty} (hS : ∀ p q, p < beg gs x → q < beg gs y → (S p q = true ↔ C p = C q)) (hs : TyOk C s) (ht : TyOk C t) :
    alikeF S gs s t x y = true ↔ TEq C (beg gs x) (beg gs y) s t := by
  have hm : ∀ a b, matchF S gs a b x y = matchF (fun a b => C a == C b) gs a b x y := fun a b => matchF_congr2 fun p q hp hq => by
    rw [Bool.eq_iff_iff, hS p q hp hq]; simp
  unfold alikeF TEq
  rw [hm]
  simp only [Bool.and_eq_true, beq_iff_eq]
  rw [← nameK_iff hs.2.1 ht.2.1, allTo_iff]
  constructor
  · rintro ⟨⟨⟨a, b⟩, c⟩, d, e⟩
    refine ⟨a, b, d, c, fun i hi => ?_⟩
    have := e i hi
    unfold fAlike at this
    rw [hm] at this
    simp only [Bool.and_eq_true, Bool.or_eq_true, beq_iff_eq] at this
    rw [← nameK_iff (hs.2.2 i hi).2 (ht.2.2 i (by omega)).2] at this
    exact ⟨this.1.1, this.1.2, this.2⟩
  · rintro ⟨a, b, d, c, e⟩
    refine ⟨⟨⟨a, b⟩, c⟩, d, fun i hi => ?_⟩
    obtain ⟨f1, f2, f3⟩ := e i hi
    unfold fAlike
    rw [hm]
    simp only [Bool.and_eq_true, Bool.or_eq_true, beq_iff_eq]
    rw [← nameK_iff (hs.2.2 i hi).2 (ht.2.2 i (by omega)).2]
    exact ⟨⟨f1, f2⟩, f3⟩

/-- Types are the same just if they have one key. -/
theorem same_key {gs : List (List Ty)} (hP : Parts gs) : ∀ M, M ≤ gs.length → ∀ p q, p < beg gs M → q < beg gs M → (same gs p q = true ↔ KeyEq gs p q) := by
  intro M
  induction M with
  | zero => intro _ p q hp; exact absurd hp (Nat.not_lt_zero _)
  | succ M ih =>
    intro hM p q hp hq
    have ih' := ih (by omega)
    have hc : beg gs (M + 1) ≤ kinCount gs := beg_le hM
    have gp := grp_spec gs p (by omega)
    have gq := grp_spec gs q (by omega)
    have hpM : grp gs p ≤ M := by
      by_cases h : M + 1 ≤ grp gs p
      · have := countTo_mono (grAt gs) h; unfold beg at hp; omega
      · omega
    have hqM : grp gs q ≤ M := by
      by_cases h : M + 1 ≤ grp gs q
      · have := countTo_mono (grAt gs) h; unfold beg at hq; omega
      · omega
    rw [same_step gs p q (by omega)]
    unfold sameStep
    by_cases e : p = q
    · subst e; simp [KeyEq]
    rw [if_neg e]
    have tx := grpTxt_iff (C := canon gs) (b := beg gs (grp gs p)) (c := beg gs (grp gs q)) (grAt gs (grp gs p)) (grAt gs (grp gs q)) (parts_tyOk hP gp.1) (parts_tyOk hP gq.1)
    have hS : ∀ a b, a < beg gs (grp gs p) → b < beg gs (grp gs q) → (same gs a b = true ↔ canon gs a = canon gs b) := fun a b ha hb => by
      have m1 : beg gs (grp gs p) ≤ beg gs M := countTo_mono (grAt gs) hpM
      have m2 : beg gs (grp gs q) ≤ beg gs M := countTo_mono (grAt gs) hqM
      rw [canon_key (M := beg gs M) ih' (by omega) (by omega)]
      exact ih' a b (by omega) (by omega)
    constructor
    · intro h
      split at h
      · cases h
      · rename_i hn
        have hn2 : p - beg gs (grp gs p) = q - beg gs (grp gs q) := Classical.byContradiction fun hh => hn (.inr (.inl hh))
        have hn3 : (grAt gs (grp gs p)).length = (grAt gs (grp gs q)).length := Classical.byContradiction fun hh => hn (.inr (.inr hh))
        refine ⟨hn2, tx.2 ⟨hn3, fun i hi => ?_⟩⟩
        exact (alike_iff hS (parts_tyOk hP gp.1 i hi) (parts_tyOk hP gq.1 i (by omega))).1 (allTo_true h i hi)
    · rintro ⟨h1, h2⟩
      obtain ⟨h3, h4⟩ := tx.1 h2
      have hne : grp gs p ≠ grp gs q := fun hh => e (by
        rw [hh] at h1 gp
        unfold beg at h1
        omega)
      rw [if_neg (by rintro (h | h | h); exact hne h; exact h h1; exact h h3)]
      exact allTo_of fun i hi => (alike_iff hS (parts_tyOk hP gp.1 i hi) (parts_tyOk hP gq.1 i (by omega))).2 (h4 i hi)

theorem same_canon {gs : List (List Ty)} (hP : Parts gs) {p q : Nat} (hp : p < kinCount gs) (hq : q < kinCount gs) : same gs p q = decide (canon gs p = canon gs q) := by
  rw [Bool.eq_iff_iff, same_key hP gs.length (Nat.le_refl _) p q hp hq, decide_eq_true_eq]
  exact (canon_key (M := beg gs gs.length) (same_key hP gs.length (Nat.le_refl _)) hp hq).symm

theorem grp_at {gs : List (List Ty)} {x i : Nat} (hx : x < gs.length) (hi : i < (grAt gs x).length) : beg gs x + i < kinCount gs ∧ grp gs (beg gs x + i) = x := by
  have hc : countTo (grAt gs) (x + 1) ≤ kinCount gs := countTo_mono (grAt gs) hx
  have h1 : countTo (grAt gs) (x + 1) = countTo (grAt gs) x + (grAt gs x).length := rfl
  have hl : beg gs x + i < kinCount gs := by unfold beg; omega
  have := grp_spec gs _ hl
  exact ⟨hl, grp_uniq this.2.1 this.2.2 (by unfold beg; omega) (by unfold beg; omega)⟩

theorem lead_len {gs : List (List Ty)} (hP : Parts gs) {x : Nat} (hx : x < gs.length) : (grAt gs (lead gs x)).length = (grAt gs x).length := by
  have h := lead_le gs x
  exact ((grpTxt_iff (C := canon gs) (b := beg gs (lead gs x)) (c := beg gs x) (grAt gs (lead gs x)) (grAt gs x) (parts_tyOk hP (by omega)) (parts_tyOk hP hx)).1 (lead_txt gs x)).1

/-- The least type that is the same stands in the first group of that text, at the same place. -/
theorem canon_at {gs : List (List Ty)} (hP : Parts gs) {x i : Nat} (hx : x < gs.length) (hi : i < (grAt gs x).length) : canon gs (beg gs x + i) = beg gs (lead gs x) + i := by
  have hl := lead_le gs x
  obtain ⟨p1, p2⟩ := grp_at hx hi
  obtain ⟨q1, q2⟩ := grp_at (gs := gs) (x := lead gs x) (i := i) (by omega) (by rw [lead_len hP hx]; exact hi)
  have sk := same_key hP gs.length (Nat.le_refl _)
  have hqp : same gs (beg gs (lead gs x) + i) (beg gs x + i) = true := by
    refine (sk _ _ q1 p1).2 ⟨?_, ?_⟩
    · rw [p2, q2]; omega
    · rw [p2, q2]; exact lead_txt gs x
  have h1 : ¬ beg gs (lead gs x) + i < canon gs (beg gs x + i) := fun h => by
    have := canon_least gs _ _ h
    rw [hqp] at this; cases this
  have hcl := canon_le gs (beg gs x + i)
  have hc : canon gs (beg gs x + i) < kinCount gs := by omega
  obtain ⟨k1, k2⟩ := (sk _ _ (show _ < beg gs gs.length from hc) p1).1 (canon_same gs (beg gs x + i))
  rw [p2] at k1 k2
  have hj := grp_spec gs _ hc
  have h2 := lead_least gs x _ k2
  have h3 : beg gs (lead gs x) ≤ beg gs (grp gs (canon gs (beg gs x + i))) := countTo_mono (grAt gs) h2
  have h4 : beg gs (grp gs (canon gs (beg gs x + i))) ≤ canon gs (beg gs x + i) := hj.2.1
  omega
end Go.Proofs.YtblliefejffhoaaGreatDoor

/- kinFewEnough, kinFieldsFew and kinWellFormed of the program. -/
namespace Go.Proofs.YtblliefejffhoaaGreatDoor
open Go.ChangeShapes Go.WideShapes Go.ChangeAt Go.RowKit
set_option linter.unusedVariables false

def someF (gs : List (List Ty)) (k : Nat) : Bool := allTo (fun x => decide (0 < (grAt gs x).length)) k
def fewF (gs : List (List Ty)) : Bool := decide (gs.length ≤ 4) && (someF gs gs.length && decide (kinCount gs ≤ 8))

set_option maxHeartbeats 800000 in
theorem kinFewEnough_any (ga : Option Addr) (gc lo hi : Nat) (gs : List (List Ty)) (w : World) (hN : Few gs) (hx : GroupsIn w lo hi ga gs) :
    Calls Tryz.prog 107 #[.slice ga gs.length gc] w fun e w' => e = .returned (.bool (fewF gs)) ∧ w' = w := by
  have HC := hide (implKinCount_any ga gc lo hi gs w hN hx)
  have HN := hide hN
  have n1 := hN.1
  have n2 := kinCount_le hN
  clear hN
  by_cases h4 : gs.length ≤ 4
  · have hx' : gs.length ≤ 0 ∨ ∃ b off, ga = some ⟨b, off, none⟩ ∧ lo ≤ b ∧ b < hi ∧ ∀ i, i < gs.length → GroupAt w lo hi b (off + i) (grAt gs i) := by
      rcases hx with rfl | ⟨b, off, rfl, h1, h2, h3⟩
      · exact .inl (Nat.le_refl _)
      · exact .inr ⟨b, off, rfl, h1, h2, h3⟩
    clear hx
    have HF : Hid (fewF gs = (someF gs gs.length && decide (kinCount gs ≤ 8))) := by show _ = _; simp [fewF, h4]
    rcases hx' with h0 | ⟨b, off, rfl, h1, h2, h3⟩
    all_goals
      go_enter Tryz.func107, Tryz.ntmps107
      go_wp2_with fail
      go_loop [10] (fun i => ∃ k : Nat, k ≤ gs.length ∧ i = .int .i64 k ∧ someF gs k = true) (fun i => gs.length - (intOf i).toNat)
      case atStart => exact ⟨0, Nat.zero_le _, rfl, rfl⟩
      case round =>
        obtain ⟨k, hk, rfl, hA⟩ := hrel
        have HA := hide hA
        clear hA
        by_cases hkn : k < gs.length
        · first
          | (exfalso; omega)
          | (obtain ⟨ta, tc, c3, c4⟩ := h3 k hkn
             have q2 := (HN.out.2 k hkn).1
             clear h3 c4
             by_cases h0 : (grAt gs k).length = 0
             · have HZ : Hid (fewF gs = false) := by
                 show _ = _
                 have : someF gs gs.length = false := allTo_false hkn (by simp [h0])
                 rw [HF.out, this]; rfl
               rw [h0] at c3
               clear h0
               go_wp2_with fail
               go_ret
               exact ⟨ret_bool HZ.out.symm, rfl⟩
             · have h0' : (((grAt gs k).length : Int) == 0) = false := beq_eq_false_iff_ne.2 (by omega)
               go_wp2_with fail
               exact ⟨⟨k + 1, by omega, by go_num, by show (someF gs k && _) = true; rw [HA.out]; simp; omega⟩, by simp [intOf]; omega⟩)
        · have hke : Hid (k = gs.length) := Nat.le_antisymm hk (Nat.le_of_not_lt hkn)
          go_wp2_with fail
          refine HC.out.mono ?_
          rintro e w1 ⟨rfl, rfl⟩
          go_wp2_with fail
          go_ret
          refine ⟨ret_bool ?_, rfl⟩
          rw [HF.out, ← hke.out, HA.out, Bool.eq_iff_iff]
          simp <;> omega
  · have HF : Hid (fewF gs = false) := by show _ = _; simp [fewF, h4]
    go_enter Tryz.func107, Tryz.ntmps107
    go_wp2_with fail
    go_ret
    exact ⟨ret_bool HF.out.symm, rfl⟩

/-- kinFieldsFew. -/
def fieldsFewF (k : Int) (n : Nat) : Bool := if k = 1 then decide (n ≤ 4) else if k = 2 then decide (n = 1) else false

set_option maxHeartbeats 800000 in
theorem kinFieldsFew_any (k u : Int) (l : Bool) (fa : Option Addr) (n fc : Nat) (w : World) (hn : n ≤ 1048576) :
    Calls Tryz.prog 126 #[.agg #[.int .i64 k, .int .i64 u, .bool l, .slice fa n fc]] w fun e w' => e = .returned (.bool (fieldsFewF k n)) ∧ Below w.heap.size w w' := by
  by_cases h1 : k = 1
  · subst h1
    go_enter Tryz.func126, Tryz.ntmps126
    go_wp2_with fail
    go_ret
    refine ⟨ret_bool ?_, (Below.refl _ _).alloc (Nat.le_refl _) _⟩
    rw [Bool.eq_iff_iff]; simp [fieldsFewF]; try omega
  by_cases h2 : k = 2
  · subst h2
    go_enter Tryz.func126, Tryz.ntmps126
    go_wp2_with fail
    go_ret
    refine ⟨ret_bool ?_, (Below.refl _ _).alloc (Nat.le_refl _) _⟩
    rw [Bool.eq_iff_iff]; simp [fieldsFewF]; try omega
  have n1 : (k == 1) = false := beq_eq_false_iff_ne.2 h1
  have n2 : (k == 2) = false := beq_eq_false_iff_ne.2 h2
  have HF : Hid (fieldsFewF k n = false) := by show _ = _; simp [fieldsFewF, h1, h2]
  clear h1 h2
  go_enter Tryz.func126, Tryz.ntmps126
  go_wp2_with fail
  go_ret
  exact ⟨ret_bool HF.out.symm, (Below.refl _ _).alloc (Nat.le_refl _) _⟩
end Go.Proofs.YtblliefejffhoaaGreatDoor

/- kinWellFormed of the program. -/
namespace Go.Proofs.YtblliefejffhoaaGreatDoor
open Go.ChangeShapes Go.WideShapes Go.ChangeAt Go.RowKit
set_option linter.unusedVariables false

/-- What is above a type is right by its form. -/
def upF (u tk : Int) (fn a : Nat) (rs : List Kr) : Bool :=
  decide (u = -1) || ((decide (0 ≤ u) && decide (u < (a : Int))) && (((krAt rs u.toNat).t.kind == tk) && (!(krAt rs u.toNat).t.last && decide ((krAt rs u.toNat).t.fields.length ≤ fn))))
def okFields (fs : List Fd) (e : Nat) (k : Nat) : Bool := allTo (fun i => fieldOk (fdAt fs i).kind (fdAt fs i).of (e : Int)) k
/-- kinWellFormed. -/
def wellF (rs : List Kr) (a : Nat) : Bool :=
  fieldsFewF (krAt rs a).t.kind (krAt rs a).t.fields.length && (okFields (krAt rs a).t.fields (krAt rs a).e (krAt rs a).t.fields.length && upF (krAt rs a).t.up (krAt rs a).t.kind (krAt rs a).t.fields.length a rs)

set_option maxHeartbeats 1600000 in
set_option maxRecDepth 100000 in
theorem kinWellFormed_any (ra : Option Addr) (rc lo hi : Nat) (rs : List Kr) (a : Nat) (w : World) (hn : rs.length ≤ 1048576) (hf : ∀ i, i < rs.length → (krAt rs i).t.fields.length ≤ 1048576) (hx : RowsIn w lo hi ra rs) (hh : hi ≤ w.heap.size) (ha : a < rs.length) :
    Calls Tryz.prog 109 #[.slice ra rs.length rc, .int .i64 (a : Int)] w fun e w' => e = .returned (.bool (wellF rs a)) ∧ Below w.heap.size w w' := by
  rcases hx with rfl | ⟨b, off, rfl, h1, h2, h3⟩
  · exact absurd ha (Nat.not_lt_zero _)
  have H3 := hide h3
  have HFn := hide hf
  have hfl := hf a ha
  obtain ⟨⟨c0, c1, c2, fa, fc, c3, c4⟩, c5, c6⟩ := h3 a ha
  clear h3 hf
  have HW : Hid (wellF rs a = (fieldsFewF (krAt rs a).t.kind (krAt rs a).t.fields.length && (okFields (krAt rs a).t.fields (krAt rs a).e (krAt rs a).t.fields.length && upF (krAt rs a).t.up (krAt rs a).t.kind (krAt rs a).t.fields.length a rs))) := rfl
  generalize wellF rs a = R at *
  generalize krAt rs a = r at *
  obtain ⟨⟨tk, tu, tl, fs⟩, rb, re⟩ := r
  simp only at hfl c0 c1 c2 c3 c4 c5 c6 HW
  have C4 := hide c4
  clear c4
  have hb5 : b < w.heap.size := Nat.lt_of_lt_of_le h2 hh
  have i1 : (0 : Int) ≤ (a : Int) := by omega
  have i2 : (a : Int) < (rs.length : Int) := by omega
  have r0 : Rec (w.alloc (.cells #[.int .i64 tk, .int .i64 tu, .bool tl, .slice fa fs.length fc, .int .i64 (rb : Nat), .int .i64 (re : Nat)] 139)) w.heap.size 139 [.int .i64 tk, .int .i64 tu, .bool tl, .slice fa fs.length fc, .int .i64 (rb : Nat), .int .i64 (re : Nat)] := Rec.new _ _ _
  have R0 := hide r0
  have b0 : Below w.heap.size w (w.alloc (.cells #[.int .i64 tk, .int .i64 tu, .bool tl, .slice fa fs.length fc, .int .i64 (rb : Nat), .int .i64 (re : Nat)] 139)) := (Below.refl _ _).alloc (Nat.le_refl _) _
  have B0 := hide b0
  clear r0 b0
  go_enter Tryz.func109, Tryz.ntmps109
  go_wp2_with fail
  refine (kinFieldsFew_any tk tu tl fa fs.length fc _ hfl).mono ?_
  rintro e w1 ⟨rfl, hb1⟩
  have R1 := hide (R0.out.below hb1 R0.out.lt)
  have B1 := hide (B0.out.trans (hb1.mono B0.out.size))
  have s1 : w.heap.size < w1.heap.size := R1.out.lt
  clear hb1 R0 B0
  cases hff : fieldsFewF tk fs.length with
  | false =>
    have HZ : Hid (R = false) := by rw [HW.out, hff]; rfl
    clear hff
    go_wp2_with fail
    go_ret
    exact ⟨ret_bool HZ.out.symm, B1.out⟩
  | true =>
    have HZ : Hid (R = (okFields fs re fs.length && upF tu tk fs.length a rs)) := by rw [HW.out, hff]; rfl
    clear hff HW
    have d3 := R1.out.cell (o := 3) rfl
    go_wp2_with fail
    go_loopw [22] (fun i wr => ∃ j : Nat, j ≤ fs.length ∧ i = .int .i64 j ∧ okFields fs re j = true ∧ Below w.heap.size w wr ∧ Rec wr w.heap.size 139 [.int .i64 tk, .int .i64 tu, .bool tl, .slice fa fs.length fc, .int .i64 (rb : Nat), .int .i64 (re : Nat)]) (fun i wr => fs.length - (intOf i).toNat)
    case atStart => exact ⟨0, Nat.zero_le _, rfl, rfl, B1.out, R1.out⟩
    case round =>
      clear R1 B1 d3
      obtain ⟨j, hj, rfl, hA, hb, hr⟩ := hrel
      have HA := hide hA
      have HB := hide hb
      have HR := hide hr
      have s2 : w.heap.size < wr.heap.size := hr.lt
      have d5 := hr.cell (o := 5) rfl
      have d0 := hr.cell (o := 0) rfl
      have d1 := hr.cell (o := 1) rfl
      have d3 := hr.cell (o := 3) rfl
      clear hA hb hr
      by_cases hjn : j < fs.length
      · rcases C4.out with hnil | ⟨b2, off2, rfl, g1, g2, g3⟩
        · rw [hnil] at hjn; exact absurd hjn (Nat.not_lt_zero _)
        obtain ⟨f0, f1, f2⟩ := (g3 j hjn).same (lo := lo) (hi := hi) (.of_below HB.out hh) g1 g2
        clear g3
        go_wp2_with fail
        refine (implFieldOk_any _ _ _ _ _).mono ?_
        rintro e w2 ⟨rfl, hb2⟩
        have q := hide (hb2.mono (show wr.heap.size ≤ _ by simp))
        have HB2 := hide ((HB.out.alloc (Nat.le_of_lt s2) (.cells #[.int .i64 (fdAt fs j).kind, .int .i64 (fdAt fs j).of, .bool (fdAt fs j).mt] 33)).trans (hb2.mono (by simp; omega)))
        have HR2 := hide ((HR.out.alloc (.cells #[.int .i64 (fdAt fs j).kind, .int .i64 (fdAt fs j).of, .bool (fdAt fs j).mt] 33)).below hb2 (by simp; omega))
        have s3 := HR2.out.lt
        clear hb2 q
        cases hfo : fieldOk (fdAt fs j).kind (fdAt fs j).of re with
        | true =>
          have HO := hide hfo
          clear hfo
          go_wp2_with fail
          have ha' : okFields fs re (j + 1) = true := by show (okFields fs re j && fieldOk (fdAt fs j).kind (fdAt fs j).of (re : Int)) = true; rw [HA.out, HO.out]; rfl
          exact ⟨⟨j + 1, by omega, by go_num, ha', HB2.out, HR2.out⟩, by simp [intOf]; omega⟩
        | false =>
          have HO := hide hfo
          clear hfo
          go_wp2_with fail
          go_ret
          refine ⟨ret_bool ?_, HB2.out⟩
          have : okFields fs re fs.length = false := allTo_false hjn HO.out
          rw [HZ.out, this]; rfl
      · have hje : Hid (j = fs.length) := Nat.le_antisymm hj (Nat.le_of_not_lt hjn)
        have HU : Hid (R = upF tu tk fs.length a rs) := by
          have hA' := HA.out
          rw [hje.out] at hA'
          show R = _
          rw [HZ.out, hA']; rfl
        clear HZ HA
        by_cases u1 : tu = -1
        · subst u1
          have HT : Hid (R = true) := by rw [HU.out]; rfl
          go_wp2_with fail
          go_ret
          exact ⟨ret_bool HT.out.symm, HB.out⟩
        have n1 : (tu == -1) = false := beq_eq_false_iff_ne.2 u1
        by_cases u2 : tu < 0
        · have HT : Hid (R = false) := by rw [HU.out]; simp [upF, Hid]; omega
          go_wp2_with fail
          go_ret
          exact ⟨ret_bool HT.out.symm, HB.out⟩
        by_cases u3 : tu < (a : Int)
        · obtain ⟨m, rfl⟩ := Int.eq_ofNat_of_zero_le (show 0 ≤ tu by omega)
          have hm : m < rs.length := by omega
          obtain ⟨⟨g0, g1, g2, ga, gc, g3, _⟩, _, _⟩ := H3.out m hm
          have hml := HFn.out m hm
          have qb : ∀ o, wr.cell? ⟨b, o, none⟩ = w.cell? ⟨b, o, none⟩ := fun o => HB.out.cell (by exact hb5)
          have k0 : wr.cell? ⟨b, off + m * 6, none⟩ = some (.int .i64 (krAt rs m).t.kind) := by rw [qb]; exact g0
          have k1 : wr.cell? ⟨b, off + m * 6 + 1, none⟩ = some (.int .i64 (krAt rs m).t.up) := by rw [qb]; exact g1
          have k2 : wr.cell? ⟨b, off + m * 6 + 2, none⟩ = some (.bool (krAt rs m).t.last) := by rw [qb]; exact g2
          have k3 : wr.cell? ⟨b, off + m * 6 + 3, none⟩ = some (.slice ga (krAt rs m).t.fields.length gc) := by rw [qb]; exact g3
          have m1 : (0 : Int) ≤ (m : Int) := by omega
          have m2 : (m : Int) < (rs.length : Int) := by omega
          have HV : Hid (R = (((krAt rs m).t.kind == tk) && (!(krAt rs m).t.last && decide ((krAt rs m).t.fields.length ≤ fs.length)))) := by
            rw [HU.out]
            have e1 : decide ((m : Int) = -1) = false := by simp
            have e2 : decide ((0 : Int) ≤ (m : Int)) = true := by simp
            have e3 : decide ((m : Int) < (a : Int)) = true := by simp; omega
            unfold upF
            rw [e1, e2, e3]
            simp [Hid]
          clear g0 g1 g2 g3 qb HU
          generalize krAt rs m = v at *
          obtain ⟨⟨vk, vu, vl, vs⟩, vb, ve⟩ := v
          simp only at k0 k1 k2 k3 hml HV
          by_cases e1 : vk = tk
          · subst e1
            have hd : (vk == vk) = true := by simp
            cases vl with
            | true =>
              have HT : Hid (R = false) := by rw [HV.out]; simp [Hid]
              go_wp2_with fail
              go_ret
              exact ⟨ret_bool HT.out.symm, HB.out.alloc (Nat.le_of_lt s2) _⟩
            | false =>
              have HT : Hid (R = decide (vs.length ≤ fs.length)) := by rw [HV.out]; simp [Hid]
              go_wp2_with fail
              go_ret
              refine ⟨ret_bool ?_, HB.out.alloc (Nat.le_of_lt s2) _⟩
              rw [HT.out, Bool.eq_iff_iff]
          · have hd : (vk == tk) = false := beq_eq_false_iff_ne.2 e1
            have HT : Hid (R = false) := by rw [HV.out, hd]; simp [Hid]
            go_wp2_with fail
            go_ret
            exact ⟨ret_bool HT.out.symm, HB.out.alloc (Nat.le_of_lt s2) _⟩
        · have HT : Hid (R = false) := by rw [HU.out]; simp [upF, Hid]; try omega
          go_wp2_with fail
          go_ret
          exact ⟨ret_bool HT.out.symm, HB.out⟩
end Go.Proofs.YtblliefejffhoaaGreatDoor

/- strconv.Itoa at this program, off the shelf; the table that it reads; strings put together. -/
namespace Go.Proofs
open Go.Shelf Go.RowKit

shelf_lay LaysM.n171 Nm 171 at Tryz as Tryz.lays171

theorem Tryz.itoa (n : Int) (h0 : -9223372036854775808 ≤ n) (h1 : n ≤ 9223372036854775807) (w : World) (htab : Lib.TabIs Tryz.prog w "internal/strconv.uint64pow10" .u64 Lib.pow10Tab) :
    Calls Tryz.prog 53 #[.int .i64 n] w fun e w' => e = .returned (.string ⟨(Lib.itoa n).toArray⟩) ∧ ∃ k os, w' = Sort.grow (w.drewN k) os := Any.strconv_Itoa { Tryz.lays171 with } n h0 h1 w htab
end Go.Proofs
namespace Go.Proofs.YtblliefejffhoaaGreatDoor
open Go.ChangeShapes Go.WideShapes Go.ChangeAt Go.RowKit
set_option linter.unusedVariables false

theorem grown_below (w : World) (k : Nat) (os : Array Obj) : Below w.heap.size w (Sort.grow (w.drewN k) os) := by
  refine ⟨rfl, rfl, rfl, ?_, fun i hi => ?_⟩
  · show w.heap.size ≤ (w.heap ++ os).size
    simp
  · show (w.heap ++ os)[i]? = w.heap[i]?
    rw [Array.getElem?_append_left hi]

theorem gPow : Tryz.prog.globalNamed "internal/strconv.uint64pow10" = some 3 := by kernel_rfl

def pow10 (w : World) : Prop := Lib.TabIs Tryz.prog w "internal/strconv.uint64pow10" .u64 Lib.pow10Tab

theorem pow10_keep {w w' : World} (h : pow10 w) (hb : Below w.heap.size w w') : pow10 w' := Joins.tab_stays gPow h hb (Nat.le_refl _)

theorem below_more {w v : World} (h : Below w.heap.size w v) (o : Obj) : Below w.heap.size w (v.alloc o) := h.alloc h.size o
theorem add_at (x y z : List UInt8) (h : x ++ y = z) (hx : x.length ≤ 1000) (hy : y.length ≤ 1000) : ∀ W : World, (Op.stringOp .add ⟨x.toArray⟩ ⟨y.toArray⟩).run Tryz.prog W = .ok (.string ⟨z.toArray⟩) W := by
  intro W
  rw [run_string_add_lists (P := Tryz.prog) W x y (by omega) (by omega), h]

end Go.Proofs.YtblliefejffhoaaGreatDoor

/- strconv.FormatBool, and kinNamed of the program. -/
namespace Go.Proofs.YtblliefejffhoaaGreatDoor
open Go.ChangeShapes Go.WideShapes Go.ChangeAt Go.RowKit
set_option linter.unusedVariables false

theorem formatBool_any (b : Bool) (w : World) :
    Calls Tryz.prog 134 #[.bool b] w fun e w' => e = .returned (.string ⟨(boolW b).toArray⟩) ∧ w' = w := by
  cases b
  all_goals
    go_enter Tryz.func134, Tryz.ntmps134
    go_wp2
    go_ret
    exact ⟨rfl, rfl⟩
theorem formatBool_at (b : Bool) (l : List UInt8) (h : boolW b = l) (w0 w : World) (B0 : Below w0.heap.size w0 w) :
    Calls Tryz.prog 134 #[.bool b] w fun e w' => e = .returned (.string ⟨l.toArray⟩) ∧ (∀ q o v, w.cell? ⟨q, o, none⟩ = some v → w'.cell? ⟨q, o, none⟩ = some v) ∧ Below w0.heap.size w0 w' := by
  refine (formatBool_any b w).mono ?_
  rintro e w' ⟨rfl, rfl⟩
  exact ⟨by rw [h], fun _ _ _ h => h, B0⟩

theorem itoa_any (n : Int) (h0 : -9 ≤ n) (h1 : n ≤ 9) (w : World) (hp : pow10 w) :
    Calls Tryz.prog 53 #[.int .i64 n] w fun e w' => e = .returned (.string ⟨(Lib.itoa n).toArray⟩) ∧ Below w.heap.size w w' := by
  refine (Tryz.itoa n (by omega) (by omega) w hp).mono ?_
  rintro e w1 ⟨rfl, k, os, rfl⟩
  exact ⟨rfl, grown_below w k os⟩
theorem itoa_at (n : Int) (l : List UInt8) (h : Lib.itoa n = l) (h0 : -9 ≤ n) (h1 : n ≤ 9) (w0 w : World) (B0 : Below w0.heap.size w0 w) (hp : pow10 w0) :
    Calls Tryz.prog 53 #[.int .i64 n] w fun e w' => e = .returned (.string ⟨l.toArray⟩) ∧ (∀ q o v, w.cell? ⟨q, o, none⟩ = some v → w'.cell? ⟨q, o, none⟩ = some v) ∧ Below w0.heap.size w0 w' := by
  refine (itoa_any n h0 h1 w (pow10_keep hp B0)).mono ?_
  rintro e w' ⟨rfl, hb⟩
  exact ⟨by rw [h], fun q o v hv => by rw [hb.cell (p := ⟨q, o, none⟩) (cell_lt hv)]; exact hv, B0.trans (hb.mono B0.size)⟩

/-- The first k numbers that lie at a are those of C. -/
def CanIn (w : World) (a : Option Addr) (k : Nat) (C : Nat → Nat) : Prop :=
  k ≤ 0 ∨ ∃ q off, a = some ⟨q, off, none⟩ ∧ q < w.heap.size ∧ ∀ i, i < k → w.cell? ⟨q, off + i, none⟩ = some (.int .i64 (C i : Nat))
theorem CanIn.keep {w w' : World} {a : Option Addr} {k : Nat} {C : Nat → Nat} (h : CanIn w a k C) (hb : Below w.heap.size w w') : CanIn w' a k C := by
  rcases h with h | ⟨q, off, e, h1, h2⟩
  · exact .inl h
  · exact .inr ⟨q, off, e, Nat.lt_of_lt_of_le h1 hb.size, fun i hi => by rw [hb.cell (p := ⟨q, off + i, none⟩) h1]; exact h2 i hi⟩

theorem sm_len (n : Int) : (sm n).length ≤ 2 := by unfold sm; split <;> simp
theorem itoa_len {n : Int} (h1 : -9 ≤ n) (h2 : n ≤ 9) : (Lib.itoa n).length ≤ 2 := by rw [itoa_sm n h1 h2]; exact sm_len n
theorem boolW_len (b : Bool) : (boolW b).length ≤ 5 := by cases b <;> simp [boolW]
theorem nameK_len {C : Nat → Nat} {b : Nat} {o : Int} (h : NameOk C o) : (nameK C b o).length ≤ 3 := by
  obtain ⟨h1, h2, h3⟩ := h
  unfold nameK
  split
  · have := itoa_len (n := o) (by omega) (by omega); omega
  · split
    · have := itoa_len (n := o - b) (by omega) (by omega); simp; omega
    · have := h3 o.toNat (by omega)
      have := itoa_len (n := (C o.toNat : Nat)) (by omega) (by omega); omega

set_option maxHeartbeats 800000 in
theorem kinNamed_any (ca : Option Addr) (cn cc b : Nat) (o : Int) (C : Nat → Nat) (w : World) (hp : pow10 w) (ho : NameOk C o) (hb : b ≤ 8) (hcn : b ≤ cn) (hc8 : cn ≤ 8) (hx : CanIn w ca b C) :
    Calls Tryz.prog 135 #[.slice ca cn cc, .int .i64 (b : Int), .int .i64 o] w fun e w' => e = .returned (.string ⟨(nameK C b o).toArray⟩) ∧ Below w.heap.size w w' := by
  have HP := hide hp
  obtain ⟨o1, o2, o3⟩ := ho
  clear hp
  by_cases h1 : o < 0
  · have HN : Hid (nameK C b o = Lib.itoa o) := by show _ = _; unfold nameK; rw [if_pos h1]
    clear hx o3
    go_enter Tryz.func135, Tryz.ntmps135
    go_wp2_with fail
    refine (itoa_any o (by omega) (by omega) w HP.out).mono ?_
    rintro e w1 ⟨rfl, b1⟩
    have B1 := hide b1
    clear b1
    go_wp2_with fail
    go_ret
    exact ⟨by rw [HN.out]; rfl, B1.out⟩
  by_cases h2 : (b : Int) ≤ o
  · have HN : Hid (nameK C b o = 43 :: Lib.itoa (o - b)) := by show _ = _; unfold nameK; rw [if_neg h1, if_pos h2]
    have hl := itoa_len (n := o - b) (by omega) (by omega)
    have HI := hide (itoa_any (o - b) (by omega) (by omega) w HP.out)
    have hx1 := add_at [43] (Lib.itoa (o - b)) (43 :: Lib.itoa (o - b)) rfl (by simp) (by omega)
    generalize 43 :: Lib.itoa (o - b) = x1 at hx1 HN
    generalize Lib.itoa (o - b) = x0 at hx1 HI
    clear hx o3 hl
    go_enter Tryz.func135, Tryz.ntmps135
    go_wp2_with fail
    refine HI.out.mono ?_
    rintro e w1 ⟨rfl, b1⟩
    have B1 := hide b1
    clear b1
    go_wp2_with fail
    go_ret
    exact ⟨by rw [HN.out]; rfl, B1.out⟩
  · obtain ⟨m, rfl⟩ := Int.eq_ofNat_of_zero_le (show 0 ≤ o by omega)
    have hm : m < b := by omega
    have HN : Hid (nameK C b m = Lib.itoa (C m : Nat)) := by show _ = _; unfold nameK; rw [if_neg h1, if_neg h2]; simp
    have h8 := o3 m (by omega)
    rcases hx with h0 | ⟨q, off, rfl, q1, q2⟩
    · exfalso; omega
    have c0 := q2 m hm
    have m1 : (0 : Int) ≤ (m : Int) := by omega
    have m2 : (m : Int) < (cn : Int) := by omega
    clear q2 o3
    go_enter Tryz.func135, Tryz.ntmps135
    go_wp2_with fail
    refine (itoa_any (C m : Nat) (by omega) (by omega) w HP.out).mono ?_
    rintro e w1 ⟨rfl, b1⟩
    have B1 := hide b1
    clear b1
    go_wp2_with fail
    go_ret
    exact ⟨by rw [HN.out]; rfl, B1.out⟩
theorem kinNamed_at (ca : Option Addr) (cn cc b : Nat) (o : Int) (C : Nat → Nat) (l : List UInt8) (h : nameK C b o = l) (w0 w : World) (B0 : Below w0.heap.size w0 w) (hp : pow10 w0) (ho : NameOk C o) (hb : b ≤ 8) (hcn : b ≤ cn) (hc8 : cn ≤ 8) (hx : CanIn w0 ca b C) :
    Calls Tryz.prog 135 #[.slice ca cn cc, .int .i64 (b : Int), .int .i64 o] w fun e w' => e = .returned (.string ⟨l.toArray⟩) ∧ (∀ q o v, w.cell? ⟨q, o, none⟩ = some v → w'.cell? ⟨q, o, none⟩ = some v) ∧ Below w0.heap.size w0 w' := by
  refine (kinNamed_any ca cn cc b o C w (pow10_keep hp B0) ho hb hcn hc8 (hx.keep B0)).mono ?_
  rintro e w' ⟨rfl, hb⟩
  exact ⟨by rw [h], fun q o v hv => by rw [hb.cell (p := ⟨q, o, none⟩) (cell_lt hv)]; exact hv, B0.trans (hb.mono B0.size)⟩
end Go.Proofs.YtblliefejffhoaaGreatDoor

/- kinWritten of the program: the text of a group. -/
namespace Go.Proofs.YtblliefejffhoaaGreatDoor
open Go.ChangeShapes Go.WideShapes Go.ChangeAt Go.RowKit
set_option linter.unusedVariables false

def headTxt (C : Nat → Nat) (b : Nat) (t : Ty) : List UInt8 := Lib.itoa t.kind ++ (32 :: (boolW t.last ++ (32 :: nameK C b t.up)))
theorem rowTxt_head (C : Nat → Nat) (b : Nat) (t : Ty) : rowTxt C b t = (headTxt C b t ++ fldsTxt C b t.fields) ++ [59] := by simp [rowTxt, headTxt]

theorem fd_take_snoc (g : List Fd) (j : Nat) (h : j < g.length) : g.take (j + 1) = g.take j ++ [fdAt g j] := by
  rw [List.take_succ_eq_append_getElem h]
  simp [fdAt, List.getD, List.getElem?_eq_getElem h]
theorem fldsTxt_snoc (C : Nat → Nat) (b : Nat) (fs : List Fd) (j : Nat) (h : j < fs.length) : fldsTxt C b (fs.take (j + 1)) = fldsTxt C b (fs.take j) ++ fldTxt C b (fdAt fs j) := by
  rw [fd_take_snoc fs j h]
  simp [fldsTxt, fldsTok, fldTxt, toksTxt]
theorem grpTxt_snoc (C : Nat → Nat) (b : Nat) (ts : List Ty) (j : Nat) (h : j < ts.length) : grpTxt C b (ts.take (j + 1)) = grpTxt C b (ts.take j) ++ rowTxt C b (tyAt ts j) := by
  rw [take_snoc ts j h]
  simp [grpTxt]

theorem fldTxt_eq (C : Nat → Nat) (b : Nat) (f : Fd) : fldTxt C b f = (44 :: (Lib.itoa f.kind ++ (32 :: boolW f.mt))) ++ (if f.kind = 1 then [] else 32 :: nameK C b f.of) := by
  unfold fldTxt fldTok
  split <;> simp [toksTxt]
theorem fldTxt_len {C : Nat → Nat} {b : Nat} {f : Fd} (h : FdOk C f) : (fldTxt C b f).length ≤ 14 := by
  rw [fldTxt_eq]
  have h1 := itoa_len (n := f.kind) (by have := h.1; omega) (by have := h.1; omega)
  have h2 := boolW_len f.mt
  have h3 := nameK_len (b := b) h.2
  split <;> simp <;> omega
theorem fldsTxt_len {C : Nat → Nat} {b : Nat} {fs : List Fd} (h : ∀ i, i < fs.length → FdOk C (fdAt fs i)) : ∀ j, j ≤ fs.length → (fldsTxt C b (fs.take j)).length ≤ 14 * j := by
  intro j
  induction j with
  | zero => intro _; simp [fldsTxt, fldsTok, toksTxt]
  | succ j ih =>
    intro hj
    rw [fldsTxt_snoc C b fs j hj]
    have := ih (by omega)
    have := fldTxt_len (b := b) (h j hj)
    simp; omega
theorem headTxt_len {C : Nat → Nat} {b : Nat} {t : Ty} (h : TyOk C t) : (headTxt C b t).length ≤ 13 := by
  have h1 := itoa_len (n := t.kind) (by have := h.1; omega) (by have := h.1; omega)
  have h2 := boolW_len t.last
  have h3 := nameK_len (b := b) h.2.1
  simp [headTxt]; omega
theorem rowTxt_len {C : Nat → Nat} {b : Nat} {t : Ty} (h : TyOk C t) (h4 : t.fields.length ≤ 4) : (rowTxt C b t).length ≤ 70 := by
  rw [rowTxt_head]
  have h1 := headTxt_len (b := b) h
  have h2 := fldsTxt_len (b := b) h.2.2 t.fields.length (Nat.le_refl _)
  rw [List.take_length] at h2
  simp; omega
theorem grpTxt_len {C : Nat → Nat} {b : Nat} {ts : List Ty} (h : ∀ i, i < ts.length → TyOk C (tyAt ts i)) (h4 : ∀ i, i < ts.length → (tyAt ts i).fields.length ≤ 4) : ∀ j, j ≤ ts.length → (grpTxt C b (ts.take j)).length ≤ 70 * j := by
  intro j
  induction j with
  | zero => intro _; simp [grpTxt]
  | succ j ih =>
    intro hj
    rw [grpTxt_snoc C b ts j hj]
    have := ih (by omega)
    have := rowTxt_len (b := b) (h j hj) (h4 j hj)
    simp; omega

set_option maxHeartbeats 3200000 in
set_option maxRecDepth 100000 in
theorem kinWritten_core (rb ro rn rc lo hi : Nat) (ca : Option Addr) (cn cc b : Nat) (ts : List Ty) (C : Nat → Nat) (w : World) (hp : pow10 w) (hh : hi ≤ w.heap.size) (h1 : lo ≤ rb) (h2 : rb < hi)
    (ht : ∀ i, i < ts.length → TyOk C (tyAt ts i)) (ht4 : ∀ i, i < ts.length → (tyAt ts i).fields.length ≤ 4) (h0 : 0 < ts.length) (hbn : b + ts.length ≤ rn) (hrn : rn ≤ 8) (hrc : rn ≤ rc)
    (hT : ∀ i, i < ts.length → TypeAt w lo hi rb (ro + b * 6 + i * 6) (tyAt ts i)) (hE : w.cell? ⟨rb, ro + b * 6 + 5, none⟩ = some (.int .i64 ((b + ts.length : Nat) : Int)))
    (hK : ∀ i, i < ts.length → (∃ v, w.cell? ⟨rb, ro + b * 6 + i * 6 + 4, none⟩ = some (.int .i64 v)) ∧ ∃ v, w.cell? ⟨rb, ro + b * 6 + i * 6 + 5, none⟩ = some (.int .i64 v))
    (hcn : b ≤ cn) (hc8 : cn ≤ 8) (hC : CanIn w ca b C) :
    Calls Tryz.prog 127 #[.slice (some ⟨rb, ro, none⟩) rn rc, .slice ca cn cc, .int .i64 (b : Int)] w fun e w' => e = .returned (.string ⟨(grpTxt C b ts).toArray⟩) ∧ Below w.heap.size w w' := by
  have HP := hide hp
  have HT := hide hT
  have HK := hide hK
  have HC := hide hC
  have HTy := hide ht
  have HT4 := hide ht4
  have HLen := hide (grpTxt_len (b := b) ht ht4)
  have hr5 : rb < w.heap.size := Nat.lt_of_lt_of_le h2 hh
  clear hp hT hC ht ht4 hK
  have b1 : (0 : Int) ≤ (b : Int) := by omega
  have b2 : (b : Int) < (rn : Int) := by omega
  have e2 : ((b + ts.length : Nat) : Int) = (b : Int) + (ts.length : Int) := by omega
  rw [e2] at hE
  clear e2
  go_enter Tryz.func127, Tryz.ntmps127
  go_wp2_with fail
  simp only [Nat.add_sub_cancel_left]
  go_loopw [7, 21] (fun v i wr => ∃ (j : Nat) (l : List UInt8), j ≤ ts.length ∧ i = .int .i64 j ∧ v = .string ⟨l.toArray⟩ ∧ l = grpTxt C b (ts.take j) ∧ Below w.heap.size w wr) (fun v i wr => ts.length - (intOf i).toNat)
  case atStart => exact ⟨0, [], Nat.zero_le _, rfl, rfl, rfl, Below.refl _ _⟩
  case round =>
    obtain ⟨j, l, hj, rfl, rfl, hl, hb⟩ := hrel
    have HL := hide hl
    have HB := hide hb
    have s1 := hb.size
    have qb : ∀ o, wr.cell? ⟨rb, o, none⟩ = w.cell? ⟨rb, o, none⟩ := fun o => hb.cell (by exact hr5)
    have hll := HLen.out j hj
    rw [← hl] at hll
    clear hl hb
    by_cases hjn : j < ts.length
    · obtain ⟨c0, c1, c2, fa, fc, c3, c4⟩ := HT.out j hjn
      obtain ⟨⟨v4, c5⟩, v5, c6⟩ := HK.out j hjn
      have ty := HTy.out j hjn
      have t4 := HT4.out j hjn
      have HSn := hide (grpTxt_snoc C b ts j hjn)
      rw [← qb] at c0 c1 c2 c3 c5 c6
      generalize tyAt ts j = t at c0 c1 c2 c3 c4 ty t4 HSn
      obtain ⟨tk, tu, tl, fs⟩ := t
      simp only at c0 c1 c2 c3 c4 t4
      obtain ⟨⟨k1, k2⟩, tn, tf⟩ := ty
      simp only at k1 k2 tn tf
      have C4 := hide c4
      have TF := hide tf
      have HRow : Hid (rowTxt C b ⟨tk, tu, tl, fs⟩ = (headTxt C b ⟨tk, tu, tl, fs⟩ ++ fldsTxt C b fs) ++ [59]) := rowTxt_head C b _
      have HFl := hide (fldsTxt_len (b := b) tf)
      have lk := itoa_len (n := tk) (by omega) (by omega)
      have lb := boolW_len tl
      have ln := nameK_len (b := b) tn
      have HH : Hid (headTxt C b ⟨tk, tu, tl, fs⟩ = Lib.itoa tk ++ (32 :: (boolW tl ++ (32 :: nameK C b tu)))) := rfl
      obtain ⟨xk, ek⟩ : ∃ xk, Lib.itoa tk = xk := ⟨_, rfl⟩
      obtain ⟨xb, eb⟩ : ∃ xb, boolW tl = xb := ⟨_, rfl⟩
      obtain ⟨xn, en⟩ : ∃ xn, nameK C b tu = xn := ⟨_, rfl⟩
      have EK := hide ek
      have EB := hide eb
      have EN := hide en
      rw [ek] at lk
      rw [eb] at lb
      rw [en] at ln
      have hd : headTxt C b ⟨tk, tu, tl, fs⟩ = xk ++ (32 :: (xb ++ (32 :: xn))) := by rw [HH.out, ek, eb, en]
      have HD := hide hd
      clear ek eb en hd HH
      have y1 := add_at xk [32] (xk ++ [32]) rfl (by omega) (by simp)
      have y2 := add_at (xk ++ [32]) xb (xk ++ 32 :: xb) (by simp) (by simp; omega) (by omega)
      have y3 := add_at (xk ++ 32 :: xb) [32] (xk ++ 32 :: (xb ++ [32])) (by simp) (by simp; omega) (by simp)
      have y4 := add_at (xk ++ 32 :: (xb ++ [32])) xn (xk ++ 32 :: (xb ++ 32 :: xn)) (by simp) (by simp; omega) (by omega)
      have y5 := add_at l (xk ++ 32 :: (xb ++ 32 :: xn)) (l ++ (xk ++ 32 :: (xb ++ 32 :: xn))) rfl (by omega) (by simp; omega)
      have l5 : (l ++ (xk ++ 32 :: (xb ++ 32 :: xn))).length ≤ 70 * j + 13 := by simp; omega
      obtain ⟨z5, e5⟩ : ∃ z, z = l ++ (xk ++ 32 :: (xb ++ 32 :: xn)) := ⟨_, rfl⟩
      rw [← e5] at y5 l5
      have E5 : Hid (z5 = l ++ headTxt C b ⟨tk, tu, tl, fs⟩) := by show _ = _; rw [e5, HD.out]
      clear e5
      generalize xk ++ 32 :: (xb ++ 32 :: xn) = z4 at y4 y5
      generalize xk ++ 32 :: (xb ++ [32]) = z3 at y3 y4
      generalize xk ++ 32 :: xb = z2 at y2 y3
      generalize xk ++ [32] = z1 at y1 y2
      have j1 : (0 : Int) ≤ (j : Int) := by omega
      have j2 : (j : Int) < (ts.length : Int) := by omega
      have B1 : Below w.heap.size w (wr.alloc (.cells #[.int .i64 tk, .int .i64 tu, .bool tl, .slice fa fs.length fc, .int .i64 v4, .int .i64 v5] 139)) := HB.out.alloc s1 _
      have R1 := Rec.new wr 139 [.int .i64 tk, .int .i64 tu, .bool tl, .slice fa fs.length fc, .int .i64 v4, .int .i64 v5]
      have r0 := R1.cell (o := 0) rfl
      have r1 := R1.cell (o := 1) rfl
      have r2 := R1.cell (o := 2) rfl
      have r3 := R1.cell (o := 3) rfl
      have HB1 := hide B1
      clear HT HK c4 tf R1 B1 qb HD
      go_wp2_with fail
      go_region_held3 (fun w' => w'.cell? ⟨wr.heap.size, 0, none⟩ = some (.int .i64 tk) ∧ w'.cell? ⟨wr.heap.size, 1, none⟩ = some (.int .i64 tu) ∧ w'.cell? ⟨wr.heap.size, 2, none⟩ = some (.bool tl) ∧ w'.cell? ⟨wr.heap.size, 3, none⟩ = some (.slice fa fs.length fc) ∧ Below w.heap.size w w')
        (refine ⟨?_, ?_, ?_, ?_, ?_⟩ <;> first | assumption | exact HB1.out.drew | go_keep)
        ((first
          | (go_at_call 53; have hS := ‹(World.cell? _ ⟨wr.heap.size, 0, none⟩ = some (.int .i64 tk) ∧ _ ∧ _ ∧ _ ∧ Below w.heap.size w _)›; refine (itoa_at _ _ EK.out (by omega) (by omega) w _ hS.2.2.2.2 HP.out).mono ?_; rintro e w3 ⟨rfl, kp, B3⟩; have d0 := kp _ _ _ hS.1; have d1 := kp _ _ _ hS.2.1; have d2 := kp _ _ _ hS.2.2.1; have d3 := kp _ _ _ hS.2.2.2.1; clear hS kp)
          | (go_at_call 134; have hS := ‹(World.cell? _ ⟨wr.heap.size, 0, none⟩ = some (.int .i64 tk) ∧ _ ∧ _ ∧ _ ∧ Below w.heap.size w _)›; refine (formatBool_at _ _ EB.out w _ hS.2.2.2.2).mono ?_; rintro e w3 ⟨rfl, kp, B3⟩; have d0 := kp _ _ _ hS.1; have d1 := kp _ _ _ hS.2.1; have d2 := kp _ _ _ hS.2.2.1; have d3 := kp _ _ _ hS.2.2.2.1; clear hS kp)
          | (go_at_call 135; have hS := ‹(World.cell? _ ⟨wr.heap.size, 0, none⟩ = some (.int .i64 tk) ∧ _ ∧ _ ∧ _ ∧ Below w.heap.size w _)›; refine (kinNamed_at _ _ _ _ _ _ _ EN.out w _ hS.2.2.2.2 HP.out tn (by omega) hcn hc8 HC.out).mono ?_; rintro e w3 ⟨rfl, kp, B3⟩; have d0 := kp _ _ _ hS.1; have d1 := kp _ _ _ hS.2.1; have d2 := kp _ _ _ hS.2.2.1; have d3 := kp _ _ _ hS.2.2.2.1; clear hS kp)))
      rename_i hHeld
      clear hHeld
      have HB3 := hide B3
      clear r0 r1 r2 r3 d0 d1 d2 y1 y2 y3 y4 y5 c0 c1 c2 c3 c5 c6 B3
      go_wp2_with fail
      go_loopw [7, 49] (fun v i wi => ∃ (k : Nat) (m : List UInt8), k ≤ fs.length ∧ i = .int .i64 k ∧ v = .string ⟨m.toArray⟩ ∧ m = z5 ++ fldsTxt C b (fs.take k) ∧ Below w.heap.size w wi) (fun v i wi => fs.length - (intOf i).toNat)
      case atStart => exact ⟨0, z5, Nat.zero_le _, rfl, rfl, by simp [fldsTxt, fldsTok, toksTxt], HB3.out⟩
      case round =>
        clear HB3 d3
        obtain ⟨k, m, hk, rfl, rfl, hm, hb⟩ := hrel
        have HM := hide hm
        have HBi := hide hb
        have s2 := hb.size
        have hml : m.length ≤ 70 * j + 13 + 14 * k := by have := HFl.out k hk; rw [hm]; simp; omega
        clear hm hb
        by_cases hkn : k < fs.length
        · rcases C4.out with hnil | ⟨b2, off2, rfl, g1, g2, g3⟩
          · rw [hnil] at hkn; exact absurd hkn (Nat.not_lt_zero _)
          obtain ⟨f0, f1, f2⟩ := (g3 k hkn).same (lo := lo) (hi := hi) (.of_below HBi.out hh) g1 g2
          have fo := TF.out k hkn
          have HS2 := hide (fldsTxt_snoc C b fs k hkn)
          have HF2 := hide (fldTxt_eq C b (fdAt fs k))
          clear g3
          generalize fdAt fs k = f at f0 f1 f2 fo HS2 HF2
          obtain ⟨fk, fo', fm⟩ := f
          obtain ⟨⟨p1, p2⟩, pn⟩ := fo
          simp only at f0 f1 f2 p1 p2 pn HF2
          have lk := itoa_len (n := fk) (by omega) (by omega)
          have lb := boolW_len fm
          have ln := nameK_len (b := b) pn
          obtain ⟨uk, ek⟩ : ∃ xk, Lib.itoa fk = xk := ⟨_, rfl⟩
          obtain ⟨ub, eb⟩ : ∃ xb, boolW fm = xb := ⟨_, rfl⟩
          obtain ⟨un, en⟩ : ∃ xn, nameK C b fo' = xn := ⟨_, rfl⟩
          have FK := hide ek
          have FB := hide eb
          have FN := hide en
          rw [ek] at lk
          rw [eb] at lb
          rw [en] at ln
          have hd : fldTxt C b ⟨fk, fo', fm⟩ = (44 :: (uk ++ 32 :: ub)) ++ (if fk = 1 then [] else 32 :: un) := by rw [HF2.out, ek, eb, en]
          have HD2 := hide hd
          clear ek eb en hd HF2
          have y1 := add_at [44] uk (44 :: uk) rfl (by simp) (by omega)
          have y2 := add_at (44 :: uk) [32] (44 :: (uk ++ [32])) (by simp) (by simp; omega) (by simp)
          have y3 := add_at (44 :: (uk ++ [32])) ub (44 :: (uk ++ 32 :: ub)) (by simp) (by simp; omega) (by omega)
          have y4 := add_at m (44 :: (uk ++ 32 :: ub)) (m ++ 44 :: (uk ++ 32 :: ub)) rfl (by omega) (by simp; omega)
          have y5 := add_at [32] un (32 :: un) rfl (by simp) (by omega)
          have y6 := add_at (m ++ 44 :: (uk ++ 32 :: ub)) (32 :: un) (m ++ 44 :: (uk ++ 32 :: (ub ++ 32 :: un))) (by simp) (by simp; omega) (by simp; omega)
          obtain ⟨q6, e6⟩ : ∃ z, z = m ++ 44 :: (uk ++ 32 :: (ub ++ 32 :: un)) := ⟨_, rfl⟩
          obtain ⟨q4, e4⟩ : ∃ z, z = m ++ 44 :: (uk ++ 32 :: ub) := ⟨_, rfl⟩
          rw [← e6] at y6
          rw [← e4] at y4 y6
          have E6 : Hid (fk ≠ 1 → q6 = m ++ fldTxt C b ⟨fk, fo', fm⟩) := fun h => by rw [e6, HD2.out, if_neg h]; simp
          have E4 : Hid (fk = 1 → q4 = m ++ fldTxt C b ⟨fk, fo', fm⟩) := fun h => by rw [e4, HD2.out, if_pos h]; simp
          clear e6 e4 HD2
          generalize 32 :: un = q5 at y5 y6
          generalize 44 :: (uk ++ 32 :: ub) = q3 at y3 y4
          generalize 44 :: (uk ++ [32]) = q2 at y2 y3
          generalize 44 :: uk = q1 at y1 y2
          have j3 : (0 : Int) ≤ (k : Int) := by omega
          have j4 : (k : Int) < (fs.length : Int) := by omega
          have B1 : Below w.heap.size w (wr.alloc (.cells #[.int .i64 fk, .int .i64 fo', .bool fm] 33)) := HBi.out.alloc s2 _
          have R1 := Rec.new wr 33 [.int .i64 fk, .int .i64 fo', .bool fm]
          have r0 := R1.cell (o := 0) rfl
          have r1 := R1.cell (o := 1) rfl
          have r2 := R1.cell (o := 2) rfl
          have HB1 := hide B1
          clear R1 B1
          go_wp2_with fail
          go_region_held3 (fun w' => w'.cell? ⟨wr.heap.size, 0, none⟩ = some (.int .i64 fk) ∧ w'.cell? ⟨wr.heap.size, 1, none⟩ = some (.int .i64 fo') ∧ w'.cell? ⟨wr.heap.size, 2, none⟩ = some (.bool fm) ∧ Below w.heap.size w w')
            (refine ⟨?_, ?_, ?_, ?_⟩ <;> first | assumption | exact HB1.out.drew | go_keep)
            ((first
              | (go_at_call 53; have hS := ‹(World.cell? _ ⟨wr.heap.size, 0, none⟩ = some (.int .i64 fk) ∧ _ ∧ _ ∧ Below w.heap.size w _)›; refine (itoa_at _ _ FK.out (by omega) (by omega) w _ hS.2.2.2 HP.out).mono ?_; rintro e w3 ⟨rfl, kp, B3⟩; have d0 := kp _ _ _ hS.1; have d1 := kp _ _ _ hS.2.1; have d2 := kp _ _ _ hS.2.2.1; clear hS kp)
              | (go_at_call 134; have hS := ‹(World.cell? _ ⟨wr.heap.size, 0, none⟩ = some (.int .i64 fk) ∧ _ ∧ _ ∧ Below w.heap.size w _)›; refine (formatBool_at _ _ FB.out w _ hS.2.2.2).mono ?_; rintro e w3 ⟨rfl, kp, B3⟩; have d0 := kp _ _ _ hS.1; have d1 := kp _ _ _ hS.2.1; have d2 := kp _ _ _ hS.2.2.1; clear hS kp)))
          rename_i hHeld
          clear hHeld
          have HB4 := hide B3
          clear r0 r1 r2 y1 y2 y3 y4 f0 f1 f2 B3
          by_cases hf1 : fk = 1
          · subst hf1
            go_wp2_with fail
            exact ⟨⟨k + 1, q4, by omega, by go_num, rfl, by rw [E4.out rfl, HM.out, HS2.out, List.append_assoc], HB4.out⟩, by simp [intOf]; omega⟩
          · have nf : (fk != 1) = true := by simpa using hf1
            go_wp2_with fail
            refine (kinNamed_at _ _ _ _ _ _ _ FN.out w _ HB4.out HP.out pn (by omega) hcn hc8 HC.out).mono ?_
            rintro e w4 ⟨rfl, kp, B5⟩
            have HB5 := hide B5
            clear B5 kp
            go_wp2_with fail
            exact ⟨⟨k + 1, q6, by omega, by go_num, rfl, by rw [E6.out hf1, HM.out, HS2.out, List.append_assoc], HB5.out⟩, by simp [intOf]; omega⟩
        · have hke : Hid (k = fs.length) := Nat.le_antisymm hk (Nat.le_of_not_lt hkn)
          have y1 := add_at m [59] (m ++ [59]) rfl (by omega) (by simp)
          obtain ⟨q1, e1⟩ : ∃ z, z = m ++ [59] := ⟨_, rfl⟩
          rw [← e1] at y1
          have E1 := hide e1
          clear e1
          go_wp2_with fail
          have eq : q1 = grpTxt C b (ts.take (j + 1)) := by
            rw [E1.out, HM.out, hke.out, List.take_length, E5.out, HL.out, HSn.out, HRow.out]
            simp [List.append_assoc]
          exact ⟨⟨j + 1, q1, by omega, by go_num, rfl, eq, HBi.out⟩, by simp [intOf]; omega⟩
    · have hje : Hid (j = ts.length) := Nat.le_antisymm hj (Nat.le_of_not_lt hjn)
      go_wp2_with fail
      go_ret
      refine ⟨?_, HB.out⟩
      have e := HL.out
      rw [hje.out, List.take_length] at e
      rw [e]; rfl
end Go.Proofs.YtblliefejffhoaaGreatDoor

/- kinCanons of the program: the least number that is the same as each type. -/
namespace Go.Proofs.YtblliefejffhoaaGreatDoor
open Go.ChangeShapes Go.WideShapes Go.ChangeAt Go.RowKit Go.Maps
set_option linter.unusedVariables false

/-- The first groups of each text, as they are kept. -/
def firstsD (gs : List (List Ty)) : Nat → DataW Unit
  | 0 => .map []
  | x + 1 => if Maps.has (firstsD gs x) (.string (txt gs x)) then firstsD gs x else (firstsD gs x).put (.string (txt gs x)) (.lit (.int .i64 (beg gs x : Nat)))

theorem firsts_isMap (gs : List (List Ty)) (x : Nat) : IsMap (firstsD gs x) := by
  induction x with
  | zero => exact isMap_empty
  | succ x ih =>
    unfold firstsD
    split
    · exact ih
    · exact ih.put _ _
theorem firsts_has (gs : List (List Ty)) : ∀ x s, Maps.has (firstsD gs x) (.string s) = true ↔ ∃ y, y < x ∧ txt gs y = s := by
  intro x
  induction x with
  | zero => intro s; constructor
            · intro h; cases h
            · rintro ⟨y, h, _⟩; omega
  | succ x ih =>
    intro s
    unfold firstsD
    split
    · rename_i h
      rw [ih]
      constructor
      · rintro ⟨y, h1, h2⟩; exact ⟨y, by omega, h2⟩
      · rintro ⟨y, h1, h2⟩
        by_cases e : y = x
        · subst e
          obtain ⟨z, h3, h4⟩ := (ih _).1 h
          exact ⟨z, h3, h4.trans h2⟩
        · exact ⟨y, by omega, h2⟩
    · by_cases e : s = txt gs x
      · subst e
        rw [has_put_same (firsts_isMap gs x) (k := .string (txt gs x)) (by exact trivial)]
        simp only [true_iff]
        exact ⟨x, by omega, rfl⟩
      · rw [has_put_other (by intro h; exact e (by injection h)), ih]
        constructor
        · rintro ⟨y, h1, h2⟩; exact ⟨y, by omega, h2⟩
        · rintro ⟨y, h1, h2⟩
          by_cases e' : y = x
          · subst e'; exact absurd h2.symm e
          · exact ⟨y, by omega, h2⟩

theorem lead_eq {gs : List (List Ty)} {x y : Nat} (h : txt gs y = txt gs x) : lead gs y = lead gs x := by
  have h1 := lead_least gs x (lead gs y) ((lead_txt gs y).trans h)
  have h2 := lead_least gs y (lead gs x) ((lead_txt gs x).trans h.symm)
  omega

theorem firsts_at (gs : List (List Ty)) (z : DataW Unit) : ∀ x y, y < x → (firstsD gs x).atKey (.string (txt gs y)) z = .lit (.int .i64 (beg gs (lead gs y) : Nat)) := by
  intro x
  induction x with
  | zero => intro y h; omega
  | succ x ih =>
    intro y hy
    unfold firstsD
    split
    · rename_i h
      by_cases e : y = x
      · subst e
        obtain ⟨v, h3, h4⟩ := (firsts_has gs _ _).1 h
        rw [← h4, ih v h3, lead_eq h4]
      · exact ih y (by omega)
    · rename_i h
      by_cases e : txt gs y = txt gs x
      · rw [e, atKey_put_same (firsts_isMap gs x) (k := .string (txt gs x)) (by exact trivial), lead_eq e]
        have h1 := lead_le gs x
        have h2 : ¬ lead gs x < x := fun hl => h ((firsts_has gs _ _).2 ⟨_, hl, lead_txt gs x⟩)
        rw [show lead gs x = x by omega]
      · rw [atKey_put_other (by intro h; exact e (by injection h))]
        exact ih y (by
          by_cases e' : y = x
          · subst e'; exact absurd rfl e
          · omega)
theorem lead_new {gs : List (List Ty)} {x : Nat} (h : Maps.has (firstsD gs x) (.string (txt gs x)) = false) : lead gs x = x := by
  have h1 := lead_le gs x
  have h2 : ¬ lead gs x < x := fun hl => by rw [(firsts_has gs _ _).2 ⟨_, hl, lead_txt gs x⟩] at h; cases h
  omega
theorem lead_old {gs : List (List Ty)} {x : Nat} (h : Maps.has (firstsD gs x) (.string (txt gs x)) = true) (z : DataW Unit) : (firstsD gs x).atKey (.string (txt gs x)) z = .lit (.int .i64 (beg gs (lead gs x) : Nat)) := by
  obtain ⟨y, h1, h2⟩ := (firsts_has gs _ _).1 h
  rw [← h2, firsts_at gs z x y h1, lead_eq h2]

/-- The table's row of a type, by its group and its place in it. -/
theorem rowsTo_at (G : Nat → List Ty) (x i : Nat) (hi : i < (G x).length) : ∀ k, x < k → krAt (rowsTo G k) (countTo G x + i) = ⟨tyAt (G x) i, countTo G x, countTo G (x + 1)⟩ := by
  intro k
  induction k with
  | zero => intro h; omega
  | succ k ih =>
    intro hk
    by_cases e : x = k
    · subst e
      have hl := rowsTo_length G x
      simp [rowsTo, krAt, List.getD, List.getElem?_append_right (show (rowsTo G x).length ≤ countTo G x + i by omega), hl, List.getElem?_eq_getElem hi, tyAt, countTo]
    · have hm := countTo_mono G (show x + 1 ≤ k by omega)
      have h1 : countTo G (x + 1) = countTo G x + (G x).length := rfl
      rw [rowsTo, krAt_append_left _ _ _ (by rw [rowsTo_length]; omega)]
      exact ih (by omega)
theorem rows_at {gs : List (List Ty)} {x i : Nat} (hx : x < gs.length) (hi : i < (grAt gs x).length) : krAt (rowsOf gs) (beg gs x + i) = ⟨tyAt (grAt gs x) i, beg gs x, beg gs (x + 1)⟩ := rowsTo_at (grAt gs) x i hi gs.length hx

theorem parts_len4 {gs : List (List Ty)} (hP : Parts gs) {x i : Nat} (hx : x < gs.length) (hi : i < (grAt gs x).length) : (tyAt (grAt gs x) i).fields.length ≤ 4 := (parts_bounds hP.w hx hi).1

theorem beg_succ (gs : List (List Ty)) (x : Nat) : beg gs (x + 1) = beg gs x + (grAt gs x).length := rfl

theorem kinWritten_any (rb ro rc lo hi : Nat) (ca : Option Addr) (cc : Nat) (gs : List (List Ty)) (x : Nat) (w : World) (hP : Parts gs) (hp : pow10 w) (hh : hi ≤ w.heap.size) (hx : x < gs.length) (h1 : lo ≤ rb) (h2 : rb < hi) (hrc : kinCount gs ≤ rc)
    (hR : ∀ i, i < kinCount gs → TypeAt w lo hi rb (ro + i * 6) (krAt (rowsOf gs) i).t ∧ w.cell? ⟨rb, ro + i * 6 + 4, none⟩ = some (.int .i64 ((krAt (rowsOf gs) i).b : Nat)) ∧ w.cell? ⟨rb, ro + i * 6 + 5, none⟩ = some (.int .i64 ((krAt (rowsOf gs) i).e : Nat)))
    (hC : CanIn w ca (beg gs x) (canon gs)) :
    Calls Tryz.prog 127 #[.slice (some ⟨rb, ro, none⟩) (kinCount gs) rc, .slice ca (kinCount gs) cc, .int .i64 (beg gs x : Nat)] w fun e w' => e = .returned (.string ⟨(txt gs x).toArray⟩) ∧ Below w.heap.size w w' := by
  have hc : beg gs (x + 1) ≤ kinCount gs := beg_le hx
  have hs := beg_succ gs x
  have h0 := (hP.2.2 x hx).1
  have hrow : ∀ i, i < (grAt gs x).length → TypeAt w lo hi rb (ro + beg gs x * 6 + i * 6) (tyAt (grAt gs x) i) ∧ w.cell? ⟨rb, ro + beg gs x * 6 + i * 6 + 4, none⟩ = some (.int .i64 (beg gs x : Nat)) ∧ w.cell? ⟨rb, ro + beg gs x * 6 + i * 6 + 5, none⟩ = some (.int .i64 (beg gs (x + 1) : Nat)) := by
    intro i hi
    have h := hR (beg gs x + i) (by omega)
    rw [rows_at hx hi, Nat.add_mul, ← Nat.add_assoc] at h
    exact h
  refine kinWritten_core rb ro (kinCount gs) rc lo hi ca (kinCount gs) cc (beg gs x) (grAt gs x) (canon gs) w hp hh h1 h2 (parts_tyOk hP hx) (fun i hi => parts_len4 hP hx hi) h0 (by omega) hP.2.1 hrc (fun i hi => (hrow i hi).1) ?_ (fun i hi => ⟨⟨_, (hrow i hi).2.1⟩, _, (hrow i hi).2.2⟩) (beg_le (Nat.le_of_lt hx)) hP.2.1 hC
  have := (hrow 0 h0).2.2
  rw [hs] at this
  simpa using this

def filledN (f : Nat → Nat) (k : Nat) : Nat → Value := fun j => if j < k then .int .i64 (f j : Nat) else .int .i64 0
theorem filledN_step (f : Nat → Nat) (k : Nat) {n : Nat} (j : Nat) (_ : j < n) : (if j = k then Value.int .i64 (f k : Nat) else filledN f k j) = filledN f (k + 1) j := by
  unfold filledN
  by_cases e : j = k
  · subst e; simp
  · rw [if_neg e]
    by_cases h : j < k
    · rw [if_pos h, if_pos (by omega)]
    · rw [if_neg h, if_neg (by omega)]
theorem rowIs_below {w w' : World} {b n B : Nat} {t : TypeId} {f : Nat → Value} (h : w.rowIs b t n f) (hb : Below B w w') (hB : b < B) : w'.rowIs b t n f := h.of_block (hb.block b hB)
theorem ownsMap_below {w w' : World} {P : Program} {K : TypeId} {R : Value → Option (DataW Unit × List MemPlace)} {b n B : Nat} {D : DataW Unit} (h : w.ownsMap P K R b n D) (hb : Below B w w') (hB : b < B) : w'.ownsMap P K R b n D := by
  obtain ⟨es, clock, h1, h2⟩ := h
  exact ⟨es, clock, (hb.block b hB).trans h1, h2⟩
theorem rowIs_canIn {w : World} {b n k : Nat} {t : TypeId} {f : Nat → Nat} (h : w.rowIs b t n (filledN f k)) (hk : k ≤ n) : CanIn w (some ⟨b, 0, none⟩) k f := by
  refine .inr ⟨b, 0, rfl, h.lt, fun i hi => ?_⟩
  rw [Nat.zero_add, h.cell (show i < n by omega)]
  simp [filledN, hi]

theorem Tryz.keyS : Keyed Tryz.prog 9 := string_keyed Tryz.underlying9
theorem Tryz.zeroI (w : World) : (zeroValue 3).run Tryz.prog w = .ok (.int .i64 0) w := by kernel_rfl
theorem Tryz.infoIntC : (Tryz.prog.info? 3).map (fun i => (i.zero, i.size, i.bytes)) = some (some (.int .i64 0), 1, 8) := by kernel_rfl
end Go.Proofs.YtblliefejffhoaaGreatDoor
