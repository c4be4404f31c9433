/- The text that a group is written as, plainly: two groups have one text just if they are written alike. -/
import Derived.Test.YtlmciclkfmeepaaDoorSpecF
import Derived.Lib.ItoaNum
namespace Go.Proofs.YtlmciclkfmeepaaDoor
open Go.ChangeShapes Go.WideShapes Go.ChangeAt Go.RowKit
set_option linter.unusedVariables false

/-- A byte that ends a word. -/
def sepB (c : UInt8) : Bool := c == 32 || c == 44 || c == 59
abbrev Tok := UInt8 × List UInt8
def tokOk (t : Tok) : Prop := sepB t.1 = true ∧ ∀ c ∈ t.2, sepB c = false
def toksTxt (l : List Tok) : List UInt8 := l.flatMap fun t => t.1 :: t.2

theorem toksTxt_nil : toksTxt [] = [] := rfl
theorem toksTxt_cons (t : Tok) (l : List Tok) : toksTxt (t :: l) = t.1 :: (t.2 ++ toksTxt l) := by simp [toksTxt]
theorem toksTxt_append (a b : List Tok) : toksTxt (a ++ b) = toksTxt a ++ toksTxt b := by simp [toksTxt]

def Starts (r : List UInt8) : Prop := r = [] ∨ ∃ c t, r = c :: t ∧ sepB c = true
theorem toksTxt_starts (l : List Tok) (h : ∀ t ∈ l, tokOk t) : Starts (toksTxt l) := by
  cases l with
  | nil => exact .inl rfl
  | cons t l => exact .inr ⟨t.1, _, toksTxt_cons t l, (h t (by simp)).1⟩

theorem word_inj : ∀ (a b r s : List UInt8), (∀ c ∈ a, sepB c = false) → (∀ c ∈ b, sepB c = false) → Starts r → Starts s → a ++ r = b ++ s → a = b ∧ r = s := by
  intro a
  induction a with
  | nil =>
    intro b r s _ hb hr hs e
    cases b with
    | nil => exact ⟨rfl, e⟩
    | cons c b =>
      rcases hr with rfl | ⟨d, t, rfl, hd⟩
      · simp at e
      · simp at e
        have := hb c (by simp)
        rw [← e.1, hd] at this
        cases this
  | cons c a ih =>
    intro b r s ha hb hr hs e
    cases b with
    | nil =>
      rcases hs with rfl | ⟨d, t, rfl, hd⟩
      · simp at e
      · simp at e
        have := ha c (by simp)
        rw [e.1, hd] at this
        cases this
    | cons d b =>
      simp at e
      obtain ⟨h1, h2⟩ := ih b r s (fun x hx => ha x (by simp [hx])) (fun x hx => hb x (by simp [hx])) hr hs e.2
      exact ⟨by rw [e.1, h1], h2⟩

theorem toks_inj : ∀ (x y : List Tok), (∀ t ∈ x, tokOk t) → (∀ t ∈ y, tokOk t) → toksTxt x = toksTxt y → x = y := by
  intro x
  induction x with
  | nil =>
    intro y _ _ e
    cases y with
    | nil => rfl
    | cons t y => rw [toksTxt_cons] at e; simp [toksTxt] at e
  | cons t x ih =>
    intro y hx hy e
    cases y with
    | nil => rw [toksTxt_cons] at e; simp [toksTxt] at e
    | cons u y =>
      rw [toksTxt_cons, toksTxt_cons] at e
      simp only [List.cons.injEq] at e
      obtain ⟨e1, e2⟩ := e
      have hx' : ∀ t ∈ x, tokOk t := fun z hz => hx z (by simp [hz])
      have hy' : ∀ t ∈ y, tokOk t := fun z hz => hy z (by simp [hz])
      obtain ⟨h1, h2⟩ := word_inj t.2 u.2 _ _ (hx t (by simp)).2 (hy u (by simp)).2 (toksTxt_starts x hx') (toksTxt_starts y hy') e2
      rw [ih y hx' hy' h2, Prod.ext e1 h1]

/-- Small numbers' texts. -/
def sm (n : Int) : List UInt8 := if n < 0 then [45, UInt8.ofNat (48 + n.natAbs)] else [UInt8.ofNat (48 + n.toNat)]
theorem itoa_sm (n : Int) (h1 : -9 ≤ n) (h2 : n ≤ 9) : Lib.itoa n = sm n := by
  unfold Lib.itoa sm
  split
  · rw [Lib.decDigits]; simp; omega
  · rw [Lib.decDigits]; simp; omega

theorem sm_inj_fin : ∀ a b : Fin 12, sm ((a.val : Int) - 2) = sm ((b.val : Int) - 2) → a = b := by decide +kernel
theorem sm_sep_fin : ∀ a : Fin 12, ∀ c ∈ sm ((a.val : Int) - 2), sepB c = false ∧ c ≠ 43 := by decide +kernel
theorem fin12 {a : Int} (h1 : -2 ≤ a) (h2 : a ≤ 9) : ∃ f : Fin 12, a = (f.val : Int) - 2 := ⟨⟨(a + 2).toNat, by omega⟩, by simp; omega⟩
theorem itoa_inj {a b : Int} (h1 : -2 ≤ a) (h2 : a ≤ 9) (h3 : -2 ≤ b) (h4 : b ≤ 9) (e : Lib.itoa a = Lib.itoa b) : a = b := by
  rw [itoa_sm a (by omega) (by omega), itoa_sm b (by omega) (by omega)] at e
  obtain ⟨f, rfl⟩ := fin12 h1 h2
  obtain ⟨g, rfl⟩ := fin12 h3 h4
  rw [sm_inj_fin f g e]
theorem itoa_word {a : Int} (h1 : -2 ≤ a) (h2 : a ≤ 9) : ∀ c ∈ Lib.itoa a, sepB c = false ∧ c ≠ 43 := by
  rw [itoa_sm a (by omega) (by omega)]
  obtain ⟨f, rfl⟩ := fin12 h1 h2
  exact sm_sep_fin f
theorem itoa_ne {a : Int} (h1 : -2 ≤ a) (h2 : a ≤ 9) : Lib.itoa a ≠ [] := by
  rw [itoa_sm a (by omega) (by omega)]
  unfold sm
  split <;> simp

/-- strconv.FormatBool. -/
def boolW (b : Bool) : List UInt8 := if b then [116, 114, 117, 101] else [102, 97, 108, 115, 101]
theorem boolW_inj {a b : Bool} (h : boolW a = boolW b) : a = b := by cases a <;> cases b <;> simp [boolW] at h ⊢
theorem boolW_word (b : Bool) : ∀ c ∈ boolW b, sepB c = false := by cases b <;> decide

/-- What a number names, out of a group that begins at b, where C is the least of each that is the same. -/
def nameK (C : Nat → Nat) (b : Nat) (o : Int) : List UInt8 :=
  if o < 0 then Lib.itoa o else if (b : Int) ≤ o then 43 :: Lib.itoa (o - b) else Lib.itoa (C o.toNat : Nat)

/-- A name that may stand there. -/
def NameOk (C : Nat → Nat) (o : Int) : Prop := -2 ≤ o ∧ o < 8 ∧ ∀ a, a < 8 → C a < 8

theorem nameK_word {C : Nat → Nat} {b : Nat} {o : Int} (h : NameOk C o) : ∀ c ∈ nameK C b o, sepB c = false := by
  obtain ⟨h1, h2, h3⟩ := h
  unfold nameK
  split
  · exact fun c hc => (itoa_word h1 (by omega) c hc).1
  · split
    · intro c hc
      simp at hc
      rcases hc with rfl | hc
      · decide
      · exact (itoa_word (by omega) (by omega) c hc).1
    · have := h3 o.toNat (by omega)
      exact fun c hc => (itoa_word (by omega) (by omega) c hc).1

theorem nameK_iff {C : Nat → Nat} {gs : List (List Ty)} {x y : Nat} {o p : Int} (ho : NameOk C o) (hp : NameOk C p) :
    nameK C (beg gs x) o = nameK C (beg gs y) p ↔ matchF (fun a b => C a == C b) gs o p x y = true := by
  obtain ⟨o1, o2, o3⟩ := ho
  obtain ⟨p1, p2, _⟩ := hp
  unfold nameK matchF
  have plus : ∀ {a : Int} {l : List UInt8}, -2 ≤ a → a ≤ 9 → 43 :: l ≠ Lib.itoa a := fun {a l} h1 h2 e =>
    absurd rfl (itoa_word h1 h2 43 (by rw [← e]; simp)).2
  by_cases h1 : o < 0
  · rw [if_pos h1, if_pos (show o < 0 ∨ p < 0 from .inl h1)]
    by_cases h2 : p < 0
    · rw [if_pos h2, beq_iff_eq]
      exact ⟨itoa_inj o1 (by omega) p1 (by omega), fun e => by rw [e]⟩
    · rw [if_neg h2, beq_iff_eq]
      constructor
      · intro e
        split at e
        · exact absurd e.symm (plus o1 (by omega))
        · have := o3 p.toNat (by omega)
          have := itoa_inj o1 (by omega) (by omega) (by omega) e
          omega
      · intro e; omega
  · rw [if_neg h1]
    by_cases h2 : p < 0
    · rw [if_pos h2, if_pos (show o < 0 ∨ p < 0 from .inr h2), beq_iff_eq]
      constructor
      · intro e
        split at e
        · exact absurd e (plus p1 (by omega))
        · have := o3 o.toNat (by omega)
          have := itoa_inj (by omega) (by omega) p1 (by omega) e
          omega
      · intro e; omega
    · rw [if_neg h2, if_neg (show ¬ (o < 0 ∨ p < 0) by omega)]
      by_cases h3 : (beg gs x : Int) ≤ o
      · rw [if_pos h3]
        by_cases h4 : (beg gs y : Int) ≤ p
        · rw [if_pos h4, if_pos ⟨h3, h4⟩, beq_iff_eq]
          constructor
          · intro e
            simp only [List.cons.injEq, true_and] at e
            exact itoa_inj (by omega) (by omega) (by omega) (by omega) e
          · intro e; rw [e]
        · rw [if_neg h4, if_neg (show ¬ ((beg gs x : Int) ≤ o ∧ (beg gs y : Int) ≤ p) by omega)]
          have := o3 p.toNat (by omega)
          constructor
          · intro e; exact absurd e (plus (by omega) (by omega))
          · intro e; simp at e; omega
      · rw [if_neg h3, if_neg (show ¬ ((beg gs x : Int) ≤ o ∧ (beg gs y : Int) ≤ p) by omega)]
        have t1 := o3 o.toNat (by omega)
        by_cases h4 : (beg gs y : Int) ≤ p
        · rw [if_pos h4]
          constructor
          · intro e; exact absurd e.symm (plus (by omega) (by omega))
          · intro e; simp at e; omega
        · rw [if_neg h4]
          have t2 := o3 p.toNat (by omega)
          simp only [Bool.and_eq_true, decide_eq_true_eq, beq_iff_eq]
          constructor
          · intro e
            have := itoa_inj (by omega) (by omega) (by omega) (by omega) e
            exact ⟨⟨by omega, by omega⟩, by omega⟩
          · rintro ⟨_, e⟩; rw [e]

/-- The words of a field, of a type, of a group. -/
def fldTok (C : Nat → Nat) (b : Nat) (f : Fd) : List Tok := (44, Lib.itoa f.kind) :: (32, boolW f.mt) :: (if f.kind = 1 then [] else [(32, nameK C b f.of)])
def fldsTok (C : Nat → Nat) (b : Nat) (fs : List Fd) : List Tok := fs.flatMap (fldTok C b)
def rowTok (C : Nat → Nat) (b : Nat) (t : Ty) : List Tok := (59, Lib.itoa t.kind) :: (32, boolW t.last) :: (32, nameK C b t.up) :: fldsTok C b t.fields
def rowsTok (C : Nat → Nat) (b : Nat) (ts : List Ty) : List Tok := ts.flatMap (rowTok C b)
def grpTok (C : Nat → Nat) (b : Nat) (ts : List Ty) : List Tok := rowsTok C b ts ++ [(59, [])]

def fldTxt (C : Nat → Nat) (b : Nat) (f : Fd) : List UInt8 := toksTxt (fldTok C b f)
def fldsTxt (C : Nat → Nat) (b : Nat) (fs : List Fd) : List UInt8 := toksTxt (fldsTok C b fs)
def rowTxt (C : Nat → Nat) (b : Nat) (t : Ty) : List UInt8 := Lib.itoa t.kind ++ (32 :: (boolW t.last ++ (32 :: (nameK C b t.up ++ (fldsTxt C b t.fields ++ [59])))))
def grpTxt (C : Nat → Nat) (b : Nat) (ts : List Ty) : List UInt8 := ts.flatMap (rowTxt C b)

theorem grpTxt_toks (C : Nat → Nat) (b : Nat) (ts : List Ty) : 59 :: grpTxt C b ts = toksTxt (grpTok C b ts) := by
  induction ts with
  | nil => rfl
  | cons t ts ih =>
    have e : toksTxt (grpTok C b (t :: ts)) = toksTxt (rowTok C b t) ++ toksTxt (grpTok C b ts) := by
      simp [grpTok, rowsTok, toksTxt_append]
    rw [e, ← ih]
    simp [grpTxt, rowTxt, rowTok, toksTxt_cons, fldsTxt]

/-- What a field, and a type, must keep to. -/
def FdOk (C : Nat → Nat) (f : Fd) : Prop := (1 ≤ f.kind ∧ f.kind ≤ 3) ∧ NameOk C f.of
def TyOk (C : Nat → Nat) (t : Ty) : Prop := (1 ≤ t.kind ∧ t.kind ≤ 2) ∧ NameOk C t.up ∧ ∀ i, i < t.fields.length → FdOk C (fdAt t.fields i)

theorem fdAt_mem {l : List Fd} {f : Fd} (h : f ∈ l) : ∃ i, i < l.length ∧ fdAt l i = f := by
  obtain ⟨i, hi, e⟩ := List.getElem_of_mem h
  exact ⟨i, hi, by simp [fdAt, List.getD, List.getElem?_eq_getElem hi, e]⟩
theorem tyAt_mem {l : List Ty} {t : Ty} (h : t ∈ l) : ∃ i, i < l.length ∧ tyAt l i = t := by
  obtain ⟨i, hi, e⟩ := List.getElem_of_mem h
  exact ⟨i, hi, by simp [tyAt, List.getD, List.getElem?_eq_getElem hi, e]⟩

theorem fldTok_ok {C : Nat → Nat} {b : Nat} {f : Fd} (h : FdOk C f) : ∀ t ∈ fldTok C b f, tokOk t := by
  obtain ⟨⟨k1, k2⟩, hn⟩ := h
  intro t ht
  simp only [fldTok, List.mem_cons] at ht
  rcases ht with rfl | rfl | ht
  · exact ⟨rfl, fun c hc => (itoa_word (by omega) (by omega) c hc).1⟩
  · exact ⟨rfl, boolW_word _⟩
  · split at ht
    · simp at ht
    · simp at ht
      subst ht
      exact ⟨rfl, nameK_word hn⟩
theorem fldsTok_ok {C : Nat → Nat} {b : Nat} {fs : List Fd} (h : ∀ i, i < fs.length → FdOk C (fdAt fs i)) : ∀ t ∈ fldsTok C b fs, tokOk t := by
  intro t ht
  simp only [fldsTok, List.mem_flatMap] at ht
  obtain ⟨f, hf, ht⟩ := ht
  obtain ⟨i, hi, rfl⟩ := fdAt_mem hf
  exact fldTok_ok (h i hi) t ht
theorem rowTok_ok {C : Nat → Nat} {b : Nat} {t : Ty} (h : TyOk C t) : ∀ k ∈ rowTok C b t, tokOk k := by
  obtain ⟨⟨k1, k2⟩, hn, hf⟩ := h
  intro k hk
  simp only [rowTok, List.mem_cons] at hk
  rcases hk with rfl | rfl | rfl | hk
  · exact ⟨rfl, fun c hc => (itoa_word (by omega) (by omega) c hc).1⟩
  · exact ⟨rfl, boolW_word _⟩
  · exact ⟨rfl, nameK_word hn⟩
  · exact fldsTok_ok hf k hk
theorem grpTok_ok {C : Nat → Nat} {b : Nat} {ts : List Ty} (h : ∀ i, i < ts.length → TyOk C (tyAt ts i)) : ∀ k ∈ grpTok C b ts, tokOk k := by
  intro k hk
  simp only [grpTok, rowsTok, List.mem_append, List.mem_flatMap, List.mem_singleton] at hk
  rcases hk with ⟨t, ht, hk⟩ | rfl
  · obtain ⟨i, hi, rfl⟩ := tyAt_mem ht
    exact rowTok_ok (h i hi) k hk
  · exact ⟨rfl, fun c hc => by simp at hc⟩

/-- Two fields, and two types, that have the same words. -/
def FEq (C : Nat → Nat) (b c : Nat) (f g : Fd) : Prop := f.kind = g.kind ∧ f.mt = g.mt ∧ (f.kind = 1 ∨ nameK C b f.of = nameK C c g.of)
def TEq (C : Nat → Nat) (b c : Nat) (s t : Ty) : Prop := s.kind = t.kind ∧ s.last = t.last ∧ nameK C b s.up = nameK C c t.up ∧ s.fields.length = t.fields.length ∧ ∀ i, i < s.fields.length → FEq C b c (fdAt s.fields i) (fdAt t.fields i)

/-- What stands behind fields: another type, or the end. -/
def Semi (R : List Tok) : Prop := ∃ w T, R = (59, w) :: T

theorem fldTok_eq {C : Nat → Nat} {b c : Nat} {f g : Fd} (h : FEq C b c f g) : fldTok C b f = fldTok C c g := by
  obtain ⟨h1, h2, h3⟩ := h
  unfold fldTok
  rw [← h1, ← h2]
  by_cases e : f.kind = 1
  · rw [if_pos e, if_pos e]
  · rw [if_neg e, if_neg e, h3.resolve_left e]

theorem fdAt_cons_zero (f : Fd) (l : List Fd) : fdAt (f :: l) 0 = f := rfl
theorem fdAt_cons_succ (f : Fd) (l : List Fd) (i : Nat) : fdAt (f :: l) (i + 1) = fdAt l i := rfl
theorem tyAt_cons_zero (f : Ty) (l : List Ty) : tyAt (f :: l) 0 = f := rfl
theorem tyAt_cons_succ (f : Ty) (l : List Ty) (i : Nat) : tyAt (f :: l) (i + 1) = tyAt l i := rfl

theorem fldsTok_inj {C : Nat → Nat} {b c : Nat} : ∀ (fs gs : List Fd) (R S : List Tok), (∀ i, i < fs.length → FdOk C (fdAt fs i)) → (∀ i, i < gs.length → FdOk C (fdAt gs i)) → Semi R → Semi S →
    fldsTok C b fs ++ R = fldsTok C c gs ++ S → (fs.length = gs.length ∧ ∀ i, i < fs.length → FEq C b c (fdAt fs i) (fdAt gs i)) ∧ R = S := by
  intro fs
  induction fs with
  | nil =>
    intro gs R S _ hg hR hS e
    cases gs with
    | nil => exact ⟨⟨rfl, fun i hi => absurd hi (Nat.not_lt_zero _)⟩, e⟩
    | cons g gs =>
      obtain ⟨w, T, rfl⟩ := hR
      simp [fldsTok, fldTok] at e
  | cons f fs ih =>
    intro gs R S hf hg hR hS e
    cases gs with
    | nil =>
      obtain ⟨w, T, rfl⟩ := hS
      simp [fldsTok, fldTok] at e
    | cons g gs =>
      have f0 := hf 0 (by simp)
      have g0 := hg 0 (by simp)
      rw [fdAt_cons_zero] at f0 g0
      have e' : fldTok C b f ++ (fldsTok C b fs ++ R) = fldTok C c g ++ (fldsTok C c gs ++ S) := by simpa [fldsTok] using e
      have key : FEq C b c f g ∧ fldsTok C b fs ++ R = fldsTok C c gs ++ S := by
        unfold fldTok at e'
        simp only [List.cons_append, List.cons.injEq, Prod.mk.injEq, true_and] at e'
        obtain ⟨k1, k2, k3⟩ := e'
        have hk := itoa_inj (by have := f0.1; omega) (by have := f0.1; omega) (by have := g0.1; omega) (by have := g0.1; omega) k1
        have hm := boolW_inj k2
        rw [← hk] at k3
        by_cases e1 : f.kind = 1
        · rw [if_pos e1, if_pos e1] at k3
          exact ⟨⟨hk, hm, .inl e1⟩, by simpa using k3⟩
        · rw [if_neg e1, if_neg e1] at k3
          simp only [List.cons_append, List.nil_append, List.cons.injEq, Prod.mk.injEq, true_and] at k3
          exact ⟨⟨hk, hm, .inr k3.1⟩, k3.2⟩
      obtain ⟨⟨h1, h2⟩, h3⟩ := ih gs R S (fun i hi => hf (i + 1) (by simpa using hi)) (fun i hi => hg (i + 1) (by simpa using hi)) hR hS key.2
      refine ⟨⟨by simp [h1], fun i hi => ?_⟩, h3⟩
      cases i with
      | zero => exact key.1
      | succ i => rw [fdAt_cons_succ, fdAt_cons_succ]; exact h2 i (by simpa using hi)

theorem fldsTok_eq {C : Nat → Nat} {b c : Nat} : ∀ (fs gs : List Fd), fs.length = gs.length → (∀ i, i < fs.length → FEq C b c (fdAt fs i) (fdAt gs i)) → fldsTok C b fs = fldsTok C c gs := by
  intro fs
  induction fs with
  | nil =>
    intro gs h _
    cases gs with
    | nil => rfl
    | cons g gs => simp at h
  | cons f fs ih =>
    intro gs h hE
    cases gs with
    | nil => simp at h
    | cons g gs =>
      show fldTok C b f ++ fldsTok C b fs = fldTok C c g ++ fldsTok C c gs
      rw [fldTok_eq (f := f) (g := g) (hE 0 (by simp)), ih gs (by simpa using h) (fun i hi => hE (i + 1) (by simpa using hi))]

theorem rowTok_eq {C : Nat → Nat} {b c : Nat} {s t : Ty} (h : TEq C b c s t) : rowTok C b s = rowTok C c t := by
  obtain ⟨h1, h2, h3, h4, h5⟩ := h
  unfold rowTok
  rw [h1, h2, h3, fldsTok_eq _ _ h4 h5]

theorem grpTok_semi (C : Nat → Nat) (b : Nat) (ts : List Ty) : Semi (grpTok C b ts) := by
  cases ts with
  | nil => exact ⟨_, _, rfl⟩
  | cons t ts => exact ⟨Lib.itoa t.kind, _, by simp [grpTok, rowsTok, rowTok]; rfl⟩

theorem grpTok_inj {C : Nat → Nat} {b c : Nat} : ∀ (ts us : List Ty), (∀ i, i < ts.length → TyOk C (tyAt ts i)) → (∀ i, i < us.length → TyOk C (tyAt us i)) →
    grpTok C b ts = grpTok C c us → ts.length = us.length ∧ ∀ i, i < ts.length → TEq C b c (tyAt ts i) (tyAt us i) := by
  intro ts
  induction ts with
  | nil =>
    intro us _ hu e
    cases us with
    | nil => exact ⟨rfl, fun i hi => absurd hi (Nat.not_lt_zero _)⟩
    | cons u us =>
      have := (hu 0 (by simp)).1
      rw [tyAt_cons_zero] at this
      simp [grpTok, rowsTok, rowTok] at e
  | cons t ts ih =>
    intro us ht hu e
    cases us with
    | nil => simp [grpTok, rowsTok, rowTok] at e
    | cons u us =>
      have t0 := ht 0 (by simp)
      have u0 := hu 0 (by simp)
      rw [tyAt_cons_zero] at t0 u0
      have e' : rowTok C b t ++ grpTok C b ts = rowTok C c u ++ grpTok C c us := by simpa [grpTok, rowsTok] using e
      unfold rowTok at e'
      simp only [List.cons_append, List.cons.injEq, Prod.mk.injEq, true_and] at e'
      obtain ⟨k1, k2, k3, k4⟩ := e'
      obtain ⟨⟨f1, f2⟩, f3⟩ := fldsTok_inj t.fields u.fields _ _ t0.2.2 u0.2.2 (grpTok_semi C b ts) (grpTok_semi C c us) k4
      obtain ⟨h1, h2⟩ := ih us (fun i hi => ht (i + 1) (by simpa using hi)) (fun i hi => hu (i + 1) (by simpa using hi)) f3
      have hk := itoa_inj (by have := t0.1; omega) (by have := t0.1; omega) (by have := u0.1; omega) (by have := u0.1; omega) k1
      refine ⟨by simp [h1], fun i hi => ?_⟩
      cases i with
      | zero => exact ⟨hk, boolW_inj k2, k3, f1, f2⟩
      | succ i => rw [tyAt_cons_succ, tyAt_cons_succ]; exact h2 i (by simpa using hi)

theorem grpTok_eq {C : Nat → Nat} {b c : Nat} : ∀ (ts us : List Ty), ts.length = us.length → (∀ i, i < ts.length → TEq C b c (tyAt ts i) (tyAt us i)) → grpTok C b ts = grpTok C c us := by
  intro ts
  induction ts with
  | nil =>
    intro us h _
    cases us with
    | nil => rfl
    | cons u us => simp at h
  | cons t ts ih =>
    intro us h hE
    cases us with
    | nil => simp at h
    | cons u us =>
      have e : ∀ (b : Nat) (t : Ty) (ts : List Ty), grpTok C b (t :: ts) = rowTok C b t ++ grpTok C b ts := fun b t ts => by simp [grpTok, rowsTok]
      rw [e, e, rowTok_eq (s := t) (t := u) (hE 0 (by simp)), ih us (by simpa using h) (fun i hi => hE (i + 1) (by simpa using hi))]

/-- Two groups have one text just if they are written alike. -/
theorem grpTxt_iff {C : Nat → Nat} {b c : Nat} (ts us : List Ty) (ht : ∀ i, i < ts.length → TyOk C (tyAt ts i)) (hu : ∀ i, i < us.length → TyOk C (tyAt us i)) :
    grpTxt C b ts = grpTxt C c us ↔ ts.length = us.length ∧ ∀ i, i < ts.length → TEq C b c (tyAt ts i) (tyAt us i) := by
  constructor
  · intro e
    refine grpTok_inj ts us ht hu (toks_inj _ _ (grpTok_ok ht) (grpTok_ok hu) ?_)
    rw [← grpTxt_toks, ← grpTxt_toks, e]
  · rintro ⟨h1, h2⟩
    have := congrArg toksTxt (grpTok_eq (C := C) (b := b) (c := c) ts us h1 h2)
    rw [← grpTxt_toks, ← grpTxt_toks] at this
    simpa using this
end Go.Proofs.YtlmciclkfmeepaaDoor
