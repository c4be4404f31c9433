/- KaCanon: CanonA, CanonB, KinMath, KinMath2, ItoaRow. -/
import Derived.Test.YtejkebfhiddhmaaDoorKaSpecB
import Derived.Lib.ItoaNum
import Derived.Shelf.Strconv.Itoa3
import Derived.Shelf.Lay
import Derived.Ground.NamesProg
import Derived.Test.YtejkebfhiddhmaaDoorKaOne
import Derived.BigCall
import Derived.Laws.BytesString
/- The text that a group is written as, plainly: two groups have one text just if they are written alike. -/
namespace Go.Proofs.YtejkebfhiddhmaaDoor
open Go.ChangeShapes Go.WideShapes Go.ChangeAt Go.RowKit
set_option linter.unusedVariables false

/-- A byte that ends a word. -/
def sepB (c : UInt8) : Bool := c == 32 || c == 44 || c == 59
abbrev Tok := UInt8 × List UInt8
def tokOk (t : Tok) : Prop := sepB t.1 = true ∧ ∀ c ∈ t.2, sepB c = false
def toksTxt (l : List Tok) : List UInt8 := l.flatMap fun t => t.1 :: t.2

theorem toksTxt_nil : toksTxt [] = [] := rfl
theorem toksTxt_cons (t : Tok) (l : List Tok) : toksTxt (t :: l) = t.1 :: (t.2 ++ toksTxt l) := by simp [toksTxt]
theorem toksTxt_append (a b : List Tok) : toksTxt (a ++ b) = toksTxt a ++ toksTxt b := by simp [toksTxt]

def Starts (r : List UInt8) : Prop := r = [] ∨ ∃ c t, r = c :: t ∧ sepB c = true
theorem toksTxt_starts (l : List Tok) (h : ∀ t ∈ l, tokOk t) : Starts (toksTxt l) := by
  cases l with
  | nil => exact .inl rfl
  | cons t l => exact .inr ⟨t.1, _, toksTxt_cons t l, (h t (by simp)).1⟩

theorem word_inj : ∀ (a b r s : List UInt8), (∀ c ∈ a, sepB c = false) → (∀ c ∈ b, sepB c = false) → Starts r → Starts s → a ++ r = b ++ s → a = b ∧ r = s := by
  intro a
  induction a with
  | nil =>
    intro b r s _ hb hr hs e
    cases b with
    | nil => exact ⟨rfl, e⟩
    | cons c b =>
      rcases hr with rfl | ⟨d, t, rfl, hd⟩
      · simp at e
      · simp at e
        have := hb c (by simp)
        rw [← e.1, hd] at this
        cases this
  | cons c a ih =>
    intro b r s ha hb hr hs e
    cases b with
    | nil =>
      rcases hs with rfl | ⟨d, t, rfl, hd⟩
      · simp at e
      · simp at e
        have := ha c (by simp)
        rw [e.1, hd] at this
        cases this
    | cons d b =>
      simp at e
      obtain ⟨h1, h2⟩ := ih b r s (fun x hx => ha x (by simp [hx])) (fun x hx => hb x (by simp [hx])) hr hs e.2
      exact ⟨by rw [e.1, h1], h2⟩

theorem toks_inj : ∀ (x y : List Tok), (∀ t ∈ x, tokOk t) → (∀ t ∈ y, tokOk t) → toksTxt x = toksTxt y → x = y := by
  intro x
  induction x with
  | nil =>
    intro y _ _ e
    cases y with
    | nil => rfl
    | cons t y => rw [toksTxt_cons] at e; simp [toksTxt] at e
  | cons t x ih =>
    intro y hx hy e
    cases y with
    | nil => rw [toksTxt_cons] at e; simp [toksTxt] at e
    | cons u y =>
      rw [toksTxt_cons, toksTxt_cons] at e
      simp only [List.cons.injEq] at e
      obtain ⟨e1, e2⟩ := e
      have hx' : ∀ t ∈ x, tokOk t := fun z hz => hx z (by simp [hz])
      have hy' : ∀ t ∈ y, tokOk t := fun z hz => hy z (by simp [hz])
      obtain ⟨h1, h2⟩ := word_inj t.2 u.2 _ _ (hx t (by simp)).2 (hy u (by simp)).2 (toksTxt_starts x hx') (toksTxt_starts y hy') e2
      rw [ih y hx' hy' h2, Prod.ext e1 h1]

/-- Small numbers' texts. -/
def sm (n : Int) : List UInt8 := if n < 0 then [45, UInt8.ofNat (48 + n.natAbs)] else [UInt8.ofNat (48 + n.toNat)]
theorem itoa_sm (n : Int) (h1 : -9 ≤ n) (h2 : n ≤ 9) : Lib.itoa n = sm n := by
  unfold Lib.itoa sm
  split
  · rw [Lib.decDigits]; simp; omega
  · rw [Lib.decDigits]; simp; omega

theorem sm_inj_fin : ∀ a b : Fin 12, sm ((a.val : Int) - 2) = sm ((b.val : Int) - 2) → a = b := by decide +kernel
theorem sm_sep_fin : ∀ a : Fin 12, ∀ c ∈ sm ((a.val : Int) - 2), sepB c = false ∧ c ≠ 43 := by decide +kernel
theorem fin12 {a : Int} (h1 : -2 ≤ a) (h2 : a ≤ 9) : ∃ f : Fin 12, a = (f.val : Int) - 2 := ⟨⟨(a + 2).toNat, by omega⟩, by simp; omega⟩
theorem itoa_inj {a b : Int} (h1 : -2 ≤ a) (h2 : a ≤ 9) (h3 : -2 ≤ b) (h4 : b ≤ 9) (e : Lib.itoa a = Lib.itoa b) : a = b := by
  rw [itoa_sm a (by omega) (by omega), itoa_sm b (by omega) (by omega)] at e
  obtain ⟨f, rfl⟩ := fin12 h1 h2
  obtain ⟨g, rfl⟩ := fin12 h3 h4
  rw [sm_inj_fin f g e]
theorem itoa_word {a : Int} (h1 : -2 ≤ a) (h2 : a ≤ 9) : ∀ c ∈ Lib.itoa a, sepB c = false ∧ c ≠ 43 := by
  rw [itoa_sm a (by omega) (by omega)]
  obtain ⟨f, rfl⟩ := fin12 h1 h2
  exact sm_sep_fin f
theorem itoa_ne {a : Int} (h1 : -2 ≤ a) (h2 : a ≤ 9) : Lib.itoa a ≠ [] := by
  rw [itoa_sm a (by omega) (by omega)]
  unfold sm
  split <;> simp

/-- strconv.FormatBool. -/
def boolW (b : Bool) : List UInt8 := if b then [116, 114, 117, 101] else [102, 97, 108, 115, 101]
theorem boolW_inj {a b : Bool} (h : boolW a = boolW b) : a = b := by cases a <;> cases b <;> simp [boolW] at h ⊢
theorem boolW_word (b : Bool) : ∀ c ∈ boolW b, sepB c = false := by cases b <;> decide

/-- What a number names, out of a group that begins at b, where C is the least of each that is the same. -/
def nameK (C : Nat → Nat) (b : Nat) (o : Int) : List UInt8 :=
  if o < 0 then Lib.itoa o else if (b : Int) ≤ o then 43 :: Lib.itoa (o - b) else Lib.itoa (C o.toNat : Nat)

/-- A name that may stand there. -/
def NameOk (C : Nat → Nat) (o : Int) : Prop := -2 ≤ o ∧ o < 8 ∧ ∀ a, a < 8 → C a < 8

theorem nameK_word {C : Nat → Nat} {b : Nat} {o : Int} (h : NameOk C o) : ∀ c ∈ nameK C b o, sepB c = false := by
  obtain ⟨h1, h2, h3⟩ := h
  unfold nameK
  split
  · exact fun c hc => (itoa_word h1 (by omega) c hc).1
  · split
    · intro c hc
      simp at hc
      rcases hc with rfl | hc
      · decide
      · exact (itoa_word (by omega) (by omega) c hc).1
    · have := h3 o.toNat (by omega)
      exact fun c hc => (itoa_word (by omega) (by omega) c hc).1

theorem nameK_iff {C : Nat → Nat} {gs : List (List Ty)} {x y : Nat} {o p : Int} (ho : NameOk C o) (hp : NameOk C p) :
    nameK C (beg gs x) o = nameK C (beg gs y) p ↔ matchF (fun a b => C a == C b) gs o p x y = true := by
  obtain ⟨o1, o2, o3⟩ := ho
  obtain ⟨p1, p2, _⟩ := hp
  unfold nameK matchF
  have plus : ∀ {a : Int} {l : List UInt8}, -2 ≤ a → a ≤ 9 → 43 :: l ≠ Lib.itoa a := fun {a l} h1 h2 e =>
    absurd rfl (itoa_word h1 h2 43 (by rw [← e]; simp)).2
  by_cases h1 : o < 0
  · rw [if_pos h1, if_pos (show o < 0 ∨ p < 0 from .inl h1)]
    by_cases h2 : p < 0
    · rw [if_pos h2, beq_iff_eq]
      exact ⟨itoa_inj o1 (by omega) p1 (by omega), fun e => by rw [e]⟩
    · rw [if_neg h2, beq_iff_eq]
      constructor
      · intro e
        split at e
        · exact absurd e.symm (plus o1 (by omega))
        · have := o3 p.toNat (by omega)
          have := itoa_inj o1 (by omega) (by omega) (by omega) e
          omega
      · intro e; omega
  · rw [if_neg h1]
    by_cases h2 : p < 0
    · rw [if_pos h2, if_pos (show o < 0 ∨ p < 0 from .inr h2), beq_iff_eq]
      constructor
      · intro e
        split at e
        · exact absurd e (plus p1 (by omega))
        · have := o3 o.toNat (by omega)
          have := itoa_inj (by omega) (by omega) p1 (by omega) e
          omega
      · intro e; omega
    · rw [if_neg h2, if_neg (show ¬ (o < 0 ∨ p < 0) by omega)]
      by_cases h3 : (beg gs x : Int) ≤ o
      · rw [if_pos h3]
        by_cases h4 : (beg gs y : Int) ≤ p
        · rw [if_pos h4, if_pos ⟨h3, h4⟩, beq_iff_eq]
          constructor
          · intro e
            simp only [List.cons.injEq, true_and] at e
            exact itoa_inj (by omega) (by omega) (by omega) (by omega) e
          · intro e; rw [e]
        · rw [if_neg h4, if_neg (show ¬ ((beg gs x : Int) ≤ o ∧ (beg gs y : Int) ≤ p) by omega)]
          have := o3 p.toNat (by omega)
          constructor
          · intro e; exact absurd e (plus (by omega) (by omega))
          · intro e; simp at e; omega
      · rw [if_neg h3, if_neg (show ¬ ((beg gs x : Int) ≤ o ∧ (beg gs y : Int) ≤ p) by omega)]
        have t1 := o3 o.toNat (by omega)
        by_cases h4 : (beg gs y : Int) ≤ p
        · rw [if_pos h4]
          constructor
          · intro e; exact absurd e.symm (plus (by omega) (by omega))
          · intro e; simp at e; omega
        · rw [if_neg h4]
          have t2 := o3 p.toNat (by omega)
          simp only [Bool.and_eq_true, decide_eq_true_eq, beq_iff_eq]
          constructor
          · intro e
            have := itoa_inj (by omega) (by omega) (by omega) (by omega) e
            exact ⟨⟨by omega, by omega⟩, by omega⟩
          · rintro ⟨_, e⟩; rw [e]

/-- The words of a field, of a type, of a group. -/
def fldTok (C : Nat → Nat) (b : Nat) (f : Fd) : List Tok := (44, Lib.itoa f.kind) :: (32, boolW f.mt) :: (if f.kind = 1 then [] else [(32, nameK C b f.of)])
def fldsTok (C : Nat → Nat) (b : Nat) (fs : List Fd) : List Tok := fs.flatMap (fldTok C b)
def rowTok (C : Nat → Nat) (b : Nat) (t : Ty) : List Tok := (59, Lib.itoa t.kind) :: (32, boolW t.last) :: (32, nameK C b t.up) :: fldsTok C b t.fields
def rowsTok (C : Nat → Nat) (b : Nat) (ts : List Ty) : List Tok := ts.flatMap (rowTok C b)
def grpTok (C : Nat → Nat) (b : Nat) (ts : List Ty) : List Tok := rowsTok C b ts ++ [(59, [])]

def fldTxt (C : Nat → Nat) (b : Nat) (f : Fd) : List UInt8 := toksTxt (fldTok C b f)
def fldsTxt (C : Nat → Nat) (b : Nat) (fs : List Fd) : List UInt8 := toksTxt (fldsTok C b fs)
def rowTxt (C : Nat → Nat) (b : Nat) (t : Ty) : List UInt8 := Lib.itoa t.kind ++ (32 :: (boolW t.last ++ (32 :: (nameK C b t.up ++ (fldsTxt C b t.fields ++ [59])))))
def grpTxt (C : Nat → Nat) (b : Nat) (ts : List Ty) : List UInt8 := ts.flatMap (rowTxt C b)

theorem grpTxt_toks (C : Nat → Nat) (b : Nat) (ts : List Ty) : 59 :: grpTxt C b ts = toksTxt (grpTok C b ts) := by
  induction ts with
  | nil => rfl
  | cons t ts ih =>
    have e : toksTxt (grpTok C b (t :: ts)) = toksTxt (rowTok C b t) ++ toksTxt (grpTok C b ts) := by
      simp [grpTok, rowsTok, toksTxt_append]
    rw [e, ← ih]
    simp [grpTxt, rowTxt, rowTok, toksTxt_cons, fldsTxt]

/-- What a field, and a type, must keep to. -/
def FdOk (C : Nat → Nat) (f : Fd) : Prop := (1 ≤ f.kind ∧ f.kind ≤ 3) ∧ NameOk C f.of
def TyOk (C : Nat → Nat) (t : Ty) : Prop := (1 ≤ t.kind ∧ t.kind ≤ 2) ∧ NameOk C t.up ∧ ∀ i, i < t.fields.length → FdOk C (fdAt t.fields i)

theorem fdAt_mem {l : List Fd} {f : Fd} (h : f ∈ l) : ∃ i, i < l.length ∧ fdAt l i = f := by
  obtain ⟨i, hi, e⟩ := List.getElem_of_mem h
  exact ⟨i, hi, by simp [fdAt, List.getD, List.getElem?_eq_getElem hi, e]⟩
theorem tyAt_mem {l : List Ty} {t : Ty} (h : t ∈ l) : ∃ i, i < l.length ∧ tyAt l i = t := by
  obtain ⟨i, hi, e⟩ := List.getElem_of_mem h
  exact ⟨i, hi, by simp [tyAt, List.getD, List.getElem?_eq_getElem hi, e]⟩

theorem fldTok_ok {C : Nat → Nat} {b : Nat} {f : Fd} (h : FdOk C f) : ∀ t ∈ fldTok C b f, tokOk t := by
  obtain ⟨⟨k1, k2⟩, hn⟩ := h
  intro t ht
  simp only [fldTok, List.mem_cons] at ht
  rcases ht with rfl | rfl | ht
  · exact ⟨rfl, fun c hc => (itoa_word (by omega) (by omega) c hc).1⟩
  · exact ⟨rfl, boolW_word _⟩
  · split at ht
    · simp at ht
    · simp at ht
      subst ht
      exact ⟨rfl, nameK_word hn⟩
theorem fldsTok_ok {C : Nat → Nat} {b : Nat} {fs : List Fd} (h : ∀ i, i < fs.length → FdOk C (fdAt fs i)) : ∀ t ∈ fldsTok C b fs, tokOk t := by
  intro t ht
  simp only [fldsTok, List.mem_flatMap] at ht
  obtain ⟨f, hf, ht⟩ := ht
  obtain ⟨i, hi, rfl⟩ := fdAt_mem hf
  exact fldTok_ok (h i hi) t ht
theorem rowTok_ok {C : Nat → Nat} {b : Nat} {t : Ty} (h : TyOk C t) : ∀ k ∈ rowTok C b t, tokOk k := by
  obtain ⟨⟨k1, k2⟩, hn, hf⟩ := h
  intro k hk
  simp only [rowTok, List.mem_cons] at hk
  rcases hk with rfl | rfl | rfl | hk
  · exact ⟨rfl, fun c hc => (itoa_word (by omega) (by omega) c hc).1⟩
  · exact ⟨rfl, boolW_word _⟩
  · exact ⟨rfl, nameK_word hn⟩
  · exact fldsTok_ok hf k hk
theorem grpTok_ok {C : Nat → Nat} {b : Nat} {ts : List Ty} (h : ∀ i, i < ts.length → TyOk C (tyAt ts i)) : ∀ k ∈ grpTok C b ts, tokOk k := by
  intro k hk
  simp only [grpTok, rowsTok, List.mem_append, List.mem_flatMap, List.mem_singleton] at hk
  rcases hk with ⟨t, ht, hk⟩ | rfl
  · obtain ⟨i, hi, rfl⟩ := tyAt_mem ht
    exact rowTok_ok (h i hi) k hk
  · exact ⟨rfl, fun c hc => by simp at hc⟩

/-- Two fields, and two types, that have the same words. -/
def FEq (C : Nat → Nat) (b c : Nat) (f g : Fd) : Prop := f.kind = g.kind ∧ f.mt = g.mt ∧ (f.kind = 1 ∨ nameK C b f.of = nameK C c g.of)
def TEq (C : Nat → Nat) (b c : Nat) (s t : Ty) : Prop := s.kind = t.kind ∧ s.last = t.last ∧ nameK C b s.up = nameK C c t.up ∧ s.fields.length = t.fields.length ∧ ∀ i, i < s.fields.length → FEq C b c (fdAt s.fields i) (fdAt t.fields i)

/-- What stands behind fields: another type, or the end. -/
def Semi (R : List Tok) : Prop := ∃ w T, R = (59, w) :: T

theorem fldTok_eq {C : Nat → Nat} {b c : Nat} {f g : Fd} (h : FEq C b c f g) : fldTok C b f = fldTok C c g := by
  obtain ⟨h1, h2, h3⟩ := h
  unfold fldTok
  rw [← h1, ← h2]
  by_cases e : f.kind = 1
  · rw [if_pos e, if_pos e]
  · rw [if_neg e, if_neg e, h3.resolve_left e]

theorem fdAt_cons_zero (f : Fd) (l : List Fd) : fdAt (f :: l) 0 = f := rfl
theorem fdAt_cons_succ (f : Fd) (l : List Fd) (i : Nat) : fdAt (f :: l) (i + 1) = fdAt l i := rfl
theorem tyAt_cons_zero (f : Ty) (l : List Ty) : tyAt (f :: l) 0 = f := rfl
theorem tyAt_cons_succ (f : Ty) (l : List Ty) (i : Nat) : tyAt (f :: l) (i + 1) = tyAt l i := rfl

theorem fldsTok_inj {C : Nat → Nat} {b c : Nat} : ∀ (fs gs : List Fd) (R S : List Tok), (∀ i, i < fs.length → FdOk C (fdAt fs i)) → (∀ i, i < gs.length → FdOk C (fdAt gs i)) → Semi R → Semi S →
    fldsTok C b fs ++ R = fldsTok C c gs ++ S → (fs.length = gs.length ∧ ∀ i, i < fs.length → FEq C b c (fdAt fs i) (fdAt gs i)) ∧ R = S := by
  intro fs
  induction fs with
  | nil =>
    intro gs R S _ hg hR hS e
    cases gs with
    | nil => exact ⟨⟨rfl, fun i hi => absurd hi (Nat.not_lt_zero _)⟩, e⟩
    | cons g gs =>
      obtain ⟨w, T, rfl⟩ := hR
      simp [fldsTok, fldTok] at e
  | cons f fs ih =>
    intro gs R S hf hg hR hS e
    cases gs with
    | nil =>
      obtain ⟨w, T, rfl⟩ := hS
      simp [fldsTok, fldTok] at e
    | cons g gs =>
      have f0 := hf 0 (by simp)
      have g0 := hg 0 (by simp)
      rw [fdAt_cons_zero] at f0 g0
      have e' : fldTok C b f ++ (fldsTok C b fs ++ R) = fldTok C c g ++ (fldsTok C c gs ++ S) := by simpa [fldsTok] using e
      have key : FEq C b c f g ∧ fldsTok C b fs ++ R = fldsTok C c gs ++ S := by
        unfold fldTok at e'
        simp only [List.cons_append, List.cons.injEq, Prod.mk.injEq, true_and] at e'
        obtain ⟨k1, k2, k3⟩ := e'
        have hk := itoa_inj (by have := f0.1; omega) (by have := f0.1; omega) (by have := g0.1; omega) (by have := g0.1; omega) k1
        have hm := boolW_inj k2
        rw [← hk] at k3
        by_cases e1 : f.kind = 1
        · rw [if_pos e1, if_pos e1] at k3
          exact ⟨⟨hk, hm, .inl e1⟩, by simpa using k3⟩
        · rw [if_neg e1, if_neg e1] at k3
          simp only [List.cons_append, List.nil_append, List.cons.injEq, Prod.mk.injEq, true_and] at k3
          exact ⟨⟨hk, hm, .inr k3.1⟩, k3.2⟩
      obtain ⟨⟨h1, h2⟩, h3⟩ := ih gs R S (fun i hi => hf (i + 1) (by simpa using hi)) (fun i hi => hg (i + 1) (by simpa using hi)) hR hS key.2
      refine ⟨⟨by simp [h1], fun i hi => ?_⟩, h3⟩
      cases i with
      | zero => exact key.1
      | succ i => rw [fdAt_cons_succ, fdAt_cons_succ]; exact h2 i (by simpa using hi)

theorem fldsTok_eq {C : Nat → Nat} {b c : Nat} : ∀ (fs gs : List Fd), fs.length = gs.length → (∀ i, i < fs.length → FEq C b c (fdAt fs i) (fdAt gs i)) → fldsTok C b fs = fldsTok C c gs := by
  intro fs
  induction fs with
  | nil =>
    intro gs h _
    cases gs with
    | nil => rfl
    | cons g gs => simp at h
  | cons f fs ih =>
    intro gs h hE
    cases gs with
    | nil => simp at h
    | cons g gs =>
      show fldTok C b f ++ fldsTok C b fs = fldTok C c g ++ fldsTok C c gs
      rw [fldTok_eq (f := f) (g := g) (hE 0 (by simp)), ih gs (by simpa using h) (fun i hi => hE (i + 1) (by simpa using hi))]

theorem rowTok_eq {C : Nat → Nat} {b c : Nat} {s t : Ty} (h : TEq C b c s t) : rowTok C b s = rowTok C c t := by
  obtain ⟨h1, h2, h3, h4, h5⟩ := h
  unfold rowTok
  rw [h1, h2, h3, fldsTok_eq _ _ h4 h5]

theorem grpTok_semi (C : Nat → Nat) (b : Nat) (ts : List Ty) : Semi (grpTok C b ts) := by
  cases ts with
  | nil => exact ⟨_, _, rfl⟩
  | cons t ts => exact ⟨Lib.itoa t.kind, _, by simp [grpTok, rowsTok, rowTok]; rfl⟩

theorem grpTok_inj {C : Nat → Nat} {b c : Nat} : ∀ (ts us : List Ty), (∀ i, i < ts.length → TyOk C (tyAt ts i)) → (∀ i, i < us.length → TyOk C (tyAt us i)) →
    grpTok C b ts = grpTok C c us → ts.length = us.length ∧ ∀ i, i < ts.length → TEq C b c (tyAt ts i) (tyAt us i) := by
  intro ts
  induction ts with
  | nil =>
    intro us _ hu e
    cases us with
    | nil => exact ⟨rfl, fun i hi => absurd hi (Nat.not_lt_zero _)⟩
    | cons u us =>
      have := (hu 0 (by simp)).1
      rw [tyAt_cons_zero] at this
      simp [grpTok, rowsTok, rowTok] at e
  | cons t ts ih =>
    intro us ht hu e
    cases us with
    | nil => simp [grpTok, rowsTok, rowTok] at e
    | cons u us =>
      have t0 := ht 0 (by simp)
      have u0 := hu 0 (by simp)
      rw [tyAt_cons_zero] at t0 u0
      have e' : rowTok C b t ++ grpTok C b ts = rowTok C c u ++ grpTok C c us := by simpa [grpTok, rowsTok] using e
      unfold rowTok at e'
      simp only [List.cons_append, List.cons.injEq, Prod.mk.injEq, true_and] at e'
      obtain ⟨k1, k2, k3, k4⟩ := e'
      obtain ⟨⟨f1, f2⟩, f3⟩ := fldsTok_inj t.fields u.fields _ _ t0.2.2 u0.2.2 (grpTok_semi C b ts) (grpTok_semi C c us) k4
      obtain ⟨h1, h2⟩ := ih us (fun i hi => ht (i + 1) (by simpa using hi)) (fun i hi => hu (i + 1) (by simpa using hi)) f3
      have hk := itoa_inj (by have := t0.1; omega) (by have := t0.1; omega) (by have := u0.1; omega) (by have := u0.1; omega) k1
      refine ⟨by simp [h1], fun i hi => ?_⟩
      cases i with
      | zero => exact ⟨hk, boolW_inj k2, k3, f1, f2⟩
      | succ i => rw [tyAt_cons_succ, tyAt_cons_succ]; exact h2 i (by simpa using hi)

theorem grpTok_eq {C : Nat → Nat} {b c : Nat} : ∀ (ts us : List Ty), ts.length = us.length → (∀ i, i < ts.length → TEq C b c (tyAt ts i) (tyAt us i)) → grpTok C b ts = grpTok C c us := by
  intro ts
  induction ts with
  | nil =>
    intro us h _
    cases us with
    | nil => rfl
    | cons u us => simp at h
  | cons t ts ih =>
    intro us h hE
    cases us with
    | nil => simp at h
    | cons u us =>
      have e : ∀ (b : Nat) (t : Ty) (ts : List Ty), grpTok C b (t :: ts) = rowTok C b t ++ grpTok C b ts := fun b t ts => by simp [grpTok, rowsTok]
      rw [e, e, rowTok_eq (s := t) (t := u) (hE 0 (by simp)), ih us (by simpa using h) (fun i hi => hE (i + 1) (by simpa using hi))]

/-- Two groups have one text just if they are written alike. -/
theorem grpTxt_iff {C : Nat → Nat} {b c : Nat} (ts us : List Ty) (ht : ∀ i, i < ts.length → TyOk C (tyAt ts i)) (hu : ∀ i, i < us.length → TyOk C (tyAt us i)) :
    grpTxt C b ts = grpTxt C c us ↔ ts.length = us.length ∧ ∀ i, i < ts.length → TEq C b c (tyAt ts i) (tyAt us i) := by
  constructor
  · intro e
    refine grpTok_inj ts us ht hu (toks_inj _ _ (grpTok_ok ht) (grpTok_ok hu) ?_)
    rw [← grpTxt_toks, ← grpTxt_toks, e]
  · rintro ⟨h1, h2⟩
    have := congrArg toksTxt (grpTok_eq (C := C) (b := b) (c := c) ts us h1 h2)
    rw [← grpTxt_toks, ← grpTxt_toks] at this
    simpa using this
end Go.Proofs.YtejkebfhiddhmaaDoor

/- The least type that is the same as each, plainly: types are the same just if their groups have one text and they stand at one place. -/
namespace Go.Proofs.YtejkebfhiddhmaaDoor
open Go.ChangeShapes Go.WideShapes Go.ChangeAt Go.RowKit
set_option linter.unusedVariables false

/-- The least from i on, below i + f, at which p holds; i + f if there is none. -/
def firstFrom (p : Nat → Bool) : Nat → Nat → Nat
  | 0, i => i
  | f + 1, i => if p i then i else firstFrom p f (i + 1)
theorem firstFrom_spec (p : Nat → Bool) : ∀ f i, i ≤ firstFrom p f i ∧ firstFrom p f i ≤ i + f ∧ (firstFrom p f i < i + f → p (firstFrom p f i) = true) ∧ ∀ j, i ≤ j → j < firstFrom p f i → p j = false := by
  intro f
  induction f with
  | zero => intro i; refine ⟨Nat.le_refl _, Nat.le_refl _, fun h => absurd h (Nat.lt_irrefl _), fun j h1 h2 => ?_⟩; simp only [firstFrom] at h2; omega
  | succ f ih =>
    intro i
    unfold firstFrom
    split
    · rename_i h
      exact ⟨Nat.le_refl _, by omega, fun _ => h, fun j h1 h2 => by omega⟩
    · rename_i h
      obtain ⟨a, b, c, d⟩ := ih (i + 1)
      refine ⟨by omega, by omega, fun hl => c (by omega), fun j h1 h2 => ?_⟩
      by_cases e : j = i
      · subst e; simpa using h
      · exact d j (by omega) h2

/-- The least type that is the same. -/
def canon (gs : List (List Ty)) (a : Nat) : Nat := firstFrom (fun i => same gs i a) a 0
/-- The text of a group. -/
def txt (gs : List (List Ty)) (x : Nat) : List UInt8 := grpTxt (canon gs) (beg gs x) (grAt gs x)
/-- The first group of that text. -/
def lead (gs : List (List Ty)) (x : Nat) : Nat := firstFrom (fun y => decide (txt gs y = txt gs x)) x 0

theorem canon_le (gs : List (List Ty)) (a : Nat) : canon gs a ≤ a := by have := (firstFrom_spec (fun i => same gs i a) a 0).2.1; rw [Nat.zero_add] at this; exact this
theorem lead_le (gs : List (List Ty)) (x : Nat) : lead gs x ≤ x := by have := (firstFrom_spec (fun y => decide (txt gs y = txt gs x)) x 0).2.1; rw [Nat.zero_add] at this; exact this
theorem lead_txt (gs : List (List Ty)) (x : Nat) : txt gs (lead gs x) = txt gs x := by
  have h := (firstFrom_spec (fun y => decide (txt gs y = txt gs x)) x 0).2.2.1
  by_cases e : lead gs x = x
  · rw [e]
  · have := lead_le gs x
    exact of_decide_eq_true (h (show lead gs x < 0 + x by omega))
theorem lead_least (gs : List (List Ty)) (x y : Nat) (h : txt gs y = txt gs x) : lead gs x ≤ y := by
  by_cases e : y < lead gs x
  · have := (firstFrom_spec (fun y => decide (txt gs y = txt gs x)) x 0).2.2.2 y (Nat.zero_le _) e
    simp [h] at this
  · omega
theorem same_refl (gs : List (List Ty)) (a : Nat) : same gs a a = true := by
  show sameStep _ gs a a = true
  simp [sameStep]
theorem canon_same (gs : List (List Ty)) (a : Nat) : same gs (canon gs a) a = true := by
  have h := (firstFrom_spec (fun i => same gs i a) a 0).2.2.1
  by_cases e : canon gs a = a
  · rw [e]; exact same_refl gs a
  · have := canon_le gs a
    exact h (show canon gs a < 0 + a by omega)
theorem canon_least (gs : List (List Ty)) (a j : Nat) (h : j < canon gs a) : same gs j a = false := (firstFrom_spec (fun i => same gs i a) a 0).2.2.2 j (Nat.zero_le _) h

def KeyEq (gs : List (List Ty)) (p q : Nat) : Prop := p - beg gs (grp gs p) = q - beg gs (grp gs q) ∧ txt gs (grp gs p) = txt gs (grp gs q)

theorem canon_key {gs : List (List Ty)} {M : Nat} (hk : ∀ p q, p < M → q < M → (same gs p q = true ↔ KeyEq gs p q)) {a b : Nat} (ha : a < M) (hb : b < M) : canon gs a = canon gs b ↔ KeyEq gs a b := by
  have la := canon_le gs a
  have lb := canon_le gs b
  have ka := (hk _ _ (by omega) ha).1 (canon_same gs a)
  have kb := (hk _ _ (by omega) hb).1 (canon_same gs b)
  constructor
  · intro e
    rw [e] at ka
    exact ⟨ka.1.symm.trans kb.1, ka.2.symm.trans kb.2⟩
  · intro h
    have h1 : ¬ canon gs a < canon gs b := fun hl => by
      have := canon_least gs b _ hl
      rw [(hk _ _ (by omega) hb).2 ⟨ka.1.trans h.1, ka.2.trans h.2⟩] at this
      cases this
    have h2 : ¬ canon gs b < canon gs a := fun hl => by
      have := canon_least gs a _ hl
      rw [(hk _ _ (by omega) ha).2 ⟨kb.1.trans h.1.symm, kb.2.trans h.2.symm⟩] at this
      cases this
    omega

theorem canon_small {gs : List (List Ty)} {o : Int} (h1 : -2 ≤ o) (h2 : o < 8) : NameOk (canon gs) o := ⟨h1, h2, fun a ha => by have := canon_le gs a; omega⟩

theorem parts_tyOk {gs : List (List Ty)} (hP : Parts gs) {x : Nat} (hx : x < gs.length) : ∀ i, i < (grAt gs x).length → TyOk (canon gs) (tyAt (grAt gs x) i) := by
  intro i hi
  have h := (hP.2.2 x hx).2 i hi
  have hc : countTo (grAt gs) (x + 1) ≤ kinCount gs := countTo_mono (grAt gs) hx
  have h8 := hP.2.1
  simp only [countTo] at hc
  unfold formOk at h
  simp only [Bool.and_eq_true, Bool.or_eq_true, decide_eq_true_eq] at h
  obtain ⟨⟨⟨a1, a2⟩, a3⟩, a4, a5⟩ := h
  refine ⟨by omega, canon_small (by omega) (by omega), fun j hj => ?_⟩
  have hf := allTo_true a5 j hj
  unfold fieldOk at hf
  split at hf
  · simp at hf; exact ⟨by omega, canon_small (by omega) (by omega)⟩
  · split at hf
    · simp at hf; exact ⟨by omega, canon_small (by omega) (by omega)⟩
    · simp at hf

theorem matchF_congr2 {S S' : Nat → Nat → Bool} {gs : List (List Ty)} {a b : Int} {x y : Nat} (h : ∀ p q, p < beg gs x → q < beg gs y → S p q = S' p q) : matchF S gs a b x y = matchF S' gs a b x y := by
  unfold matchF
  split
  · rfl
  · split
    · rfl
    · by_cases c : a < (beg gs x : Int)
      · by_cases d : b < (beg gs y : Int)
        · rw [h _ _ (by omega) (by omega)]
        · simp [d]
      · simp [c]

theorem allTo_iff {p : Nat → Bool} {n : Nat} : allTo p n = true ↔ ∀ i, i < n → p i = true := ⟨allTo_true, allTo_of⟩

theorem alike_iff {gs : List (List Ty)} {S C x y} {s t : Ty} (hS : ∀ p q, p < beg gs x → q < beg gs y → (S p q = true ↔ C p = C q)) (hs : TyOk C s) (ht : TyOk C t) :
    alikeF S gs s t x y = true ↔ TEq C (beg gs x) (beg gs y) s t := by
  have hm : ∀ a b, matchF S gs a b x y = matchF (fun a b => C a == C b) gs a b x y := fun a b => matchF_congr2 fun p q hp hq => by
    rw [Bool.eq_iff_iff, hS p q hp hq]; simp
  unfold alikeF TEq
  rw [hm]
  simp only [Bool.and_eq_true, beq_iff_eq]
  rw [← nameK_iff hs.2.1 ht.2.1, allTo_iff]
  constructor
  · rintro ⟨⟨⟨a, b⟩, c⟩, d, e⟩
    refine ⟨a, b, d, c, fun i hi => ?_⟩
    have := e i hi
    unfold fAlike at this
    rw [hm] at this
    simp only [Bool.and_eq_true, Bool.or_eq_true, beq_iff_eq] at this
    rw [← nameK_iff (hs.2.2 i hi).2 (ht.2.2 i (by omega)).2] at this
    exact ⟨this.1.1, this.1.2, this.2⟩
  · rintro ⟨a, b, d, c, e⟩
    refine ⟨⟨⟨a, b⟩, c⟩, d, fun i hi => ?_⟩
    obtain ⟨f1, f2, f3⟩ := e i hi
    unfold fAlike
    rw [hm]
    simp only [Bool.and_eq_true, Bool.or_eq_true, beq_iff_eq]
    rw [← nameK_iff (hs.2.2 i hi).2 (ht.2.2 i (by omega)).2]
    exact ⟨⟨f1, f2⟩, f3⟩

/-- Types are the same just if they have one key. -/
theorem same_key {gs : List (List Ty)} (hP : Parts gs) : ∀ M, M ≤ gs.length → ∀ p q, p < beg gs M → q < beg gs M → (same gs p q = true ↔ KeyEq gs p q) := by
  intro M
  induction M with
  | zero => intro _ p q hp; exact absurd hp (Nat.not_lt_zero _)
  | succ M ih =>
    intro hM p q hp hq
    have ih' := ih (by omega)
    have hc : beg gs (M + 1) ≤ kinCount gs := beg_le hM
    have gp := grp_spec gs p (by omega)
    have gq := grp_spec gs q (by omega)
    have hpM : grp gs p ≤ M := by
      by_cases h : M + 1 ≤ grp gs p
      · have := countTo_mono (grAt gs) h; unfold beg at hp; omega
      · omega
    have hqM : grp gs q ≤ M := by
      by_cases h : M + 1 ≤ grp gs q
      · have := countTo_mono (grAt gs) h; unfold beg at hq; omega
      · omega
    rw [same_step gs p q (by omega)]
    unfold sameStep
    by_cases e : p = q
    · subst e; simp [KeyEq]
    rw [if_neg e]
    have tx := grpTxt_iff (C := canon gs) (b := beg gs (grp gs p)) (c := beg gs (grp gs q)) (grAt gs (grp gs p)) (grAt gs (grp gs q)) (parts_tyOk hP gp.1) (parts_tyOk hP gq.1)
    have hS : ∀ a b, a < beg gs (grp gs p) → b < beg gs (grp gs q) → (same gs a b = true ↔ canon gs a = canon gs b) := fun a b ha hb => by
      have m1 : beg gs (grp gs p) ≤ beg gs M := countTo_mono (grAt gs) hpM
      have m2 : beg gs (grp gs q) ≤ beg gs M := countTo_mono (grAt gs) hqM
      rw [canon_key (M := beg gs M) ih' (by omega) (by omega)]
      exact ih' a b (by omega) (by omega)
    constructor
    · intro h
      split at h
      · cases h
      · rename_i hn
        have hn2 : p - beg gs (grp gs p) = q - beg gs (grp gs q) := Classical.byContradiction fun hh => hn (.inr (.inl hh))
        have hn3 : (grAt gs (grp gs p)).length = (grAt gs (grp gs q)).length := Classical.byContradiction fun hh => hn (.inr (.inr hh))
        refine ⟨hn2, tx.2 ⟨hn3, fun i hi => ?_⟩⟩
        exact (alike_iff hS (parts_tyOk hP gp.1 i hi) (parts_tyOk hP gq.1 i (by omega))).1 (allTo_true h i hi)
    · rintro ⟨h1, h2⟩
      obtain ⟨h3, h4⟩ := tx.1 h2
      have hne : grp gs p ≠ grp gs q := fun hh => e (by
        rw [hh] at h1 gp
        unfold beg at h1
        omega)
      rw [if_neg (by rintro (h | h | h); exact hne h; exact h h1; exact h h3)]
      exact allTo_of fun i hi => (alike_iff hS (parts_tyOk hP gp.1 i hi) (parts_tyOk hP gq.1 i (by omega))).2 (h4 i hi)

theorem same_canon {gs : List (List Ty)} (hP : Parts gs) {p q : Nat} (hp : p < kinCount gs) (hq : q < kinCount gs) : same gs p q = decide (canon gs p = canon gs q) := by
  rw [Bool.eq_iff_iff, same_key hP gs.length (Nat.le_refl _) p q hp hq, decide_eq_true_eq]
  exact (canon_key (M := beg gs gs.length) (same_key hP gs.length (Nat.le_refl _)) hp hq).symm

theorem grp_at {gs : List (List Ty)} {x i : Nat} (hx : x < gs.length) (hi : i < (grAt gs x).length) : beg gs x + i < kinCount gs ∧ grp gs (beg gs x + i) = x := by
  have hc : countTo (grAt gs) (x + 1) ≤ kinCount gs := countTo_mono (grAt gs) hx
  have h1 : countTo (grAt gs) (x + 1) = countTo (grAt gs) x + (grAt gs x).length := rfl
  have hl : beg gs x + i < kinCount gs := by unfold beg; omega
  have := grp_spec gs _ hl
  exact ⟨hl, grp_uniq this.2.1 this.2.2 (by unfold beg; omega) (by unfold beg; omega)⟩

theorem lead_len {gs : List (List Ty)} (hP : Parts gs) {x : Nat} (hx : x < gs.length) : (grAt gs (lead gs x)).length = (grAt gs x).length := by
  have h := lead_le gs x
  exact ((grpTxt_iff (C := canon gs) (b := beg gs (lead gs x)) (c := beg gs x) (grAt gs (lead gs x)) (grAt gs x) (parts_tyOk hP (by omega)) (parts_tyOk hP hx)).1 (lead_txt gs x)).1

/-- The least type that is the same stands in the first group of that text, at the same place. -/
theorem canon_at {gs : List (List Ty)} (hP : Parts gs) {x i : Nat} (hx : x < gs.length) (hi : i < (grAt gs x).length) : canon gs (beg gs x + i) = beg gs (lead gs x) + i := by
  have hl := lead_le gs x
  obtain ⟨p1, p2⟩ := grp_at hx hi
  obtain ⟨q1, q2⟩ := grp_at (gs := gs) (x := lead gs x) (i := i) (by omega) (by rw [lead_len hP hx]; exact hi)
  have sk := same_key hP gs.length (Nat.le_refl _)
  have hqp : same gs (beg gs (lead gs x) + i) (beg gs x + i) = true := by
    refine (sk _ _ q1 p1).2 ⟨?_, ?_⟩
    · rw [p2, q2]; omega
    · rw [p2, q2]; exact lead_txt gs x
  have h1 : ¬ beg gs (lead gs x) + i < canon gs (beg gs x + i) := fun h => by
    have := canon_least gs _ _ h
    rw [hqp] at this; cases this
  have hcl := canon_le gs (beg gs x + i)
  have hc : canon gs (beg gs x + i) < kinCount gs := by omega
  obtain ⟨k1, k2⟩ := (sk _ _ (show _ < beg gs gs.length from hc) p1).1 (canon_same gs (beg gs x + i))
  rw [p2] at k1 k2
  have hj := grp_spec gs _ hc
  have h2 := lead_least gs x _ k2
  have h3 : beg gs (lead gs x) ≤ beg gs (grp gs (canon gs (beg gs x + i))) := countTo_mono (grAt gs) h2
  have h4 : beg gs (grp gs (canon gs (beg gs x + i))) ≤ canon gs (beg gs x + i) := hj.2.1
  omega
end Go.Proofs.YtejkebfhiddhmaaDoor

/- What is above a type, and that being under goes on through what is between: the mathematics that the laws of types want. -/
namespace Go.Proofs.YtejkebfhiddhmaaDoor
set_option linter.unusedVariables false

theorem same_sym {gs : List (List Ty)} (hP : Parts gs) {p q : Nat} (hp : p < kinCount gs) (hq : q < kinCount gs) : same gs p q = same gs q p := by
  rw [same_canon hP hp hq, same_canon hP hq hp]
  congr 1
  exact propext ⟨Eq.symm, Eq.symm⟩
theorem same_iff {gs : List (List Ty)} (hP : Parts gs) {p q : Nat} (hp : p < kinCount gs) (hq : q < kinCount gs) : same gs p q = true ↔ canon gs p = canon gs q := by
  rw [same_canon hP hp hq, decide_eq_true_eq]
theorem canon_lt {gs : List (List Ty)} {p : Nat} (hp : p < kinCount gs) : canon gs p < kinCount gs := by have := canon_le gs p; omega
theorem canon_canon {gs : List (List Ty)} (hP : Parts gs) {p : Nat} (hp : p < kinCount gs) : canon gs (canon gs p) = canon gs p :=
  (same_iff hP (canon_lt hp) hp).1 (canon_same gs p)

/-- Two types that are the same are written alike. -/
theorem same_alike {gs : List (List Ty)} (hP : Parts gs) {p q : Nat} (hp : p < kinCount gs) (hq : q < kinCount gs) (h : same gs p q = true) (hne : p ≠ q) :
    p - beg gs (grp gs p) = q - beg gs (grp gs q) ∧ txt gs (grp gs p) = txt gs (grp gs q) ∧ alikeF (same gs) gs (tyN gs p) (tyN gs q) (grp gs p) (grp gs q) = true := by
  obtain ⟨k1, k2⟩ := (same_key hP gs.length (Nat.le_refl _) p q hp hq).1 h
  refine ⟨k1, k2, ?_⟩
  rw [same_step gs p q hp] at h
  unfold sameStep at h
  rw [if_neg hne] at h
  split at h
  · cases h
  · have g := grp_spec gs p hp
    have hi : p - beg gs (grp gs p) < (grAt gs (grp gs p)).length := by
      have := g.2.2; simp only [countTo] at this; unfold beg; omega
    have := allTo_true h _ hi
    unfold tyN
    rw [flat_at hp, flat_at hq, ← k1]
    exact this

/-- What is above two types that are the same is the same, or nothing is. -/
theorem up_same {gs : List (List Ty)} (hP : Parts gs) {p q : Nat} (hp : p < kinCount gs) (hq : q < kinCount gs) (h : same gs p q = true) :
    ((tyN gs p).up < 0 ∧ (tyN gs q).up < 0) ∨ (0 ≤ (tyN gs p).up ∧ 0 ≤ (tyN gs q).up ∧ same gs (tyN gs p).up.toNat (tyN gs q).up.toNat = true) := by
  by_cases hne : p = q
  · subst hne
    by_cases hu : (tyN gs p).up < 0
    · exact .inl ⟨hu, hu⟩
    · exact .inr ⟨by omega, by omega, same_refl _ _⟩
  obtain ⟨k1, k2, ha⟩ := same_alike hP hp hq h hne
  have pu := (parts_flat hP hp).2.1
  have qu := (parts_flat hP hq).2.1
  unfold alikeF at ha
  simp only [Bool.and_eq_true] at ha
  have hm := ha.2.1
  unfold matchF at hm
  have gp := grp_spec gs p hp
  have gq := grp_spec gs q hq
  split at hm
  · rename_i hc
    have : (tyN gs p).up = (tyN gs q).up := by simpa using hm
    left; omega
  · rename_i hc
    split at hm
    · rename_i h2
      have he : (tyN gs p).up - (beg gs (grp gs p) : Int) = (tyN gs q).up - (beg gs (grp gs q) : Int) := by simpa using hm
      refine .inr ⟨by omega, by omega, ?_⟩
      obtain ⟨h2a, h2b⟩ := h2
      obtain ⟨e, hE⟩ := Int.eq_ofNat_of_zero_le (show 0 ≤ (tyN gs p).up - (beg gs (grp gs p) : Int) by omega)
      have e1 : (tyN gs p).up.toNat = beg gs (grp gs p) + e := by omega
      have e2 : (tyN gs q).up.toNat = beg gs (grp gs q) + e := by omega
      have l1 : e < (grAt gs (grp gs p)).length := by have := gp.2.2; simp only [countTo] at this; unfold beg at *; omega
      have l2 : e < (grAt gs (grp gs q)).length := by have := gq.2.2; simp only [countTo] at this; unfold beg at *; omega
      obtain ⟨c1, c2⟩ := grp_at gp.1 l1
      obtain ⟨d1, d2⟩ := grp_at gq.1 l2
      rw [e1, e2]
      refine (same_key hP gs.length (Nat.le_refl _) _ _ c1 d1).2 ⟨?_, ?_⟩
      · rw [c2, d2]; omega
      · rw [c2, d2]; exact k2
    · simp only [Bool.and_eq_true] at hm
      exact .inr ⟨by omega, by omega, hm.2⟩

/-- A type, and each that is above one of these. -/
inductive Above (gs : List (List Ty)) : Nat → Nat → Prop
  | refl (p : Nat) : Above gs p p
  | step {p r : Nat} (u : Nat) (hu : (tyN gs p).up = (u : Int)) (h : Above gs u r) : Above gs p r

theorem Above.le {gs : List (List Ty)} (hP : Parts gs) {p r : Nat} (h : Above gs p r) : p < kinCount gs → r ≤ p := by
  induction h with
  | refl p => intro _; exact Nat.le_refl _
  | step u hu _ ih => intro hp; have := (parts_flat hP hp).2.1; have := ih (by omega); omega
theorem Above.trans {gs : List (List Ty)} {p q r : Nat} (h : Above gs p q) (k : Above gs q r) : Above gs p r := by
  induction h with
  | refl p => exact k
  | step u hu _ ih => exact .step u hu (ih k)

theorem upSame_iff {gs : List (List Ty)} (hP : Parts gs) (q : Nat) : ∀ f (p : Nat), p < f → p < kinCount gs → (upSame gs q f (p : Int) = true ↔ ∃ r, Above gs p r ∧ same gs r q = true) := by
  intro f
  induction f with
  | zero => intro p h; omega
  | succ f ih =>
    intro p hpf hp
    have hu := (parts_flat hP hp).2.1
    simp only [upSame]
    rw [if_neg (by omega), Int.toNat_natCast, Bool.or_eq_true]
    constructor
    · rintro (h | h)
      · exact ⟨p, .refl p, h⟩
      · by_cases h0 : (tyN gs p).up < 0
        · exfalso
          cases f with
          | zero => simp [upSame] at h
          | succ f => simp only [upSame] at h; rw [if_pos h0] at h; cases h
        · obtain ⟨u, hU⟩ := Int.eq_ofNat_of_zero_le (show 0 ≤ (tyN gs p).up by omega)
          rw [hU] at h
          obtain ⟨r, hr, hs⟩ := (ih u (by omega) (by omega)).1 h
          exact ⟨r, .step u hU hr, hs⟩
    · rintro ⟨r, hr, hs⟩
      cases hr with
      | refl => exact .inl hs
      | step u hU hr =>
        right
        rw [hU]
        exact (ih u (by omega) (by omega)).2 ⟨r, hr, hs⟩

/-- Being under, of types of right groups. -/
theorem under_iff {gs : List (List Ty)} (hP : Parts gs) {p q : Nat} (hp : p < kinCount gs) (hq : q < kinCount gs) : under gs (p : Int) (q : Int) = true ↔ ∃ r, Above gs p r ∧ canon gs r = canon gs q := by
  have key : (∃ r, Above gs p r ∧ same gs r q = true) ↔ ∃ r, Above gs p r ∧ canon gs r = canon gs q := by
    constructor
    · rintro ⟨r, hr, hs⟩
      have := hr.le hP hp
      exact ⟨r, hr, (same_iff hP (by omega) hq).1 hs⟩
    · rintro ⟨r, hr, hs⟩
      have := hr.le hP hp
      exact ⟨r, hr, (same_iff hP (by omega) hq).2 hs⟩
  unfold under
  by_cases h : ((q : Int) = -1 ∨ (p : Int) = (q : Int))
  · rw [if_pos h]
    have : p = q := by omega
    subst this
    exact ⟨fun _ => ⟨p, .refl p, rfl⟩, fun _ => rfl⟩
  · rw [if_neg h, if_neg (by omega), Int.toNat_natCast, Int.toNat_natCast, upSame_iff hP q _ p (Nat.lt_succ_self _) hp, key]

/-- What is above one of two that are the same has its like above the other. -/
theorem Above.like {gs : List (List Ty)} (hP : Parts gs) {p r : Nat} (h : Above gs p r) : ∀ p', p < kinCount gs → p' < kinCount gs → canon gs p = canon gs p' → ∃ r', Above gs p' r' ∧ canon gs r = canon gs r' := by
  induction h with
  | refl p => intro p' _ _ hc; exact ⟨p', .refl p', hc⟩
  | @step p r u hu _ ih =>
    intro p' hp hp' hc
    have b1 := (parts_flat hP hp).2.1
    have b2 := (parts_flat hP hp').2.1
    rcases up_same hP hp hp' ((same_iff hP hp hp').2 hc) with ⟨h1, _⟩ | ⟨h1, h2, h3⟩
    · omega
    · obtain ⟨u', hU'⟩ := Int.eq_ofNat_of_zero_le h2
      rw [hu, hU', Int.toNat_natCast, Int.toNat_natCast] at h3
      obtain ⟨r', hr', hc'⟩ := ih u' (by omega) (by omega) ((same_iff hP (by omega) (by omega)).1 h3)
      exact ⟨r', .step u' hU' hr', hc'⟩

theorem under_trans {gs : List (List Ty)} (hP : Parts gs) {p q s : Nat} (hp : p < kinCount gs) (hq : q < kinCount gs) (hs : s < kinCount gs) (h1 : under gs p q = true) (h2 : under gs q s = true) : under gs p s = true := by
  obtain ⟨r, hr, hc⟩ := (under_iff hP hp hq).1 h1
  obtain ⟨r2, hr2, hc2⟩ := (under_iff hP hq hs).1 h2
  have := hr.le hP hp
  obtain ⟨r3, hr3, hc3⟩ := hr2.like hP r hq (by omega) hc.symm
  exact (under_iff hP hp hs).2 ⟨r3, hr.trans hr3, hc3.symm.trans hc2⟩

/-- The first of what is above is ahead. -/
theorem Above.canon_le {gs : List (List Ty)} (hP : Parts gs) {p r : Nat} (h : Above gs p r) : p < kinCount gs → canon gs r ≤ canon gs p ∧ (canon gs r = canon gs p → p = r) := by
  induction h with
  | refl p => intro _; exact ⟨Nat.le_refl _, fun _ => rfl⟩
  | @step p r u hu _ ih =>
    intro hp
    have b1 := (parts_flat hP hp).2.1
    have hc := canon_lt hp
    have b2 := (parts_flat hP hc).2.1
    have i1 := ih (by omega)
    rcases up_same hP hp hc ((same_iff hP hp hc).2 (canon_canon hP hp).symm) with ⟨h1, _⟩ | ⟨h1, h2, h3⟩
    · omega
    · obtain ⟨u', hU'⟩ := Int.eq_ofNat_of_zero_le h2
      rw [hu, hU', Int.toNat_natCast, Int.toNat_natCast] at h3
      have e := (same_iff hP (by omega) (by omega)).1 h3
      have l := YtejkebfhiddhmaaDoor.canon_le gs u'
      constructor
      · omega
      · intro h; omega

theorem under_canon {gs : List (List Ty)} (hP : Parts gs) {p q : Nat} (hp : p < kinCount gs) (hq : q < kinCount gs) (h : under gs p q = true) : canon gs q ≤ canon gs p := by
  obtain ⟨r, hr, hc⟩ := (under_iff hP hp hq).1 h
  have := (hr.canon_le hP hp).1
  omega
theorem under_anti {gs : List (List Ty)} (hP : Parts gs) {p q : Nat} (hp : p < kinCount gs) (hq : q < kinCount gs) : (under gs p q = true ∧ under gs q p = true) ↔ same gs p q = true := by
  rw [same_iff hP hp hq]
  constructor
  · rintro ⟨h1, h2⟩
    have := under_canon hP hp hq h1
    have := under_canon hP hq hp h2
    omega
  · intro h
    exact ⟨(under_iff hP hp hq).2 ⟨p, .refl p, h⟩, (under_iff hP hq hp).2 ⟨q, .refl q, h.symm⟩⟩
end Go.Proofs.YtejkebfhiddhmaaDoor

/- More of what the laws of types want: what is declared above, references of any kind, and sorts. -/
namespace Go.Proofs.YtejkebfhiddhmaaDoor
set_option linter.unusedVariables false

theorem under_refl (gs : List (List Ty)) (a : Int) : under gs a a = true := by
  unfold under; rw [if_pos (.inr rfl)]
theorem under_top (gs : List (List Ty)) (a : Int) : under gs a (-1) = true := by
  unfold under; rw [if_pos (.inl rfl)]
theorem under_chip (gs : List (List Ty)) (a : Int) : under gs a (-2) = decide (a = -2) := by
  unfold under
  by_cases h : a = -2
  · rw [if_pos (.inr h)]; simp [h]
  · rw [if_neg (by omega), if_pos (by omega)]; simp [h]
theorem any_under (gs : List (List Ty)) (b : Int) : under gs (-1) b = decide (b = -1) := by
  unfold under
  by_cases h : b = -1
  · rw [if_pos (.inl h)]; simp [h]
  · rw [if_neg (by omega), if_pos (by omega)]; simp [h]
/-- Being under goes on through what is between, for types, chips and anything. -/
theorem under_transI {gs : List (List Ty)} (hP : Parts gs) {a b c : Int} (a1 : a < kinCount gs) (b1 : b < kinCount gs) (c1 : c < kinCount gs) (h1 : under gs a b = true) (h2 : under gs b c = true) : under gs a c = true := by
  by_cases hc : c = -1
  · rw [hc]; exact under_top gs a
  by_cases hbc : b = c
  · rw [← hbc]; exact h1
  by_cases hab : a = b
  · rw [hab]; exact h2
  have hb : b ≠ -1 := by
    intro e
    rw [e, any_under] at h2
    simp at h2
    exact hc h2
  by_cases hn : a < 0 ∨ b < 0
  · unfold under at h1
    rw [if_neg (by omega), if_pos hn] at h1
    cases h1
  by_cases hn2 : c < 0
  · unfold under at h2
    rw [if_neg (by omega), if_pos (by omega)] at h2
    cases h2
  obtain ⟨p, rfl⟩ := Int.eq_ofNat_of_zero_le (show 0 ≤ a by omega)
  obtain ⟨q, rfl⟩ := Int.eq_ofNat_of_zero_le (show 0 ≤ b by omega)
  obtain ⟨s, rfl⟩ := Int.eq_ofNat_of_zero_le (show 0 ≤ c by omega)
  exact under_trans hP (by omega) (by omega) (by omega) h1 h2
/-- Two that are under one another are the same. -/
theorem under_antiI {gs : List (List Ty)} (hP : Parts gs) {a b : Int} (a0 : -2 ≤ a) (b0 : -2 ≤ b) (a1 : a < kinCount gs) (b1 : b < kinCount gs) :
    (under gs a b = true ∧ under gs b a = true) ↔ (a = b ∨ (0 ≤ a ∧ 0 ≤ b ∧ same gs a.toNat b.toNat = true)) := by
  by_cases hab : a = b
  · subst hab
    exact ⟨fun _ => .inl rfl, fun _ => ⟨under_refl gs a, under_refl gs a⟩⟩
  by_cases hn : a < 0 ∨ b < 0
  · constructor
    · rintro ⟨h1, h2⟩
      exfalso
      unfold under at h1 h2
      by_cases e1 : b = -1
      · rw [if_neg (by omega), if_pos (by omega)] at h2
        cases h2
      · rw [if_neg (by omega), if_pos (by omega)] at h1
        cases h1
    · rintro (h | ⟨h1, h2, _⟩)
      · exact absurd h hab
      · omega
  obtain ⟨p, rfl⟩ := Int.eq_ofNat_of_zero_le (show 0 ≤ a by omega)
  obtain ⟨q, rfl⟩ := Int.eq_ofNat_of_zero_le (show 0 ≤ b by omega)
  rw [under_anti hP (by omega) (by omega), Int.toNat_natCast, Int.toNat_natCast]
  constructor
  · intro h; exact .inr ⟨by omega, by omega, h⟩
  · rintro (h | ⟨_, _, h⟩)
    · exact absurd h hab
    · exact h

/-- What is declared above. -/
theorem under_up {gs : List (List Ty)} (hP : Parts gs) {p u : Nat} (hp : p < kinCount gs) (hu : (tyN gs p).up = (u : Int)) : under gs p u = true ∧ under gs u p = false := by
  have b1 := (parts_flat hP hp).2.1
  have hul : u < kinCount gs := by omega
  have ab : Above gs p u := .step u hu (.refl u)
  refine ⟨(under_iff hP hp hul).2 ⟨u, ab, rfl⟩, ?_⟩
  cases h : under gs u p with
  | false => rfl
  | true =>
    exfalso
    have h1 := under_canon hP hul hp h
    have h2 := ab.canon_le hP hp
    have := h2.2 (by omega)
    omega
theorem under_up_iff {gs : List (List Ty)} (hP : Parts gs) {p u q : Nat} (hp : p < kinCount gs) (hq : q < kinCount gs) (hu : (tyN gs p).up = (u : Int)) : under gs p q = (under gs u q || same gs p q) := by
  have b1 := (parts_flat hP hp).2.1
  have hul : u < kinCount gs := by omega
  rw [Bool.eq_iff_iff, Bool.or_eq_true, under_iff hP hp hq, under_iff hP hul hq, same_iff hP hp hq]
  constructor
  · rintro ⟨r, hr, hc⟩
    cases hr with
    | refl => exact .inr hc
    | step u' hU hr =>
      have : u' = u := by omega
      subst this
      exact .inl ⟨r, hr, hc⟩
  · rintro (⟨r, hr, hc⟩ | hc)
    · exact ⟨r, .step u hu hr, hc⟩
    · exact ⟨p, .refl p, hc⟩
theorem under_root {gs : List (List Ty)} (hP : Parts gs) {p q : Nat} (hp : p < kinCount gs) (hq : q < kinCount gs) (hu : (tyN gs p).up < 0) : under gs p q = same gs p q := by
  rw [Bool.eq_iff_iff, under_iff hP hp hq, same_iff hP hp hq]
  constructor
  · rintro ⟨r, hr, hc⟩
    cases hr with
    | refl => exact hc
    | step u' hU hr => omega
  · intro hc; exact ⟨p, .refl p, hc⟩

/-- A sort may stand for what it may stand for, through what is between. -/
theorem sortF_trans {gs : List (List Ty)} (hP : Parts gs) {f g h : Fd} (f1 : f.kind = 1 ∨ f.of < kinCount gs) (g1 : g.kind = 1 ∨ g.of < kinCount gs) (h1 : h.kind = 1 ∨ h.of < kinCount gs) (a : sortF gs f g = true) (b : sortF gs g h = true) : sortF gs f h = true := by
  unfold sortF at *
  split at a
  · rename_i c
    split at b
    · rename_i d
      rw [if_pos (by simp at a b; omega)]
      simp at a b ⊢; omega
    · rename_i d
      exfalso
      simp at a; omega
  · rename_i c
    split at b
    · rename_i d
      exfalso
      simp at b; omega
    · rename_i d
      rw [if_neg (by omega)]
      simp only [Bool.and_eq_true, Bool.or_eq_true, beq_iff_eq] at a b ⊢
      refine ⟨by omega, under_transI hP (by omega) (by omega) (by omega) a.2 b.2⟩
theorem sortF_refl {gs : List (List Ty)} {f : Fd} (h : f.kind = 1 ∨ f.kind = 2 ∨ f.kind = 3) : sortF gs f f = true := by
  unfold sortF
  split
  · simp
  · rw [under_refl]; simp; omega
end Go.Proofs.YtejkebfhiddhmaaDoor

/- strconv.Itoa at this program, off the shelf; the table that it reads; strings put together. -/
namespace Go.Proofs
open Go.Shelf Go.RowKit

shelf_lay LaysM.n171 Nm 171 at Tryd as Tryd.lays171

theorem Tryd.itoa (n : Int) (h0 : -9223372036854775808 ≤ n) (h1 : n ≤ 9223372036854775807) (w : World) (htab : Lib.TabIs Tryd.prog w "internal/strconv.uint64pow10" .u64 Lib.pow10Tab) :
    Calls Tryd.prog 85 #[.int .i64 n] w fun e w' => e = .returned (.string ⟨(Lib.itoa n).toArray⟩) ∧ ∃ k os, w' = Sort.grow (w.drewN k) os := Any.strconv_Itoa { Tryd.lays171 with } n h0 h1 w htab
end Go.Proofs
namespace Go.Proofs.YtejkebfhiddhmaaDoor
open Go.ChangeShapes Go.WideShapes Go.ChangeAt Go.RowKit
set_option linter.unusedVariables false

theorem grown_below (w : World) (k : Nat) (os : Array Obj) : Below w.heap.size w (Sort.grow (w.drewN k) os) := by
  refine ⟨rfl, rfl, rfl, ?_, fun i hi => ?_⟩
  · show w.heap.size ≤ (w.heap ++ os).size
    simp
  · show (w.heap ++ os)[i]? = w.heap[i]?
    rw [Array.getElem?_append_left hi]

theorem gPow : Tryd.prog.globalNamed "internal/strconv.uint64pow10" = some 0 := by kernel_rfl

def pow10 (w : World) : Prop := Lib.TabIs Tryd.prog w "internal/strconv.uint64pow10" .u64 Lib.pow10Tab

theorem pow10_keep {w w' : World} (h : pow10 w) (hb : Below w.heap.size w w') : pow10 w' := Joins.tab_stays gPow h hb (Nat.le_refl _)

theorem below_more {w v : World} (h : Below w.heap.size w v) (o : Obj) : Below w.heap.size w (v.alloc o) := h.alloc h.size o
theorem add_at (x y z : List UInt8) (h : x ++ y = z) (hx : x.length ≤ 1000) (hy : y.length ≤ 1000) : ∀ W : World, (Op.stringOp .add ⟨x.toArray⟩ ⟨y.toArray⟩).run Tryd.prog W = .ok (.string ⟨z.toArray⟩) W := by
  intro W
  rw [run_string_add_lists (P := Tryd.prog) W x y (by omega) (by omega), h]

end Go.Proofs.YtejkebfhiddhmaaDoor
