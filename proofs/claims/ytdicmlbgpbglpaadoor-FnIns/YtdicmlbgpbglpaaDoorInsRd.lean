/- The texts of instructions, read: words between spaces, plainly. -/
import Derived.Test.YtdicmlbgpbglpaaDoorSpecText
import Derived.Test.YtdicmlbgpbglpaaDoorOfRead2
namespace Go.Proofs.YtdicmlbgpbglpaaDoor
open Go.ChangeShapes Go.WideShapes Go.ChangeAt Go.RowKit
set_option linter.unusedVariables false

/-- What is left of a text, cut at c, behind a piece that has begun. -/
def cutsFrom (c : UInt8) (cur : List UInt8) : List UInt8 → List (List UInt8)
  | [] => [cur]
  | d :: r => if d = c then cur :: cutsFrom c [] r else cutsFrom c (cur ++ [d]) r

/-- A text, cut at c. -/
def cuts (c : UInt8) (l : List UInt8) : List (List UInt8) := cutsFrom c [] l

theorem cutsFrom_free (c : UInt8) (x : List UInt8) (h : ∀ d ∈ x, d ≠ c) (cur r : List UInt8) : cutsFrom c cur (x ++ r) = cutsFrom c (cur ++ x) r := by
  induction x generalizing cur with
  | nil => simp
  | cons d x ih =>
    have h1 : d ≠ c := h d (by simp)
    simp only [List.cons_append, cutsFrom, if_neg h1]
    rw [ih (fun e he => h e (by simp [he]))]
    simp

theorem cuts_last (c : UInt8) (x : List UInt8) (h : ∀ d ∈ x, d ≠ c) : cuts c x = [x] := by
  have := cutsFrom_free c x h [] []
  simpa [cuts, cutsFrom] using this

theorem cuts_more (c : UInt8) (x r : List UInt8) (h : ∀ d ∈ x, d ≠ c) : cuts c (x ++ c :: r) = x :: cuts c r := by
  have := cutsFrom_free c x h [] (c :: r)
  simpa [cuts, cutsFrom] using this

theorem cutsFrom_len (c : UInt8) (l : List UInt8) (cur : List UInt8) : (cutsFrom c cur l).length ≤ l.length + 1 := by
  induction l generalizing cur with
  | nil => simp [cutsFrom]
  | cons d r ih =>
    simp only [cutsFrom]
    split
    · have := ih []; simp; omega
    · have := ih (cur ++ [d]); simp; omega

theorem cutsFrom_ne (c : UInt8) (l : List UInt8) (cur : List UInt8) : 0 < (cutsFrom c cur l).length := by
  induction l generalizing cur with
  | nil => simp [cutsFrom]
  | cons d r ih =>
    simp only [cutsFrom]
    split
    · simp
    · exact ih _

theorem cutsFrom_size (c : UInt8) (l : List UInt8) (cur : List UInt8) : ∀ x ∈ cutsFrom c cur l, x.length ≤ cur.length + l.length := by
  induction l generalizing cur with
  | nil => simp [cutsFrom]
  | cons d r ih =>
    simp only [cutsFrom]
    split
    · intro x hx
      simp only [List.mem_cons] at hx
      rcases hx with rfl | hx
      · omega
      · have := ih [] x hx; simp at this ⊢; omega
    · intro x hx
      have := ih _ x hx; simp at this ⊢; omega

/-- The words of a text. -/
def wordsOf (l : List UInt8) : List (List UInt8) := (cuts 32 l).filter (fun x => !x.isEmpty)

/-- A byte that a word is written with. -/
def wordByte (d : UInt8) : Bool := decide ((97 ≤ d.toNat ∧ d.toNat ≤ 122) ∨ (48 ≤ d.toNat ∧ d.toNat ≤ 57))

theorem wordByte_space {d : UInt8} (h : wordByte d = true) : d ≠ 32 := by
  intro e; subst e; exact absurd h (by decide)

def Word (x : List UInt8) : Prop := x ≠ [] ∧ ∀ d ∈ x, wordByte d = true

theorem Word.free {x : List UInt8} (h : Word x) : ∀ d ∈ x, d ≠ 32 := fun d hd => wordByte_space (h.2 d hd)

theorem wordAt_word (k : Nat) (h1 : 1 ≤ k) (h2 : k < 34) : Word (wordAt k) := by
  have : ∀ i : Fin 34, 1 ≤ i.val → wordAt i.val ≠ [] ∧ (wordAt i.val).all wordByte = true := by decide
  have := this ⟨k, h2⟩ h1
  exact ⟨this.1, by simpa using this.2⟩

theorem wordAt_inj {i j : Nat} (h1 : 1 ≤ i) (h2 : i < 34) (h3 : 1 ≤ j) (h4 : j < 34) (h : wordAt i = wordAt j) : i = j := by
  have : ∀ i j : Fin 34, 1 ≤ i.val → 1 ≤ j.val → wordAt i.val = wordAt j.val → i.val = j.val := by decide
  exact this ⟨i, h2⟩ ⟨j, h4⟩ h1 h3 h

theorem decDigits_word (k : Nat) : ∀ d ∈ Lib.decDigits k, wordByte d = true := by
  induction k using Nat.strongRecOn with
  | ind k ih =>
    have one : ∀ d : Nat, d < 10 → wordByte (UInt8.ofNat (48 + d)) = true := by
      intro d hd
      have : ∀ d : Fin 10, wordByte (UInt8.ofNat (48 + d.val)) = true := by decide
      exact this ⟨d, hd⟩
    rw [Lib.decDigits]
    split
    · intro d hd
      simp only [List.mem_singleton] at hd
      rw [hd]; exact one _ (by omega)
    · intro d hd
      simp only [List.mem_append, List.mem_singleton] at hd
      rcases hd with hd | hd
      · exact ih (k / 10) (by omega) d hd
      · rw [hd]; exact one _ (by omega)

theorem ofTxt_word (n : Int) : Word (ofTxt n) := by
  unfold ofTxt
  split
  · exact ⟨by simp, by decide⟩
  · split
    · exact ⟨by simp, by decide⟩
    · exact ⟨decDigits_ne _, decDigits_word _⟩

theorem decDigits_inj {a b : Nat} (h : Lib.decDigits a = Lib.decDigits b) : a = b := by
  have := decFrom_digits a
  rw [h, decFrom_digits b] at this
  exact (Option.some.inj this).symm

theorem decDigits_name (k : Nat) : Lib.decDigits k ≠ [97, 110, 121] ∧ Lib.decDigits k ≠ [99, 104, 105, 112] := by
  obtain ⟨c, r, e, k1, k2⟩ := decDigits_head k
  rw [e]
  constructor
  all_goals
    intro h
    injection h with h _
    subst h
    exact absurd k2 (by decide)

theorem ofTxt_inj {a b : Int} (h1 : -2 ≤ a) (h2 : -2 ≤ b) (h : ofTxt a = ofTxt b) : a = b := by
  have na := decDigits_name a.toNat
  have nb := decDigits_name b.toNat
  unfold ofTxt at h
  by_cases a1 : a = -1
  · rw [if_pos a1] at h
    by_cases b1 : b = -1
    · omega
    rw [if_neg b1] at h
    by_cases b2 : b = -2
    · rw [if_pos b2] at h; exact absurd h (by decide)
    · rw [if_neg b2] at h; exact absurd h.symm nb.1
  rw [if_neg a1] at h
  by_cases a2 : a = -2
  · rw [if_pos a2] at h
    by_cases b1 : b = -1
    · rw [if_pos b1] at h; exact absurd h (by decide)
    rw [if_neg b1] at h
    by_cases b2 : b = -2
    · omega
    · rw [if_neg b2] at h; exact absurd h.symm nb.2
  rw [if_neg a2] at h
  by_cases b1 : b = -1
  · rw [if_pos b1] at h; exact absurd h na.1
  rw [if_neg b1] at h
  by_cases b2 : b = -2
  · rw [if_pos b2] at h; exact absurd h na.2
  rw [if_neg b2] at h
  have := decDigits_inj h
  omega

/-- The words of an instruction. -/
def insWs (op a b : Int) : List (List UInt8) :=
  if spanN op = 0 then [wordAt op.toNat] else if spanN op = 1 then [wordAt op.toNat, ofTxt a] else [wordAt op.toNat, ofTxt a, ofTxt b]

/-- A text is this instruction's. -/
def IsIns (l : List UInt8) (op a b : Int) : Prop := insOk op a b = true ∧ insText op a b = l

theorem isIns_span {l : List UInt8} {op a b : Int} (h : IsIns l op a b) : 1 ≤ op ∧ op ≤ 33 := by
  have := h.1
  simp [insOk] at this
  omega

theorem spanN_le (op : Int) : spanN op ≤ 2 := by
  unfold spanN; repeat' split
  all_goals omega

/-- Words, with one space between them. -/
def joined : List (List UInt8) → List UInt8
  | [] => []
  | [x] => x
  | x :: y :: r => x ++ 32 :: joined (y :: r)

theorem insText_joined {op a b : Int} (h : insOk op a b = true) : insText op a b = joined (insWs op a b) := by
  unfold insText insWs
  rw [h]
  simp only [if_true]
  split
  · rfl
  · split
    · rfl
    · rfl

theorem cuts_joined : ∀ (ws : List (List UInt8)), ws ≠ [] → (∀ x ∈ ws, Word x) → cuts 32 (joined ws) = ws
  | [], h, _ => absurd rfl h
  | [x], _, h => cuts_last 32 x (h x (by simp)).free
  | x :: y :: r, _, h => by
    show cuts 32 (x ++ 32 :: joined (y :: r)) = _
    rw [cuts_more 32 x _ (h x (by simp)).free, cuts_joined (y :: r) (by simp) (fun z hz => h z (by simp [hz]))]

theorem insWs_words {op a b : Int} (h : 1 ≤ op ∧ op ≤ 33) : insWs op a b ≠ [] ∧ ∀ x ∈ insWs op a b, Word x := by
  have hw := wordAt_word op.toNat (by omega) (by omega)
  unfold insWs
  split
  · exact ⟨by simp, fun x hx => by simp at hx; rw [hx]; exact hw⟩
  · split
    · exact ⟨by simp, fun x hx => by simp at hx; rcases hx with rfl | rfl; exact hw; exact ofTxt_word _⟩
    · exact ⟨by simp, fun x hx => by simp at hx; rcases hx with rfl | rfl | rfl; exact hw; exact ofTxt_word _; exact ofTxt_word _⟩

/-- The words of a text that is an instruction's. -/
theorem isIns_cuts {l : List UInt8} {op a b : Int} (h : IsIns l op a b) : cuts 32 l = insWs op a b := by
  have hw := insWs_words (a := a) (b := b) (isIns_span h)
  rw [← h.2, insText_joined h.1, cuts_joined _ hw.1 hw.2]

theorem isIns_words {l : List UInt8} {op a b : Int} (h : IsIns l op a b) : wordsOf l = insWs op a b := by
  have hw := insWs_words (a := a) (b := b) (isIns_span h)
  unfold wordsOf
  rw [isIns_cuts h, List.filter_eq_self]
  intro x hx
  have := (hw.2 x hx).1
  cases x with
  | nil => exact absurd rfl this
  | cons => rfl

theorem insWs_len (op a b : Int) : (insWs op a b).length = 1 + spanN op := by
  have := spanN_le op
  unfold insWs
  split
  · simp_all
  · split
    · simp_all
    · simp; omega

theorem insWs_0 (op a b : Int) : (insWs op a b)[0]? = some (wordAt op.toNat) := by
  unfold insWs
  split
  · rfl
  · split <;> rfl
theorem insWs_1 (op a b : Int) (h : 1 ≤ spanN op) : (insWs op a b)[1]? = some (ofTxt a) := by
  unfold insWs
  rw [if_neg (by omega)]
  split <;> rfl
theorem insWs_2 (op a b : Int) (h : 2 ≤ spanN op) : (insWs op a b)[2]? = some (ofTxt b) := by
  unfold insWs
  rw [if_neg (by omega), if_neg (by omega)]
  rfl

/-- What is not there is 0. -/
theorem isIns_zero {l : List UInt8} {op a b : Int} (h : IsIns l op a b) : (spanN op = 0 → a = 0) ∧ (spanN op ≤ 1 → b = 0) ∧ (1 ≤ spanN op → -2 ≤ a ∧ a < 1000000) ∧ (2 ≤ spanN op → 0 ≤ a ∧ 0 ≤ b ∧ b < 1000000) := by
  have h0 := h.1
  have hs := insOk_small h0
  have h1 : spanN op = 1 → -2 ≤ a := fun e => (insOk_one h0 e).1
  have h2 : spanN op = 2 → _ := fun e => insOk_two h0 e
  have h3 := spanN_le op
  have h4 : spanN op = 0 → a = 0 ∧ b = 0 := fun e => by simp [insOk, e] at h0; omega
  have h5 : spanN op = 1 → b = 0 := fun e => by simp [insOk, e] at h0; omega
  refine ⟨fun e => (h4 e).1, fun e => ?_, fun e => ⟨?_, hs.1⟩, fun e => ?_⟩
  · by_cases e0 : spanN op = 0
    · exact (h4 e0).2
    · exact h5 (by omega)
  · by_cases e1 : spanN op = 1
    · exact h1 e1
    · have := h2 (by omega); omega
  · have := h2 (by omega); omega

/-- An instruction's text is its own alone. -/
theorem isIns_inj {l : List UInt8} {op a b op' a' b' : Int} (h : IsIns l op a b) (h' : IsIns l op' a' b') : op = op' ∧ a = a' ∧ b = b' := by
  have e : insWs op a b = insWs op' a' b' := by rw [← isIns_words h, ← isIns_words h']
  have s := isIns_span h
  have s' := isIns_span h'
  have e0 : wordAt op.toNat = wordAt op'.toNat := by
    have := insWs_0 op a b
    rw [e, insWs_0] at this
    exact (Option.some.inj this).symm
  have hop : op = op' := by
    have := wordAt_inj (by omega) (by omega) (by omega) (by omega) e0
    omega
  subst hop
  have z := isIns_zero h
  have z' := isIns_zero h'
  refine ⟨rfl, ?_, ?_⟩
  · by_cases k : spanN op = 0
    · rw [z.1 k, z'.1 k]
    · have h1 := insWs_1 op a b (by omega)
      rw [e, insWs_1 op a' b' (by omega)] at h1
      have r := z.2.2.1 (by omega)
      have r' := z'.2.2.1 (by omega)
      exact (ofTxt_inj r'.1 r.1 (Option.some.inj h1)).symm
  · by_cases k : spanN op ≤ 1
    · rw [z.2.1 k, z'.2.1 k]
    · have h1 := insWs_2 op a b (by omega)
      rw [e, insWs_2 op a' b' (by omega)] at h1
      have r := z.2.2.2 (by omega)
      have r' := z'.2.2.2 (by omega)
      exact (ofTxt_inj (by omega) (by omega) (Option.some.inj h1)).symm

/-- The answer of InsRead. -/
inductive InsAns (l : List UInt8) : Ending → Prop
  | yes {op a b : Int} : IsIns l op a b → InsAns l (.returned (.tuple #[.agg #[.int .i64 op, .int .i64 a, .int .i64 b], .bool true]))
  | no : (∀ op a b, ¬ IsIns l op a b) → InsAns l (.returned (.tuple #[.agg #[.int .i64 0, .int .i64 0, .int .i64 0], .bool false]))
/-- What is joined again is the text. -/
theorem joined_cutsFrom (l : List UInt8) : ∀ cur, joined (cutsFrom 32 cur l) = cur ++ l := by
  induction l with
  | nil => intro cur; simp [cutsFrom, joined]
  | cons d r ih =>
    intro cur
    simp only [cutsFrom]
    split
    · rename_i h
      subst h
      have hne := cutsFrom_ne 32 r []
      have h1 := ih []
      cases hc : cutsFrom 32 [] r with
      | nil => rw [hc] at hne; exact absurd hne (by simp)
      | cons x xs =>
        rw [hc] at h1
        show cur ++ 32 :: joined (x :: xs) = _
        rw [h1]; simp
    · rw [ih]; simp

theorem joined_cuts (l : List UInt8) : joined (cuts 32 l) = l := by simpa [cuts] using joined_cutsFrom l []

/-- All pieces are words, and they are not too many. -/
def ScanOk (l : List UInt8) : Prop := (∀ x ∈ cuts 32 l, Word x) ∧ (cuts 32 l).length ≤ 3

theorem isIns_scan {l : List UInt8} {op a b : Int} (h : IsIns l op a b) : ScanOk l := by
  refine ⟨?_, ?_⟩
  · rw [isIns_cuts h]; exact (insWs_words (isIns_span h)).2
  · rw [isIns_cuts h, insWs_len]; have := spanN_le op; omega

theorem isIns_of {l : List UInt8} {op a b : Int} (h : insOk op a b = true) (hw : cuts 32 l = insWs op a b) : IsIns l op a b :=
  ⟨h, by rw [insText_joined h, ← hw, joined_cuts]⟩

theorem cutsFrom_has (c d : UInt8) (hd : d ≠ c) (r : List UInt8) : ∀ cur, ∃ x ∈ cutsFrom c cur (d :: r), d ∈ x := by
  have key : ∀ (r cur : List UInt8), d ∈ cur → ∃ x ∈ cutsFrom c cur r, d ∈ x := by
    intro r
    induction r with
    | nil => intro cur h; exact ⟨cur, by simp [cutsFrom], h⟩
    | cons e r ih =>
      intro cur h
      simp only [cutsFrom]
      split
      · exact ⟨cur, by simp, h⟩
      · exact ih _ (by simp [h])
  intro cur
  simp only [cutsFrom, if_neg hd]
  exact key r _ (by simp)

/-- How far the scan is: these words are there, and a piece has begun at f. -/
structure ScanAt (l : List UInt8) (pos f : Nat) (ws : List (List UInt8)) : Prop where
  le : f ≤ pos
  lt : pos ≤ l.length
  few : ws.length ≤ 2
  words : ∀ x ∈ ws, Word x
  cur : ∀ d ∈ (l.drop f).take (pos - f), wordByte d = true
  cut : cuts 32 l = ws ++ cutsFrom 32 ((l.drop f).take (pos - f)) (l.drop pos)

theorem ScanAt.start (l : List UInt8) : ScanAt l 0 0 [] := ⟨Nat.le_refl _, Nat.zero_le _, by simp, by simp, by simp, rfl⟩

theorem drop_at (l : List UInt8) (k : Nat) (d : UInt8) (h : l[k]? = some d) : l.drop k = d :: l.drop (k + 1) := by
  obtain ⟨hk, rfl⟩ := List.getElem?_eq_some_iff.1 h
  rw [List.drop_eq_getElem_cons hk]

theorem piece_more (l : List UInt8) (f k : Nat) (d : UInt8) (hf : f ≤ k) (h : l[k]? = some d) : (l.drop f).take (k + 1 - f) = (l.drop f).take (k - f) ++ [d] := by
  have e : k + 1 - f = (k - f) + 1 := by omega
  have h1 : (l.drop f)[k - f]? = some d := by rw [List.getElem?_drop]; rw [show f + (k - f) = k by omega]; exact h
  obtain ⟨hk, h2⟩ := List.getElem?_eq_some_iff.1 h1
  rw [e, List.take_succ_eq_append_getElem hk, h2]

theorem ScanAt.pass {l : List UInt8} {pos f : Nat} {ws : List (List UInt8)} (h : ScanAt l pos f ws) {d : UInt8} (hd : l[pos]? = some d) (hw : wordByte d = true) : ScanAt l (pos + 1) f ws := by
  have hlt := (List.getElem?_eq_some_iff.1 hd).1
  have hp := piece_more l f pos d h.le hd
  refine ⟨by have := h.le; omega, hlt, h.few, h.words, ?_, ?_⟩
  · rw [hp]
    intro e he
    simp only [List.mem_append, List.mem_singleton] at he
    rcases he with he | rfl
    · exact h.cur e he
    · exact hw
  · rw [hp, h.cut, drop_at l pos d hd]
    simp [cutsFrom, wordByte_space hw]

theorem ScanAt.space {l : List UInt8} {pos f : Nat} {ws : List (List UInt8)} (h : ScanAt l pos f ws) (hd : l[pos]? = some 32) (hf : f < pos) (hn : ws.length + 1 < 3) :
    ScanAt l (pos + 1) (pos + 1) (ws ++ [(l.drop f).take (pos - f)]) := by
  have hlt := (List.getElem?_eq_some_iff.1 hd).1
  refine ⟨Nat.le_refl _, hlt, by simp; omega, ?_, by simp, ?_⟩
  · intro x hx
    simp only [List.mem_append, List.mem_singleton] at hx
    rcases hx with hx | rfl
    · exact h.words x hx
    · refine ⟨fun e => ?_, h.cur⟩
      have := congrArg List.length e
      simp at this
      omega
  · rw [h.cut, drop_at l pos 32 hd]
    simp [cutsFrom]

/-- Where it stops: what is met is not written so. -/
theorem ScanAt.stop {l : List UInt8} {pos f : Nat} {ws : List (List UInt8)} (h : ScanAt l pos f ws) {d : UInt8} (hd : l[pos]? = some d) (hw : wordByte d = false) (hn : ¬ (d = 32 ∧ f < pos ∧ ws.length + 1 < 3)) : ¬ ScanOk l := by
  intro ⟨k1, k2⟩
  have hc := h.cut
  rw [drop_at l pos d hd] at hc
  by_cases e : d = 32
  · subst e
    have hs : cutsFrom 32 ((l.drop f).take (pos - f)) (32 :: l.drop (pos + 1)) = (l.drop f).take (pos - f) :: cutsFrom 32 [] (l.drop (pos + 1)) := by simp [cutsFrom]
    rw [hs] at hc
    by_cases hf : f < pos
    · have hne := cutsFrom_ne 32 (l.drop (pos + 1)) []
      have hl := congrArg List.length hc
      simp only [List.length_append, List.length_cons] at hl
      have : ¬ ws.length + 1 < 3 := fun q => hn ⟨rfl, hf, q⟩
      omega
    · have he : pos - f = 0 := by omega
      have := k1 ((l.drop f).take (pos - f)) (by rw [hc]; simp)
      rw [he] at this
      exact this.1 (by simp)
  · obtain ⟨x, hx, hdx⟩ := cutsFrom_has 32 d e (l.drop (pos + 1)) ((l.drop f).take (pos - f))
    have := (k1 x (by rw [hc]; simp [hx])).2 d hdx
    rw [hw] at this
    exact absurd this (by decide)

theorem ScanAt.ends {l : List UInt8} {pos f : Nat} {ws : List (List UInt8)} (h : ScanAt l pos f ws) (hp : ¬ pos < l.length) : cuts 32 l = ws ++ [l.drop f] ∧ (f < l.length → ScanOk l) ∧ (f = l.length → ¬ ScanOk l) ∧ f ≤ l.length := by
  have e : pos = l.length := by have := h.lt; omega
  have hle := h.le
  have hc := h.cut
  have hcur := h.cur
  subst e
  have e2 : (l.drop f).take (l.length - f) = l.drop f := by
    rw [List.take_of_length_le]; simp
  rw [e2] at hc hcur
  have hc' : cuts 32 l = ws ++ [l.drop f] := by rw [hc]; simp [cutsFrom]
  refine ⟨hc', fun hf => ⟨?_, ?_⟩, fun hf hk => ?_, hle⟩
  · rw [hc']
    intro x hx
    simp only [List.mem_append, List.mem_singleton] at hx
    rcases hx with hx | rfl
    · exact h.words x hx
    · refine ⟨fun e => ?_, hcur⟩
      have := congrArg List.length e
      simp at this
      omega
  · rw [hc']; have := h.few; simp; omega
  · have := (hk.1 (l.drop f) (by rw [hc']; simp)).1
    exact this (by rw [hf]; simp)
end Go.Proofs.YtdicmlbgpbglpaaDoor
