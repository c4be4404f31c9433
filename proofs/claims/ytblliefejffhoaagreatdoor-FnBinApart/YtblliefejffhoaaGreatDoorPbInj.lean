/- PbInj: OfRead20, InsRd, FieldInj, ProgInjM, ProgSameM. -/
import Derived.Test.YtblliefejffhoaaGreatDoorPbTxt
import Derived.Lib.AtoiTie
import Derived.Lib.AtoiAllCases
import Derived.Lib.ItoaNum
import Derived.Test.YtblliefejffhoaaGreatDoorPbSame
/- Digits, read: what names no function (cut out of OfRead2). -/
namespace Go.Proofs.YtblliefejffhoaaGreatDoor
open Go.ChangeShapes Go.WideShapes Go.ChangeAt Go.RowKit Go.Joins
set_option linter.unusedVariables false

theorem decFrom_append (l r : List UInt8) (a b : Nat) (h : Lib.decFrom a l = some b) : Lib.decFrom a (l ++ r) = Lib.decFrom b r := by
  induction l generalizing a with
  | nil => simp only [Lib.decFrom, Option.some.injEq] at h; subst h; rfl
  | cons c t ih =>
    simp only [Lib.decFrom, List.cons_append] at h ⊢
    cases hc : Lib.digitVal c with
    | none => simp [hc] at h
    | some e =>
      simp only [hc] at h ⊢
      exact ih _ h

theorem digitVal_of (d : Nat) (h : d < 10) : Lib.digitVal (UInt8.ofNat (48 + d)) = some d := by
  have : ∀ d : Fin 10, Lib.digitVal (UInt8.ofNat (48 + d.val)) = some d.val := by decide
  exact this ⟨d, h⟩

theorem decFrom_digits (k : Nat) : Lib.decFrom 0 (Lib.decDigits k) = some k := by
  induction k using Nat.strongRecOn with
  | ind k ih =>
    by_cases h : k < 10
    · rw [Lib.decDigits_one h]
      simp only [Lib.decFrom, digitVal_of k h]
      simp
    · rw [Lib.decDigits, dif_neg h, decFrom_append _ _ _ _ (ih (k / 10) (by omega))]
      simp only [Lib.decFrom, digitVal_of (k % 10) (by omega)]
      congr 1
      omega

theorem decDigits_ne (k : Nat) : Lib.decDigits k ≠ [] := by
  rw [Lib.decDigits]
  split <;> simp

theorem decDigits_head (k : Nat) : ∃ c r, Lib.decDigits k = c :: r ∧ 48 ≤ c.toNat ∧ c.toNat ≤ 57 := by
  induction k using Nat.strongRecOn with
  | ind k ih =>
    by_cases h : k < 10
    · have : ∀ d : Fin 10, 48 ≤ (UInt8.ofNat (48 + d.val)).toNat ∧ (UInt8.ofNat (48 + d.val)).toNat ≤ 57 := by decide
      exact ⟨_, _, Lib.decDigits_one h, this ⟨k, h⟩⟩
    · obtain ⟨c, r, e, h1⟩ := ih (k / 10) (by omega)
      rw [Lib.decDigits, dif_neg h, e]
      exact ⟨c, _, rfl, h1⟩

end Go.Proofs.YtblliefejffhoaaGreatDoor

/- The texts of instructions, read: words between spaces, plainly. -/
namespace Go.Proofs.YtblliefejffhoaaGreatDoor
open Go.ChangeShapes Go.WideShapes Go.ChangeAt Go.RowKit
set_option linter.unusedVariables false

/-- What is left of a text, cut at c, behind a piece that has begun. -/
def cutsFrom (c : UInt8) (cur : List UInt8) : List UInt8 → List (List UInt8)
  | [] => [cur]
  | d :: r => if d = c then cur :: cutsFrom c [] r else cutsFrom c (cur ++ [d]) r

/-- A text, cut at c. -/
def cuts (c : UInt8) (l : List UInt8) : List (List UInt8) := cutsFrom c [] l

theorem cutsFrom_free (c : UInt8) (x : List UInt8) (h : ∀ d ∈ x, d ≠ c) (cur r : List UInt8) : cutsFrom c cur (x ++ r) = cutsFrom c (cur ++ x) r := by
  induction x generalizing cur with
  | nil => simp
  | cons d x ih =>
    have h1 : d ≠ c := h d (by simp)
    simp only [List.cons_append, cutsFrom, if_neg h1]
    rw [ih (fun e he => h e (by simp [he]))]
    simp

theorem cuts_last (c : UInt8) (x : List UInt8) (h : ∀ d ∈ x, d ≠ c) : cuts c x = [x] := by
  have := cutsFrom_free c x h [] []
  simpa [cuts, cutsFrom] using this

theorem cuts_more (c : UInt8) (x r : List UInt8) (h : ∀ d ∈ x, d ≠ c) : cuts c (x ++ c :: r) = x :: cuts c r := by
  have := cutsFrom_free c x h [] (c :: r)
  simpa [cuts, cutsFrom] using this

theorem cutsFrom_ne (c : UInt8) (l : List UInt8) (cur : List UInt8) : 0 < (cutsFrom c cur l).length := by
  induction l generalizing cur with
  | nil => simp [cutsFrom]
  | cons d r ih =>
    simp only [cutsFrom]
    split
    · simp
    · exact ih _

/-- The words of a text. -/
def wordsOf (l : List UInt8) : List (List UInt8) := (cuts 32 l).filter (fun x => !x.isEmpty)

/-- A byte that a word is written with. -/
def wordByte (d : UInt8) : Bool := decide ((97 ≤ d.toNat ∧ d.toNat ≤ 122) ∨ (48 ≤ d.toNat ∧ d.toNat ≤ 57))

theorem wordByte_space {d : UInt8} (h : wordByte d = true) : d ≠ 32 := by
  intro e; subst e; exact absurd h (by decide)

def Word (x : List UInt8) : Prop := x ≠ [] ∧ ∀ d ∈ x, wordByte d = true

theorem Word.free {x : List UInt8} (h : Word x) : ∀ d ∈ x, d ≠ 32 := fun d hd => wordByte_space (h.2 d hd)

theorem wordAt_word (k : Nat) (h1 : 1 ≤ k) (h2 : k < 34) : Word (wordAt k) := by
  have : ∀ i : Fin 34, 1 ≤ i.val → wordAt i.val ≠ [] ∧ (wordAt i.val).all wordByte = true := by decide
  have := this ⟨k, h2⟩ h1
  exact ⟨this.1, by simpa using this.2⟩

theorem wordAt_inj {i j : Nat} (h1 : 1 ≤ i) (h2 : i < 34) (h3 : 1 ≤ j) (h4 : j < 34) (h : wordAt i = wordAt j) : i = j := by
  have : ∀ i j : Fin 34, 1 ≤ i.val → 1 ≤ j.val → wordAt i.val = wordAt j.val → i.val = j.val := by decide
  exact this ⟨i, h2⟩ ⟨j, h4⟩ h1 h3 h

theorem decDigits_word (k : Nat) : ∀ d ∈ Lib.decDigits k, wordByte d = true := by
  induction k using Nat.strongRecOn with
  | ind k ih =>
    have one : ∀ d : Nat, d < 10 → wordByte (UInt8.ofNat (48 + d)) = true := by
      intro d hd
      have : ∀ d : Fin 10, wordByte (UInt8.ofNat (48 + d.val)) = true := by decide
      exact this ⟨d, hd⟩
    rw [Lib.decDigits]
    split
    · intro d hd
      simp only [List.mem_singleton] at hd
      rw [hd]; exact one _ (by omega)
    · intro d hd
      simp only [List.mem_append, List.mem_singleton] at hd
      rcases hd with hd | hd
      · exact ih (k / 10) (by omega) d hd
      · rw [hd]; exact one _ (by omega)

theorem ofTxt_word (n : Int) : Word (ofTxt n) := by
  unfold ofTxt
  split
  · exact ⟨by simp, by decide⟩
  · split
    · exact ⟨by simp, by decide⟩
    · exact ⟨decDigits_ne _, decDigits_word _⟩

theorem decDigits_inj {a b : Nat} (h : Lib.decDigits a = Lib.decDigits b) : a = b := by
  have := decFrom_digits a
  rw [h, decFrom_digits b] at this
  exact (Option.some.inj this).symm

theorem decDigits_name (k : Nat) : Lib.decDigits k ≠ [97, 110, 121] ∧ Lib.decDigits k ≠ [99, 104, 105, 112] := by
  obtain ⟨c, r, e, k1, k2⟩ := decDigits_head k
  rw [e]
  constructor
  all_goals
    intro h
    injection h with h _
    subst h
    exact absurd k2 (by decide)

theorem ofTxt_inj {a b : Int} (h1 : -2 ≤ a) (h2 : -2 ≤ b) (h : ofTxt a = ofTxt b) : a = b := by
  have na := decDigits_name a.toNat
  have nb := decDigits_name b.toNat
  unfold ofTxt at h
  by_cases a1 : a = -1
  · rw [if_pos a1] at h
    by_cases b1 : b = -1
    · omega
    rw [if_neg b1] at h
    by_cases b2 : b = -2
    · rw [if_pos b2] at h; exact absurd h (by decide)
    · rw [if_neg b2] at h; exact absurd h.symm nb.1
  rw [if_neg a1] at h
  by_cases a2 : a = -2
  · rw [if_pos a2] at h
    by_cases b1 : b = -1
    · rw [if_pos b1] at h; exact absurd h (by decide)
    rw [if_neg b1] at h
    by_cases b2 : b = -2
    · omega
    · rw [if_neg b2] at h; exact absurd h.symm nb.2
  rw [if_neg a2] at h
  by_cases b1 : b = -1
  · rw [if_pos b1] at h; exact absurd h na.1
  rw [if_neg b1] at h
  by_cases b2 : b = -2
  · rw [if_pos b2] at h; exact absurd h na.2
  rw [if_neg b2] at h
  have := decDigits_inj h
  omega

/-- The words of an instruction. -/
def insWs (op a b : Int) : List (List UInt8) :=
  if spanN op = 0 then [wordAt op.toNat] else if spanN op = 1 then [wordAt op.toNat, ofTxt a] else [wordAt op.toNat, ofTxt a, ofTxt b]

/-- A text is this instruction's. -/
def IsIns (l : List UInt8) (op a b : Int) : Prop := insOk op a b = true ∧ insText op a b = l

theorem isIns_span {l : List UInt8} {op a b : Int} (h : IsIns l op a b) : 1 ≤ op ∧ op ≤ 33 := by
  have := h.1
  simp [insOk] at this
  omega

theorem spanN_le (op : Int) : spanN op ≤ 2 := by
  unfold spanN; repeat' split
  all_goals omega

/-- Words, with one space between them. -/
def joined : List (List UInt8) → List UInt8
  | [] => []
  | [x] => x
  | x :: y :: r => x ++ 32 :: joined (y :: r)

theorem insText_joined {op a b : Int} (h : insOk op a b = true) : insText op a b = joined (insWs op a b) := by
  unfold insText insWs
  rw [h]
  simp only [if_true]
  split
  · rfl
  · split
    · rfl
    · rfl

theorem cuts_joined : ∀ (ws : List (List UInt8)), ws ≠ [] → (∀ x ∈ ws, Word x) → cuts 32 (joined ws) = ws
  | [], h, _ => absurd rfl h
  | [x], _, h => cuts_last 32 x (h x (by simp)).free
  | x :: y :: r, _, h => by
    show cuts 32 (x ++ 32 :: joined (y :: r)) = _
    rw [cuts_more 32 x _ (h x (by simp)).free, cuts_joined (y :: r) (by simp) (fun z hz => h z (by simp [hz]))]

theorem insWs_words {op a b : Int} (h : 1 ≤ op ∧ op ≤ 33) : insWs op a b ≠ [] ∧ ∀ x ∈ insWs op a b, Word x := by
  have hw := wordAt_word op.toNat (by omega) (by omega)
  unfold insWs
  split
  · exact ⟨by simp, fun x hx => by simp at hx; rw [hx]; exact hw⟩
  · split
    · exact ⟨by simp, fun x hx => by simp at hx; rcases hx with rfl | rfl; exact hw; exact ofTxt_word _⟩
    · exact ⟨by simp, fun x hx => by simp at hx; rcases hx with rfl | rfl | rfl; exact hw; exact ofTxt_word _; exact ofTxt_word _⟩

/-- The words of a text that is an instruction's. -/
theorem isIns_cuts {l : List UInt8} {op a b : Int} (h : IsIns l op a b) : cuts 32 l = insWs op a b := by
  have hw := insWs_words (a := a) (b := b) (isIns_span h)
  rw [← h.2, insText_joined h.1, cuts_joined _ hw.1 hw.2]

theorem isIns_words {l : List UInt8} {op a b : Int} (h : IsIns l op a b) : wordsOf l = insWs op a b := by
  have hw := insWs_words (a := a) (b := b) (isIns_span h)
  unfold wordsOf
  rw [isIns_cuts h, List.filter_eq_self]
  intro x hx
  have := (hw.2 x hx).1
  cases x with
  | nil => exact absurd rfl this
  | cons => rfl

theorem insWs_0 (op a b : Int) : (insWs op a b)[0]? = some (wordAt op.toNat) := by
  unfold insWs
  split
  · rfl
  · split <;> rfl
theorem insWs_1 (op a b : Int) (h : 1 ≤ spanN op) : (insWs op a b)[1]? = some (ofTxt a) := by
  unfold insWs
  rw [if_neg (by omega)]
  split <;> rfl
theorem insWs_2 (op a b : Int) (h : 2 ≤ spanN op) : (insWs op a b)[2]? = some (ofTxt b) := by
  unfold insWs
  rw [if_neg (by omega), if_neg (by omega)]
  rfl

/-- What is not there is 0. -/
theorem isIns_zero {l : List UInt8} {op a b : Int} (h : IsIns l op a b) : (spanN op = 0 → a = 0) ∧ (spanN op ≤ 1 → b = 0) ∧ (1 ≤ spanN op → -2 ≤ a ∧ a < 1000000) ∧ (2 ≤ spanN op → 0 ≤ a ∧ 0 ≤ b ∧ b < 1000000) := by
  have h0 := h.1
  have hs := insOk_small h0
  have h1 : spanN op = 1 → -2 ≤ a := fun e => (insOk_one h0 e).1
  have h2 : spanN op = 2 → _ := fun e => insOk_two h0 e
  have h3 := spanN_le op
  have h4 : spanN op = 0 → a = 0 ∧ b = 0 := fun e => by simp [insOk, e] at h0; omega
  have h5 : spanN op = 1 → b = 0 := fun e => by simp [insOk, e] at h0; omega
  refine ⟨fun e => (h4 e).1, fun e => ?_, fun e => ⟨?_, hs.1⟩, fun e => ?_⟩
  · by_cases e0 : spanN op = 0
    · exact (h4 e0).2
    · exact h5 (by omega)
  · by_cases e1 : spanN op = 1
    · exact h1 e1
    · have := h2 (by omega); omega
  · have := h2 (by omega); omega

/-- An instruction's text is its own alone. -/
theorem isIns_inj {l : List UInt8} {op a b op' a' b' : Int} (h : IsIns l op a b) (h' : IsIns l op' a' b') : op = op' ∧ a = a' ∧ b = b' := by
  have e : insWs op a b = insWs op' a' b' := by rw [← isIns_words h, ← isIns_words h']
  have s := isIns_span h
  have s' := isIns_span h'
  have e0 : wordAt op.toNat = wordAt op'.toNat := by
    have := insWs_0 op a b
    rw [e, insWs_0] at this
    exact (Option.some.inj this).symm
  have hop : op = op' := by
    have := wordAt_inj (by omega) (by omega) (by omega) (by omega) e0
    omega
  subst hop
  have z := isIns_zero h
  have z' := isIns_zero h'
  refine ⟨rfl, ?_, ?_⟩
  · by_cases k : spanN op = 0
    · rw [z.1 k, z'.1 k]
    · have h1 := insWs_1 op a b (by omega)
      rw [e, insWs_1 op a' b' (by omega)] at h1
      have r := z.2.2.1 (by omega)
      have r' := z'.2.2.1 (by omega)
      exact (ofTxt_inj r'.1 r.1 (Option.some.inj h1)).symm
  · by_cases k : spanN op ≤ 1
    · rw [z.2.1 k, z'.2.1 k]
    · have h1 := insWs_2 op a b (by omega)
      rw [e, insWs_2 op a' b' (by omega)] at h1
      have r := z.2.2.2 (by omega)
      have r' := z'.2.2.2 (by omega)
      exact (ofTxt_inj (by omega) (by omega) (Option.some.inj h1)).symm

/-- All pieces are words, and they are not too many. -/
def ScanOk (l : List UInt8) : Prop := (∀ x ∈ cuts 32 l, Word x) ∧ (cuts 32 l).length ≤ 3

theorem cutsFrom_has (c d : UInt8) (hd : d ≠ c) (r : List UInt8) : ∀ cur, ∃ x ∈ cutsFrom c cur (d :: r), d ∈ x := by
  have key : ∀ (r cur : List UInt8), d ∈ cur → ∃ x ∈ cutsFrom c cur r, d ∈ x := by
    intro r
    induction r with
    | nil => intro cur h; exact ⟨cur, by simp [cutsFrom], h⟩
    | cons e r ih =>
      intro cur h
      simp only [cutsFrom]
      split
      · exact ⟨cur, by simp, h⟩
      · exact ih _ (by simp [h])
  intro cur
  simp only [cutsFrom, if_neg hd]
  exact key r _ (by simp)

/-- How far the scan is: these words are there, and a piece has begun at f. -/
structure ScanAt (l : List UInt8) (pos f : Nat) (ws : List (List UInt8)) : Prop where
  le : f ≤ pos
  lt : pos ≤ l.length
  few : ws.length ≤ 2
  words : ∀ x ∈ ws, Word x
  cur : ∀ d ∈ (l.drop f).take (pos - f), wordByte d = true
  cut : cuts 32 l = ws ++ cutsFrom 32 ((l.drop f).take (pos - f)) (l.drop pos)

theorem drop_at (l : List UInt8) (k : Nat) (d : UInt8) (h : l[k]? = some d) : l.drop k = d :: l.drop (k + 1) := by
  obtain ⟨hk, rfl⟩ := List.getElem?_eq_some_iff.1 h
  rw [List.drop_eq_getElem_cons hk]

theorem ScanAt.space {l : List UInt8} {pos f : Nat} {ws : List (List UInt8)} (h : ScanAt l pos f ws) (hd : l[pos]? = some 32) (hf : f < pos) (hn : ws.length + 1 < 3) :
    ScanAt l (pos + 1) (pos + 1) (ws ++ [(l.drop f).take (pos - f)]) := by
  have hlt := (List.getElem?_eq_some_iff.1 hd).1
  refine ⟨Nat.le_refl _, hlt, by simp; omega, ?_, by simp, ?_⟩
  · intro x hx
    simp only [List.mem_append, List.mem_singleton] at hx
    rcases hx with hx | rfl
    · exact h.words x hx
    · refine ⟨fun e => ?_, h.cur⟩
      have := congrArg List.length e
      simp at this
      omega
  · rw [h.cut, drop_at l pos 32 hd]
    simp [cutsFrom]

/-- Where it stops: what is met is not written so. -/
theorem ScanAt.stop {l : List UInt8} {pos f : Nat} {ws : List (List UInt8)} (h : ScanAt l pos f ws) {d : UInt8} (hd : l[pos]? = some d) (hw : wordByte d = false) (hn : ¬ (d = 32 ∧ f < pos ∧ ws.length + 1 < 3)) : ¬ ScanOk l := by
  intro ⟨k1, k2⟩
  have hc := h.cut
  rw [drop_at l pos d hd] at hc
  by_cases e : d = 32
  · subst e
    have hs : cutsFrom 32 ((l.drop f).take (pos - f)) (32 :: l.drop (pos + 1)) = (l.drop f).take (pos - f) :: cutsFrom 32 [] (l.drop (pos + 1)) := by simp [cutsFrom]
    rw [hs] at hc
    by_cases hf : f < pos
    · have hne := cutsFrom_ne 32 (l.drop (pos + 1)) []
      have hl := congrArg List.length hc
      simp only [List.length_append, List.length_cons] at hl
      have : ¬ ws.length + 1 < 3 := fun q => hn ⟨rfl, hf, q⟩
      omega
    · have he : pos - f = 0 := by omega
      have := k1 ((l.drop f).take (pos - f)) (by rw [hc]; simp)
      rw [he] at this
      exact this.1 (by simp)
  · obtain ⟨x, hx, hdx⟩ := cutsFrom_has 32 d e (l.drop (pos + 1)) ((l.drop f).take (pos - f))
    have := (k1 x (by rw [hc]; simp [hx])).2 d hdx
    rw [hw] at this
    exact absurd this (by decide)

theorem ScanAt.ends {l : List UInt8} {pos f : Nat} {ws : List (List UInt8)} (h : ScanAt l pos f ws) (hp : ¬ pos < l.length) : cuts 32 l = ws ++ [l.drop f] ∧ (f < l.length → ScanOk l) ∧ (f = l.length → ¬ ScanOk l) ∧ f ≤ l.length := by
  have e : pos = l.length := by have := h.lt; omega
  have hle := h.le
  have hc := h.cut
  have hcur := h.cur
  subst e
  have e2 : (l.drop f).take (l.length - f) = l.drop f := by
    rw [List.take_of_length_le]; simp
  rw [e2] at hc hcur
  have hc' : cuts 32 l = ws ++ [l.drop f] := by rw [hc]; simp [cutsFrom]
  refine ⟨hc', fun hf => ⟨?_, ?_⟩, fun hf hk => ?_, hle⟩
  · rw [hc']
    intro x hx
    simp only [List.mem_append, List.mem_singleton] at hx
    rcases hx with hx | rfl
    · exact h.words x hx
    · refine ⟨fun e => ?_, hcur⟩
      have := congrArg List.length e
      simp at this
      omega
  · rw [hc']; have := h.few; simp; omega
  · have := (hk.1 (l.drop f) (by rw [hc']; simp)).1
    exact this (by rw [hf]; simp)
end Go.Proofs.YtblliefejffhoaaGreatDoor

/- Texts of fields: no two fields that are right have one. -/
namespace Go.Proofs.YtblliefejffhoaaGreatDoor
open Go.ChangeShapes Go.WideShapes Go.ChangeAt Go.RowKit
set_option linter.unusedVariables false

def ofTab : List (List UInt8) := [[99, 104, 105, 112], [97, 110, 121], [48], [49], [50], [51], [52], [53], [54], [55]]

theorem decDigits_one (d : Nat) (h : d < 10) : Lib.decDigits d = [UInt8.ofNat (48 + d)] := by
  rw [Lib.decDigits, dif_pos h]

theorem ofTxt_tab (o : Int) (h1 : -2 ≤ o) (h2 : o < 8) : ofTxt o = ofTab.getD (o + 2).toNat [] := by
  have hc : o = -2 ∨ o = -1 ∨ o = 0 ∨ o = 1 ∨ o = 2 ∨ o = 3 ∨ o = 4 ∨ o = 5 ∨ o = 6 ∨ o = 7 := by omega
  rcases hc with rfl | rfl | rfl | rfl | rfl | rfl | rfl | rfl | rfl | rfl
  · rfl
  · rfl
  all_goals
    unfold ofTxt
    rw [if_neg (by decide), if_neg (by decide), decDigits_one _ (by decide)]
    rfl

/-- All fields that are right, by their places. -/
def fieldTab (k : Fin 3) (o : Fin 10) (m : Bool) : List UInt8 :=
  (if k.val = 0 then [110] else if k.val = 1 then [114] else [115]) ++ (if k.val = 0 then [] else ofTab.getD o.val []) ++ (if m then [33] else [])

theorem fieldTab_inj : ∀ (k k' : Fin 3) (o o' : Fin 10) (m m' : Bool), fieldTab k o m = fieldTab k' o' m' → k = k' ∧ (k.val = 0 ∨ o = o') ∧ m = m' := by decide +kernel

theorem fieldTxt_tab {k o : Int} (h : fieldOk k o 8 = true) (m : Bool) : ∃ (a : Fin 3) (b : Fin 10), fieldTxt k o m = fieldTab a b m ∧ k = a.val + 1 ∧ (k = 1 → o = 0) ∧ (k ≠ 1 → o = (b.val : Int) - 2) := by
  rcases fieldOk_small h with ⟨rfl, rfl⟩ | ⟨hk, h1, h2⟩
  · exact ⟨0, 0, by simp [fieldTxt, h, letter, fieldTab], rfl, fun _ => rfl, fun h => absurd rfl h⟩
  · have hb : (o + 2).toNat < 10 := by omega
    rcases hk with rfl | rfl
    · exact ⟨1, ⟨(o + 2).toNat, hb⟩, by simp [fieldTxt, h, letter, fieldTab, ofTxt_tab o h1 h2], rfl, fun h => absurd h (by decide), fun _ => by simp; omega⟩
    · exact ⟨2, ⟨(o + 2).toNat, hb⟩, by simp [fieldTxt, h, letter, fieldTab, ofTxt_tab o h1 h2], rfl, fun h => absurd h (by decide), fun _ => by simp; omega⟩

theorem fieldTxt_inj {k o k' o' : Int} {m m' : Bool} (h : fieldOk k o 8 = true) (h' : fieldOk k' o' 8 = true) (e : fieldTxt k o m = fieldTxt k' o' m') : k = k' ∧ o = o' ∧ m = m' := by
  obtain ⟨a, b, ea, ka, za, oa⟩ := fieldTxt_tab h m
  obtain ⟨a', b', ea', ka', za', oa'⟩ := fieldTxt_tab h' m'
  rw [ea, ea'] at e
  obtain ⟨q1, q2, q3⟩ := fieldTab_inj a a' b b' m m' e
  subst q1
  refine ⟨by omega, ?_, q3⟩
  by_cases hk : k = 1
  · rw [za hk, za' (by omega)]
  · rcases q2 with q2 | q2
    · omega
    · subst q2
      rw [oa hk, oa' (by omega)]

end Go.Proofs.YtblliefejffhoaaGreatDoor

/- No two programs that are right have one text. -/
namespace Go.Proofs.YtblliefejffhoaaGreatDoor
set_option linter.unusedVariables false

/-- Lists whose parts each begin with an element that p says of, and of no other one of theirs, are one behind another. -/
theorem span_inj {L : Type} (p : L → Bool) : ∀ (r r' s s' : List L), (∀ x ∈ r, p x = false) → (∀ x ∈ r', p x = false) → (s = [] ∨ ∃ h t, s = h :: t ∧ p h = true) → (s' = [] ∨ ∃ h t, s' = h :: t ∧ p h = true) → r ++ s = r' ++ s' → r = r' ∧ s = s'
  | [], [], s, s', _, _, _, _, e => ⟨rfl, by simpa using e⟩
  | [], y :: r', s, s', _, h', hs, _, e => by
    have e' : s = y :: (r' ++ s') := by simpa using e
    rcases hs with h0 | ⟨h, t, h0, hp⟩
    · rw [h0] at e'; cases e'
    · rw [h0] at e'
      injection e' with e1 _
      rw [e1, h' y (List.mem_cons_self ..)] at hp
      cases hp
  | x :: r, [], s, s', h, _, _, hs', e => by
    have e' : x :: (r ++ s) = s' := by simpa using e
    rcases hs' with h0 | ⟨h1, t, h0, hp⟩
    · rw [h0] at e'; cases e'
    · rw [h0] at e'
      injection e' with e1 _
      rw [← e1, h x (List.mem_cons_self ..)] at hp
      cases hp
  | x :: r, y :: r', s, s', h, h', hs, hs', e => by
    simp only [List.cons_append, List.cons.injEq] at e
    obtain ⟨q1, q2⟩ := span_inj p r r' s s' (fun z hz => h z (List.mem_cons_of_mem _ hz)) (fun z hz => h' z (List.mem_cons_of_mem _ hz)) hs hs' e.2
    exact ⟨by rw [e.1, q1], q2⟩
theorem blocks_inj {α L : Type} (F : α → List L) (p : L → Bool) (ok : α → Prop) (hF : ∀ a, ok a → ∃ h r, F a = h :: r ∧ p h = true ∧ ∀ x ∈ r, p x = false) :
    ∀ (us vs : List α), (∀ a ∈ us, ok a) → (∀ b ∈ vs, ok b) → us.flatMap F = vs.flatMap F → us.map F = vs.map F
  | [], [], _, _, _ => rfl
  | [], b :: vs, _, hb, e => by
    obtain ⟨h, r, h1, _⟩ := hF b (hb b (List.mem_cons_self ..))
    simp [h1] at e
  | a :: us, [], ha, _, e => by
    obtain ⟨h, r, h1, _⟩ := hF a (ha a (List.mem_cons_self ..))
    simp [h1] at e
  | a :: us, b :: vs, ha, hb, e => by
    obtain ⟨h, r, h1, h2, h3⟩ := hF a (ha a (List.mem_cons_self ..))
    obtain ⟨h', r', h1', h2', h3'⟩ := hF b (hb b (List.mem_cons_self ..))
    have st : ∀ (cs : List α), (∀ c ∈ cs, ok c) → (cs.flatMap F = [] ∨ ∃ h t, cs.flatMap F = h :: t ∧ p h = true) := fun cs hc => by
      cases cs with
      | nil => exact .inl rfl
      | cons c cs =>
        obtain ⟨k, q, k1, k2, _⟩ := hF c (hc c (List.mem_cons_self ..))
        exact .inr ⟨k, q ++ cs.flatMap F, by simp [k1], k2⟩
    simp only [List.flatMap_cons, h1, h1', List.cons_append, List.cons.injEq] at e
    obtain ⟨q1, q2⟩ := span_inj p r r' _ _ h3 h3' (st us fun c hc => ha c (List.mem_cons_of_mem _ hc)) (st vs fun c hc => hb c (List.mem_cons_of_mem _ hc)) e.2
    have := blocks_inj F p ok hF us vs (fun c hc => ha c (List.mem_cons_of_mem _ hc)) (fun c hc => hb c (List.mem_cons_of_mem _ hc)) q2
    simp only [List.map_cons, h1, h1', this, e.1, q1]
theorem map_inj_on {α β : Type} (F : α → β) (ok : α → Prop) (hF : ∀ a b, ok a → ok b → F a = F b → a = b) : ∀ (us vs : List α), (∀ a ∈ us, ok a) → (∀ b ∈ vs, ok b) → us.map F = vs.map F → us = vs
  | [], [], _, _, _ => rfl
  | [], b :: vs, _, _, e => by simp at e
  | a :: us, [], _, _, e => by simp at e
  | a :: us, b :: vs, ha, hb, e => by
    simp only [List.map_cons, List.cons.injEq] at e
    rw [hF a b (ha a (List.mem_cons_self ..)) (hb b (List.mem_cons_self ..)) e.1, map_inj_on F ok hF us vs (fun c hc => ha c (List.mem_cons_of_mem _ hc)) (fun c hc => hb c (List.mem_cons_of_mem _ hc)) e.2]

theorem unl_inj : ∀ (a b : List (List UInt8)), (∀ l ∈ a, noNl l) → (∀ l ∈ b, noNl l) → unl a = unl b → a = b
  | [], [], _, _, _ => rfl
  | [], y :: b, _, _, e => by simp [unl] at e
  | x :: a, [], _, _, e => by simp [unl] at e
  | x :: a, y :: b, ha, hb, e => by
    have e' : x ++ (10 :: unl a) = y ++ (10 :: unl b) := by simpa [unl] using e
    obtain ⟨q1, q2⟩ := span_inj (fun d : UInt8 => d == 10) x y _ _ (fun d hd => by simp; intro h; subst h; exact ha x (List.mem_cons_self ..) hd) (fun d hd => by simp; intro h; subst h; exact hb y (List.mem_cons_self ..) hd) (.inr ⟨10, _, rfl, rfl⟩) (.inr ⟨10, _, rfl, rfl⟩) e'
    injection q2 with _ q3
    rw [q1, unl_inj a b (fun l hl => ha l (List.mem_cons_of_mem _ hl)) (fun l hl => hb l (List.mem_cons_of_mem _ hl)) q3]

/-- A word that has no space. -/
def noSp (l : List UInt8) : Prop := ∀ d ∈ l, d ≠ 32
theorem noSp_of {l : List UInt8} (h : l.all (fun d => d != 32) = true) : noSp l := fun d hd => by
  have := List.all_eq_true.1 h d hd
  simpa using this
def spW (l : List UInt8) : List UInt8 := 32 :: l
theorem words_inj (a b : List (List UInt8)) (ha : ∀ l ∈ a, noSp l) (hb : ∀ l ∈ b, noSp l) (e : a.flatMap spW = b.flatMap spW) : a = b := by
  have := blocks_inj spW (fun d : UInt8 => d == 32) noSp (fun l hl => ⟨32, l, rfl, rfl, fun d hd => by simp; exact hl d hd⟩) a b ha hb e
  exact map_inj_on spW noSp (fun x y _ _ h => by injection h) a b ha hb this
theorem fdTxt_noSp (f : Fd) : noSp (fdTxt f) := by
  unfold fdTxt fieldTxt
  split
  · intro d hd
    rcases List.mem_append.1 hd with hd | hd
    · rcases List.mem_append.1 hd with hd | hd
      · unfold letter at hd
        repeat' split at hd
        all_goals (simp at hd; try (subst hd; decide))
      · split at hd
        · cases hd
        · exact (ofTxt_word _).free d hd
    · split at hd
      · simp at hd; subst hd; decide
      · cases hd
  · intro d hd; cases hd
/-- A field that is right among the most types that there may be. -/
def fOk (f : Fd) : Prop := fieldOk f.kind f.of 8 = true
theorem fdTxt_inj (f g : Fd) (hf : fOk f) (hg : fOk g) (e : fdTxt f = fdTxt g) : f = g := by
  obtain ⟨q1, q2, q3⟩ := fieldTxt_inj hf hg e
  cases f
  cases g
  simp_all
theorem fdsTxt_eq (fs : List Fd) : fdsTxt fs = (fs.map fdTxt).flatMap spW := by
  induction fs with
  | nil => rfl
  | cons f r ih =>
    have e : fdsTxt (f :: r) = (32 :: fdTxt f) ++ fdsTxt r := by simp [fdsTxt]
    rw [e, ih]; rfl
theorem fds_noSp (fs : List Fd) : ∀ l ∈ fs.map fdTxt, noSp l := fun l hl => by
  obtain ⟨f, _, rfl⟩ := List.mem_map.1 hl
  exact fdTxt_noSp f
theorem fds_inj (fs gs : List Fd) (hf : ∀ f ∈ fs, fOk f) (hg : ∀ g ∈ gs, fOk g) (e : fs.map fdTxt = gs.map fdTxt) : fs = gs := map_inj_on fdTxt fOk fdTxt_inj fs gs hf hg e

theorem fdTxt_head (f : Fd) (h : fOk f) : ∃ d r, fdTxt f = d :: r ∧ (d = 110 ∨ d = 114 ∨ d = 115) := by
  unfold fOk at h
  unfold fdTxt fieldTxt
  rw [if_pos h]
  rcases fieldOk_small h with ⟨h1, _⟩ | ⟨h1 | h1, _⟩
  · exact ⟨110, _, by rw [h1]; rfl, .inl rfl⟩
  · exact ⟨114, _, by rw [h1]; rfl, .inr (.inl rfl)⟩
  · exact ⟨115, _, by rw [h1]; rfl, .inr (.inr rfl)⟩

def lastWs (b : Bool) : List (List UInt8) := if b then [[108, 97, 115, 116]] else []
theorem lastTxt_eq (b : Bool) : lastTxt b = (lastWs b).flatMap spW := by cases b <;> rfl
theorem upTxt_noSp (u : Int) : noSp (upTxt u) := by
  unfold upTxt
  split
  · intro d hd; simp at hd; subst hd; decide
  · intro d hd; exact wordByte_space (decDigits_word _ d hd)
theorem upTxt_inj (u v : Int) (hu : -1 ≤ u) (hv : -1 ≤ v) (e : upTxt u = upTxt v) : u = v := by
  have ne : ∀ k, Lib.decDigits k ≠ [45] := fun k h => by
    have := decDigits_word k 45 (by rw [h]; simp)
    exact absurd this (by decide)
  unfold upTxt at e
  split at e
  · split at e
    · omega
    · exact absurd e.symm (ne _)
  · split at e
    · exact absurd e (ne _)
    · have := decDigits_inj e
      omega
/-- A type that is right. -/
def tOk (t : Ty) : Prop := (t.kind = 1 ∨ t.kind = 2) ∧ -1 ≤ t.up ∧ ∀ f ∈ t.fields, fOk f
theorem tyLine_eq (t : Ty) : tyLine t = kindTxt t.kind ++ ((upTxt t.up :: (t.fields.map fdTxt ++ lastWs t.last)).flatMap spW) := by
  unfold tyLine
  rw [fdsTxt_eq, lastTxt_eq]
  simp [List.flatMap_cons, List.flatMap_append, spW]
theorem filter_split {α : Type} (p : α → Bool) (a b : List α) (ha : ∀ x ∈ a, p x = false) (hb : ∀ x ∈ b, p x = true) : (a ++ b).filter p = b ∧ (a ++ b).filter (fun x => !p x) = a := by
  constructor
  · rw [List.filter_append, List.filter_eq_nil_iff.2 (fun x hx => by simp [ha x hx]), List.filter_eq_self.2 hb]; rfl
  · rw [List.filter_append, List.filter_eq_self.2 (fun x hx => by simp [ha x hx]), List.filter_eq_nil_iff.2 (fun x hx => by simp [hb x hx])]; simp
theorem filter_inj {α : Type} (p : α → Bool) (a b a' b' : List α) (ha : ∀ x ∈ a, p x = false) (hb : ∀ x ∈ b, p x = true) (ha' : ∀ x ∈ a', p x = false) (hb' : ∀ x ∈ b', p x = true) (e : a ++ b = a' ++ b') : a = a' ∧ b = b' := by
  have q := filter_split p a b ha hb
  have q' := filter_split p a' b' ha' hb'
  rw [e] at q
  exact ⟨q.2.symm.trans q'.2, q.1.symm.trans q'.1⟩
def isLast (l : List UInt8) : Bool := l == [108, 97, 115, 116]
theorem fds_last (fs : List Fd) (h : ∀ f ∈ fs, fOk f) : ∀ l ∈ fs.map fdTxt, isLast l = false := fun l hl => by
  obtain ⟨f, hf, rfl⟩ := List.mem_map.1 hl
  obtain ⟨d, r, e, hd⟩ := fdTxt_head f (h f hf)
  rw [e]
  unfold isLast
  rcases hd with rfl | rfl | rfl <;> simp
theorem lastWs_last (b : Bool) : ∀ l ∈ lastWs b, isLast l = true := by
  cases b
  · intro l hl; cases hl
  · intro l hl; simp [lastWs] at hl; subst hl; rfl
theorem tyLine_inj (t u : Ty) (ht : tOk t) (hu : tOk u) (e : tyLine t = tyLine u) : t = u := by
  rw [tyLine_eq, tyLine_eq] at e
  have e1 := List.append_inj e (by rw [kindTxt_len, kindTxt_len])
  have hw : ∀ (v : Ty), ∀ l ∈ (upTxt v.up :: (v.fields.map fdTxt ++ lastWs v.last)), noSp l := fun v l hl => by
    rcases List.mem_cons.1 hl with rfl | hl
    · exact upTxt_noSp _
    · rcases List.mem_append.1 hl with hl | hl
      · exact fds_noSp _ l hl
      · cases hb : v.last
        · rw [hb] at hl; cases hl
        · rw [hb] at hl; simp [lastWs] at hl; subst hl; exact noSp_of (by decide)
  have e2 := words_inj _ _ (hw t) (hw u) e1.2
  injection e2 with e3 e4
  obtain ⟨e5, e6⟩ := filter_inj isLast _ _ _ _ (fds_last _ ht.2.2) (lastWs_last _) (fds_last _ hu.2.2) (lastWs_last _) e4
  have k : t.kind = u.kind := by
    have := e1.1
    unfold kindTxt at this
    rcases ht.1 with h | h <;> rcases hu.1 with h' | h' <;> simp [h, h'] at this ⊢
  have l : t.last = u.last := by
    cases h : t.last <;> cases h' : u.last <;> simp [h, h', lastWs] at e6 ⊢
  have f := fds_inj _ _ ht.2.2 hu.2.2 e5
  have up := upTxt_inj _ _ ht.2.1 hu.2.1 e3
  cases t
  cases u
  simp_all

/-- An instruction that is right. -/
def iOk (i : GIns) : Prop := insOk i.op i.a i.b = true
theorem insLine_inj (i j : GIns) (hi : iOk i) (hj : iOk j) (e : insLine i = insLine j) : i = j := by
  obtain ⟨q1, q2, q3⟩ := isIns_inj (l := insLine i) ⟨hi, rfl⟩ ⟨hj, e.symm⟩
  cases i
  cases j
  simp_all
theorem insLine_head (i : GIns) (h : iOk i) : ∃ r, (1 ≤ i.op ∧ i.op ≤ 33) ∧ insLine i = wordAt i.op.toNat ++ r ∧ (r = [] ∨ ∃ t, r = 32 :: t) := by
  have hs := isIns_span (l := insLine i) ⟨h, rfl⟩
  unfold insLine insText
  unfold iOk at h
  rw [if_pos h]
  split
  · exact ⟨[], hs, by simp, .inl rfl⟩
  · split
    · exact ⟨_, hs, rfl, .inr ⟨_, rfl⟩⟩
    · exact ⟨_, hs, rfl, .inr ⟨_, rfl⟩⟩
/-- What a line begins with, up to its first space. -/
theorem sp_form (a : List UInt8) (r : List (List UInt8)) : (a :: r).flatMap spW = 32 :: (a ++ r.flatMap spW) := by simp [spW]
def headW (l : List UInt8) : List UInt8 := l.takeWhile (fun d => d != 32)
theorem headW_of (x r : List UInt8) (hx : noSp x) (hr : r = [] ∨ ∃ t, r = 32 :: t) : headW (x ++ r) = x := by
  unfold headW
  rw [List.takeWhile_append_of_pos (fun d hd => by simp; exact hx d hd)]
  rcases hr with rfl | ⟨t, rfl⟩
  · simp
  · simp
theorem headW_ins (i : GIns) (h : iOk i) : ∃ k, (1 ≤ k ∧ k < 34) ∧ headW (insLine i) = wordAt k := by
  obtain ⟨r, ⟨h1, h2⟩, e, hr⟩ := insLine_head i h
  refine ⟨i.op.toNat, ⟨by omega, by omega⟩, ?_⟩
  rw [e]
  exact headW_of _ _ (wordAt_word _ (by omega) (by omega)).free hr
theorem ins_not (w : List UInt8) (hw : ∀ k : Fin 34, wordAt k.val ≠ w) (i : GIns) (h : iOk i) : (headW (insLine i) == w) = false := by
  obtain ⟨k, ⟨_, hk⟩, e⟩ := headW_ins i h
  rw [e]
  simpa using hw ⟨k, hk⟩

/-- A function that is right. -/
def gOk (f : GFun) : Prop := (∀ t ∈ f.takes, fOk t) ∧ fOk f.gives ∧ (∀ t ∈ f.own, fOk t) ∧ ∀ i ∈ f.body, iOk i
def isFunL (l : List UInt8) : Bool := headW l == [102, 117, 110]
def isOwnL (l : List UInt8) : Bool := headW l == ownW
theorem funHead_eq (f : GFun) : funHead f = [102, 117, 110] ++ ((f.gives :: f.takes).map fdTxt).flatMap spW := by
  unfold funHead
  rw [fdsTxt_eq]
  simp [funW, spW]
theorem funHead_is (f : GFun) : isFunL (funHead f) = true := by
  unfold isFunL
  rw [funHead_eq, List.map_cons, sp_form, headW_of [102, 117, 110] _ (noSp_of (by decide)) (.inr ⟨_, rfl⟩)]
  rfl
theorem funHead_inj (f g : GFun) (hf : gOk f) (hg : gOk g) (e : funHead f = funHead g) : f.gives = g.gives ∧ f.takes = g.takes := by
  rw [funHead_eq, funHead_eq] at e
  have e1 := words_inj _ _ (fds_noSp _) (fds_noSp _) (List.append_cancel_left e)
  have ok : ∀ (h : GFun), gOk h → ∀ t ∈ h.gives :: h.takes, fOk t := fun h hh t ht => by
    rcases List.mem_cons.1 ht with rfl | ht
    · exact hh.2.1
    · exact hh.1 t ht
  have e2 := fds_inj _ _ (ok f hf) (ok g hg) e1
  injection e2 with e3 e4
  exact ⟨e3, e4⟩
theorem ownLs_own (f : GFun) : ∀ l ∈ ownLs f, isOwnL l = true := fun l hl => by
  unfold ownLs at hl
  split at hl
  · cases hl
  · rw [List.mem_singleton.1 hl]
    rename_i h0
    have hne : f.own ≠ [] := fun e => h0 (by rw [e]; rfl)
    obtain ⟨a, r, e⟩ := List.exists_cons_of_ne_nil hne
    unfold isOwnL
    rw [e, fdsTxt_eq, List.map_cons, sp_form, headW_of ownW _ (noSp_of (by decide)) (.inr ⟨_, rfl⟩)]
    rfl
theorem ownLs_fun (f : GFun) : ∀ l ∈ ownLs f, isFunL l = false := fun l hl => by
  have := ownLs_own f l hl
  unfold isOwnL at this
  unfold isFunL
  rw [eq_of_beq this]
  decide
theorem body_own (f : GFun) (h : gOk f) : ∀ l ∈ f.body.map insLine, isOwnL l = false := fun l hl => by
  obtain ⟨i, hi, rfl⟩ := List.mem_map.1 hl
  exact ins_not _ (by decide) i (h.2.2.2 i hi)
theorem body_fun (f : GFun) (h : gOk f) : ∀ l ∈ f.body.map insLine, isFunL l = false := fun l hl => by
  obtain ⟨i, hi, rfl⟩ := List.mem_map.1 hl
  exact ins_not _ (by decide) i (h.2.2.2 i hi)
theorem funLs_eq (f : GFun) : funLs f = funHead f :: (ownLs f ++ f.body.map insLine) := by
  simp [funLs, funTo]
theorem ownLs_inj (f g : GFun) (hf : gOk f) (hg : gOk g) (e : ownLs f = ownLs g) : f.own = g.own := by
  unfold ownLs at e
  split at e
  · split at e
    · rename_i h1 h2
      rw [List.length_eq_zero_iff.1 h1, List.length_eq_zero_iff.1 h2]
    · cases e
  · split at e
    · cases e
    · injection e with e _
      have e1 := List.append_cancel_left e
      rw [fdsTxt_eq, fdsTxt_eq] at e1
      exact fds_inj _ _ hf.2.2.1 hg.2.2.1 (words_inj _ _ (fds_noSp _) (fds_noSp _) e1)
theorem funLs_inj (f g : GFun) (hf : gOk f) (hg : gOk g) (e : funLs f = funLs g) : f = g := by
  rw [funLs_eq, funLs_eq] at e
  injection e with e1 e2
  obtain ⟨q1, q2⟩ := funHead_inj f g hf hg e1
  have key : ∀ (h : GFun), gOk h → (ownLs h ++ h.body.map insLine).filter isOwnL = ownLs h ∧ (ownLs h ++ h.body.map insLine).filter (fun l => !isOwnL l) = h.body.map insLine := fun h hh => by
    constructor
    · rw [List.filter_append, List.filter_eq_self.2 (ownLs_own h), List.filter_eq_nil_iff.2 (fun x hx => by simp [body_own h hh x hx])]; simp
    · rw [List.filter_append, List.filter_eq_nil_iff.2 (fun x hx => by simp [ownLs_own h x hx]), List.filter_eq_self.2 (fun x hx => by simp [body_own h hh x hx])]; rfl
  have k1 := key f hf
  rw [e2] at k1
  have o := ownLs_inj f g hf hg (k1.1.symm.trans (key g hg).1)
  have b := map_inj_on insLine iOk insLine_inj _ _ hf.2.2.2 hg.2.2.2 (k1.2.symm.trans (key g hg).2)
  cases f
  cases g
  simp_all

/-- A program's parts, each right by itself. -/
def pOk (p : GProg) : Prop := (∀ g ∈ p.types, ∀ t ∈ g, tOk t) ∧ (∀ f ∈ p.glob, fOk f) ∧ (∀ f ∈ p.funs, gOk f) ∧ 0 < p.funs.length
theorem groups_inj (gs hs : List (List Ty)) (hg : ∀ g ∈ gs, ∀ t ∈ g, tOk t) (hh : ∀ g ∈ hs, ∀ t ∈ g, tOk t) (e : gs.flatMap (fun g => grTo g g.length) = hs.flatMap (fun g => grTo g g.length)) : gs = hs := by
  have hF : ∀ g : List Ty, (∀ t ∈ g, tOk t) → ∃ h r, grTo g g.length = h :: r ∧ (h == groupW) = true ∧ ∀ x ∈ r, (x == groupW) = false := fun g hg => by
    refine ⟨groupW, g.map tyLine, by simp [grTo], by simp, fun x hx => ?_⟩
    obtain ⟨t, ht, rfl⟩ := List.mem_map.1 hx
    rw [tyLine_eq]
    rcases (hg t ht).1 with h | h
    · rw [h]; simp [kindTxt, groupW]
    · rw [h]; simp [kindTxt, groupW]
  have := blocks_inj (fun g : List Ty => grTo g g.length) (fun l => l == groupW) (fun g => ∀ t ∈ g, tOk t) hF gs hs hg hh e
  refine map_inj_on _ (fun g : List Ty => ∀ t ∈ g, tOk t) (fun a b ha hb h => ?_) gs hs hg hh this
  have h' : groupW :: a.map tyLine = groupW :: b.map tyLine := by simpa [grTo] using h
  injection h' with _ h2
  exact map_inj_on tyLine tOk tyLine_inj a b ha hb h2
def isGlobL (l : List UInt8) : Bool := headW l == globW
theorem types_head (gs : List (List Ty)) (hg : ∀ g ∈ gs, ∀ t ∈ g, tOk t) : ∀ l ∈ gs.flatMap (fun g => grTo g g.length), isGlobL l = false ∧ isFunL l = false := fun l hl => by
  obtain ⟨g, hgg, hl⟩ := List.mem_flatMap.1 hl
  rcases List.mem_cons.1 hl with rfl | hl
  · exact ⟨by decide, by decide⟩
  · obtain ⟨t, ht, rfl⟩ := List.mem_map.1 hl
    have ht' := hg g hgg t (List.mem_of_mem_take ht)
    unfold isGlobL isFunL
    have hk : noSp (kindTxt t.kind) := by
      unfold kindTxt
      split
      · exact noSp_of (by decide)
      · exact noSp_of (by decide)
    rw [tyLine_eq, sp_form, headW_of (kindTxt t.kind) _ hk (.inr ⟨_, rfl⟩)]
    rcases ht'.1 with h | h
    · rw [h]; decide
    · rw [h]; decide
theorem globLs_glob (gl : List Fd) : ∀ l ∈ globLs gl, isGlobL l = true := fun l hl => by
  unfold globLs at hl
  split at hl
  · cases hl
  · rw [List.mem_singleton.1 hl]
    rename_i h0
    have hne : gl ≠ [] := fun e => h0 (by rw [e]; rfl)
    obtain ⟨a, r, e⟩ := List.exists_cons_of_ne_nil hne
    unfold isGlobL
    rw [e, fdsTxt_eq, List.map_cons, sp_form, headW_of globW _ (noSp_of (by decide)) (.inr ⟨_, rfl⟩)]
    rfl
theorem globLs_fun (gl : List Fd) : ∀ l ∈ globLs gl, isFunL l = false := fun l hl => by
  have := globLs_glob gl l hl
  unfold isGlobL at this
  unfold isFunL
  rw [eq_of_beq this]
  decide
theorem globLs_inj (f g : List Fd) (hf : ∀ t ∈ f, fOk t) (hg : ∀ t ∈ g, fOk t) (e : globLs f = globLs g) : f = g := by
  unfold globLs at e
  split at e
  · split at e
    · rename_i h1 h2
      rw [List.length_eq_zero_iff.1 h1, List.length_eq_zero_iff.1 h2]
    · cases e
  · split at e
    · cases e
    · injection e with e _
      have e1 := List.append_cancel_left e
      rw [fdsTxt_eq, fdsTxt_eq] at e1
      exact fds_inj _ _ hf hg (words_inj _ _ (fds_noSp _) (fds_noSp _) e1)
theorem progLs_inj (p q : GProg) (hp : pOk p) (hq : pOk q) (e : progLs p = progLs q) : p = q := by
  have ex : ∀ (r : GProg), progLs r = (r.types.flatMap (fun g => grTo g g.length) ++ globLs r.glob) ++ r.funs.flatMap funLs := fun r => by
    simp [progLs, typesTo, funsLs]
  rw [ex, ex] at e
  have hs : ∀ (r : GProg), pOk r → (r.funs.flatMap funLs = [] ∨ ∃ h t, r.funs.flatMap funLs = h :: t ∧ isFunL h = true) := fun r hr => by
    cases hf : r.funs with
    | nil => exact .inl rfl
    | cons f fs => exact .inr ⟨funHead f, (ownLs f ++ f.body.map insLine) ++ fs.flatMap funLs, by simp [funLs_eq], funHead_is f⟩
  have hn : ∀ (r : GProg), pOk r → ∀ l ∈ r.types.flatMap (fun g => grTo g g.length) ++ globLs r.glob, isFunL l = false := fun r hr l hl => by
    rcases List.mem_append.1 hl with hl | hl
    · exact (types_head _ hr.1 l hl).2
    · exact globLs_fun _ l hl
  obtain ⟨e1, e2⟩ := span_inj isFunL _ _ _ _ (hn p hp) (hn q hq) (hs p hp) (hs q hq) e
  obtain ⟨e3, e4⟩ := filter_inj isGlobL _ _ _ _ (fun l hl => (types_head _ hp.1 l hl).1) (globLs_glob _) (fun l hl => (types_head _ hq.1 l hl).1) (globLs_glob _) e1
  have t := groups_inj _ _ hp.1 hq.1 e3
  have g := globLs_inj _ _ hp.2.1 hq.2.1 e4
  have hF : ∀ f : GFun, gOk f → ∃ h r, funLs f = h :: r ∧ isFunL h = true ∧ ∀ x ∈ r, isFunL x = false := fun f hf =>
    ⟨funHead f, ownLs f ++ f.body.map insLine, funLs_eq f, funHead_is f, fun x hx => (List.mem_append.1 hx).elim (ownLs_fun f x) (body_fun f hf x)⟩
  have f := map_inj_on funLs gOk funLs_inj _ _ hp.2.2.1 hq.2.2.1 (blocks_inj funLs isFunL gOk hF _ _ hp.2.2.1 hq.2.2.1 e2)
  cases p
  cases q
  simp_all
end Go.Proofs.YtblliefejffhoaaGreatDoor

/- When two programs are one, as lists; by their texts. -/
namespace Go.Proofs.YtblliefejffhoaaGreatDoor
set_option linter.unusedVariables false

theorem upTo_iff (P : Nat → Bool) (n : Nat) : upTo P n = true ↔ ∀ i, i < n → P i = true := by
  induction n with
  | zero => simp [upTo]
  | succ n ih =>
    simp only [upTo, Bool.and_eq_true, ih]
    exact ⟨fun h i hi => by
      by_cases e : i = n
      · rw [e]; exact h.2
      · exact h.1 i (by omega), fun h => ⟨fun i hi => h i (by omega), h n (by omega)⟩⟩
theorem lst_same {α : Type} (d : α) (S : α → α → Bool) (hS : ∀ a b, S a b = true ↔ a = b) (us vs : List α) : (decide (us.length = vs.length) && upTo (fun i => S (us.getD i d) (vs.getD i d)) us.length) = true ↔ us = vs := by
  rw [Bool.and_eq_true, decide_eq_true_eq, upTo_iff]
  constructor
  · rintro ⟨h1, h2⟩
    refine List.ext_getElem h1 fun i hi hi' => ?_
    have := (hS _ _).1 (h2 i hi)
    simpa [hi, hi'] using this
  · rintro rfl
    exact ⟨rfl, fun i _ => (hS _ _).2 rfl⟩
theorem fdSame_iff (a b : Fd) : fdSame a b = true ↔ a = b := by
  cases a; cases b; simp [fdSame]
theorem insSame_iff (a b : GIns) : insSame a b = true ↔ a = b := by
  cases a; cases b; simp [insSame]
theorem fdsSame_iff (a b : List Fd) : fdsSame a b = true ↔ a = b := lst_same _ fdSame fdSame_iff a b
theorem inssSame_iff (a b : List GIns) : inssSame a b = true ↔ a = b := lst_same _ insSame insSame_iff a b
theorem tySame_iff (a b : Ty) : tySame a b = true ↔ a = b := by
  cases a; cases b
  simp [tySame, fdsSame_iff]
theorem tysSame_iff (a b : List Ty) : tysSame a b = true ↔ a = b := lst_same _ tySame tySame_iff a b
theorem grsSame_iff (a b : List (List Ty)) : grsSame a b = true ↔ a = b := lst_same _ tysSame tysSame_iff a b
theorem funSame_iff (a b : GFun) : funSame a b = true ↔ a = b := by
  obtain ⟨t, g, o, y⟩ := a
  obtain ⟨t', g', o', y'⟩ := b
  simp only [funSame, Bool.and_eq_true, fdSame_iff, fdsSame_iff, inssSame_iff, GFun.mk.injEq]
  exact ⟨fun ⟨h1, h2, h3, h4⟩ => ⟨h2, h1, h3, h4⟩, fun ⟨h2, h1, h3, h4⟩ => ⟨h1, h2, h3, h4⟩⟩
theorem funsSame_iff (a b : List GFun) : funsSame a b = true ↔ a = b := lst_same _ funSame funSame_iff a b
theorem progSame_iff (p q : GProg) : progSame p q = true ↔ p = q := by
  cases p; cases q
  simp [progSame, grsSame_iff, fdsSame_iff, funsSame_iff]
theorem progSame_refl (p : GProg) : progSame p p = true := (progSame_iff p p).2 rfl
theorem progSame_comm (p q : GProg) : progSame p q = progSame q p := by
  rw [Bool.eq_iff_iff, progSame_iff, progSame_iff]
  exact ⟨fun h => h.symm, fun h => h.symm⟩
theorem progSame_ne {p q : GProg} (h : p ≠ q) : progSame p q = false := by
  cases e : progSame p q
  · rfl
  · exact absurd ((progSame_iff p q).1 e) h

theorem fieldOk_wide {k o n : Int} (h : fieldOk k o n = true) (hn : n ≤ 8) : fieldOk k o 8 = true := by
  unfold fieldOk at h ⊢
  split at h
  · rw [if_pos ‹_›]; exact h
  · rw [if_neg ‹_›]
    split at h
    · rw [if_pos ‹_›]; simp at h ⊢; omega
    · cases h
theorem sOk_fOk {n : Int} {f : Fd} (h : sOk n f = true) (hn : n ≤ 8) : fOk f := by
  unfold sOk sortOk at h
  simp only [Bool.and_eq_true] at h
  exact fieldOk_wide h.1 hn
theorem sorts_fOk {n : Int} {fs : List Fd} (h : sortsTo fs n fs.length = true) (hn : n ≤ 8) : ∀ f ∈ fs, fOk f := fun f hf => by
  obtain ⟨i, hi, rfl⟩ := List.mem_iff_getElem.1 hf
  have := allTo_true h i hi
  have e : fdAt fs i = fs[i] := by simp [fdAt, hi]
  rw [e] at this
  exact sOk_fOk this hn
theorem pOk_of {p : GProg} (h : progOkF p = true) : pOk p := by
  unfold progOkF at h
  simp only [Bool.and_eq_true, decide_eq_true_eq] at h
  obtain ⟨⟨hk, ⟨⟨_, hg, _⟩, hf0, _⟩⟩, hfs⟩ := h
  have hP := kinOk_parts hk
  have h8 : ((kinCount p.types : Nat) : Int) ≤ 8 := by have := hP.2.1; omega
  refine ⟨fun g hg t ht => ?_, sorts_fOk hg h8, fun f hf => ?_, hf0⟩
  · obtain ⟨x, hx, rfl⟩ := List.mem_iff_getElem.1 hg
    obtain ⟨i, hi, rfl⟩ := List.mem_iff_getElem.1 ht
    have eg : grAt p.types x = p.types[x] := by simp [grAt, hx]
    have hpt := hP.2.2 x hx
    rw [eg] at hpt
    have hform := hpt.2 i hi
    have et : tyAt p.types[x] i = p.types[x][i] := by simp [tyAt, hi]
    rw [et] at hform
    have hcn : countTo (grAt p.types) x + (p.types[x]).length ≤ kinCount p.types := by
      have := countTo_mono (grAt p.types) (show x + 1 ≤ p.types.length by omega)
      simp only [countTo, eg] at this
      exact this
    unfold formOk at hform
    simp only [Bool.and_eq_true, Bool.or_eq_true, decide_eq_true_eq] at hform
    obtain ⟨⟨⟨u1, _⟩, _⟩, hkd, hall⟩ := hform
    refine ⟨hkd.imp id (fun h => h.1), u1, fun f hf => ?_⟩
    obtain ⟨j, hj, rfl⟩ := List.mem_iff_getElem.1 hf
    have := allTo_true hall j hj
    have ef : fdAt p.types[x][i].fields j = p.types[x][i].fields[j] := by simp [fdAt, hj]
    simp only [ef] at this
    exact fieldOk_wide this (by have := hP.2.1; omega)
  · obtain ⟨i, hi, rfl⟩ := List.mem_iff_getElem.1 hf
    have := allTo_true hfs i hi
    have ef : funAt' p.funs i = p.funs[i] := by simp [funAt', hi]
    simp only [ef] at this
    unfold funOkF at this
    simp only [Bool.and_eq_true, decide_eq_true_eq] at this
    obtain ⟨_, ⟨h1, h2, _⟩, h3, h4⟩ := this
    refine ⟨sorts_fOk h1 h8, sOk_fOk h3 h8, sorts_fOk h2 h8, fun x hx => ?_⟩
    obtain ⟨j, hj, rfl⟩ := List.mem_iff_getElem.1 hx
    have := allTo_true h4 j hj
    have ei : insAt' p.funs[i].body j = p.funs[i].body[j] := by simp [insAt', hj]
    simp only [ei] at this
    exact this
theorem progTxt_inj {p q : GProg} (hp : progOkF p = true) (hq : progOkF q = true) (e : progTxt p = progTxt q) : p = q := by
  unfold progTxt at e
  rw [if_pos hp, if_pos hq] at e
  exact progLs_inj p q (pOk_of hp) (pOk_of hq) (unl_inj _ _ (progLs_noNl p) (progLs_noNl q) e)
/-- The texts are one if the programs are. -/
theorem txt_same {p q : GProg} (hp : progOkF p = true) (hq : progOkF q = true) : decide (progTxt p = progTxt q) = progSame p q := by
  rw [Bool.eq_iff_iff, decide_eq_true_eq, progSame_iff]
  exact ⟨progTxt_inj hp hq, fun h => by rw [h]⟩
end Go.Proofs.YtblliefejffhoaaGreatDoor
