/- Plain facts on right instructions and their texts: how many spaces there are. -/
import Derived.Test.YthnccdmkhllibaaDoorInsTxt
namespace Go.Proofs.YthnccdmkhllibaaDoor
set_option linter.unusedVariables false

theorem spanN_three (o : Int) : spanN o = 0 ∨ spanN o = 1 ∨ spanN o = 2 := by
  unfold spanN; split; exact .inr (.inr rfl); split; exact .inr (.inl rfl); exact .inl rfl

theorem spanHi_le (o : Int) : spanHi o ≤ 9973 := by
  unfold spanHi; repeat' split
  all_goals omega

theorem spanLo_ge (o : Int) : -2 ≤ spanLo o := by
  unfold spanLo; split <;> omega

theorem bad_a (o y : Int) : insOk o 9973 y = false := by
  have := spanHi_le o
  unfold insOk
  rw [Bool.and_eq_false_iff]
  right
  rcases spanN_three o with h | h | h <;> simp [h] <;> omega

theorem bad_b (o x : Int) : insOk o x 4 = false := by
  unfold insOk
  rw [Bool.and_eq_false_iff]
  right
  rcases spanN_three o with h | h | h <;> simp [h] <;> omega

theorem bad_c (o y : Int) : insOk o (-3) y = false := by
  have := spanLo_ge o
  unfold insOk
  rw [Bool.and_eq_false_iff]
  right
  rcases spanN_three o with h | h | h <;> simp [h] <;> omega

theorem ok_zero {o x y : Int} (h : insOk o x y = true) : (spanN o = 0 → x = 0) ∧ (spanN o ≤ 1 → y = 0) := by
  unfold insOk at h
  rw [Bool.and_eq_true] at h
  rcases spanN_three o with g | g | g <;> simp [g] at h ⊢ <;> omega

/-- How many spaces a text has. -/
def spaces (l : List UInt8) : Nat := l.count 32

theorem spaces_append (l m : List UInt8) : spaces (l ++ m) = spaces l + spaces m := by simp [spaces]
theorem spaces_cons (l : List UInt8) : spaces (32 :: l) = spaces l + 1 := by simp [spaces]

theorem spaces_word (k : Nat) : spaces (wordAt k) = 0 := by
  by_cases h : k < 34
  · have : ∀ i : Fin 34, spaces (wordAt i.val) = 0 := by decide
    exact this ⟨k, h⟩
  · have : wordAt k = [] := by
      unfold wordAt
      rw [List.getD_eq_getElem?_getD, List.getElem?_eq_none (by simp [words]; omega)]; rfl
    rw [this]; rfl

theorem spaces_dec (n : Nat) : spaces (Lib.decDigits n) = 0 := by
  induction n using Nat.strongRecOn with
  | _ n ih =>
    rw [Lib.decDigits]
    have hd : ∀ d, d < 10 → spaces [UInt8.ofNat (48 + d)] = 0 := by decide
    split
    · exact hd n (by omega)
    · rw [spaces_append, ih (n / 10) (by omega), hd _ (by omega)]

theorem spaces_of (n : Int) : spaces (ofTxt n) = 0 := by
  unfold ofTxt
  split
  · rfl
  · split
    · rfl
    · exact spaces_dec _

theorem spaces_text {o x y : Int} (h : insOk o x y = true) : spaces (insText o x y) = spanN o := by
  unfold insText
  rw [if_pos h]
  rcases spanN_three o with g | g | g <;> simp [g, spaces_append, spaces_cons, spaces_word, spaces_of]

theorem spaces_snoc (l : List UInt8) (c : UInt8) : (spaces (l ++ [c]) : Int) = spaces l + if (c.toNat : Int) = 32 then 1 else 0 := by
  have e : ((c.toNat : Int) = 32) ↔ c = 32 := by
    constructor
    · intro h; apply UInt8.toNat_inj.1; show c.toNat = 32; omega
    · rintro rfl; rfl
  unfold spaces
  by_cases h : c = 32
  · subst h; rw [if_pos (by decide)]; simp
  · rw [if_neg (by rw [e]; exact h)]; simp [h]

theorem take_snoc (s : ByteArray) (k : Nat) (h : k < s.size) : s.data.toList.take (k + 1) = s.data.toList.take k ++ [s[k]] := by
  rw [List.take_succ_eq_append_getElem (by simpa using h)]; rfl

theorem spaces_le (l : List UInt8) : spaces l ≤ l.length := List.count_le_length
end Go.Proofs.YthnccdmkhllibaaDoor
