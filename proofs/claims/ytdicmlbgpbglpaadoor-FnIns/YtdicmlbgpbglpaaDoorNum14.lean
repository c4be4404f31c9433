/- l14Num of the model: a number in decimals, read. -/
import Derived.Test.YtdicmlbgpbglpaaDoorOfRead2
import Derived.Test.YtdicmlbgpbglpaaDoorCut
namespace Go.Proofs.YtdicmlbgpbglpaaDoor
open Go.ChangeShapes Go.WideShapes Go.ChangeAt Go.RowKit Go.Joins
set_option linter.unusedVariables false

theorem byte_at (s : ByteArray) (i : Nat) (h : i < s.size) : s.data.toList[i]? = some s[i] := by
  cases s with
  | mk a => simp [ByteArray.size] at h; rw [Array.getElem?_toList, Array.getElem?_eq_getElem h]; rfl

theorem take_next (s : ByteArray) (i : Nat) (h : i < s.size) : s.data.toList.take (i + 1) = s.data.toList.take i ++ [s[i]] := by
  rw [List.take_add_one, byte_at s i h]; rfl

theorem decFrom_snoc {l : List UInt8} {a n : Nat} {c : UInt8} (h : Lib.decFrom a l = some n) (h1 : 48 ≤ c.toNat) (h2 : c.toNat ≤ 57) : Lib.decFrom a (l ++ [c]) = some (n * 10 + (c.toNat - 48)) := by
  rw [decFrom_append l [c] a n h]
  have : Lib.digitVal c = some (c.toNat - 48) := by unfold Lib.digitVal; rw [if_pos ⟨h1, h2⟩]
  simp only [Lib.decFrom, this]

theorem decFrom_bad {l r : List UInt8} {a n : Nat} {c : UInt8} (hc : c.toNat < 48 ∨ 57 < c.toNat) : Lib.decFrom a (l ++ c :: r) ≠ some n := by
  intro h
  obtain ⟨d, hd⟩ := Lib.digit_of_decFrom (l ++ c :: r) a n h l.length c (by simp)
  have := Lib.digitVal_eq hd
  omega

theorem decDigits_zero (k : Nat) (r : List UInt8) (h : Lib.decDigits k = 48 :: r) : k = 0 := by
  induction k using Nat.strongRecOn generalizing r with
  | ind k ih =>
    by_cases hk : k < 10
    · rw [Lib.decDigits_one hk] at h
      injection h with h1 h2
      have : ∀ d : Fin 10, UInt8.ofNat (48 + d.val) = 48 → d.val = 0 := by decide
      exact this ⟨k, hk⟩ h1
    · rw [Lib.decDigits, dif_neg hk] at h
      obtain ⟨c, t, e, _⟩ := decDigits_head (k / 10)
      rw [e] at h
      injection h with h1 h2
      have := ih (k / 10) (by omega) t (by rw [e, h1])
      omega
end Go.Proofs.YtdicmlbgpbglpaaDoor
