/- l2Op of the model, insKind of the program: the kind that has a word. -/
import Derived.Test.YtdicmlbgpbglpaaDoorInsRd
import Derived.Test.YtdicmlbgpbglpaaDoorImplText
namespace Go.Proofs.YtdicmlbgpbglpaaDoor
open Go.ChangeShapes Go.WideShapes Go.ChangeAt Go.RowKit Go.Joins
set_option linter.unusedVariables false

/-- The kind that has a word, or 0. -/
def OpOf (x : List UInt8) (op : Int) : Prop := (op = 0 ∧ ∀ k, 1 ≤ k → k < 34 → wordAt k ≠ x) ∨ (1 ≤ op ∧ op ≤ 33 ∧ wordAt op.toNat = x)

theorem OpOf.is {x : List UInt8} {op : Int} (h : OpOf x op) {op' : Int} (h1 : 1 ≤ op' ∧ op' ≤ 33) (h2 : wordAt op'.toNat = x) : op = op' := by
  rcases h with ⟨_, h⟩ | ⟨a, b, c⟩
  · exact absurd h2 (h _ (by omega) (by omega))
  · have := wordAt_inj (by omega) (by omega) (by omega) (by omega) (c.trans h2.symm)
    omega

theorem word_beq (k : Nat) (s : ByteArray) (c : Bool) (h : decide (wordAt k = s.data.toList) = c) : ((⟨(wordAt k).toArray⟩ : ByteArray).toList == s.toList) = c := by
  rw [ByteArray.toList_eq, ByteArray.toList_eq, ← h]
  by_cases e : wordAt k = s.data.toList
  · simp [e]
  · simp [e]

set_option maxHeartbeats 1600000 in
theorem l2Op_any (s : ByteArray) (w : World) :
    Calls Tryd.prog 37 #[.string s] w fun e w' => ∃ op, e = .returned (.int .i64 op) ∧ OpOf s.data.toList op ∧ Below w.heap.size w w' := by
  go_enter Tryd.func37, Tryd.ntmps37
  go_wp2_with fail
  refine (words_any w).mono ?_
  rintro e w1 ⟨rfl, hc, hb⟩
  have HC := hide hc
  clear hc
  go_wp2_with fail
  go_loopw [4] (fun i wr => ∃ k : Nat, i = .int .i64 k ∧ 1 ≤ k ∧ k ≤ 34 ∧ Hid (∀ j, 1 ≤ j → j < k → wordAt j ≠ s.data.toList) ∧ wr = w1) (fun i wr => 34 - (intOf i).toNat)
  case atStart => exact ⟨1, rfl, Nat.le_refl _, by omega, fun j h1 h2 => by omega, rfl⟩
  case round =>
    obtain ⟨k, rfl, h1, h2, HN, rfl⟩ := hrel
    by_cases hk : k < 34
    · have hcell := HC.out k hk
      by_cases he : wordAt k = s.data.toList
      · have hq := word_beq k s true (by simp [he])
        have HE := hide he
        clear he
        obtain ⟨t, ht⟩ : ∃ t : ByteArray, (⟨(wordAt k).toArray⟩ : ByteArray) = t := ⟨_, rfl⟩
        rw [ht] at hq hcell
        clear ht
        go_wp2_with fail
        go_ret
        exact ⟨k, rfl, .inr ⟨by omega, by omega, by simpa using HE.out⟩, hb⟩
      · have hq := word_beq k s false (by simp [he])
        have HE := hide he
        clear he
        obtain ⟨t, ht⟩ : ∃ t : ByteArray, (⟨(wordAt k).toArray⟩ : ByteArray) = t := ⟨_, rfl⟩
        rw [ht] at hq hcell
        clear ht
        go_wp2_with fail
        refine ⟨⟨k + 1, by go_num, by omega, by omega, fun j g1 g2 => ?_, trivial⟩, by simp [intOf] <;> omega⟩
        by_cases e : j = k
        · rw [e]; exact HE.out
        · exact HN.out j g1 (by omega)
    · go_wp2_with fail
      go_ret
      exact ⟨0, rfl, .inl ⟨rfl, fun j g1 g2 => HN.out j g1 (by omega)⟩, hb⟩

set_option maxHeartbeats 1600000 in
theorem insKind_any (s : ByteArray) (w : World) (hw : wordsAt w) :
    Calls Tryd.prog 40 #[.string s] w fun e w' => ∃ op b, e = .returned (.tuple #[.int .i64 op, .bool b]) ∧ (b = true → 1 ≤ op ∧ op ≤ 33 ∧ wordAt op.toNat = s.data.toList) ∧ (b = false → ∀ k, 1 ≤ k → k < 34 → wordAt k ≠ s.data.toList) ∧ w' = w := by
  have HC := hide hw.2
  have hl := hw.1
  clear hw
  go_enter Tryd.func40, Tryd.ntmps40
  go_wp2_with fail
  go_loopw [4] (fun i wr => ∃ k : Nat, i = .int .i64 k ∧ 1 ≤ k ∧ k ≤ 34 ∧ Hid (∀ j, 1 ≤ j → j < k → wordAt j ≠ s.data.toList) ∧ wr = w) (fun i wr => 34 - (intOf i).toNat)
  case atStart => exact ⟨1, rfl, Nat.le_refl _, by omega, fun j h1 h2 => by omega, rfl⟩
  case round =>
    obtain ⟨k, rfl, h1, h2, HN, rfl⟩ := hrel
    by_cases hk : k < 34
    · have hk' : k ≤ 33 := by omega
      have hcell := HC.out k hk
      by_cases he : wordAt k = s.data.toList
      · have hq := word_beq k s true (by simp [he])
        have HE := hide he
        clear he
        obtain ⟨t, ht⟩ : ∃ t : ByteArray, (⟨(wordAt k).toArray⟩ : ByteArray) = t := ⟨_, rfl⟩
        rw [ht] at hq hcell
        clear ht
        go_wp2_with fail
        refine bodyPost_ret (v := .tuple #[.int .i64 k, .bool true]) (by simp [results, Tryd.results40, go_sem]) rfl ?_
        exact ⟨k, true, rfl, fun _ => ⟨by omega, by omega, by simpa using HE.out⟩, fun h => (by cases h), rfl⟩
      · have hq := word_beq k s false (by simp [he])
        have HE := hide he
        clear he
        obtain ⟨t, ht⟩ : ∃ t : ByteArray, (⟨(wordAt k).toArray⟩ : ByteArray) = t := ⟨_, rfl⟩
        rw [ht] at hq hcell
        clear ht
        go_wp2_with fail
        refine ⟨⟨k + 1, by go_num, by omega, by omega, fun j g1 g2 => ?_, trivial⟩, by simp [intOf] <;> omega⟩
        by_cases e : j = k
        · rw [e]; exact HE.out
        · exact HN.out j g1 (by omega)
    · have hk' : ¬ k ≤ 33 := by omega
      go_wp2_with fail
      refine bodyPost_ret (v := .tuple #[.int .i64 0, .bool false]) (by simp [results, Tryd.results40, go_sem]) rfl ?_
      exact ⟨0, false, rfl, fun h => (by cases h), fun _ j g1 g2 => HN.out j g1 (by omega), rfl⟩
end Go.Proofs.YtdicmlbgpbglpaaDoor
