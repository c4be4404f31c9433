/- ofRead of the program, whole. -/
import Derived.Test.YtdicmlbgpbglpaaDoorOfRead
import Derived.Lib.AtoiTie
import Derived.Lib.AtoiAllCases
namespace Go.Proofs.YtdicmlbgpbglpaaDoor
open Go.ChangeShapes Go.WideShapes Go.ChangeAt Go.RowKit Go.Joins
set_option linter.unusedVariables false

theorem decFrom_append (l r : List UInt8) (a b : Nat) (h : Lib.decFrom a l = some b) : Lib.decFrom a (l ++ r) = Lib.decFrom b r := by
  induction l generalizing a with
  | nil => simp only [Lib.decFrom, Option.some.injEq] at h; subst h; rfl
  | cons c t ih =>
    simp only [Lib.decFrom, List.cons_append] at h ⊢
    cases hc : Lib.digitVal c with
    | none => simp [hc] at h
    | some e =>
      simp only [hc] at h ⊢
      exact ih _ h

theorem digitVal_of (d : Nat) (h : d < 10) : Lib.digitVal (UInt8.ofNat (48 + d)) = some d := by
  have : ∀ d : Fin 10, Lib.digitVal (UInt8.ofNat (48 + d.val)) = some d.val := by decide
  exact this ⟨d, h⟩

theorem decFrom_digits (k : Nat) : Lib.decFrom 0 (Lib.decDigits k) = some k := by
  induction k using Nat.strongRecOn with
  | ind k ih =>
    by_cases h : k < 10
    · rw [Lib.decDigits_one h]
      simp only [Lib.decFrom, digitVal_of k h]
      simp
    · rw [Lib.decDigits, dif_neg h, decFrom_append _ _ _ _ (ih (k / 10) (by omega))]
      simp only [Lib.decFrom, digitVal_of (k % 10) (by omega)]
      congr 1
      omega

theorem decDigits_ne (k : Nat) : Lib.decDigits k ≠ [] := by
  rw [Lib.decDigits]
  split <;> simp

theorem decDigits_head (k : Nat) : ∃ c r, Lib.decDigits k = c :: r ∧ 48 ≤ c.toNat ∧ c.toNat ≤ 57 := by
  induction k using Nat.strongRecOn with
  | ind k ih =>
    by_cases h : k < 10
    · have : ∀ d : Fin 10, 48 ≤ (UInt8.ofNat (48 + d.val)).toNat ∧ (UInt8.ofNat (48 + d.val)).toNat ≤ 57 := by decide
      exact ⟨_, _, Lib.decDigits_one h, this ⟨k, h⟩⟩
    · obtain ⟨c, r, e, h1⟩ := ih (k / 10) (by omega)
      rw [Lib.decDigits, dif_neg h, e]
      exact ⟨c, _, rfl, h1⟩

/-- Digits are read as the number that they spell. -/
theorem atoi_digits (k : Nat) (h : k < 1000000) : Lib.atoiAll (Lib.decDigits k) = .ok (k : Int) := by
  have hl := decDigits_len k h
  have hd : Lib.decNat (Lib.decDigits k) = some k := by
    unfold Lib.decNat
    have hn := decDigits_ne k
    split
    · rename_i h; exact absurd (by simpa using h) hn
    · exact decFrom_digits k
  obtain ⟨c, r, e, h1, h2⟩ := decDigits_head k
  rw [e] at hd hl ⊢
  rw [Lib.atoiAll_plain c r (by omega) (by omega), Lib.signless_short (by omega), hd]
  rfl

theorem atoi_range {l : List UInt8} {v : Int} (h : Lib.atoiAll l = .ok v) : -9223372036854775808 ≤ v ∧ v ≤ 9223372036854775807 := by
  unfold Lib.atoiAll at h
  split at h
  · cases h
  · simp only at h
    split at h
    · cases h
    · cases h
    · split at h
      · cases h
      · split at h
        · cases h
        · split at h
          · injection h with h; omega
          · injection h with h; omega

theorem toArray_list (s : ByteArray) (l : List UInt8) (h : l = s.data.toList) : (⟨l.toArray⟩ : ByteArray) = s := by subst h; cases s; simp

set_option maxHeartbeats 1600000 in
theorem ofRead_any (s : ByteArray) (w : World) (hs : s.size ≤ 1048576) (hp : pow10 w) (he : errsAt w) :
    Calls Tryd.prog 42 #[.string s] w fun e w' => Below w.heap.size w w' ∧ ∃ n b, e = .returned (.tuple #[.int .i64 n, .bool b]) ∧ (b = true → ofTxtI n = s.data.toList) ∧ (b = false → n = 0) ∧ (∀ o, -2 ≤ o → o < 1000000 → ofTxt o = s.data.toList → b = true ∧ n = o) := by
  have HP := hide hp
  have HE := hide he
  clear hp he
  by_cases ha : s.data.toList = [97, 110, 121]
  · have HA := hide ha
    have h1 : (s.toList == [97, 110, 121]) = true := by rw [ByteArray.toList_eq, ha]; decide
    clear ha
    go_enter Tryd.func42, Tryd.ntmps42
    go_wp2_with fail
    refine bodyPost_ret (v := .tuple #[.int .i64 (-1), .bool true]) (by simp [results, Tryd.results42, go_sem]) rfl ?_
    refine ⟨Below.refl _ _, -1, true, rfl, fun _ => by rw [HA.out]; rfl, fun h => (by cases h), fun o h1 h2 h3 => ⟨rfl, ?_⟩⟩
    rw [HA.out] at h3
    by_cases e1 : o = -1
    · exact e1.symm
    · exfalso
      unfold ofTxt at h3
      rw [if_neg e1] at h3
      split at h3
      · exact absurd h3 (by decide)
      · obtain ⟨c, r, e, k1, k2⟩ := decDigits_head o.toNat
        rw [e] at h3
        injection h3 with h4 h5
        subst h4
        exact absurd k2 (by decide)
  have h1 : (s.toList == [97, 110, 121]) = false := by rw [ByteArray.toList_eq]; simpa using ha
  by_cases hb : s.data.toList = [99, 104, 105, 112]
  · have HA := hide hb
    have h2 : (s.toList == [99, 104, 105, 112]) = true := by rw [ByteArray.toList_eq, hb]; decide
    clear ha hb
    go_enter Tryd.func42, Tryd.ntmps42
    go_wp2_with fail
    refine bodyPost_ret (v := .tuple #[.int .i64 (-2), .bool true]) (by simp [results, Tryd.results42, go_sem]) rfl ?_
    refine ⟨Below.refl _ _, -2, true, rfl, fun _ => by rw [HA.out]; rfl, fun h => (by cases h), fun o h1 h2 h3 => ⟨rfl, ?_⟩⟩
    rw [HA.out] at h3
    by_cases e1 : o = -2
    · exact e1.symm
    · exfalso
      unfold ofTxt at h3
      split at h3
      · exact absurd h3 (by decide)
      · obtain ⟨c, r, e, k1, k2⟩ := decDigits_head o.toNat
        rw [e] at h3
        injection h3 with h4 h5
        subst h4
        exact absurd k2 (by decide)
  have h2 : (s.toList == [99, 104, 105, 112]) = false := by rw [ByteArray.toList_eq]; simpa using hb
  have HA := hide ha
  have HB := hide hb
  clear ha hb
  go_enter Tryd.func42, Tryd.ntmps42
  go_wp2_with fail
  refine (atoi_any s w hs HE.out).mono ?_
  rintro e w1 ⟨b1, hcase⟩
  have B1 := hide b1
  rcases hcase with ⟨v, hv, rfl⟩ | ⟨hno, v, t, p, rfl⟩
  · have HV := hide hv
    have hr := atoi_range hv
    clear hv b1
    go_wp2_with fail
    refine (ofTextI_any v _ hr.1 hr.2 (pow10_keep HP.out B1.out)).mono ?_
    rintro e w2 ⟨rfl, b2⟩
    have B2 : Hid (Below w.heap.size w w2) := B1.out.trans (b2.mono B1.out.size)
    clear b2
    by_cases hx : ofTxtI v = s.data.toList
    · rw [toArray_list s _ hx]
      have HX := hide hx
      clear hx
      go_wp2_with fail
      refine bodyPost_ret (v := .tuple #[.int .i64 v, .bool true]) (by simp [results, Tryd.results42, go_sem]) rfl ?_
      refine ⟨B2.out, v, true, rfl, fun _ => HX.out, fun h => (by cases h), fun o h1 h2 h3 => ⟨rfl, ?_⟩⟩
      by_cases e1 : o = -1
      · subst e1; exact absurd h3.symm HA.out
      by_cases e2 : o = -2
      · subst e2; exact absurd h3.symm HB.out
      have hv := HV.out
      rw [← h3] at hv
      unfold ofTxt at hv
      rw [if_neg e1, if_neg e2, atoi_digits _ (by omega)] at hv
      injection hv with hv
      omega
    · have hne : ((⟨(ofTxtI v).toArray⟩ : ByteArray).toList == s.toList) = false := by
        rw [ByteArray.toList_eq, ByteArray.toList_eq]; simpa using hx
      have HX := hide hx
      clear hx
      generalize hq : (⟨(ofTxtI v).toArray⟩ : ByteArray) = q at hne ⊢
      clear hq
      go_wp2_with fail
      refine bodyPost_ret (v := .tuple #[.int .i64 0, .bool false]) (by simp [results, Tryd.results42, go_sem]) rfl ?_
      refine ⟨B2.out, 0, false, rfl, fun h => (by cases h), fun _ => rfl, fun o h1 h2 h3 => ?_⟩
      exfalso
      by_cases e1 : o = -1
      · subst e1; exact absurd h3.symm HA.out
      by_cases e2 : o = -2
      · subst e2; exact absurd h3.symm HB.out
      have hv := HV.out
      rw [← h3] at hv
      have hd : ofTxt o = Lib.decDigits o.toNat := by unfold ofTxt; rw [if_neg e1, if_neg e2]
      rw [hd, atoi_digits _ (by omega)] at hv
      injection hv with hv
      have : v = o := by omega
      subst this
      exact HX.out (by rw [ofTxtI_small h1]; exact h3)
  · have HN := hide hno
    clear hno b1
    go_wp2_with fail
    refine bodyPost_ret (v := .tuple #[.int .i64 0, .bool false]) (by simp [results, Tryd.results42, go_sem]) rfl ?_
    refine ⟨B1.out, 0, false, rfl, fun h => (by cases h), fun _ => rfl, fun o h1 h2 h3 => ?_⟩
    exfalso
    by_cases e1 : o = -1
    · subst e1; exact absurd h3.symm HA.out
    by_cases e2 : o = -2
    · subst e2; exact absurd h3.symm HB.out
    have hd : ofTxt o = Lib.decDigits o.toNat := by unfold ofTxt; rw [if_neg e1, if_neg e2]
    exact HN.out _ (by rw [← h3, hd]; exact atoi_digits _ (by omega))
end Go.Proofs.YtdicmlbgpbglpaaDoor
