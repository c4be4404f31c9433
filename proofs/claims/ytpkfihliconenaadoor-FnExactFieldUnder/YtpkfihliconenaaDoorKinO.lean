/- KinCanon, KinSame, KinUnder and FieldUnder of the model; FieldUnder of the program. -/
import Derived.Test.YtpkfihliconenaaDoorKinN
namespace Go.Proofs.YtpkfihliconenaaDoor
open Go.ChangeShapes Go.WideShapes Go.ChangeAt Go.RowKit
set_option linter.unusedVariables false

set_option maxHeartbeats 800000 in
theorem l1Canon_any (ga : Option Addr) (gc lo hi : Nat) (gs : List (List Ty)) (m : Nat) (w : World) (hP : Parts gs) (hN : Few gs) (hc : gs.length ≤ gc) (hm : m < kinCount gs) (hh : hi ≤ w.heap.size) (hx : GroupsIn w lo hi ga gs) :
    Calls Tryd.prog 42 #[.slice ga gs.length gc, .int .i64 (m : Int)] w fun e w' => e = .returned (.int .i64 (canon gs m : Nat)) ∧ Below w.heap.size w w' := by
  have m8 := hP.2.1
  have HS := hide (fun i (hi : i < kinCount gs) w1 (hb : Below w.heap.size w w1) => l1Same_any ga gc lo _ gs i m w1 hP hN hc hi hm (Nat.le_trans hh hb.size) (hx.keep (hb.mono hh)))
  have sp := firstFrom_spec (fun i => same gs i m) m 0
  have HSp : Hid (∀ j, j ≤ m → (∀ i, i < j → same gs i m = false) → j = m ∨ same gs j m = true → canon gs m = j) := fun j hj hl he => by
    have h1 := canon_le gs m
    have h2 := canon_same gs m
    by_cases c1 : canon gs m < j
    · rw [hl _ c1] at h2; cases h2
    · by_cases c2 : j < canon gs m
      · have h3 := canon_least gs m j c2
        rcases he with rfl | he
        · omega
        · rw [he] at h3; cases h3
      · omega
  clear hP hN hx sp
  go_enter Tryd.func42, Tryd.ntmps42
  go_wp2_with fail
  go_loopw [5] (fun v wr => ∃ j : Nat, j ≤ m ∧ v = .int .i64 j ∧ (∀ i, i < j → same gs i m = false) ∧ Below w.heap.size w wr) (fun v wr => m - (intOf v).toNat)
  case atStart => exact ⟨0, Nat.zero_le _, rfl, fun i hi => absurd hi (Nat.not_lt_zero _), Below.refl _ _⟩
  case round =>
    obtain ⟨j, hj, rfl, hA, hb⟩ := hrel
    have HA := hide hA
    have HB := hide hb
    clear hA hb
    by_cases hjm : j < m
    · have HCall := hide (HS.out j (by omega) wr HB.out)
      have HT : Hid (same gs j m = true → canon gs m = j) := fun h => HSp.out j hj HA.out (.inr h)
      have HF : Hid (same gs j m = false → ∀ i, i < j + 1 → same gs i m = false) := fun h i hi => by
        by_cases e : i = j
        · subst e; exact h
        · exact HA.out i (by omega)
      generalize same gs j m = v at HCall HT HF
      go_wp2_with fail
      refine HCall.out.mono ?_
      rintro e w1 ⟨rfl, hb1⟩
      have B1 := hide (HB.out.trans (hb1.mono HB.out.size))
      clear hb1
      cases v with
      | true =>
        have hz := HT.out rfl
        clear HT HF
        have HZ := hide hz
        clear hz
        go_wp2_with fail
        go_ret
        exact ⟨ret_int (by rw [HZ.out]), B1.out⟩
      | false =>
        have hf := HF.out rfl
        clear HT HF
        have HF := hide hf
        clear hf
        go_wp2_with fail
        exact ⟨⟨j + 1, by omega, by go_num, HF.out, B1.out⟩, by simp [intOf]; omega⟩
    · have hje : Hid (j = m) := Nat.le_antisymm hj (Nat.le_of_not_lt hjm)
      go_wp2_with fail
      go_ret
      exact ⟨ret_int (by rw [HSp.out m (Nat.le_refl _) (hje.out ▸ HA.out) (.inl rfl)]), HB.out⟩

set_option maxHeartbeats 1600000 in
theorem specKinCanon_any (ga : Option Addr) (gc lo hi : Nat) (gs : List (List Ty)) (a : Int) (w : World) (hN : Few gs) (hc : gs.length ≤ gc) (hl : lo ≤ hi) (hh : hi ≤ w.heap.size) (hx : GroupsIn w lo hi ga gs) :
    Calls Tryd.prog 18 #[.slice ga gs.length gc, .int .i64 a] w fun e w' => e = .returned (.int .i64 (canonF gs a)) ∧ Below w.heap.size w w' := by
  have n2 := kinCount_le hN
  have HCnt := hide (specKinCount_any ga gc lo hi gs w hN hx)
  have HOk := hide (specKinOk_any ga gc lo hi gs w hN hc hl hh hx)
  have HN := hide hN
  have HX := hide hx
  clear hN hx
  by_cases h0 : a < 0
  · have HZ : Hid (canonF gs a = -1) := by show _ = _; simp [canonF, isTypeF]; omega
    go_enter Tryd.func18, Tryd.ntmps18
    go_wp2_with fail
    go_ret
    exact ⟨ret_int HZ.out.symm, Below.refl _ _⟩
  by_cases h1 : (kinCount gs : Int) ≤ a
  · have HZ : Hid (canonF gs a = -1) := by show _ = _; simp [canonF, isTypeF]; omega
    go_enter Tryd.func18, Tryd.ntmps18
    go_wp2_with fail
    refine HCnt.out.mono ?_
    rintro e w1 ⟨rfl, rfl⟩
    go_wp2_with fail
    go_ret
    exact ⟨ret_int HZ.out.symm, Below.refl _ _⟩
  obtain ⟨m, rfl⟩ := Int.eq_ofNat_of_zero_le (show 0 ≤ a by omega)
  have hm : m < kinCount gs := by omega
  go_enter Tryd.func18, Tryd.ntmps18
  go_wp2_with fail
  refine HCnt.out.mono ?_
  rintro e w1 ⟨rfl, rfl⟩
  go_wp2_with fail
  refine HOk.out.mono ?_
  rintro e w2 ⟨rfl, hb2⟩
  have B2 := hide hb2
  clear hb2
  cases hk : kinOkF gs with
  | false =>
    have HZ : Hid (canonF gs m = -1) := by show _ = _; simp [canonF, hk]
    clear hk
    go_wp2_with fail
    go_ret
    exact ⟨ret_int HZ.out.symm, B2.out⟩
  | true =>
    have HZ : Hid (canonF gs m = (canon gs m : Nat)) := by show _ = _; simp [canonF, isTypeF, hk]; omega
    have HPt := hide (kinOk_parts hk)
    clear hk
    go_wp2_with fail
    refine (l1Canon_any ga gc lo hi gs m w2 HPt.out HN.out hc hm (Nat.le_trans hh B2.out.size) (HX.out.keep (B2.out.mono hh))).mono ?_
    rintro e w3 ⟨rfl, hb3⟩
    have B3 := hide (B2.out.trans (hb3.mono B2.out.size))
    clear hb3
    go_wp2_with fail
    go_ret
    exact ⟨ret_int HZ.out.symm, B3.out⟩

set_option maxHeartbeats 1600000 in
theorem specKinSame_any (ga : Option Addr) (gc lo hi : Nat) (gs : List (List Ty)) (a b : Int) (w : World) (hN : Few gs) (hc : gs.length ≤ gc) (hl : lo ≤ hi) (hh : hi ≤ w.heap.size) (hx : GroupsIn w lo hi ga gs) :
    Calls Tryd.prog 14 #[.slice ga gs.length gc, .int .i64 a, .int .i64 b] w fun e w' => e = .returned (.bool (sameB gs a b)) ∧ Below w.heap.size w w' := by
  have n2 := kinCount_le hN
  have HCnt := hide (specKinCount_any ga gc lo hi gs w hN hx)
  have HOk := hide (specKinOk_any ga gc lo hi gs w hN hc hl hh hx)
  have HN := hide hN
  have HX := hide hx
  clear hN hx
  by_cases h : (0 ≤ a ∧ a < (kinCount gs : Int)) ∧ (0 ≤ b ∧ b < (kinCount gs : Int))
  · obtain ⟨⟨a0, a1⟩, b0, b1⟩ := h
    obtain ⟨p, rfl⟩ := Int.eq_ofNat_of_zero_le a0
    obtain ⟨q, rfl⟩ := Int.eq_ofNat_of_zero_le b0
    have HS : Hid (sameB gs p q = (kinOkF gs && same gs p q)) := by
      show _ = _
      have e1 : isTypeF gs (p : Int) = true := by simp [isTypeF]; omega
      have e2 : isTypeF gs (q : Int) = true := by simp [isTypeF]; omega
      unfold sameB; rw [e1, e2]; rfl
    have d1 : decide ((0 : Int) ≤ (p : Int)) = true := by simp
    have d2 : decide ((p : Int) < (kinCount gs : Int)) = true := by simpa using a1
    have d3 : decide ((0 : Int) ≤ (q : Int)) = true := by simp
    have d4 : decide ((q : Int) < (kinCount gs : Int)) = true := by simpa using b1
    go_enter Tryd.func14, Tryd.ntmps14
    go_wp2_with fail
    refine HCnt.out.mono ?_
    rintro e w1 ⟨rfl, rfl⟩
    go_wp2_with fail
    refine HOk.out.mono ?_
    rintro e w2 ⟨rfl, hb2⟩
    have B2 := hide hb2
    clear hb2
    cases hk : kinOkF gs with
    | false =>
      have HZ : Hid (sameB gs p q = false) := by show _ = _; rw [HS.out, hk]; rfl
      clear hk
      go_wp2_with fail
      go_ret
      exact ⟨ret_bool HZ.out.symm, B2.out⟩
    | true =>
      have HZ : Hid (sameB gs p q = same gs p q) := by show _ = _; rw [HS.out, hk]; rfl
      have HPt := hide (kinOk_parts hk)
      clear hk
      go_wp2_with fail
      refine (l1Same_any ga gc lo hi gs p q w2 HPt.out HN.out hc (by omega) (by omega) (Nat.le_trans hh B2.out.size) (HX.out.keep (B2.out.mono hh))).mono ?_
      rintro e w3 ⟨rfl, hb3⟩
      have B3 := hide (B2.out.trans (hb3.mono B2.out.size))
      clear hb3
      go_wp2_with fail
      go_ret
      exact ⟨ret_bool HZ.out.symm, B3.out⟩
  · have HZ : Hid (sameB gs a b = false) := by
      show _ = _
      unfold sameB isTypeF
      by_cases e1 : 0 ≤ a ∧ a < (kinCount gs : Int)
      · have e2 : ¬ (0 ≤ b ∧ b < (kinCount gs : Int)) := fun e => h ⟨e1, e⟩
        have : (decide (0 ≤ b) && decide (b < (kinCount gs : Int))) = false := by
          rw [Bool.eq_false_iff]; intro hh; simp at hh; exact e2 hh
        rw [this]; simp
      · have : (decide (0 ≤ a) && decide (a < (kinCount gs : Int))) = false := by
          rw [Bool.eq_false_iff]; intro hh; simp at hh; exact e1 hh
        rw [this]; simp
    have hh4 : a < 0 ∨ (0 ≤ a ∧ (kinCount gs : Int) ≤ a) ∨ (0 ≤ a ∧ a < (kinCount gs : Int) ∧ b < 0) ∨ (0 ≤ a ∧ a < (kinCount gs : Int) ∧ 0 ≤ b ∧ (kinCount gs : Int) ≤ b) := by omega
    rcases hh4 with h1 | ⟨h1, h2⟩ | ⟨h1, h2, h3⟩ | ⟨h1, h2, h3, h4⟩
    all_goals
      go_enter Tryd.func14, Tryd.ntmps14
      go_wp2_with fail
      refine HCnt.out.mono ?_
      rintro e w1 ⟨rfl, rfl⟩
      go_wp2_with fail
      go_ret
      exact ⟨ret_bool HZ.out.symm, Below.refl _ _⟩

theorem l1Of_any (gs : List (List Ty)) (a : Int) (w : World) (hn : kinCount gs ≤ 1099511627776) :
    Calls Tryd.prog 38 #[.int .i64 a, .int .i64 (kinCount gs : Int)] w fun e w' => e = .returned (.bool (isRefF gs a)) ∧ w' = w := by
  by_cases h : -2 ≤ a
  · have d : decide (-2 ≤ a) = true := by simpa using h
    go_enter Tryd.func38, Tryd.ntmps38
    go_wp2_with fail
    go_ret
    exact ⟨ret_bool (by unfold isRefF; rw [d]; rfl), rfl⟩
  · have d : decide (-2 ≤ a) = false := by simpa using h
    go_enter Tryd.func38, Tryd.ntmps38
    go_wp2_with fail
    go_ret
    exact ⟨ret_bool (by unfold isRefF; rw [d]; rfl), rfl⟩

set_option maxHeartbeats 1600000 in
theorem specKinUnder_any (ga : Option Addr) (gc lo hi : Nat) (gs : List (List Ty)) (a b : Int) (w : World) (hN : Few gs) (hc : gs.length ≤ gc) (hl : lo ≤ hi) (hh : hi ≤ w.heap.size) (hx : GroupsIn w lo hi ga gs) :
    Calls Tryd.prog 16 #[.slice ga gs.length gc, .int .i64 a, .int .i64 b] w fun e w' => e = .returned (.bool (underB gs a b)) ∧ Below w.heap.size w w' := by
  have n2 := kinCount_le hN
  have HCnt := hide (specKinCount_any ga gc lo hi gs w hN hx)
  have HOk := hide (specKinOk_any ga gc lo hi gs w hN hc hl hh hx)
  have HN := hide hN
  have HX := hide hx
  have HS : Hid (underB gs a b = (isRefF gs a && (isRefF gs b && (kinOkF gs && under gs a b)))) := rfl
  clear hN hx
  go_enter Tryd.func16, Tryd.ntmps16
  go_wp2_with fail
  refine HCnt.out.mono ?_
  rintro e w1 ⟨rfl, rfl⟩
  go_wp2_with fail
  refine (l1Of_any gs a _ n2).mono ?_
  rintro e w1 ⟨rfl, rfl⟩
  cases h1 : isRefF gs a with
  | false =>
    have HZ : Hid (underB gs a b = false) := by show _ = _; rw [HS.out, h1]; rfl
    clear h1
    go_wp2_with fail
    go_ret
    exact ⟨ret_bool HZ.out.symm, Below.refl _ _⟩
  | true =>
    have H1 := hide h1
    clear h1
    go_wp2_with fail
    refine (l1Of_any gs b _ n2).mono ?_
    rintro e w1 ⟨rfl, rfl⟩
    cases h2 : isRefF gs b with
    | false =>
      have HZ : Hid (underB gs a b = false) := by show _ = _; rw [HS.out, H1.out, h2]; rfl
      clear h2
      go_wp2_with fail
      go_ret
      exact ⟨ret_bool HZ.out.symm, Below.refl _ _⟩
    | true =>
      have H2 := hide h2
      clear h2
      go_wp2_with fail
      refine HOk.out.mono ?_
      rintro e w2 ⟨rfl, hb2⟩
      have B2 := hide hb2
      clear hb2
      cases hk : kinOkF gs with
      | false =>
        have HZ : Hid (underB gs a b = false) := by show _ = _; rw [HS.out, H1.out, H2.out, hk]; rfl
        clear hk
        go_wp2_with fail
        go_ret
        exact ⟨ret_bool HZ.out.symm, B2.out⟩
      | true =>
        have HZ : Hid (underB gs a b = under gs a b) := by show _ = _; rw [HS.out, H1.out, H2.out, hk]; rfl
        have HPt := hide (kinOk_parts hk)
        have h1 := H1.out
        have h2 := H2.out
        unfold isRefF at h1 h2
        simp only [Bool.and_eq_true, decide_eq_true_eq] at h1 h2
        clear hk
        obtain ⟨a0, a1⟩ := h1
        obtain ⟨b0, b1⟩ := h2
        go_wp2_with fail
        refine (l1Under_any ga gc lo hi gs a b w2 HPt.out HN.out hc hl (Nat.le_trans hh B2.out.size) (HX.out.keep (B2.out.mono hh)) a0 a1 b0 b1).mono ?_
        rintro e w3 ⟨rfl, hb3⟩
        have B3 := hide (B2.out.trans (hb3.mono B2.out.size))
        clear hb3
        go_wp2_with fail
        go_ret
        exact ⟨ret_bool HZ.out.symm, B3.out⟩
end Go.Proofs.YtpkfihliconenaaDoor
