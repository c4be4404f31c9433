/- l14Num of the model, walked. -/
import Derived.Test.YtdicmlbgpbglpaaDoorNum14
namespace Go.Proofs.YtdicmlbgpbglpaaDoor
open Go.ChangeShapes Go.WideShapes Go.ChangeAt Go.RowKit Go.Joins
set_option linter.unusedVariables false

/-- The answer: a number; the one that the digits spell, if they do. -/
def NumAns (l : List UInt8) (e : Ending) : Prop := ∃ (n : Int) (b : Bool), e = .returned (.tuple #[.int .i64 n, .bool b]) ∧ (-1000000000000000000 < n ∧ n < 1000000000000000000) ∧ (∀ k, k < 1000000 → l = Lib.decDigits k → n = k ∧ b = true)

theorem not_empty {s : ByteArray} (h : 0 < s.size) : ¬ s = ByteArray.empty := by
  intro e
  rw [e] at h
  exact absurd h (by decide)

set_option maxHeartbeats 3200000 in
theorem num14_plain (s : ByteArray) (w : World) (hs : s.size ≤ 1048576) (c : UInt8) (r : List UInt8) (hl : s.data.toList = c :: r) (hc : c ≠ 45) :
    Calls Tryd.prog 38 #[.string s] w fun e w' => NumAns s.data.toList e ∧ w' = w := by
  have hz : Hid (s.size = r.length + 1) := by show s.size = _; rw [size_list, hl]; simp
  have g0 : 0 < s.size := by rw [hz.out]; omega
  have hh : s[0] = c := by have := byte_at s 0 g0; rw [hl] at this; simpa using this.symm
  have HL := hide hl
  have n45 : ((c.toNat : Int) == 45) = false := by
    have : ¬ c.toNat = 45 := fun e => hc (UInt8.toNat_inj.1 (by rw [e]; rfl))
    simp; omega
  have hne := not_empty g0
  clear hl hc
  by_cases h17 : 17 < s.size
  · have NO : Hid (∀ k, k < 1000000 → s.data.toList ≠ Lib.decDigits k) := by
      intro k hk e
      have := decDigits_len k hk
      rw [← e, ← size_list] at this
      omega
    go_enter Tryd.func38, Tryd.ntmps38
    go_wp2_with fail
    refine bodyPost_ret (v := .tuple #[.int .i64 0, .bool false]) (by simp [results, Tryd.results38, go_sem]) rfl ?_
    exact ⟨⟨0, false, rfl, by omega, fun k hk e => absurd e (NO.out k hk)⟩, rfl⟩
  by_cases h48 : c = 48 ∧ 1 < s.size
  · obtain ⟨hc48, h1⟩ := h48
    have hc2 : ((c.toNat : Int) == 48) = true := by rw [hc48]; decide
    have NO : Hid (∀ k, k < 1000000 → s.data.toList ≠ Lib.decDigits k) := by
      intro k hk e
      rw [HL.out, hc48] at e
      have e0 := decDigits_zero k r e.symm
      subst e0
      rw [Lib.decDigits_one (by omega)] at e
      injection e with _ e2
      have := hz.out
      rw [e2] at this
      simp only [List.length_nil] at this
      omega
    clear hc48
    go_enter Tryd.func38, Tryd.ntmps38
    go_wp2_with fail
    refine bodyPost_ret (v := .tuple #[.int .i64 0, .bool false]) (by simp [results, Tryd.results38, go_sem]) rfl ?_
    exact ⟨⟨0, false, rfl, by omega, fun k hk e => absurd e (NO.out k hk)⟩, rfl⟩
  have hb : ((c.toNat : Int) == 48) = false ∨ ((c.toNat : Int) == 48) = true ∧ s.size = 1 := by
    by_cases e : c = 48
    · right
      have h2 : ¬ 1 < s.size := fun h => h48 ⟨e, h⟩
      exact ⟨by rw [e]; decide, by omega⟩
    · left
      have : ¬ c.toNat = 48 := fun e' => e (UInt8.toNat_inj.1 (by rw [e']; rfl))
      simp; omega
  have gz : ((s.size : Int) == 0) = false := by simp; omega
  have g17 : (s.size : Int) ≤ 17 := by omega
  clear h48
  rcases hb with hb | ⟨hb, h1⟩
  · go_enter Tryd.func38, Tryd.ntmps38
    go_wp2_with fail
    go_loopw [5, 6] (fun nv iv wr => ∃ k m : Nat, k ≤ s.size ∧ iv = .int .i64 k ∧ nv = .int .i64 m ∧ Lib.decFrom 0 (s.data.toList.take k) = some m ∧ m < 10 ^ k ∧ wr = w) (fun nv iv wr => s.size - (intOf iv).toNat)
    case atStart => exact ⟨0, 0, Nat.zero_le _, rfl, rfl, rfl, by decide, rfl⟩
    case round =>
      obtain ⟨k, m, hk, rfl, rfl, hd, hm, rfl⟩ := hrel
      have HD := hide hd
      clear hd
      by_cases hlt : k < s.size
      · obtain ⟨d, hdd⟩ : ∃ d, s[k] = d := ⟨_, rfl⟩
        have k1 : (0 : Int) ≤ (k : Int) := by omega
        have k2 : (k : Int) < (s.size : Int) := by omega
        have hp : 10 ^ k ≤ 10 ^ 16 := Nat.pow_le_pow_right (by decide) (by omega)
        have hps : 10 ^ (k + 1) = 10 ^ k * 10 := Nat.pow_succ 10 k
        have HT : Hid (s.data.toList.take (k + 1) = s.data.toList.take k ++ [d]) := by show _ = _; rw [take_next s k hlt, hdd]
        have d255 : d.toNat < 256 := d.toNat_lt
        by_cases hgd : 48 ≤ d.toNat ∧ d.toNat ≤ 57
        · obtain ⟨q1, q2⟩ := hgd
          obtain ⟨x, hx⟩ : ∃ x : Nat, d.toNat = 48 + x := ⟨d.toNat - 48, by omega⟩
          have HQ : Hid (Lib.decFrom 0 (s.data.toList.take (k + 1)) = some (m * 10 + x)) := by
            show _ = _
            rw [HT.out, decFrom_snoc HD.out q1 q2]
            congr 1
            omega
          have hn : m * 10 + x < 10 ^ (k + 1) := by rw [hps]; omega
          have HP := hide hn
          have b1 : m < 10000000000000000 := by omega
          have i1 : (48 : Int) ≤ (d.toNat : Int) := by omega
          have i2 : (d.toNat : Int) ≤ 57 := by omega
          have e1 : (d.toNat : Int) - 48 = (x : Int) := by omega
          have b2 : x ≤ 9 := by omega
          clear hn hp hps hm hx q1 q2
          go_wp2_with fail
          exact ⟨⟨k + 1, m * 10 + x, by omega, by go_num, by go_num, HQ.out, HP.out, by first | rfl | trivial⟩, by simp [intOf]; omega⟩
        · have BAD : Hid (∀ n, Lib.decFrom 0 s.data.toList ≠ some n) := by
            intro n hn
            have hsp : s.data.toList = s.data.toList.take k ++ d :: s.data.toList.drop (k + 1) := by
              conv => lhs; rw [← List.take_append_drop (k + 1) s.data.toList, HT.out]
              simp
            rw [hsp] at hn
            exact decFrom_bad (by omega) hn
          have hor : (d.toNat : Int) < 48 ∨ 57 < (d.toNat : Int) := by omega
          clear hp hps hm
          rcases hor with ho | ho
          all_goals
            go_wp2_with fail
            refine bodyPost_ret (v := .tuple #[.int .i64 0, .bool false]) (by simp [results, Tryd.results38, go_sem]) rfl ?_
            exact ⟨⟨0, false, rfl, by omega, fun k' hk' e => absurd (by rw [e]; exact decFrom_digits k') (BAD.out k')⟩, rfl⟩
      · have hkn : k = s.size := by omega
        have HE : Hid (Lib.decFrom 0 s.data.toList = some m) := by
          have := HD.out
          rwa [List.take_of_length_le (by rw [← size_list]; omega)] at this
        have hp : 10 ^ k ≤ 10 ^ 17 := Nat.pow_le_pow_right (by decide) (by omega)
        have b1 : m < 100000000000000000 := by omega
        clear hp hm hkn
        go_wp2_with fail
        refine bodyPost_ret (v := .tuple #[.int .i64 m, .bool true]) (by simp [results, Tryd.results38, go_sem]) rfl ?_
        refine ⟨⟨m, true, rfl, by omega, fun k' hk' e => ⟨?_, rfl⟩⟩, rfl⟩
        have := HE.out
        rw [e, decFrom_digits k'] at this
        injection this with this
        omega
  · have g1 : (s.size : Int) ≤ 1 := by omega
    go_enter Tryd.func38, Tryd.ntmps38
    clear h1
    go_wp2_with fail
    go_loopw [5, 6] (fun nv iv wr => ∃ k m : Nat, k ≤ s.size ∧ iv = .int .i64 k ∧ nv = .int .i64 m ∧ Lib.decFrom 0 (s.data.toList.take k) = some m ∧ m < 10 ^ k ∧ wr = w) (fun nv iv wr => s.size - (intOf iv).toNat)
    case atStart => exact ⟨0, 0, Nat.zero_le _, rfl, rfl, rfl, by decide, rfl⟩
    case round =>
      obtain ⟨k, m, hk, rfl, rfl, hd, hm, rfl⟩ := hrel
      have HD := hide hd
      clear hd
      by_cases hlt : k < s.size
      · obtain ⟨d, hdd⟩ : ∃ d, s[k] = d := ⟨_, rfl⟩
        have k1 : (0 : Int) ≤ (k : Int) := by omega
        have k2 : (k : Int) < (s.size : Int) := by omega
        have hp : 10 ^ k ≤ 10 ^ 16 := Nat.pow_le_pow_right (by decide) (by omega)
        have hps : 10 ^ (k + 1) = 10 ^ k * 10 := Nat.pow_succ 10 k
        have HT : Hid (s.data.toList.take (k + 1) = s.data.toList.take k ++ [d]) := by show _ = _; rw [take_next s k hlt, hdd]
        have d255 : d.toNat < 256 := d.toNat_lt
        by_cases hgd : 48 ≤ d.toNat ∧ d.toNat ≤ 57
        · obtain ⟨q1, q2⟩ := hgd
          obtain ⟨x, hx⟩ : ∃ x : Nat, d.toNat = 48 + x := ⟨d.toNat - 48, by omega⟩
          have HQ : Hid (Lib.decFrom 0 (s.data.toList.take (k + 1)) = some (m * 10 + x)) := by
            show _ = _
            rw [HT.out, decFrom_snoc HD.out q1 q2]
            congr 1
            omega
          have hn : m * 10 + x < 10 ^ (k + 1) := by rw [hps]; omega
          have HP := hide hn
          have b1 : m < 10000000000000000 := by omega
          have i1 : (48 : Int) ≤ (d.toNat : Int) := by omega
          have i2 : (d.toNat : Int) ≤ 57 := by omega
          have e1 : (d.toNat : Int) - 48 = (x : Int) := by omega
          have b2 : x ≤ 9 := by omega
          clear hn hp hps hm hx q1 q2
          go_wp2_with fail
          exact ⟨⟨k + 1, m * 10 + x, by omega, by go_num, by go_num, HQ.out, HP.out, by first | rfl | trivial⟩, by simp [intOf]; omega⟩
        · have BAD : Hid (∀ n, Lib.decFrom 0 s.data.toList ≠ some n) := by
            intro n hn
            have hsp : s.data.toList = s.data.toList.take k ++ d :: s.data.toList.drop (k + 1) := by
              conv => lhs; rw [← List.take_append_drop (k + 1) s.data.toList, HT.out]
              simp
            rw [hsp] at hn
            exact decFrom_bad (by omega) hn
          have hor : (d.toNat : Int) < 48 ∨ 57 < (d.toNat : Int) := by omega
          clear hp hps hm
          rcases hor with ho | ho
          all_goals
            go_wp2_with fail
            refine bodyPost_ret (v := .tuple #[.int .i64 0, .bool false]) (by simp [results, Tryd.results38, go_sem]) rfl ?_
            exact ⟨⟨0, false, rfl, by omega, fun k' hk' e => absurd (by rw [e]; exact decFrom_digits k') (BAD.out k')⟩, rfl⟩
      · have hkn : k = s.size := by omega
        have HE : Hid (Lib.decFrom 0 s.data.toList = some m) := by
          have := HD.out
          rwa [List.take_of_length_le (by rw [← size_list]; omega)] at this
        have hp : 10 ^ k ≤ 10 ^ 17 := Nat.pow_le_pow_right (by decide) (by omega)
        have b1 : m < 100000000000000000 := by omega
        clear hp hm hkn
        go_wp2_with fail
        refine bodyPost_ret (v := .tuple #[.int .i64 m, .bool true]) (by simp [results, Tryd.results38, go_sem]) rfl ?_
        refine ⟨⟨m, true, rfl, by omega, fun k' hk' e => ⟨?_, rfl⟩⟩, rfl⟩
        have := HE.out
        rw [e, decFrom_digits k'] at this
        injection this with this
        omega

theorem digits_not_minus {r : List UInt8} (k : Nat) : 45 :: r ≠ Lib.decDigits k := by
  intro e
  obtain ⟨c, t, h, h1, h2⟩ := decDigits_head k
  rw [h] at e
  injection e with e1 _
  subst e1
  exact absurd h1 (by decide)

set_option maxHeartbeats 3200000 in
theorem num14_minus (s : ByteArray) (w : World) (hs : s.size ≤ 1048576) (r : List UInt8) (hl : s.data.toList = 45 :: r) :
    Calls Tryd.prog 38 #[.string s] w fun e w' => NumAns s.data.toList e ∧ w' = w := by
  have NO : Hid (∀ k, k < 1000000 → s.data.toList ≠ Lib.decDigits k) := by
    intro k hk e
    rw [hl] at e
    exact digits_not_minus k e
  have hz : s.size = r.length + 1 := by rw [size_list, hl]; simp
  have g0 : 0 < s.size := by omega
  have hh : s[0] = 45 := by have := byte_at s 0 g0; rw [hl] at this; simpa using this.symm
  have hr := (first_ext s r 45 hl).2
  obtain ⟨t, ht⟩ : ∃ t, s.extract 1 s.size = t := ⟨_, rfl⟩
  rw [ht] at hr
  have hne := not_empty g0
  have htz : t.size = r.length := by rw [size_list, hr]
  have htb : t.size ≤ 1048576 := by omega
  have g1 : (1 : Int) ≤ (s.size : Int) := by omega
  clear hl hz
  by_cases h0 : t.size = 0
  · have he : t = ByteArray.empty := bytes_inj (by
      rw [hr]
      have : r = [] := List.length_eq_zero_iff.1 (by omega)
      rw [this]; rfl)
    clear hr htz h0 htb
    subst he
    go_enter Tryd.func38, Tryd.ntmps38
    go_wp2_with fail
    refine bodyPost_ret (v := .tuple #[.int .i64 0, .bool false]) (by simp [results, Tryd.results38, go_sem]) rfl ?_
    exact ⟨⟨0, false, rfl, by omega, fun k' hk' e => absurd e (NO.out k' hk')⟩, rfl⟩
  have hne2 := not_empty (show 0 < t.size by omega)
  have gz : ((t.size : Int) == 0) = false := by simp; omega
  by_cases h17 : 17 < t.size
  · clear hr htz
    go_enter Tryd.func38, Tryd.ntmps38
    go_wp2_with fail
    refine bodyPost_ret (v := .tuple #[.int .i64 0, .bool false]) (by simp [results, Tryd.results38, go_sem]) rfl ?_
    exact ⟨⟨0, false, rfl, by omega, fun k' hk' e => absurd e (NO.out k' hk')⟩, rfl⟩
  have g17 : (t.size : Int) ≤ 17 := by omega
  have t0 : 0 < t.size := by omega
  clear hr htz
  obtain ⟨c, hc⟩ : ∃ c, t[0]'t0 = c := ⟨_, rfl⟩
  by_cases h48 : c = 48
  · have hb : ((c.toNat : Int) == 48) = true := by rw [h48]; decide
    clear h48
    go_enter Tryd.func38, Tryd.ntmps38
    go_wp2_with fail
    all_goals
      refine bodyPost_ret (v := .tuple #[.int .i64 0, .bool false]) (by simp [results, Tryd.results38, go_sem]) rfl ?_
      exact ⟨⟨0, false, rfl, by omega, fun k' hk' e => absurd e (NO.out k' hk')⟩, rfl⟩
  · have hb : ((c.toNat : Int) == 48) = false := by
      have : ¬ c.toNat = 48 := fun e' => h48 (UInt8.toNat_inj.1 (by rw [e']; rfl))
      simp; omega
    clear h48
    go_enter Tryd.func38, Tryd.ntmps38
    go_wp2_with fail
    go_loopw [5, 6] (fun nv iv wr => ∃ k m : Nat, k ≤ t.size ∧ iv = .int .i64 k ∧ nv = .int .i64 m ∧ Lib.decFrom 0 (t.data.toList.take k) = some m ∧ m < 10 ^ k ∧ wr = w) (fun nv iv wr => t.size - (intOf iv).toNat)
    case atStart => exact ⟨0, 0, Nat.zero_le _, rfl, rfl, rfl, by decide, rfl⟩
    case round =>
      obtain ⟨k, m, hk, rfl, rfl, hd, hm, rfl⟩ := hrel
      have HD := hide hd
      clear hd
      by_cases hlt : k < t.size
      · obtain ⟨d, hdd⟩ : ∃ d, t[k] = d := ⟨_, rfl⟩
        have k1 : (0 : Int) ≤ (k : Int) := by omega
        have k2 : (k : Int) < (t.size : Int) := by omega
        have hp : 10 ^ k ≤ 10 ^ 16 := Nat.pow_le_pow_right (by decide) (by omega)
        have hps : 10 ^ (k + 1) = 10 ^ k * 10 := Nat.pow_succ 10 k
        have HT : Hid (t.data.toList.take (k + 1) = t.data.toList.take k ++ [d]) := by show _ = _; rw [take_next t k hlt, hdd]
        have d255 : d.toNat < 256 := d.toNat_lt
        by_cases hgd : 48 ≤ d.toNat ∧ d.toNat ≤ 57
        · obtain ⟨q1, q2⟩ := hgd
          obtain ⟨x, hx⟩ : ∃ x : Nat, d.toNat = 48 + x := ⟨d.toNat - 48, by omega⟩
          have HQ : Hid (Lib.decFrom 0 (t.data.toList.take (k + 1)) = some (m * 10 + x)) := by
            show _ = _
            rw [HT.out, decFrom_snoc HD.out q1 q2]
            congr 1
            omega
          have hn : m * 10 + x < 10 ^ (k + 1) := by rw [hps]; omega
          have HP := hide hn
          have b1 : m < 10000000000000000 := by omega
          have i1 : (48 : Int) ≤ (d.toNat : Int) := by omega
          have i2 : (d.toNat : Int) ≤ 57 := by omega
          have e1 : (d.toNat : Int) - 48 = (x : Int) := by omega
          have b2 : x ≤ 9 := by omega
          clear hn hp hps hm hx q1 q2
          go_wp2_with fail
          exact ⟨⟨k + 1, m * 10 + x, by omega, by go_num, by go_num, HQ.out, HP.out, by first | rfl | trivial⟩, by simp [intOf]; omega⟩
        · have BAD : Hid (∀ n, Lib.decFrom 0 t.data.toList ≠ some n) := by
            intro n hn
            have hsp : t.data.toList = t.data.toList.take k ++ d :: t.data.toList.drop (k + 1) := by
              conv => lhs; rw [← List.take_append_drop (k + 1) t.data.toList, HT.out]
              simp
            rw [hsp] at hn
            exact decFrom_bad (by omega) hn
          have hor : (d.toNat : Int) < 48 ∨ 57 < (d.toNat : Int) := by omega
          clear hp hps hm
          rcases hor with ho | ho
          all_goals
            go_wp2_with fail
            refine bodyPost_ret (v := .tuple #[.int .i64 0, .bool false]) (by simp [results, Tryd.results38, go_sem]) rfl ?_
            exact ⟨⟨0, false, rfl, by omega, fun k' hk' e => absurd e (NO.out k' hk')⟩, rfl⟩
      · have hkn : k = t.size := by omega
        have HE : Hid (Lib.decFrom 0 t.data.toList = some m) := by
          have := HD.out
          rwa [List.take_of_length_le (by rw [← size_list]; omega)] at this
        have hp : 10 ^ k ≤ 10 ^ 17 := Nat.pow_le_pow_right (by decide) (by omega)
        have b1 : m < 100000000000000000 := by omega
        clear hp hm hkn
        go_wp2_with fail
        refine bodyPost_ret (v := .tuple #[.int .i64 (-m), .bool true]) (by simp [results, Tryd.results38, go_sem]) rfl ?_
        exact ⟨⟨-m, true, rfl, by omega, fun k' hk' e => absurd e (NO.out k' hk')⟩, rfl⟩

set_option maxHeartbeats 800000 in
theorem num14_none (s : ByteArray) (w : World) (hl : s.data.toList = []) :
    Calls Tryd.prog 38 #[.string s] w fun e w' => NumAns s.data.toList e ∧ w' = w := by
  have he : s = ByteArray.empty := bytes_inj hl
  have NO : Hid (∀ k, k < 1000000 → s.data.toList ≠ Lib.decDigits k) := by
    intro k hk e
    rw [hl] at e
    exact decDigits_ne k e.symm
  clear hl
  subst he
  go_enter Tryd.func38, Tryd.ntmps38
  go_wp2_with fail
  refine bodyPost_ret (v := .tuple #[.int .i64 0, .bool false]) (by simp [results, Tryd.results38, go_sem]) rfl ?_
  exact ⟨⟨0, false, rfl, by omega, fun k' hk' e => absurd e (NO.out k' hk')⟩, rfl⟩

theorem num14_any (s : ByteArray) (w : World) (hs : s.size ≤ 1048576) :
    Calls Tryd.prog 38 #[.string s] w fun e w' => NumAns s.data.toList e ∧ w' = w := by
  cases hl : s.data.toList with
  | nil => rw [← hl]; exact num14_none s w hl
  | cons c r =>
    rw [← hl]
    by_cases hc : c = 45
    · subst hc; exact num14_minus s w hs r hl
    · exact num14_plain s w hs c r hl hc
end Go.Proofs.YtdicmlbgpbglpaaDoor
