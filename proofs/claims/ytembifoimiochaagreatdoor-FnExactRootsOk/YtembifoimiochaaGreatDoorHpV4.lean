/- Sets of places as bits: add, has, within. -/
import Derived.Test.YtembifoimiochaaGreatDoorHpV3
import Derived.Laws.ShiftsVar
namespace Go.Proofs.YtembifoimiochaaGreatDoor
open Go.ChangeShapes Go.WideShapes Go.ChangeAt Go.RowKit Go.Shelf Go.Deep
set_option linter.unusedVariables false
set_option linter.unusedSimpArgs false

def bv (P : Nat → Bool) : Nat → Nat
 | 0 => 0
 | n + 1 => bv P n + if P n = true then 2 ^ n else 0
theorem bv_lt (P : Nat → Bool) : ∀ n, bv P n < 2 ^ n
 | 0 => by simp [bv]
 | n + 1 => by
  have := bv_lt P n
  unfold bv
  rw [Nat.pow_succ]
  split <;> omega
theorem bv_bit (P : Nat → Bool) : ∀ n i, (bv P n).testBit i = (decide (i < n) && P i)
 | 0, i => by simp [bv]
 | n + 1, i => by
  have h := bv_lt P n
  have ih := bv_bit P n
  unfold bv
  by_cases hp : P n = true
  ·rw [if_pos hp, Nat.add_comm]
   by_cases h1 : i < n
   ·rw [Nat.testBit_two_pow_add_gt h1, ih i, decide_eq_true h1, decide_eq_true (show i < n + 1 by omega)]
   ·by_cases h2 : i = n
    ·subst h2
     rw [Nat.testBit_two_pow_add_eq, ih i, hp]
     simp
    ·rw [Nat.testBit_lt_two_pow (show 2 ^ n + bv P n < 2 ^ i from Nat.lt_of_lt_of_le (show 2 ^ n + bv P n < 2 ^ (n + 1) by rw [Nat.pow_succ]; omega) (Nat.pow_le_pow_right (by decide) (by omega)))]
     simp; omega
  ·rw [if_neg hp, Nat.add_zero, ih i]
   by_cases h2 : i = n
   ·subst h2; simp [hp]
   ·have : decide (i < n + 1) = decide (i < n) := by rw [decide_eq_decide]; omega
    rw [this]
theorem bv_has (P : Nat → Bool) {n i : Nat} (h : i < n) : (bv P n / 2 ^ i) % 2 = if P i = true then 1 else 0 := by
 have h1 := bv_bit P n i
 rw [Nat.testBit_eq_decide_div_mod_eq, decide_eq_true h] at h1
 simp only [Bool.true_and] at h1
 by_cases hp : P i = true
 ·rw [hp] at h1
  rw [if_pos hp]; simpa using h1
 ·rw [if_neg hp]
  have hp2 : P i = false := by simpa using hp
  rw [hp2] at h1
  simp at h1
  omega
def setP (P : Nat → Bool) (j i : Nat) : Bool := P i || decide (i = j)
theorem bv_set (P : Nat → Bool) {n j : Nat} (h : j < n) : bv P n ||| 2 ^ j = bv (setP P j) n := by
 refine Nat.eq_of_testBit_eq fun i => ?_
 rw [Nat.testBit_or, bv_bit, bv_bit, Nat.testBit_two_pow]
 unfold setP
 by_cases e : i = j
 ·subst e; simp [h]
 ·have e2 : ¬ j = i := fun x => e x.symm
  simp [e, e2]
theorem pow64 {r : Nat} (hr : r < 64) : 2 ^ r < 18446744073709551616 := Nat.lt_of_lt_of_le (Nat.pow_lt_pow_right (by decide) hr) (by decide)
theorem wrap_pow {r : Nat} (hr : r < 64) : IntKind.u64.wrap ((2 : Int) ^ r) = ((2 ^ r : Nat) : Int) := by
 have h := pow64 hr
 have e : ((2 : Int) ^ r) = ((2 ^ r : Nat) : Int) := by push_cast; rfl
 rw [e]
 generalize 2 ^ r = x at *
 rw [IntKind.wrap_u64]
 omega
theorem and_one {n : Nat} (r : Nat) (hn : n < 2 ^ 64) : (bits .and .u64 ((n : Int) / 2 ^ r) 1 == 1) = decide (n / 2 ^ r % 2 = 1) := by
 have e : ((n : Int) / 2 ^ r) = ((n / 2 ^ r : Nat) : Int) := by push_cast; rfl
 have h1 : n / 2 ^ r < 18446744073709551616 := Nat.lt_of_le_of_lt (Nat.div_le_self _ _) (by simpa using hn)
 have h2 := u64_and_nat (n / 2 ^ r) 1 h1 (by decide)
 rw [e]
 rw [show ((1 : Int)) = ((1 : Nat) : Int) from rfl, h2, Nat.and_one_is_mod]
 by_cases h : n / 2 ^ r % 2 = 1
 ·rw [h]; rfl
 ·have h3 : n / 2 ^ r % 2 = 0 := by omega
  rw [h3]; rfl
theorem bv_not (P Q : Nat → Bool) : (bv P 64 &&& (18446744073709551615 - bv Q 64) = 0) ↔ allTo (fun i => !P i || Q i) 64 = true := by
 have e : 18446744073709551615 - bv Q 64 = 2 ^ 64 - (bv Q 64 + 1) := by have := bv_lt Q 64; omega
 rw [e, allTo_iff]
 constructor
 ·intro h i hi
  have h2 := congrArg (fun x => x.testBit i) h
  simp only [Nat.testBit_and, Nat.testBit_two_pow_sub_succ (bv_lt Q 64), bv_bit, Nat.zero_testBit, decide_eq_true hi, Bool.true_and] at h2
  cases hp : P i <;> cases hq : Q i <;> simp_all
 ·intro h
  refine Nat.eq_of_testBit_eq fun i => ?_
  simp only [Nat.testBit_and, Nat.testBit_two_pow_sub_succ (bv_lt Q 64), bv_bit, Nat.zero_testBit]
  by_cases hi : i < 64
  ·have := h i hi
   cases hp : P i <;> cases hq : Q i <;> simp_all
  ·simp [hi]
/-- A set of places lies there: three words. -/
def BitsAt (w : World) (b o : Nat) (P : Nat → Bool) : Prop := ∀ j, j < 3 → w.cell? ⟨b, o + j, none⟩ = some (.int .u64 ((bv (fun i => P (64 * j + i)) 64 : Nat) : Int))
theorem BitsAt.cells {w w' : World} {b o : Nat} {P : Nat → Bool} (h : BitsAt w b o P) (hc : ∀ o', w'.cell? ⟨b, o', none⟩ = w.cell? ⟨b, o', none⟩) : BitsAt w' b o P := fun j hj => (hc _).trans (h j hj)
theorem split64 (m : Nat) : ∃ j r : Nat, m = 64 * j + r ∧ r < 64 ∧ (m : Int) / 64 = (j : Int) ∧ (m : Int) % 64 = (r : Int) ∧ (m : Int).tdiv 64 = (j : Int) ∧ (m : Int).tmod 64 = (r : Int) := by
 refine ⟨m / 64, m % 64, by omega, by omega, by omega, by omega, ?_, ?_⟩
 ·rw [Int.tdiv_eq_ediv_of_nonneg (by omega)]; omega
 ·rw [Int.tmod_eq_emod_of_nonneg (by omega)]; omega
set_option maxRecDepth 100000 in
set_option maxHeartbeats 4000000 in
theorem bitsAdd_core (b o m j r n : Nat) (w : World) (hj : j < 3) (hr : r < 64) (e1 : (m : Int) / 64 = (j : Int)) (e2 : (m : Int) % 64 = (r : Int)) (e3 : (m : Int).tdiv 64 = (j : Int)) (e4 : (m : Int).tmod 64 = (r : Int)) (hm : m < 192)
 (c : w.cell? ⟨b, o + j, none⟩ = some (.int .u64 (n : Int))) (hf : w.frozen? ⟨b, o + j, none⟩ = false) (hn : n < 2 ^ 64) :
 Calls Tryz.prog 81 #[.pointer (some ⟨b, o, none⟩), .int .i64 (m : Int)] w fun e w' => e = .returned (.tuple #[]) ∧ ∃ x : Int, w' = w.drew.setCell ⟨b, o + j, none⟩ (.int .u64 x) ∧ x = ((n ||| 2 ^ r : Nat) : Int) := by
 have g1 : (0 : Int) ≤ (j : Int) := by omega
 have g2 : (j : Int) < 3 := by omega
 have g3 : (0 : Int) ≤ (r : Int) := by omega
 have g4 : ¬ ((r : Int) < 0) := by omega
 have g5 : (0 : Int) ≤ (m : Int) := by omega
 have g6 : min r 64 = r := by omega
 have g7 : IntKind.i64.wrap (j : Int) = (j : Int) := by rw [IntKind.wrap_i64]; omega
 have g8 : IntKind.i64.wrap (r : Int) = (r : Int) := by rw [IntKind.wrap_i64]; omega
 have hv : bits .or .u64 (n : Int) (IntKind.u64.wrap ((2 : Int) ^ r)) = ((n ||| 2 ^ r : Nat) : Int) := by rw [wrap_pow hr]; exact u64_or_nat _ _ (by simpa using hn) (pow64 hr)
 go_enter Tryz.func81, Tryz.ntmps81
 go_region_law (fail)
 all_goals (try go_wp2)
 all_goals (go_end0; exact ⟨rfl, rfl⟩)
set_option maxRecDepth 100000 in
set_option maxHeartbeats 4000000 in
theorem bitsHas_core (b o m j r n : Nat) (w : World) (hj : j < 3) (hr : r < 64) (e1 : (m : Int) / 64 = (j : Int)) (e2 : (m : Int) % 64 = (r : Int)) (e3 : (m : Int).tdiv 64 = (j : Int)) (e4 : (m : Int).tmod 64 = (r : Int)) (hm : m < 160)
 (c : w.cell? ⟨b, o + j, none⟩ = some (.int .u64 (n : Int))) (hn : n < 2 ^ 64) :
 Calls Tryz.prog 84 #[.pointer (some ⟨b, o, none⟩), .int .i64 (m : Int)] w fun e w' => e = .returned (.bool (decide (n / 2 ^ r % 2 = 1))) ∧ w' = w := by
 have g1 : (0 : Int) ≤ (j : Int) := by omega
 have g2 : (j : Int) < 3 := by omega
 have g3 : (0 : Int) ≤ (r : Int) := by omega
 have g4 : ¬ ((r : Int) < 0) := by omega
 have g5 : (0 : Int) ≤ (m : Int) := by omega
 have g9 : (m : Int) < 160 := by omega
 have g6 : min r 64 = r := by omega
 have g7 : IntKind.i64.wrap (j : Int) = (j : Int) := by rw [IntKind.wrap_i64]; omega
 have g8 : IntKind.i64.wrap (r : Int) = (r : Int) := by rw [IntKind.wrap_i64]; omega
 go_enter Tryz.func84, Tryz.ntmps84
 go_wp2_with fail
 go_ret
 exact ⟨ret_bool (and_one r hn), rfl⟩
theorem bitsHas_no (b o : Nat) (m : Int) (w : World) (h : ¬ (0 ≤ m ∧ m < 160)) :
 Calls Tryz.prog 84 #[.pointer (some ⟨b, o, none⟩), .int .i64 m] w fun e w' => e = .returned (.bool false) ∧ w' = w := by
 by_cases h0 : 0 ≤ m
 ·have h1 : ¬ m < 160 := by omega
  clear h
  go_enter Tryz.func84, Tryz.ntmps84
  go_wp2_with fail
  go_ret
  exact ⟨rfl, rfl⟩
 ·clear h
  go_enter Tryz.func84, Tryz.ntmps84
  go_wp2_with fail
  go_ret
  exact ⟨rfl, rfl⟩
theorem bv_put {P : Nat → Bool} {m j r : Nat} (hm : m = 64 * j + r) (hr : r < 64) : bv (fun i => P (64 * j + i)) 64 ||| 2 ^ r = bv (fun i => setP P m (64 * j + i)) 64 := by
 rw [bv_set _ hr]
 refine congrArg (fun f => bv f 64) (funext fun i => ?_)
 unfold setP
 congr 1
 rw [decide_eq_decide]
 omega
theorem bitsAdd_any (b o m : Nat) (P : Nat → Bool) (w : World) (hm : m < 192) (H : BitsAt w b o P) (hf : ∀ o', w.frozen? ⟨b, o', none⟩ = false) :
 Calls Tryz.prog 81 #[.pointer (some ⟨b, o, none⟩), .int .i64 (m : Int)] w fun e w' => e = .returned (.tuple #[]) ∧ w' = w.drew.setCell ⟨b, o + m / 64, none⟩ (.int .u64 ((bv (fun i => setP P m (64 * (m / 64) + i)) 64 : Nat) : Int)) := by
 obtain ⟨j, r, hm', hr, e1, e2, e3, e4⟩ := split64 m
 have hj : j < 3 := by omega
 have hd : m / 64 = j := by omega
 rw [hd]
 refine (bitsAdd_core b o m j r _ w hj hr e1 e2 e3 e4 hm (H j hj) (hf _) (bv_lt _ _)).mono ?_
 rintro e w' ⟨rfl, x, rfl, rfl⟩
 rw [bv_put hm' hr]
 exact ⟨rfl, rfl⟩
theorem BitsAt.add {w w' : World} {b o m : Nat} {P : Nat → Bool} (H : BitsAt w b o P) (hm : m < 192) (c0 : ∀ j, j < 3 → j ≠ m / 64 → w'.cell? ⟨b, o + j, none⟩ = w.cell? ⟨b, o + j, none⟩) (c1 : w'.cell? ⟨b, o + m / 64, none⟩ = some (.int .u64 ((bv (fun i => setP P m (64 * (m / 64) + i)) 64 : Nat) : Int))) : BitsAt w' b o (setP P m) := fun j hj => by
 by_cases e : j = m / 64
 ·subst e; exact c1
 ·rw [c0 j hj e, H j hj]
  have : (fun i => P (64 * j + i)) = (fun i => P (64 * j + i)) := rfl
  refine congrArg (fun x : Nat => some (Value.int .u64 (x : Int))) (Nat.eq_of_testBit_eq fun i => ?_)
  rw [bv_bit, bv_bit]
  by_cases hi : i < 64
  ·unfold setP
   have : ¬ 64 * j + i = m := by omega
   simp [this]
  ·simp [hi]
theorem bitsHas_any (b o : Nat) (m : Int) (P : Nat → Bool) (w : World) (H : BitsAt w b o P) :
 Calls Tryz.prog 84 #[.pointer (some ⟨b, o, none⟩), .int .i64 m] w fun e w' => e = .returned (.bool (decide (0 ≤ m ∧ m < 160) && P m.toNat)) ∧ w' = w := by
 by_cases h : 0 ≤ m ∧ m < 160
 ·obtain ⟨k, rfl⟩ := Int.eq_ofNat_of_zero_le h.1
  obtain ⟨j, r, hm', hr, e1, e2, e3, e4⟩ := split64 k
  have hj : j < 3 := by omega
  refine (bitsHas_core b o k j r _ w hj hr e1 e2 e3 e4 (by omega) (H j hj) (bv_lt _ _)).mono ?_
  rintro e w' ⟨rfl, rfl⟩
  refine ⟨ret_bool ?_, rfl⟩
  rw [bv_has _ hr, decide_eq_true h, Bool.true_and, Int.toNat_natCast, hm']
  cases P (64 * j + r) <;> rfl
 ·refine (bitsHas_no b o m w h).mono ?_
  rintro e w' ⟨rfl, rfl⟩
  rw [decide_eq_false h]
  exact ⟨rfl, rfl⟩
theorem allTo_64 (p : Nat → Bool) (k : Nat) : allTo p (64 * (k + 1)) = (allTo p (64 * k) && allTo (fun i => p (64 * k + i)) 64) := by
 rw [Bool.eq_iff_iff, Bool.and_eq_true, allTo_iff, allTo_iff, allTo_iff]
 constructor
 ·intro h; exact ⟨fun i hi => h i (by omega), fun i hi => h _ (by omega)⟩
 ·rintro ⟨h1, h2⟩ i hi
  by_cases h3 : i < 64 * k
  ·exact h1 i h3
  ·have := h2 (i - 64 * k) (by omega)
   rwa [show 64 * k + (i - 64 * k) = i by omega] at this
set_option maxRecDepth 100000 in
set_option maxHeartbeats 4000000 in
theorem bitsWithin_any (b o b' o' : Nat) (P Q : Nat → Bool) (w : World) (H : BitsAt w b o P) (H' : BitsAt w b' o' Q) (hb : b < w.heap.size) (hb' : b' < w.heap.size) :
 Calls Tryz.prog 86 #[.pointer (some ⟨b, o, none⟩), .pointer (some ⟨b', o', none⟩)] w fun e w' => e = .returned (.bool (allTo (fun i => !P i || Q i) 192)) ∧ Below w.heap.size w w' := by
 obtain ⟨T, hT⟩ : ∃ T, T = fun i => !P i || Q i := ⟨_, rfl⟩
 rw [← hT]
 have HT := hide hT
 have HH := hide H
 have HH' := hide H'
 have HN := hide (fun k => bv_not (fun i => P (64 * k + i)) (fun i => Q (64 * k + i)))
 have HA := hide (fun k => allTo_64 T k)
 clear hT H H'
 go_enter Tryz.func86, Tryz.ntmps86
 go_wp2_with fail
 go_loopw [8] (fun i wr => ∃ k : Nat, k ≤ 3 ∧ i = .int .i64 k ∧ allTo T (64 * k) = true ∧ Below w.heap.size w wr) (fun i wr => 3 - (intOf i).toNat)
 case atStart => exact ⟨0, Nat.zero_le _, rfl, rfl, Below.refl _ _⟩
 case round =>
  obtain ⟨k, hk, rfl, hu, hB⟩ := hrel
  have HU := hide hu
  have HB := hide hB
  clear hu hB
  by_cases hlt : k < 3
  ·have q1 : (0 : Int) ≤ (k : Int) := by omega
   have q2 : (k : Int) < 3 := by omega
   have c1 := (HB.out.cell (p := ⟨b, o + k, none⟩) hb).trans (HH.out k hlt)
   have c2 := (HB.out.cell (p := ⟨b', o' + k, none⟩) hb').trans (HH'.out k hlt)
   have hn1 := bv_lt (fun i => P (64 * k + i)) 64
   have hn2 := bv_lt (fun i => Q (64 * k + i)) 64
   have hz := HN.out k
   have ha := HA.out k
   have e : allTo (fun i => !P (64 * k + i) || Q (64 * k + i)) 64 = allTo (fun i => T (64 * k + i)) 64 := by rw [HT.out]
   rw [e] at hz
   generalize bv (fun i => P (64 * k + i)) 64 = x at *
   generalize bv (fun i => Q (64 * k + i)) 64 = y at *
   have ex := u64_andNot_nat x y (by simpa using hn1) (by simpa using hn2)
   rw [HU.out, Bool.true_and] at ha
   have hx : x &&& (18446744073709551615 - y) < 18446744073709551616 := Nat.lt_of_le_of_lt Nat.and_le_left (by simpa using hn1)
   cases hv : allTo (fun i => T (64 * k + i)) 64 with
   | true =>
    have e0 := hz.2 hv
    rw [e0] at ex
    rw [hv] at ha
    have HA1 := hide ha
    clear hz ha hv e0 hn1 hn2 hx e
    go_wp2_with fail
    go_quiet (fail)
    go_wp2_with fail
    exact ⟨⟨k + 1, by omega, by go_num, HA1.out, below_drewN HB.out _⟩, by simp [intOf]; omega⟩
   | false =>
    have e0 : ¬ (x &&& (18446744073709551615 - y) = 0) := fun h => by rw [hz.1 h] at hv; cases hv
    rw [hv] at ha
    have HA1 : Hid (allTo T 192 = false) := by
     refine Bool.eq_false_iff.2 fun h => ?_
     rw [allTo_iff] at h
     have : allTo T (64 * (k + 1)) = true := allTo_iff.2 fun i hi => h i (by omega)
     rw [ha] at this; cases this
    have e1 : (((x &&& (18446744073709551615 - y) : Nat) : Int) != 0) = true := by simp; omega
    clear hz ha hv hn1 hn2 e
    generalize x &&& (18446744073709551615 - y) = z at *
    have e2 : ¬ ((z : Int) = 0) := by omega
    go_wp2_with fail
    go_quiet (fail)
    go_wp2_with fail
    go_ret
    exact ⟨ret_bool HA1.out.symm, below_drewN HB.out _⟩
  ·have hk3 : k = 3 := by omega
   subst hk3
   go_wp2_with fail
   go_ret
   exact ⟨ret_bool HU.out.symm, HB.out⟩
end Go.Proofs.YtembifoimiochaaGreatDoor
