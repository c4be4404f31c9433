/- l6Find, l7Len, l7Field, l7Size, l7Zero of the model. -/
import Derived.Test.YtembifoimiochaaGreatDoorHpM
import Derived.Test.YtembifoimiochaaGreatDoorPhGen
namespace Go.Proofs.YtembifoimiochaaGreatDoor
open Go.ChangeShapes Go.WideShapes Go.ChangeAt Go.RowKit Go.Deep
set_option linter.unusedVariables false
set_option linter.unusedSimpArgs false

theorem wrapIh {x : Int} (h1 : -9223372036854775808 ≤ x) (h2 : x ≤ 9223372036854775807) : IntKind.i64.wrap x = x := by
 have e : IntKind.i64.wrap x = if 9223372036854775808 ≤ x % 18446744073709551616 then x % 18446744073709551616 - 18446744073709551616 else x % 18446744073709551616 := by simp [IntKind.wrap, IntKind.bits, IntKind.signed]
 rw [e]
 split <;> omega
theorem nAt_get {T : List Int} {q : Nat} (h : q < T.length) : T[q] = nAt T q := by
 unfold nAt
 rw [List.getD_eq_getElem?_getD, List.getElem?_eq_getElem h]; rfl
theorem mem_of_nAt {T : List Int} {q : Nat} (h : q < T.length) : nAt T q ∈ T := by
 rw [← nAt_get h]; exact List.getElem_mem h
theorem nAt_of_mem {T : List Int} {t : Int} (h : t ∈ T) : ∃ q, q < T.length ∧ nAt T q = t := by
 obtain ⟨q, h1, h2⟩ := List.getElem_of_mem h
 exact ⟨q, h1, by rw [← nAt_get h1]; exact h2⟩

set_option maxHeartbeats 800000 in
theorem l6Find_any (a : Option Addr) (c lo hi : Nat) (xs : List Int) (n : Int) (w : World) (hL : xs.length ≤ 1048576) (hx : IntsIn w lo hi a xs) (hh : hi ≤ w.heap.size) :
 Calls Tryz.prog 46 #[.slice a xs.length c, .int .i64 n] w fun e w' => (∃ r : Int, e = .returned (.int .i64 r) ∧ -1 ≤ r ∧ (0 ≤ r ↔ n ∈ xs)) ∧ w' = w := by
 rcases hx with h0 | ⟨b, off, rfl, h1, h2, h3⟩
 ·subst h0
  go_enter Tryz.func46, Tryz.ntmps46
  go_wp2_with fail
  go_loop [5] (fun i => i = .int .i64 0) (fun i => 0)
  case atStart => rfl
  case round =>
   subst hrel
   go_wp2_with fail
   go_ret
   exact ⟨⟨-1, rfl, by omega, by simp⟩, rfl⟩
 ·have H3 := hide h3
  have hb : b < w.heap.size := by omega
  clear h3
  go_enter Tryz.func46, Tryz.ntmps46
  go_wp2_with fail
  go_loop [5] (fun i => ∃ j : Nat, j ≤ xs.length ∧ i = .int .i64 (j : Int) ∧ Hid (∀ q, q < j → nAt xs q ≠ n)) (fun i => xs.length - (intOf i).toNat)
  case atStart => exact ⟨0, Nat.zero_le _, rfl, fun q h => absurd h (Nat.not_lt_zero _)⟩
  case round =>
   obtain ⟨j, hj, rfl, HQ⟩ := hrel
   by_cases hlt : j < xs.length
   ·have c1 := H3.out j hlt
    have q1 : (0 : Int) ≤ (j : Int) := by omega
    have q2 : (j : Int) < (xs.length : Int) := by omega
    by_cases he : nAt xs j = n
    ·have HM : Hid (n ∈ xs) := by show _; rw [← he]; exact mem_of_nAt hlt
     rw [he] at c1
     clear he
     go_wp2_with fail
     go_ret
     exact ⟨⟨(j : Int), rfl, by omega, ⟨fun _ => HM.out, fun _ => by omega⟩⟩, rfl⟩
    ·have HQ2 : Hid (∀ q, q < j + 1 → nAt xs q ≠ n) := fun q hq => by
      by_cases e : q = j
      ·rw [e]; exact he
      ·exact HQ.out q (by omega)
     have hn : (nAt xs j == n) = false := beq_eq_false_iff_ne.2 he
     generalize nAt xs j = y at *
     clear he
     go_wp2_with fail
     exact ⟨⟨j + 1, by omega, by go_num, HQ2⟩, by simp [intOf]; omega⟩
   ·have hq : ¬ (j : Int) < (xs.length : Int) := by omega
    have HM : Hid (¬ n ∈ xs) := fun hm => by
     obtain ⟨q, h4, h5⟩ := nAt_of_mem hm
     exact HQ.out q (by omega) h5
    go_wp2_with fail
    go_ret
    exact ⟨⟨-1, rfl, by omega, ⟨fun h => by omega, fun h => absurd h HM.out⟩⟩, rfl⟩

theorem types_at {w : World} {lo hi : Nat} {a : Option Addr} {gs : List (List Ty)} (h : TypesIn w lo hi a (flat gs)) {i : Nat} (hi' : i < kinCount gs) :
 ∃ b off fa fc, a = some ⟨b, off, none⟩ ∧ lo ≤ b ∧ b < hi ∧ w.cell? ⟨b, off + i * 4, none⟩ = some (.int .i64 (tyN gs i).kind) ∧ w.cell? ⟨b, off + i * 4 + 1, none⟩ = some (.int .i64 (tyN gs i).up) ∧ w.cell? ⟨b, off + i * 4 + 2, none⟩ = some (.bool (tyN gs i).last) ∧ w.cell? ⟨b, off + i * 4 + 3, none⟩ = some (.slice fa (tyN gs i).fields.length fc) ∧ FieldsIn w lo hi fa (tyN gs i).fields := by
 rcases h with h0 | ⟨b, off, e, h1, h2, h3⟩
 ·have := flat_length gs
  rw [h0] at this
  simp at this
  omega
 ·obtain ⟨q0, q1, q2, fa, fc, q3, q4⟩ := h3 i (by rw [flat_length]; exact hi')
  exact ⟨b, off, fa, fc, e, h1, h2, q0, q1, q2, q3, q4⟩

set_option maxHeartbeats 1600000 in
theorem l7Len_any (ta : Option Addr) (tc lo hi : Nat) (gs : List (List Ty)) (head : Int) (w : World) (hN : kinCount gs ≤ 8) (hx : TypesIn w lo hi ta (flat gs)) (hh : hi ≤ w.heap.size) (h1 : -9223372036854775808 ≤ head) (h2 : head ≤ 9223372036854775807) :
 Calls Tryz.prog 63 #[.slice ta (kinCount gs) tc, .int .i64 head] w fun e w' => e = .returned (.int .i64 (lenF gs head)) ∧ w' = w := by
 by_cases hneg : head < 0
 ·have HL : Hid (lenF gs head = -1) := by show _ = _; unfold lenF; rw [if_pos (.inl hneg)]
  go_enter Tryz.func63, Tryz.ntmps63
  go_wp2_with fail
  go_ret
  exact ⟨ret_int HL.out.symm, rfl⟩
 have h0 : 0 ≤ head := by omega
 have d0 : decide (head < 0) = false := by simpa using hneg
 by_cases hk : (kinCount gs : Int) ≤ head / 16
 ·have HL : Hid (lenF gs head = -1) := by show _ = _; unfold lenF; rw [if_pos (.inr hk)]
  have d1 : decide ((kinCount gs : Int) ≤ head / 16) = true := by simpa using hk
  clear hneg
  go_enter Tryz.func63, Tryz.ntmps63
  go_wp2_with fail
  go_ret
  exact ⟨ret_int HL.out.symm, rfl⟩
 have d1 : decide ((kinCount gs : Int) ≤ head / 16) = false := by simpa using hk
 obtain ⟨t, ht⟩ : ∃ t : Nat, head / 16 = (t : Int) := Int.eq_ofNat_of_zero_le (by omega)
 obtain ⟨b, off, fa, fc, rfl, b1, b2, c0, _, _, c3, _⟩ := types_at hx (i := t) (by omega)
 have hb : b < w.heap.size := by omega
 have HL : Hid (lenF gs head = if ((tyN gs t).kind = 1 ∧ head % 16 ≠ ((tyN gs t).fields.length : Int)) ∨ 6 < head % 16 then -1 else head % 16) := by
  show _ = _
  unfold lenF
  rw [if_neg (by omega), ht, Int.toNat_natCast]
 rw [ht] at d1
 have HT := hide ht
 have q1 : (0 : Int) ≤ (t : Int) := by omega
 have q2 : (t : Int) < (kinCount gs : Int) := by omega
 generalize (tyN gs t).fields.length = fl at *
 generalize (tyN gs t).kind = kd at *
 obtain ⟨m, hm⟩ : ∃ m : Int, head % 16 = m := ⟨_, rfl⟩
 have m0 : 0 ≤ m := by omega
 have m1 : m < 16 := by omega
 rw [hm] at HL
 clear hneg hk hx
 by_cases hk1 : kd = 1
 ·subst hk1
  by_cases hf : m = (fl : Int)
  ·have e1 : (m != (fl : Int)) = false := by simpa using hf
   by_cases h6 : 6 < m
   ·have HR : Hid (lenF gs head = -1) := by show _ = _; rw [HL.out, if_pos (.inr h6)]
    have e2 : decide (6 < m) = true := by simpa using h6
    clear HL hf
    go_enter Tryz.func63, Tryz.ntmps63
    go_wp2_with fail
    go_ret
    exact ⟨ret_int HR.out.symm, rfl⟩
   ·have HR : Hid (lenF gs head = m) := by show _ = _; rw [HL.out, if_neg (by omega)]
    have e2 : decide (6 < m) = false := by simpa using h6
    clear HL hf
    go_enter Tryz.func63, Tryz.ntmps63
    go_wp2_with fail
    go_ret
    exact ⟨ret_int (by rw [HR.out]), rfl⟩
  ·have e1 : (m != (fl : Int)) = true := by simpa using hf
   have HR : Hid (lenF gs head = -1) := by show _ = _; rw [HL.out, if_pos (.inl ⟨rfl, hf⟩)]
   clear HL hf
   go_enter Tryz.func63, Tryz.ntmps63
   go_wp2_with fail
   go_ret
   exact ⟨ret_int HR.out.symm, rfl⟩
 ·have e0 : (kd == 1) = false := beq_eq_false_iff_ne.2 hk1
  by_cases h6 : 6 < m
  ·have HR : Hid (lenF gs head = -1) := by show _ = _; rw [HL.out, if_pos (.inr h6)]
   have e2 : decide (6 < m) = true := by simpa using h6
   clear HL hk1
   go_enter Tryz.func63, Tryz.ntmps63
   go_wp2_with fail
   go_ret
   exact ⟨ret_int HR.out.symm, rfl⟩
  ·have HR : Hid (lenF gs head = m) := by show _ = _; rw [HL.out, if_neg (by omega)]
   have e2 : decide (6 < m) = false := by simpa using h6
   clear HL hk1
   go_enter Tryz.func63, Tryz.ntmps63
   go_wp2_with fail
   go_ret
   exact ⟨ret_int (by rw [HR.out]), rfl⟩

theorem fields_at {w : World} {lo hi : Nat} {a : Option Addr} {fs : List Fd} (h : FieldsIn w lo hi a fs) {i : Nat} (hi' : i < fs.length) : ∃ b off, a = some ⟨b, off, none⟩ ∧ lo ≤ b ∧ b < hi ∧ FieldAt w b (off + i * 3) (fdAt fs i) := by
 rcases h with h0 | ⟨b, off, e, h1, h2, h3⟩
 ·rw [h0] at hi'; exact absurd hi' (Nat.not_lt_zero _)
 ·exact ⟨b, off, e, h1, h2, h3 i hi'⟩
set_option maxHeartbeats 1600000 in
theorem l7Field_any (k u : Int) (l : Bool) (fa : Option Addr) (fc lo hi : Nat) (fs : List Fd) (i : Nat) (w : World) (hx : FieldsIn w lo hi fa fs) (hh : hi ≤ w.heap.size) (hi' : (k = 2 → 0 < fs.length) ∧ (k ≠ 2 → i < fs.length)) (h8 : fs.length ≤ 1048576) :
 Calls Tryz.prog 47 #[.agg #[.int .i64 k, .int .i64 u, .bool l, .slice fa fs.length fc], .int .i64 (i : Int)] w fun e w' => e = .returned (.agg #[.int .i64 (fieldF ⟨k, u, l, fs⟩ i).kind, .int .i64 (fieldF ⟨k, u, l, fs⟩ i).of, .bool (fieldF ⟨k, u, l, fs⟩ i).mt]) ∧ Below w.heap.size w w' := by
 by_cases h2 : k = 2
 ·obtain ⟨b, off, rfl, b1, b2, c0, c1, c2⟩ := fields_at hx (hi'.1 h2)
  have hb : b < w.heap.size := by omega
  have hb1 : b < w.heap.size + 1 := by omega
  have hl := hi'.1 h2
  have HF : Hid (fieldF ⟨k, u, l, fs⟩ i = fdAt fs 0) := by show _ = _; simp [fieldF, h2]
  subst h2
  rw [HF.out]
  generalize fdAt fs 0 = f at *
  obtain ⟨f0, f1, f2⟩ := f
  simp only [Nat.zero_mul, Nat.add_zero] at c0 c1 c2 ⊢
  have q1 : (0 : Int) < (fs.length : Int) := by omega
  clear hx hi' HF
  go_enter Tryz.func47, Tryz.ntmps47
  go_wp2_with fail
  refine bodyPost_ret (v := .agg #[.int .i64 f0, .int .i64 f1, .bool f2]) (by simp [results, Tryz.results47, go_sem]) rfl ⟨rfl, ?_⟩
  exact ((Below.refl _ _).alloc (Nat.le_refl _) _).alloc (by simp) _
 ·obtain ⟨b, off, rfl, b1, b2, c0, c1, c2⟩ := fields_at hx (hi'.2 h2)
  have hb : b < w.heap.size := by omega
  have hb1 : b < w.heap.size + 1 := by omega
  have hl := hi'.2 h2
  have HF : Hid (fieldF ⟨k, u, l, fs⟩ i = fdAt fs i) := by show _ = _; simp [fieldF, h2]
  rw [HF.out]
  generalize fdAt fs i = f at *
  obtain ⟨f0, f1, f2⟩ := f
  simp only at c0 c1 c2 ⊢
  have n2 : (k == 2) = false := beq_eq_false_iff_ne.2 h2
  have q1 : (0 : Int) ≤ (i : Int) := by omega
  have q2 : (i : Int) < (fs.length : Int) := by omega
  clear hx hi' HF h2
  go_enter Tryz.func47, Tryz.ntmps47
  go_wp2_with fail
  refine bodyPost_ret (v := .agg #[.int .i64 f0, .int .i64 f1, .bool f2]) (by simp [results, Tryz.results47, go_sem]) rfl ⟨rfl, ?_⟩
  exact ((Below.refl _ _).alloc (Nat.le_refl _) _).alloc (by simp) _

/-- A heap, as it is handed over. -/
def heapV (h : GHeap) (wa la : Option Addr) (wc lc : Nat) : Value := .agg #[.slice wa h.words.length wc, .int .i64 h.old, .int .i64 h.oldAt, .int .i64 h.youngAt, .slice la h.log.length lc]
def i64 (x : Int) : Prop := -9223372036854775808 ≤ x ∧ x ≤ 9223372036854775807
structure HIn (w : World) (lo hi : Nat) (h : GHeap) (wa la : Option Addr) (wc lc : Nat) : Prop where
 ws : IntsIn w lo hi wa h.words
 lg : IntsIn w lo hi la h.log
 wl : h.words.length ≤ 1048576
 ll : h.log.length ≤ 1048576
 wc' : h.words.length ≤ wc
 lc' : h.log.length ≤ lc
 wb : ∀ i, i64 (nAt h.words i)
 lb : ∀ i, i64 (nAt h.log i)
 ob : i64 h.old
 ab : i64 h.oldAt
 yb : i64 h.youngAt
 hh : hi ≤ w.heap.size
theorem HIn.keep {w w' : World} {lo hi : Nat} {h : GHeap} {wa la : Option Addr} {wc lc : Nat} (H : HIn w lo hi h wa la wc lc) (hb : Below hi w w') : HIn w' lo hi h wa la wc lc :=
 ⟨H.ws.keep hb, H.lg.keep hb, H.wl, H.ll, H.wc', H.lc', H.wb, H.lb, H.ob, H.ab, H.yb, Nat.le_trans H.hh hb.size⟩

set_option maxHeartbeats 3200000 in
theorem l7Size_any (h : GHeap) (wa la : Option Addr) (wc lc lo hi : Nat) (w : World) (H : HIn w lo hi h wa la wc lc) :
 Calls Tryz.prog 28 #[heapV h wa la wc lc] w fun e w' => e = .returned (.bool (sizeF h)) ∧ Below w.heap.size w w' := by
 have HO := H.ob
 have HA := H.ab
 have HY := H.yb
 have HW := H.wl
 clear H
 obtain ⟨W, old, oldAt, youngAt, L⟩ := h
 unfold heapV i64 at *
 simp only at HO HA HY HW ⊢
 have HF : Hid (sizeF ⟨W, old, oldAt, youngAt, L⟩ = decide (1 ≤ old ∧ old ≤ 120 ∧ 0 ≤ (W.length : Int) - old ∧ (W.length : Int) - old ≤ 40 ∧ 0 ≤ oldAt ∧ oldAt ≤ old ∧ 0 ≤ youngAt ∧ youngAt ≤ (W.length : Int) - old)) := rfl
 rw [HF.out]
 clear HF
 generalize W.length = n at *
 generalize L.length = ll at *
 by_cases h1 : 1 ≤ old
 ·have hw : IntKind.i64.wrap ((n : Int) - old) = (n : Int) - old := wrapIh (by omega) (by omega)
  go_enter Tryz.func28, Tryz.ntmps28
  go_wp2_with fail
  all_goals go_ret
  all_goals refine ⟨ret_bool ?_, (Below.refl _ _).alloc (Nat.le_refl _) _⟩
  all_goals (rw [Bool.eq_iff_iff]; simp_all <;> omega)
 have hF : decide (1 ≤ old ∧ old ≤ 120 ∧ 0 ≤ (n : Int) - old ∧ (n : Int) - old ≤ 40 ∧ 0 ≤ oldAt ∧ oldAt ≤ old ∧ 0 ≤ youngAt ∧ youngAt ≤ (n : Int) - old) = false := by
  rw [decide_eq_false_iff_not]
  exact fun h => h1 h.1
 rw [hF]
 have d1 : decide (1 ≤ old) = false := by simpa using h1
 clear hF
 go_enter Tryz.func28, Tryz.ntmps28
 go_wp2_with fail
 go_ret
 exact ⟨rfl, (Below.refl _ _).alloc (Nat.le_refl _) _⟩
end Go.Proofs.YtembifoimiochaaGreatDoor
