/- What is written of a value and of a thing: both sides. -/
import Derived.Test.YthidiabeffgjlaaDoorDecAll
import Derived.Test.YthidiabeffgjlaaDoorItoaRow
import Derived.Test.YthidiabeffgjlaaDoorGenThing0
namespace Go.Proofs.YthidiabeffgjlaaDoor
open Go.ChangeShapes Go.WideShapes Go.ChangeAt Go.RowKit
set_option linter.unusedVariables false

/-- A number of 64 bits. -/
def I64 (n : Int) : Prop := -9223372036854775808 ≤ n ∧ n ≤ 9223372036854775807

/-- What is written of a value. -/
def valTxt (k n : Int) : List UInt8 := if k = 1 then Lib.itoa n else if k = 3 then 99 :: Lib.itoa n else if k = 4 then 64 :: Lib.itoa n else [45]
theorem valTxt_len (k n : Int) (h : I64 n) : (valTxt k n).length ≤ 22 := by
  have := itoa_len n h.1 h.2
  unfold valTxt
  split
  · omega
  · split
    · simp; omega
    · split
      · simp; omega
      · simp

/-- What is written of values, each behind a space. -/
def valsTxt (vs : List GVal) : List UInt8 := vs.flatMap fun v => 32 :: valTxt v.kind v.n

theorem add_big (x y z : List UInt8) (h : x ++ y = z) (hx : x.length ≤ 100000000) (hy : y.length ≤ 100000000) : ∀ W : World, (Op.stringOp .add ⟨x.toArray⟩ ⟨y.toArray⟩).run Tryd.prog W = .ok (.string ⟨z.toArray⟩) W := by
  intro W
  rw [run_string_add_sum W _ _ (by simp [ByteArray.size]; omega), ByteArray.mk_append_mk, h]

set_option maxHeartbeats 1000000 in
theorem l13Val_any (k n : Int) (w : World) (h : I64 n) :
    Calls Tryd.prog 19 #[.agg #[.int .i64 k, .int .i64 n]] w fun e w' => e = .returned (.string ⟨(valTxt k n).toArray⟩) ∧ Below w.heap.size w w' := by
  obtain ⟨l, hl⟩ : ∃ l, l = Lib.itoa n := ⟨_, rfl⟩
  have hlen := itoa_len n h.1 h.2
  rw [← hl] at hlen
  have a1 := add_big [99] l (99 :: l) rfl (by simp) (by omega)
  have a2 := add_big [64] l (64 :: l) rfl (by simp) (by omega)
  have HL := hide hl
  have h1 := h.1
  have h2 := h.2
  by_cases e1 : k = 1
  · subst e1
    have HT : Hid (valTxt 1 n = l) := by rw [Hid, hl]; rfl
    clear hl
    go_enter Tryd.func19, Tryd.ntmps19
    go_wp2_with fail
    refine (decAll_any n _ h1 h2).mono ?_
    rintro e w1 ⟨rfl, b1⟩
    rw [← HL.out]
    go_wp2_with fail
    go_ret
    exact ⟨by rw [HT.out]; rfl, ((Below.refl _ _).alloc (Nat.le_refl _) _).trans (b1.mono (by simp))⟩
  by_cases e3 : k = 3
  · subst e3
    have HT : Hid (valTxt 3 n = 99 :: l) := by rw [Hid, hl]; rfl
    clear hl
    go_enter Tryd.func19, Tryd.ntmps19
    go_wp2_with fail
    refine (decAll_any n _ h1 h2).mono ?_
    rintro e w1 ⟨rfl, b1⟩
    rw [← HL.out]
    go_wp2_with fail
    go_ret
    exact ⟨by rw [HT.out]; rfl, ((Below.refl _ _).alloc (Nat.le_refl _) _).trans (b1.mono (by simp))⟩
  by_cases e4 : k = 4
  · subst e4
    have HT : Hid (valTxt 4 n = 64 :: l) := by rw [Hid, hl]; rfl
    clear hl
    go_enter Tryd.func19, Tryd.ntmps19
    go_wp2_with fail
    refine (decAll_any n _ h1 h2).mono ?_
    rintro e w1 ⟨rfl, b1⟩
    rw [← HL.out]
    go_wp2_with fail
    go_ret
    exact ⟨by rw [HT.out]; rfl, ((Below.refl _ _).alloc (Nat.le_refl _) _).trans (b1.mono (by simp))⟩
  have HT : Hid (valTxt k n = [45]) := by simp [Hid, valTxt, e1, e3, e4]
  have g1 : (k == 1) = false := by simp [e1]
  have g3 : (k == 3) = false := by simp [e3]
  have g4 : (k == 4) = false := by simp [e4]
  go_enter Tryd.func19, Tryd.ntmps19
  go_wp2_with fail
  go_ret
  exact ⟨by rw [HT.out]; rfl, (Below.refl _ _).alloc (Nat.le_refl _) _⟩

set_option maxHeartbeats 1000000 in
theorem deskVal_any (k n : Int) (w : World) (h : I64 n) (hp : pow10 w) :
    Calls Tryd.prog 16 #[.agg #[.int .i64 k, .int .i64 n]] w fun e w' => e = .returned (.string ⟨(valTxt k n).toArray⟩) ∧ Below w.heap.size w w' := by
  obtain ⟨l, hl⟩ : ∃ l, l = Lib.itoa n := ⟨_, rfl⟩
  have hlen := itoa_len n h.1 h.2
  rw [← hl] at hlen
  have a1 := add_big [99] l (99 :: l) rfl (by simp) (by omega)
  have a2 := add_big [64] l (64 :: l) rfl (by simp) (by omega)
  have HL := hide hl
  have h1 := h.1
  have h2 := h.2
  have HP := hide hp
  clear hp
  by_cases e1 : k = 1
  · subst e1
    have HT : Hid (valTxt 1 n = l) := by rw [Hid, hl]; rfl
    clear hl
    go_enter Tryd.func16, Tryd.ntmps16
    go_wp2_with fail
    refine (Tryd.itoa n h1 h2 _ (pow10_keep HP.out ((Below.refl _ _).alloc (Nat.le_refl _) _))).mono ?_
    rintro e w1 ⟨rfl, q, os, rfl⟩
    have b1 := grown_below (w.alloc (.cells #[.int .i64 1, .int .i64 n] 29)) q os
    generalize Sort.grow ((w.alloc (.cells #[.int .i64 1, .int .i64 n] 29)).drewN q) os = w1 at b1 ⊢
    rw [← HL.out]
    go_wp2_with fail
    go_ret
    exact ⟨by rw [HT.out]; rfl, ((Below.refl _ _).alloc (Nat.le_refl _) _).trans (b1.mono (by simp))⟩
  by_cases e3 : k = 3
  · subst e3
    have HT : Hid (valTxt 3 n = 99 :: l) := by rw [Hid, hl]; rfl
    clear hl
    go_enter Tryd.func16, Tryd.ntmps16
    go_wp2_with fail
    refine (Tryd.itoa n h1 h2 _ (pow10_keep HP.out ((Below.refl _ _).alloc (Nat.le_refl _) _))).mono ?_
    rintro e w1 ⟨rfl, q, os, rfl⟩
    have b1 := grown_below (w.alloc (.cells #[.int .i64 3, .int .i64 n] 29)) q os
    generalize Sort.grow ((w.alloc (.cells #[.int .i64 3, .int .i64 n] 29)).drewN q) os = w1 at b1 ⊢
    rw [← HL.out]
    go_wp2_with fail
    go_ret
    exact ⟨by rw [HT.out]; rfl, ((Below.refl _ _).alloc (Nat.le_refl _) _).trans (b1.mono (by simp))⟩
  by_cases e4 : k = 4
  · subst e4
    have HT : Hid (valTxt 4 n = 64 :: l) := by rw [Hid, hl]; rfl
    clear hl
    go_enter Tryd.func16, Tryd.ntmps16
    go_wp2_with fail
    refine (Tryd.itoa n h1 h2 _ (pow10_keep HP.out ((Below.refl _ _).alloc (Nat.le_refl _) _))).mono ?_
    rintro e w1 ⟨rfl, q, os, rfl⟩
    have b1 := grown_below (w.alloc (.cells #[.int .i64 4, .int .i64 n] 29)) q os
    generalize Sort.grow ((w.alloc (.cells #[.int .i64 4, .int .i64 n] 29)).drewN q) os = w1 at b1 ⊢
    rw [← HL.out]
    go_wp2_with fail
    go_ret
    exact ⟨by rw [HT.out]; rfl, ((Below.refl _ _).alloc (Nat.le_refl _) _).trans (b1.mono (by simp))⟩
  have HT : Hid (valTxt k n = [45]) := by simp [Hid, valTxt, e1, e3, e4]
  have g1 : (k == 1) = false := by simp [e1]
  have g3 : (k == 3) = false := by simp [e3]
  have g4 : (k == 4) = false := by simp [e4]
  go_enter Tryd.func16, Tryd.ntmps16
  go_wp2_with fail
  go_ret
  exact ⟨by rw [HT.out]; rfl, (Below.refl _ _).alloc (Nat.le_refl _) _⟩
end Go.Proofs.YthidiabeffgjlaaDoor
