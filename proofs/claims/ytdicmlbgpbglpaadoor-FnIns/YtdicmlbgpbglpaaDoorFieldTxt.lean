/- FieldText of the model and of the program: both write what fieldTxt is. -/
import Derived.Test.YtdicmlbgpbglpaaDoorOfImpl
import Derived.Test.YtdicmlbgpbglpaaDoorFieldOk0
import Derived.Test.YtdicmlbgpbglpaaDoorGenRoot
namespace Go.Proofs.YtdicmlbgpbglpaaDoor
open Go.ChangeShapes Go.WideShapes Go.ChangeAt Go.RowKit
set_option linter.unusedVariables false

/-- The letter of a kind. -/
def letter (k : Int) : List UInt8 := if k = 1 then [110] else if k = 2 then [114] else if k = 3 then [115] else []

/-- FieldText, plainly. -/
def fieldTxt (k o : Int) (m : Bool) : List UInt8 :=
  if fieldOk k o 8 then (if k = 1 then [] else ofTxt o) |> fun t => letter k ++ t ++ (if m then [33] else []) else []

theorem fieldOk_small {k o : Int} (h : fieldOk k o 8 = true) : (k = 1 ∧ o = 0) ∨ ((k = 2 ∨ k = 3) ∧ -2 ≤ o ∧ o < 8) := by
  unfold fieldOk at h
  split at h
  · simp at h; omega
  · split at h
    · simp at h; omega
    · simp at h

theorem specFieldOk_at (k o n : Int) (m : Bool) (c : Bool) (h : fieldOk k o n = c) (w : World) :
    Calls Tryd.prog 30 #[.agg #[.int .i64 k, .int .i64 o, .bool m], .int .i64 n] w fun e w' => e = .returned (.bool c) ∧ Below w.heap.size w w' := h ▸ specFieldOk_any k o n m w
theorem implFieldOk_at (k o n : Int) (m : Bool) (c : Bool) (h : fieldOk k o n = c) (w : World) :
    Calls Tryd.prog 13 #[.agg #[.int .i64 k, .int .i64 o, .bool m], .int .i64 n] w fun e w' => e = .returned (.bool c) ∧ Below w.heap.size w w' := h ▸ implFieldOk_any k o n m w
theorem l2Of_at (n : Int) (l : List UInt8) (h : ofTxt n = l) (w : World) (h1 : -2 ≤ n) (h2 : n < 1000000) :
    Calls Tryd.prog 31 #[.int .i64 n] w fun e w' => e = .returned (.string ⟨l.toArray⟩) ∧ Below w.heap.size w w' := h ▸ l2Of_any n w h1 h2

set_option maxHeartbeats 1600000 in
theorem specFieldText_any (k o : Int) (m : Bool) (w : World) :
    Calls Tryd.prog 12 #[.agg #[.int .i64 k, .int .i64 o, .bool m]] w fun e w' => e = .returned (.string ⟨(fieldTxt k o m).toArray⟩) ∧ Below w.heap.size w w' := by
  cases hok : fieldOk k o 8
  · have HT : Hid (fieldTxt k o m = []) := by simp [Hid, fieldTxt, hok]
    have HK := hide hok
    clear hok
    go_enter Tryd.func12, Tryd.ntmps12
    go_wp2_with fail
    refine (specFieldOk_at _ _ _ _ _ HK.out _).mono ?_
    rintro e w1 ⟨rfl, b1⟩
    go_wp2_with fail
    go_ret
    exact ⟨by rw [HT.out]; rfl, ((Below.refl _ _).alloc (Nat.le_refl _) _).trans (b1.mono (by simp))⟩
  have HK := hide hok
  rcases fieldOk_small hok with ⟨rfl, rfl⟩ | ⟨hk, ho1, ho2⟩
  · clear hok
    go_enter Tryd.func12, Tryd.ntmps12
    go_wp2_with fail
    refine (specFieldOk_at _ _ _ _ _ HK.out _).mono ?_
    rintro e w1 ⟨rfl, b1⟩
    have B1 : Hid (Below w.heap.size w w1) := ((Below.refl _ _).alloc (Nat.le_refl _) _).trans (b1.mono (by simp))
    have P1 : Hid (Rec w1 w.heap.size 23 [.int .i64 1, .int .i64 0, .bool m]) := (Rec.new' _ _ _ _ rfl).below b1 (by simp)
    have c0 := P1.out.cell (o := 0) rfl
    have c1 := P1.out.cell (o := 1) rfl
    have c2 := P1.out.cell (o := 2) rfl
    clear b1
    cases m
    all_goals
      go_wp2_with fail
      go_ret
      exact ⟨rfl, B1.out⟩
  have hlen := ofTxt_len o (by omega)
  obtain ⟨tt, ht⟩ : ∃ t, ofTxt o = t := ⟨_, rfl⟩
  rw [ht] at hlen
  rcases hk with rfl | rfl
  · have HT : Hid (fieldTxt 2 o m = 114 :: (tt ++ if m then [33] else [])) := by
      show fieldTxt 2 o m = _
      simp [fieldTxt, hok, letter, ht]
    have HO := hide ht
    have hx1 := add_at [114] tt (114 :: tt) rfl (by simp) (by omega)
    have hx2 := add_at (114 :: tt) [33] (114 :: (tt ++ [33])) (by simp) (by simp; omega) (by simp)
    obtain ⟨x1, hx⟩ : ∃ x1 : List UInt8, x1 = 114 :: tt := ⟨_, rfl⟩
    obtain ⟨x2, hy⟩ : ∃ x2 : List UInt8, x2 = 114 :: (tt ++ [33]) := ⟨_, rfl⟩
    have E1 := hide hx
    have E2 := hide hy
    rw [← hx] at hx1 hx2
    rw [← hy] at hx2
    clear ht hok hx hy
    go_enter Tryd.func12, Tryd.ntmps12
    go_wp2_with fail
    refine (specFieldOk_at _ _ _ _ _ HK.out _).mono ?_
    rintro e w1 ⟨rfl, b1⟩
    have B1 : Hid (Below w.heap.size w w1) := ((Below.refl _ _).alloc (Nat.le_refl _) _).trans (b1.mono (by simp))
    have P1 : Hid (Rec w1 w.heap.size 23 [.int .i64 2, .int .i64 o, .bool m]) := (Rec.new' _ _ _ _ rfl).below b1 (by simp)
    have c0 := P1.out.cell (o := 0) rfl
    have c1 := P1.out.cell (o := 1) rfl
    have c2 := P1.out.cell (o := 2) rfl
    clear b1
    go_wp2_with fail
    refine (l2Of_at o tt HO.out _ (by omega) (by omega)).mono ?_
    rintro e w2 ⟨rfl, b2⟩
    have B2 : Hid (Below w.heap.size w w2) := B1.out.trans (b2.mono B1.out.size)
    have P2 := hide (P1.out.below b2 P1.out.lt)
    clear c0 c1 c2
    have c0 := P2.out.cell (o := 0) rfl
    have c1 := P2.out.cell (o := 1) rfl
    have c2 := P2.out.cell (o := 2) rfl
    clear b2
    cases m
    · go_wp2_with fail
      go_ret
      exact ⟨by rw [HT.out, E1.out]; simp, B2.out⟩
    · go_wp2_with fail
      go_ret
      exact ⟨by rw [HT.out, E2.out]; simp, B2.out⟩
  · have HT : Hid (fieldTxt 3 o m = 115 :: (tt ++ if m then [33] else [])) := by
      show fieldTxt 3 o m = _
      simp [fieldTxt, hok, letter, ht]
    have HO := hide ht
    have hx1 := add_at [115] tt (115 :: tt) rfl (by simp) (by omega)
    have hx2 := add_at (115 :: tt) [33] (115 :: (tt ++ [33])) (by simp) (by simp; omega) (by simp)
    obtain ⟨x1, hx⟩ : ∃ x1 : List UInt8, x1 = 115 :: tt := ⟨_, rfl⟩
    obtain ⟨x2, hy⟩ : ∃ x2 : List UInt8, x2 = 115 :: (tt ++ [33]) := ⟨_, rfl⟩
    have E1 := hide hx
    have E2 := hide hy
    rw [← hx] at hx1 hx2
    rw [← hy] at hx2
    clear ht hok hx hy
    go_enter Tryd.func12, Tryd.ntmps12
    go_wp2_with fail
    refine (specFieldOk_at _ _ _ _ _ HK.out _).mono ?_
    rintro e w1 ⟨rfl, b1⟩
    have B1 : Hid (Below w.heap.size w w1) := ((Below.refl _ _).alloc (Nat.le_refl _) _).trans (b1.mono (by simp))
    have P1 : Hid (Rec w1 w.heap.size 23 [.int .i64 3, .int .i64 o, .bool m]) := (Rec.new' _ _ _ _ rfl).below b1 (by simp)
    have c0 := P1.out.cell (o := 0) rfl
    have c1 := P1.out.cell (o := 1) rfl
    have c2 := P1.out.cell (o := 2) rfl
    clear b1
    go_wp2_with fail
    refine (l2Of_at o tt HO.out _ (by omega) (by omega)).mono ?_
    rintro e w2 ⟨rfl, b2⟩
    have B2 : Hid (Below w.heap.size w w2) := B1.out.trans (b2.mono B1.out.size)
    have P2 := hide (P1.out.below b2 P1.out.lt)
    clear c0 c1 c2
    have c0 := P2.out.cell (o := 0) rfl
    have c1 := P2.out.cell (o := 1) rfl
    have c2 := P2.out.cell (o := 2) rfl
    clear b2
    cases m
    · go_wp2_with fail
      go_ret
      exact ⟨by rw [HT.out, E1.out]; simp, B2.out⟩
    · go_wp2_with fail
      go_ret
      exact ⟨by rw [HT.out, E2.out]; simp, B2.out⟩

def letters : List (List UInt8) := [[], [110], [114], [115]]
def letterAt (i : Nat) : List UInt8 := letters.getD i []
/-- The program's table of letters, as it is laid. -/
def lettersAt (w : World) : Prop := 0 < w.heap.size ∧ ∀ i, i < 4 → w.cell? ⟨0, i, none⟩ = some (.string ⟨(letterAt i).toArray⟩)

theorem gLetters : Tryd.prog.globalNamed "loop.example/lairage/impl.fieldLetters" = some 0 := by kernel_rfl
theorem lettersAt.keep {w w' : World} (h : lettersAt w) (hb : Below w.heap.size w w') : lettersAt w' :=
  ⟨Nat.lt_of_lt_of_le h.1 hb.size, fun i hi => by rw [hb.cell (p := ⟨0, i, none⟩) h.1]; exact h.2 i hi⟩

set_option maxHeartbeats 1600000 in
theorem implFieldText_any (k o : Int) (m : Bool) (w : World) (hp : pow10 w) (hl : lettersAt w) :
    Calls Tryd.prog 11 #[.agg #[.int .i64 k, .int .i64 o, .bool m]] w fun e w' => e = .returned (.string ⟨(fieldTxt k o m).toArray⟩) ∧ Below w.heap.size w w' := by
  have HP := hide hp
  have HLT := hide hl
  clear hp hl
  cases hok : fieldOk k o 8
  · have HT : Hid (fieldTxt k o m = []) := by simp [Hid, fieldTxt, hok]
    have HK := hide hok
    clear hok
    go_enter Tryd.func11, Tryd.ntmps11
    go_wp2_with fail
    refine (implFieldOk_at _ _ _ _ _ HK.out _).mono ?_
    rintro e w1 ⟨rfl, b1⟩
    go_wp2_with fail
    go_ret
    exact ⟨by rw [HT.out]; rfl, ((Below.refl _ _).alloc (Nat.le_refl _) _).trans (b1.mono (by simp))⟩
  have HK := hide hok
  rcases fieldOk_small hok with ⟨rfl, rfl⟩ | ⟨hk, ho1, ho2⟩
  · clear hok
    go_enter Tryd.func11, Tryd.ntmps11
    go_wp2_with fail
    refine (implFieldOk_at _ _ _ _ _ HK.out _).mono ?_
    rintro e w1 ⟨rfl, b1⟩
    have B1 : Hid (Below w.heap.size w w1) := ((Below.refl _ _).alloc (Nat.le_refl _) _).trans (b1.mono (by simp))
    have P1 : Hid (Rec w1 w.heap.size 23 [.int .i64 1, .int .i64 0, .bool m]) := (Rec.new' _ _ _ _ rfl).below b1 (by simp)
    have c0 := P1.out.cell (o := 0) rfl
    have c1 := P1.out.cell (o := 1) rfl
    have c2 := P1.out.cell (o := 2) rfl
    have cw := (HLT.out.keep B1.out).2 1 (by omega)
    rw [show letterAt 1 = [110] from rfl] at cw
    clear b1
    cases m
    all_goals
      go_wp2_with fail
      go_ret
      exact ⟨rfl, B1.out⟩
  have hlen := ofTxt_len o (by omega)
  obtain ⟨tt, ht⟩ : ∃ t, ofTxt o = t := ⟨_, rfl⟩
  rw [ht] at hlen
  rcases hk with rfl | rfl
  · have HT : Hid (fieldTxt 2 o m = 114 :: (tt ++ if m then [33] else [])) := by
      show fieldTxt 2 o m = _
      simp [fieldTxt, hok, letter, ht]
    have HO := hide ht
    have hx1 := add_at [114] tt (114 :: tt) rfl (by simp) (by omega)
    have hx2 := add_at (114 :: tt) [33] (114 :: (tt ++ [33])) (by simp) (by simp; omega) (by simp)
    obtain ⟨x1, hx⟩ : ∃ x1 : List UInt8, x1 = 114 :: tt := ⟨_, rfl⟩
    obtain ⟨x2, hy⟩ : ∃ x2 : List UInt8, x2 = 114 :: (tt ++ [33]) := ⟨_, rfl⟩
    have E1 := hide hx
    have E2 := hide hy
    rw [← hx] at hx1 hx2
    rw [← hy] at hx2
    clear ht hok hx hy
    go_enter Tryd.func11, Tryd.ntmps11
    go_wp2_with fail
    refine (implFieldOk_at _ _ _ _ _ HK.out _).mono ?_
    rintro e w1 ⟨rfl, b1⟩
    have B1 : Hid (Below w.heap.size w w1) := ((Below.refl _ _).alloc (Nat.le_refl _) _).trans (b1.mono (by simp))
    have P1 : Hid (Rec w1 w.heap.size 23 [.int .i64 2, .int .i64 o, .bool m]) := (Rec.new' _ _ _ _ rfl).below b1 (by simp)
    have c0 := P1.out.cell (o := 0) rfl
    have c1 := P1.out.cell (o := 1) rfl
    have c2 := P1.out.cell (o := 2) rfl
    have cw := (HLT.out.keep B1.out).2 2 (by omega)
    rw [show letterAt 2 = [114] from rfl] at cw
    clear b1
    go_wp2_with fail
    refine (ofText_at o tt HO.out.symm _ (by omega) (by omega) (pow10_keep HP.out B1.out)).mono ?_
    rintro e w2 ⟨rfl, b2⟩
    have B2 : Hid (Below w.heap.size w w2) := B1.out.trans (b2.mono B1.out.size)
    have P2 := hide (P1.out.below b2 P1.out.lt)
    clear c0 c1 c2
    have c0 := P2.out.cell (o := 0) rfl
    have c1 := P2.out.cell (o := 1) rfl
    have c2 := P2.out.cell (o := 2) rfl
    clear b2
    cases m
    · go_wp2_with fail
      go_ret
      exact ⟨by rw [HT.out, E1.out]; simp, B2.out⟩
    · go_wp2_with fail
      go_ret
      exact ⟨by rw [HT.out, E2.out]; simp, B2.out⟩
  · have HT : Hid (fieldTxt 3 o m = 115 :: (tt ++ if m then [33] else [])) := by
      show fieldTxt 3 o m = _
      simp [fieldTxt, hok, letter, ht]
    have HO := hide ht
    have hx1 := add_at [115] tt (115 :: tt) rfl (by simp) (by omega)
    have hx2 := add_at (115 :: tt) [33] (115 :: (tt ++ [33])) (by simp) (by simp; omega) (by simp)
    obtain ⟨x1, hx⟩ : ∃ x1 : List UInt8, x1 = 115 :: tt := ⟨_, rfl⟩
    obtain ⟨x2, hy⟩ : ∃ x2 : List UInt8, x2 = 115 :: (tt ++ [33]) := ⟨_, rfl⟩
    have E1 := hide hx
    have E2 := hide hy
    rw [← hx] at hx1 hx2
    rw [← hy] at hx2
    clear ht hok hx hy
    go_enter Tryd.func11, Tryd.ntmps11
    go_wp2_with fail
    refine (implFieldOk_at _ _ _ _ _ HK.out _).mono ?_
    rintro e w1 ⟨rfl, b1⟩
    have B1 : Hid (Below w.heap.size w w1) := ((Below.refl _ _).alloc (Nat.le_refl _) _).trans (b1.mono (by simp))
    have P1 : Hid (Rec w1 w.heap.size 23 [.int .i64 3, .int .i64 o, .bool m]) := (Rec.new' _ _ _ _ rfl).below b1 (by simp)
    have c0 := P1.out.cell (o := 0) rfl
    have c1 := P1.out.cell (o := 1) rfl
    have c2 := P1.out.cell (o := 2) rfl
    have cw := (HLT.out.keep B1.out).2 3 (by omega)
    rw [show letterAt 3 = [115] from rfl] at cw
    clear b1
    go_wp2_with fail
    refine (ofText_at o tt HO.out.symm _ (by omega) (by omega) (pow10_keep HP.out B1.out)).mono ?_
    rintro e w2 ⟨rfl, b2⟩
    have B2 : Hid (Below w.heap.size w w2) := B1.out.trans (b2.mono B1.out.size)
    have P2 := hide (P1.out.below b2 P1.out.lt)
    clear c0 c1 c2
    have c0 := P2.out.cell (o := 0) rfl
    have c1 := P2.out.cell (o := 1) rfl
    have c2 := P2.out.cell (o := 2) rfl
    clear b2
    cases m
    · go_wp2_with fail
      go_ret
      exact ⟨by rw [HT.out, E1.out]; simp, B2.out⟩
    · go_wp2_with fail
      go_ret
      exact ⟨by rw [HT.out, E2.out]; simp, B2.out⟩

end Go.Proofs.YtdicmlbgpbglpaaDoor
