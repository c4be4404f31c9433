/- PbTxt: Dec, OfTxt, Itoa, OfImpl, FieldTxt, InsTxt, SpecText, PTxtM, AddBig, ProgLinesM. -/
import Derived.Test.YtblliefejffhoaaGreatDoorBase
import Derived.Lib.ItoaNum
import Derived.LoopN
import Derived.Laws.BytesString
import Derived.Test.YtblliefejffhoaaGreatDoorPbKinA
import Derived.Test.YtblliefejffhoaaGreatDoorFieldOk0
import Derived.Test.YtblliefejffhoaaGreatDoorGenRoot
import Derived.Test.YtblliefejffhoaaGreatDoorPbIns
import Derived.Deep.RegionWith
import Derived.Deep.RegionHeld3
import Derived.Test.YtblliefejffhoaaGreatDoorPbOk
import Derived.Lib.Join
/- Numbers in decimals, as the model writes them. -/
namespace Go.Proofs.YtblliefejffhoaaGreatDoor
open Go.ChangeShapes Go.WideShapes Go.ChangeAt Go.RowKit
set_option linter.unusedVariables false

end Go.Proofs.YtblliefejffhoaaGreatDoor

/- What is written of a number, or of what else a reference is to; the model's side. -/
namespace Go.Proofs.YtblliefejffhoaaGreatDoor
open Go.ChangeShapes Go.WideShapes Go.ChangeAt Go.RowKit
set_option linter.unusedVariables false

/-- What is written of a number, or of what else a reference is to. -/
def ofTxt (n : Int) : List UInt8 := if n = -1 then [97, 110, 121] else if n = -2 then [99, 104, 105, 112] else Lib.decDigits n.toNat

theorem decDigits_len (n : Nat) (h : n < 1000000) : (Lib.decDigits n).length ≤ 6 := by
  rw [Lib.decDigits_length]
  unfold Lib.nDigits; split; omega
  unfold Lib.nDigits; split; omega
  unfold Lib.nDigits; split; omega
  unfold Lib.nDigits; split; omega
  unfold Lib.nDigits; split; omega
  unfold Lib.nDigits; split; omega
  omega

theorem ofTxt_len (n : Int) (h : n < 1000000) : (ofTxt n).length ≤ 6 := by
  unfold ofTxt
  split
  · simp
  · split
    · simp
    · exact decDigits_len _ (by omega)

end Go.Proofs.YtblliefejffhoaaGreatDoor

/- strconv.Itoa at this program, and what is written of a number. -/

/- ofText of the program. -/
namespace Go.Proofs.YtblliefejffhoaaGreatDoor
open Go.ChangeShapes Go.WideShapes Go.ChangeAt Go.RowKit
set_option linter.unusedVariables false

set_option maxHeartbeats 400000 in
theorem ofText_any (n : Int) (w : World) (h1 : -2 ≤ n) (h2 : n < 1000000) (ht : pow10 w) :
    Calls Tryz.prog 89 #[.int .i64 n] w fun e w' => e = .returned (.string ⟨(ofTxt n).toArray⟩) ∧ Below w.heap.size w w' := by
  by_cases ha : n = -1
  · subst ha
    go_enter Tryz.func89, Tryz.ntmps89
    go_wp2_with fail
    go_ret
    exact ⟨rfl, Below.refl _ _⟩
  by_cases hb : n = -2
  · subst hb
    go_enter Tryz.func89, Tryz.ntmps89
    go_wp2_with fail
    go_ret
    exact ⟨rfl, Below.refl _ _⟩
  have HO : Hid (ofTxt n = Lib.itoa n) := by simp only [Hid, ofTxt, Lib.itoa]; rw [if_neg ha, if_neg hb, if_neg (by omega)]
  have g1 : (n == -1) = false := by simp [ha]
  have g2 : (n == -2) = false := by simp [hb]
  go_enter Tryz.func89, Tryz.ntmps89
  go_wp2_with fail
  refine (Tryz.itoa n (by omega) (by omega) w ht).mono ?_
  rintro e w1 ⟨rfl, k, os, rfl⟩
  have b1 := grown_below w k os
  generalize Sort.grow (w.drewN k) os = w1 at b1 ⊢
  go_wp2_with fail
  go_ret
  exact ⟨by rw [HO.out]; rfl, b1⟩

theorem ofText_at (n : Int) (l : List UInt8) (h : l = ofTxt n) (w : World) (h1 : -2 ≤ n) (h2 : n < 1000000) (ht : pow10 w) :
    Calls Tryz.prog 89 #[.int .i64 n] w fun e w' => e = .returned (.string ⟨l.toArray⟩) ∧ Below w.heap.size w w' := h ▸ ofText_any n w h1 h2 ht

end Go.Proofs.YtblliefejffhoaaGreatDoor

/- FieldText of the model and of the program: both write what fieldTxt is. -/
namespace Go.Proofs.YtblliefejffhoaaGreatDoor
open Go.ChangeShapes Go.WideShapes Go.ChangeAt Go.RowKit
set_option linter.unusedVariables false

/-- The letter of a kind. -/
def letter (k : Int) : List UInt8 := if k = 1 then [110] else if k = 2 then [114] else if k = 3 then [115] else []

/-- FieldText, plainly. -/
def fieldTxt (k o : Int) (m : Bool) : List UInt8 :=
  if fieldOk k o 8 then (if k = 1 then [] else ofTxt o) |> fun t => letter k ++ t ++ (if m then [33] else []) else []

theorem fieldOk_small {k o : Int} (h : fieldOk k o 8 = true) : (k = 1 ∧ o = 0) ∨ ((k = 2 ∨ k = 3) ∧ -2 ≤ o ∧ o < 8) := by
  unfold fieldOk at h
  split at h
  · simp at h; omega
  · split at h
    · simp at h; omega
    · simp at h

theorem implFieldOk_at (k o n : Int) (m : Bool) (c : Bool) (h : fieldOk k o n = c) (w : World) :
    Calls Tryz.prog 88 #[.agg #[.int .i64 k, .int .i64 o, .bool m], .int .i64 n] w fun e w' => e = .returned (.bool c) ∧ Below w.heap.size w w' := h ▸ implFieldOk_any k o n m w
def letters : List (List UInt8) := [[], [110], [114], [115]]
def letterAt (i : Nat) : List UInt8 := letters.getD i []
/-- The program's table of letters, as it is laid. -/
def lettersAt (w : World) : Prop := 0 < w.heap.size ∧ ∀ i, i < 4 → w.cell? ⟨0, i, none⟩ = some (.string ⟨(letterAt i).toArray⟩)

theorem gLetters : Tryz.prog.globalNamed "loop.example/lairage/impl.fieldLetters" = some 0 := by kernel_rfl
theorem lettersAt.keep {w w' : World} (h : lettersAt w) (hb : Below w.heap.size w w') : lettersAt w' :=
  ⟨Nat.lt_of_lt_of_le h.1 hb.size, fun i hi => by rw [hb.cell (p := ⟨0, i, none⟩) h.1]; exact h.2 i hi⟩

set_option maxHeartbeats 1600000 in
theorem implFieldText_any (k o : Int) (m : Bool) (w : World) (hp : pow10 w) (hl : lettersAt w) :
    Calls Tryz.prog 54 #[.agg #[.int .i64 k, .int .i64 o, .bool m]] w fun e w' => e = .returned (.string ⟨(fieldTxt k o m).toArray⟩) ∧ Below w.heap.size w w' := by
  have HP := hide hp
  have HLT := hide hl
  clear hp hl
  cases hok : fieldOk k o 8
  · have HT : Hid (fieldTxt k o m = []) := by simp [Hid, fieldTxt, hok]
    have HK := hide hok
    clear hok
    go_enter Tryz.func54, Tryz.ntmps54
    go_wp2_with fail
    refine (implFieldOk_at _ _ _ _ _ HK.out _).mono ?_
    rintro e w1 ⟨rfl, b1⟩
    go_wp2_with fail
    go_ret
    exact ⟨by rw [HT.out]; rfl, ((Below.refl _ _).alloc (Nat.le_refl _) _).trans (b1.mono (by simp))⟩
  have HK := hide hok
  rcases fieldOk_small hok with ⟨rfl, rfl⟩ | ⟨hk, ho1, ho2⟩
  · clear hok
    go_enter Tryz.func54, Tryz.ntmps54
    go_wp2_with fail
    refine (implFieldOk_at _ _ _ _ _ HK.out _).mono ?_
    rintro e w1 ⟨rfl, b1⟩
    have B1 : Hid (Below w.heap.size w w1) := ((Below.refl _ _).alloc (Nat.le_refl _) _).trans (b1.mono (by simp))
    have P1 : Hid (Rec w1 w.heap.size 33 [.int .i64 1, .int .i64 0, .bool m]) := (Rec.new' _ _ _ _ rfl).below b1 (by simp)
    have c0 := P1.out.cell (o := 0) rfl
    have c1 := P1.out.cell (o := 1) rfl
    have c2 := P1.out.cell (o := 2) rfl
    have cw := (HLT.out.keep B1.out).2 1 (by omega)
    rw [show letterAt 1 = [110] from rfl] at cw
    clear b1
    cases m
    all_goals
      go_wp2_with fail
      go_ret
      exact ⟨rfl, B1.out⟩
  have hlen := ofTxt_len o (by omega)
  obtain ⟨tt, ht⟩ : ∃ t, ofTxt o = t := ⟨_, rfl⟩
  rw [ht] at hlen
  rcases hk with rfl | rfl
  · have HT : Hid (fieldTxt 2 o m = 114 :: (tt ++ if m then [33] else [])) := by
      show fieldTxt 2 o m = _
      simp [fieldTxt, hok, letter, ht]
    have HO := hide ht
    have hx1 := add_at [114] tt (114 :: tt) rfl (by simp) (by omega)
    have hx2 := add_at (114 :: tt) [33] (114 :: (tt ++ [33])) (by simp) (by simp; omega) (by simp)
    obtain ⟨x1, hx⟩ : ∃ x1 : List UInt8, x1 = 114 :: tt := ⟨_, rfl⟩
    obtain ⟨x2, hy⟩ : ∃ x2 : List UInt8, x2 = 114 :: (tt ++ [33]) := ⟨_, rfl⟩
    have E1 := hide hx
    have E2 := hide hy
    rw [← hx] at hx1 hx2
    rw [← hy] at hx2
    clear ht hok hx hy
    go_enter Tryz.func54, Tryz.ntmps54
    go_wp2_with fail
    refine (implFieldOk_at _ _ _ _ _ HK.out _).mono ?_
    rintro e w1 ⟨rfl, b1⟩
    have B1 : Hid (Below w.heap.size w w1) := ((Below.refl _ _).alloc (Nat.le_refl _) _).trans (b1.mono (by simp))
    have P1 : Hid (Rec w1 w.heap.size 33 [.int .i64 2, .int .i64 o, .bool m]) := (Rec.new' _ _ _ _ rfl).below b1 (by simp)
    have c0 := P1.out.cell (o := 0) rfl
    have c1 := P1.out.cell (o := 1) rfl
    have c2 := P1.out.cell (o := 2) rfl
    have cw := (HLT.out.keep B1.out).2 2 (by omega)
    rw [show letterAt 2 = [114] from rfl] at cw
    clear b1
    go_wp2_with fail
    refine (ofText_at o tt HO.out.symm _ (by omega) (by omega) (pow10_keep HP.out B1.out)).mono ?_
    rintro e w2 ⟨rfl, b2⟩
    have B2 : Hid (Below w.heap.size w w2) := B1.out.trans (b2.mono B1.out.size)
    have P2 := hide (P1.out.below b2 P1.out.lt)
    clear c0 c1 c2
    have c0 := P2.out.cell (o := 0) rfl
    have c1 := P2.out.cell (o := 1) rfl
    have c2 := P2.out.cell (o := 2) rfl
    clear b2
    cases m
    · go_wp2_with fail
      go_ret
      exact ⟨by rw [HT.out, E1.out]; simp, B2.out⟩
    · go_wp2_with fail
      go_ret
      exact ⟨by rw [HT.out, E2.out]; simp, B2.out⟩
  · have HT : Hid (fieldTxt 3 o m = 115 :: (tt ++ if m then [33] else [])) := by
      show fieldTxt 3 o m = _
      simp [fieldTxt, hok, letter, ht]
    have HO := hide ht
    have hx1 := add_at [115] tt (115 :: tt) rfl (by simp) (by omega)
    have hx2 := add_at (115 :: tt) [33] (115 :: (tt ++ [33])) (by simp) (by simp; omega) (by simp)
    obtain ⟨x1, hx⟩ : ∃ x1 : List UInt8, x1 = 115 :: tt := ⟨_, rfl⟩
    obtain ⟨x2, hy⟩ : ∃ x2 : List UInt8, x2 = 115 :: (tt ++ [33]) := ⟨_, rfl⟩
    have E1 := hide hx
    have E2 := hide hy
    rw [← hx] at hx1 hx2
    rw [← hy] at hx2
    clear ht hok hx hy
    go_enter Tryz.func54, Tryz.ntmps54
    go_wp2_with fail
    refine (implFieldOk_at _ _ _ _ _ HK.out _).mono ?_
    rintro e w1 ⟨rfl, b1⟩
    have B1 : Hid (Below w.heap.size w w1) := ((Below.refl _ _).alloc (Nat.le_refl _) _).trans (b1.mono (by simp))
    have P1 : Hid (Rec w1 w.heap.size 33 [.int .i64 3, .int .i64 o, .bool m]) := (Rec.new' _ _ _ _ rfl).below b1 (by simp)
    have c0 := P1.out.cell (o := 0) rfl
    have c1 := P1.out.cell (o := 1) rfl
    have c2 := P1.out.cell (o := 2) rfl
    have cw := (HLT.out.keep B1.out).2 3 (by omega)
    rw [show letterAt 3 = [115] from rfl] at cw
    clear b1
    go_wp2_with fail
    refine (ofText_at o tt HO.out.symm _ (by omega) (by omega) (pow10_keep HP.out B1.out)).mono ?_
    rintro e w2 ⟨rfl, b2⟩
    have B2 : Hid (Below w.heap.size w w2) := B1.out.trans (b2.mono B1.out.size)
    have P2 := hide (P1.out.below b2 P1.out.lt)
    clear c0 c1 c2
    have c0 := P2.out.cell (o := 0) rfl
    have c1 := P2.out.cell (o := 1) rfl
    have c2 := P2.out.cell (o := 2) rfl
    clear b2
    cases m
    · go_wp2_with fail
      go_ret
      exact ⟨by rw [HT.out, E1.out]; simp, B2.out⟩
    · go_wp2_with fail
      go_ret
      exact ⟨by rw [HT.out, E2.out]; simp, B2.out⟩

end Go.Proofs.YtblliefejffhoaaGreatDoor

/- The texts of instructions, plainly; the model's words. -/
namespace Go.Proofs.YtblliefejffhoaaGreatDoor
open Go.ChangeShapes Go.WideShapes Go.ChangeAt Go.RowKit
set_option linter.unusedVariables false

/-- The words of the kinds, by their places. -/
def words : List (List UInt8) := [[], [110, 117, 109], [103, 101, 116], [115, 101, 116], [116, 97, 107, 101], [107, 101, 101, 112], [100, 114, 111, 112], [97, 100, 100], [109, 117, 108], [108, 101, 115, 115], [99, 104, 105, 112], [98, 97, 99, 107], [110, 117, 108, 108], [110, 101, 119], [108, 111, 111, 107], [112, 117, 116], [114, 111, 119], [97, 116], [108, 97, 121], [108, 101, 110], [115, 97, 109, 101], [110, 111, 110, 101], [116, 101, 115, 116], [99, 97, 115, 116], [115, 117, 114, 101], [106, 117, 109, 112], [105, 102], [99, 97, 108, 108], [112, 97, 115, 115], [114, 101, 116], [115, 97, 121], [115, 104, 111, 119], [97, 115, 107], [115, 119, 101, 101, 112]]
def wordAt (i : Nat) : List UInt8 := words.getD i []

/-- InsText, plainly. -/
def insText (op a b : Int) : List UInt8 :=
  if insOk op a b then (if spanN op = 0 then wordAt op.toNat else if spanN op = 1 then wordAt op.toNat ++ 32 :: ofTxt a else wordAt op.toNat ++ 32 :: (ofTxt a ++ 32 :: ofTxt b)) else []

end Go.Proofs.YtblliefejffhoaaGreatDoor

/- InsText of the model. -/
namespace Go.Proofs.YtblliefejffhoaaGreatDoor
open Go.ChangeShapes Go.WideShapes Go.ChangeAt Go.RowKit
set_option linter.unusedVariables false

theorem wordAt_len (k : Nat) : (wordAt k).length ≤ 5 := by
  by_cases h : k < 34
  · have : ∀ i : Fin 34, (wordAt i.val).length ≤ 5 := by decide
    exact this ⟨k, h⟩
  · have : wordAt k = [] := by
      unfold wordAt
      rw [List.getD_eq_getElem?_getD, List.getElem?_eq_none (by simp [words]; omega)]; rfl
    rw [this]; simp

theorem insOk_small {op a b : Int} (h : insOk op a b = true) : a < 1000000 ∧ b < 1000000 ∧ 0 ≤ b := by
  have hs : spanHi op ≤ 9973 := by unfold spanHi; repeat' split; all_goals omega
  simp [insOk] at h
  obtain ⟨_, h⟩ := h
  split at h
  · omega
  · split at h
    · omega
    · omega

theorem insOk_one {op a b : Int} (h : insOk op a b = true) (hn : spanN op = 1) : -2 ≤ a ∧ (¬ (op = 12 ∨ op = 22 ∨ op = 23) → 0 ≤ a) := by
  simp [insOk, hn] at h
  obtain ⟨_, h, _⟩ := h
  unfold spanLo at h
  split at h
  · exact ⟨h, fun hh => absurd ‹_› hh⟩
  · exact ⟨by omega, fun _ => h⟩

theorem insOk_two {op a b : Int} (h : insOk op a b = true) (hn : spanN op = 2) : 0 ≤ a ∧ a < 8 ∧ 0 ≤ b ∧ b < 4 := by
  simp [insOk, hn] at h
  omega

end Go.Proofs.YtblliefejffhoaaGreatDoor

/- The lines of a program's text, as lists of bytes, and how long they are. -/
namespace Go.Proofs.YtblliefejffhoaaGreatDoor
open Go.ChangeShapes Go.WideShapes Go.ChangeAt Go.RowKit
set_option linter.unusedVariables false

def fdTxt (f : Fd) : List UInt8 := fieldTxt f.kind f.of f.mt
def fdsTxt (fs : List Fd) : List UInt8 := fs.flatMap fun f => 32 :: fdTxt f
def upTxt (u : Int) : List UInt8 := if u < 0 then [45] else Lib.decDigits u.toNat
def kindTxt (k : Int) : List UInt8 := if k = 2 then [114, 111, 119] else [98, 111, 120]
def lastTxt (b : Bool) : List UInt8 := if b then [32, 108, 97, 115, 116] else []
def tyLine (t : Ty) : List UInt8 := kindTxt t.kind ++ (32 :: upTxt t.up) ++ fdsTxt t.fields ++ lastTxt t.last
def insLine (i : GIns) : List UInt8 := insText i.op i.a i.b
def groupW : List UInt8 := [103, 114, 111, 117, 112]
def globW : List UInt8 := [103, 108, 111, 98]
def funW : List UInt8 := [102, 117, 110, 32]
def ownW : List UInt8 := [111, 119, 110]
def grTo (g : List Ty) (k : Nat) : List (List UInt8) := groupW :: (g.take k).map tyLine
def typesTo (gs : List (List Ty)) (i : Nat) : List (List UInt8) := (gs.take i).flatMap fun g => grTo g g.length
def globLs (gl : List Fd) : List (List UInt8) := if gl.length = 0 then [] else [globW ++ fdsTxt gl]
def funHead (f : GFun) : List UInt8 := funW ++ fdTxt f.gives ++ fdsTxt f.takes
def ownLs (f : GFun) : List (List UInt8) := if f.own.length = 0 then [] else [ownW ++ fdsTxt f.own]
def funTo (f : GFun) (k : Nat) : List (List UInt8) := (funHead f :: ownLs f) ++ (f.body.take k).map insLine
def funLs (f : GFun) : List (List UInt8) := funTo f f.body.length
def funsLs (fs : List GFun) (i : Nat) : List (List UInt8) := (fs.take i).flatMap funLs
def progLs (p : GProg) : List (List UInt8) := typesTo p.types p.types.length ++ globLs p.glob ++ funsLs p.funs p.funs.length
def unl (ls : List (List UInt8)) : List UInt8 := ls.flatMap fun l => l ++ [10]
def progTxt (p : GProg) : List UInt8 := if progOkF p then unl (progLs p) else []

theorem unl_one (a : List UInt8) : unl [a] = a ++ [10] := by simp [unl]
theorem join_unl (ls : List (List UInt8)) (h : 0 < ls.length) : Lib.join ls [10] ++ [10] = unl ls := by
  cases ls with
  | nil => simp at h
  | cons x r =>
    clear h
    induction r generalizing x with
    | nil => rw [Lib.join_one, unl_one]
    | cons y r ih =>
      have h1 := Lib.join_cons x (y :: r) [10]
      have h2 := Lib.join_cons y r [10]
      have e : Lib.joinTail [10] (y :: r) = [10] ++ y ++ Lib.joinTail [10] r := by simp [Lib.joinTail]
      have h3 := ih y
      rw [h2] at h3
      rw [h1, e]
      have : unl (x :: y :: r) = x ++ [10] ++ unl (y :: r) := by simp [unl]
      rw [this, ← h3]
      simp

theorem fdTxt_len (f : Fd) : (fdTxt f).length ≤ 8 := by
  unfold fdTxt fieldTxt
  cases h : fieldOk f.kind f.of 8 with
  | false => simp
  | true =>
    have hl : (letter f.kind).length ≤ 1 := by unfold letter; (split; · simp); (split; · simp); (split; · simp); simp
    have ho : (if f.kind = 1 then ([] : List UInt8) else ofTxt f.of).length ≤ 6 := by
      split
      · simp
      · exact ofTxt_len _ (by rcases fieldOk_small h with ⟨_, h1⟩ | ⟨_, _, h1⟩ <;> omega)
    have hm : (if f.mt then ([33] : List UInt8) else []).length ≤ 1 := by split <;> simp
    simp only [if_true, List.length_append]
    omega

theorem fdsTxt_snoc (fs : List Fd) (k : Nat) (h : k < fs.length) : fdsTxt (fs.take (k + 1)) = fdsTxt (fs.take k) ++ (32 :: fdTxt (fdAt fs k)) := by
  have e : fdAt fs k = fs[k] := by simp [fdAt, h]
  rw [List.take_succ_eq_append_getElem h, e, fdsTxt, List.flatMap_append]
  simp [fdsTxt]
theorem fdsTxt_len (fs : List Fd) : (fdsTxt fs).length ≤ 9 * fs.length := by
  induction fs with
  | nil => simp [fdsTxt]
  | cons f r ih =>
    have := fdTxt_len f
    have e : fdsTxt (f :: r) = (32 :: fdTxt f) ++ fdsTxt r := by simp [fdsTxt]
    rw [e, List.length_append]
    simp
    omega

theorem insLine_len (i : GIns) : (insLine i).length ≤ 40 := by
  unfold insLine insText
  cases h : insOk i.op i.a i.b with
  | false => simp
  | true =>
    obtain ⟨h1, h2, h3⟩ := insOk_small h
    have hw := wordAt_len i.op.toNat
    have ha := ofTxt_len i.a (by omega)
    have hb := ofTxt_len i.b (by omega)
    have hd := decDigits_len i.b.toNat (by omega)
    simp only [if_true]
    repeat' split
    all_goals simp
    all_goals omega

/-- No more lines than these, none of them long. -/
def LB (n : Nat) (ls : List (List UInt8)) : Prop := ls.length ≤ n ∧ ∀ l ∈ ls, l.length ≤ 100
theorem LB.append {n m : Nat} {a b : List (List UInt8)} (h : LB n a) (k : LB m b) : LB (n + m) (a ++ b) :=
  ⟨by have := h.1; have := k.1; simp; omega, fun l hl => (List.mem_append.1 hl).elim (h.2 l) (k.2 l)⟩
theorem LB.one {a : List UInt8} (h : a.length ≤ 100) : LB 1 [a] := ⟨by simp, fun l hl => by simp at hl; rw [hl]; exact h⟩
theorem LB.mono {n m : Nat} {a : List (List UInt8)} (h : LB n a) (hm : n ≤ m) : LB m a := ⟨Nat.le_trans h.1 hm, h.2⟩
theorem lb_unl {n : Nat} {a : List (List UInt8)} (h : LB n a) : (unl a).length ≤ 101 * n := by
  obtain ⟨h1, h2⟩ := h
  have : (unl a).length ≤ 101 * a.length := by
    clear h1
    induction a with
    | nil => simp [unl]
    | cons x r ih =>
      have e : unl (x :: r) = x ++ [10] ++ unl r := by simp [unl]
      have i1 := ih fun l hl => h2 l (List.mem_cons_of_mem _ hl)
      have i2 := h2 x (List.mem_cons_self ..)
      rw [e]
      simp
      omega
  omega

def SmallT (t : Ty) : Prop := t.fields.length ≤ 4 ∧ t.up < 1000000
def SmallG (g : List Ty) : Prop := g.length ≤ 8 ∧ ∀ i, i < g.length → SmallT (tyAt g i)
def SmallF (f : GFun) : Prop := f.takes.length ≤ 3 ∧ f.own.length ≤ 3 ∧ f.body.length ≤ 30
def SmallP (p : GProg) : Prop := p.types.length ≤ 4 ∧ (∀ x, x < p.types.length → SmallG (grAt p.types x)) ∧ p.glob.length ≤ 3 ∧ 0 < p.funs.length ∧ p.funs.length ≤ 5 ∧ ∀ i, i < p.funs.length → SmallF (funAt' p.funs i)

theorem countTo_at_le (F : Nat → List Ty) (x n : Nat) (h : x < n) : countTo F x + (F x).length ≤ countTo F n := countTo_mono F (show x + 1 ≤ n by omega)

theorem smallP_of {p : GProg} (h : progOkF p = true) : SmallP p := by
  unfold progOkF at h
  simp only [Bool.and_eq_true, decide_eq_true_eq] at h
  obtain ⟨⟨hk, ⟨⟨hg, _⟩, hf0, hf5⟩⟩, hfs⟩ := h
  have hP : Parts p.types := by
    unfold kinOkF at hk
    simp only [Bool.and_eq_true] at hk
    exact (partsF_iff _).1 hk.1
  have hW := hP.w
  refine ⟨hP.1, fun x hx => ?_, hg, hf0, hf5, fun i hi => ?_⟩
  · have h8 : countTo (grAt p.types) x + (grAt p.types x).length ≤ kinCount p.types := countTo_at_le _ _ _ hx
    have h88 := hP.2.1
    refine ⟨by omega, fun i hi => ⟨(hW.2 x hx i hi).1, ?_⟩⟩
    have := (hW.2 x hx i hi).2.1.2
    omega
  · have := allTo_true hfs i hi
    unfold funOkF at this
    simp only [Bool.and_eq_true, decide_eq_true_eq] at this
    obtain ⟨⟨⟨h1, h2⟩, _, h3⟩, _⟩ := this
    exact ⟨h1, h2, h3⟩

theorem upTxt_len (u : Int) (h : u < 1000000) : (upTxt u).length ≤ 6 := by
  unfold upTxt
  split
  · simp
  · exact decDigits_len _ (by omega)
theorem kindTxt_len (k : Int) : (kindTxt k).length = 3 := by unfold kindTxt; split <;> rfl
theorem lastTxt_len (b : Bool) : (lastTxt b).length ≤ 5 := by cases b <;> simp [lastTxt]
theorem tyLine_len {t : Ty} (h : SmallT t) : (tyLine t).length ≤ 60 := by
  have h1 := upTxt_len t.up h.2
  have h2 := kindTxt_len t.kind
  have h3 := lastTxt_len t.last
  have h4 := fdsTxt_len t.fields
  have h5 := h.1
  unfold tyLine
  simp
  omega

theorem grTo_snoc (g : List Ty) (k : Nat) (h : k < g.length) : grTo g (k + 1) = grTo g k ++ [tyLine (tyAt g k)] := by
  have e : tyAt g k = g[k] := by simp [tyAt, h]
  rw [grTo, List.take_succ_eq_append_getElem h, e, List.map_append]
  simp [grTo]
theorem typesTo_snoc (gs : List (List Ty)) (k : Nat) (h : k < gs.length) : typesTo gs (k + 1) = typesTo gs k ++ grTo (grAt gs k) (grAt gs k).length := by
  have e : grAt gs k = gs[k] := by simp [grAt, h]
  rw [typesTo, List.take_succ_eq_append_getElem h, e, List.flatMap_append]
  simp [typesTo]
theorem funTo_snoc (f : GFun) (k : Nat) (h : k < f.body.length) : funTo f (k + 1) = funTo f k ++ [insLine (insAt' f.body k)] := by
  have e : insAt' f.body k = f.body[k] := by simp [insAt', h]
  rw [funTo, List.take_succ_eq_append_getElem h, e, List.map_append]
  simp [funTo]
theorem funsLs_snoc (fs : List GFun) (k : Nat) (h : k < fs.length) : funsLs fs (k + 1) = funsLs fs k ++ funLs (funAt' fs k) := by
  have e : funAt' fs k = fs[k] := by simp [funAt', h]
  rw [funsLs, List.take_succ_eq_append_getElem h, e, List.flatMap_append]
  simp [funsLs]

theorem grTo_lb {g : List Ty} (h : SmallG g) (k : Nat) (hk : k ≤ g.length) : LB 9 (grTo g k) := by
  have : LB (k + 1) (grTo g k) := by
    induction k with
    | zero => exact ⟨by simp [grTo], fun l hl => by simp [grTo] at hl; rw [hl]; decide⟩
    | succ k ih =>
      rw [grTo_snoc g k (by omega)]
      exact (ih (by omega)).append (.one (Nat.le_trans (tyLine_len (h.2 k (by omega))) (by omega)))
  exact this.mono (by have := h.1; omega)
theorem typesTo_lb {gs : List (List Ty)} (h4 : gs.length ≤ 4) (h : ∀ x, x < gs.length → SmallG (grAt gs x)) (k : Nat) (hk : k ≤ gs.length) : LB 36 (typesTo gs k) := by
  have : LB (9 * k) (typesTo gs k) := by
    induction k with
    | zero => exact ⟨by simp [typesTo], fun l hl => by simp [typesTo] at hl⟩
    | succ k ih =>
      rw [typesTo_snoc gs k (by omega)]
      exact ((ih (by omega)).append (grTo_lb (h k (by omega)) _ (Nat.le_refl _))).mono (by omega)
  exact this.mono (by omega)
theorem globLs_lb {gl : List Fd} (h : gl.length ≤ 3) : LB 1 (globLs gl) := by
  have h4 := fdsTxt_len gl
  unfold globLs
  split
  · exact ⟨by simp, fun l hl => by simp at hl⟩
  · exact .one (by simp [globW]; omega)
theorem funTo_lb {f : GFun} (h : SmallF f) (k : Nat) (hk : k ≤ f.body.length) : LB 32 (funTo f k) := by
  have : LB (2 + k) (funTo f k) := by
    induction k with
    | zero =>
      have h1 := fdTxt_len f.gives
      have h2 := fdsTxt_len f.takes
      have h3 := fdsTxt_len f.own
      have h4 := h.1
      have h5 := h.2.1
      have e : funTo f 0 = [funHead f] ++ ownLs f := by simp [funTo]
      rw [e]
      refine LB.append (n := 1) (m := 1) (.one ?_) ?_
      · unfold funHead; simp [funW]; omega
      · unfold ownLs
        split
        · exact ⟨by simp, fun l hl => by simp at hl⟩
        · exact .one (by simp [ownW]; omega)
    | succ k ih =>
      rw [funTo_snoc f k (by omega)]
      exact ((ih (by omega)).append (.one (Nat.le_trans (insLine_len _) (by omega))))
  exact this.mono (by have := h.2.2; omega)
theorem funsLs_lb {fs : List GFun} (h5 : fs.length ≤ 5) (h : ∀ i, i < fs.length → SmallF (funAt' fs i)) (k : Nat) (hk : k ≤ fs.length) : LB 160 (funsLs fs k) := by
  have : LB (32 * k) (funsLs fs k) := by
    induction k with
    | zero => exact ⟨by simp [funsLs], fun l hl => by simp [funsLs] at hl⟩
    | succ k ih =>
      rw [funsLs_snoc fs k (by omega)]
      exact ((ih (by omega)).append (funTo_lb (h k (by omega)) _ (Nat.le_refl _))).mono (by omega)
  exact this.mono (by omega)
theorem funLs_pos (f : GFun) : 0 < (funLs f).length := by simp [funLs, funTo]
theorem funsLs_pos {fs : List GFun} (h : 0 < fs.length) : 0 < (funsLs fs fs.length).length := by
  cases fs with
  | nil => simp at h
  | cons f r =>
    have := funLs_pos f
    simp [funsLs]
    omega
end Go.Proofs.YtblliefejffhoaaGreatDoor

/- Two long texts, put together. -/
namespace Go.Proofs.YtblliefejffhoaaGreatDoor
open Go.ChangeShapes Go.WideShapes Go.ChangeAt Go.RowKit
set_option linter.unusedVariables false

theorem add_big (x y z : List UInt8) (h : x ++ y = z) (hx : x.length ≤ 100000000) (hy : y.length ≤ 100000000) : ∀ W : World, (Op.stringOp .add ⟨x.toArray⟩ ⟨y.toArray⟩).run Tryz.prog W = .ok (.string ⟨z.toArray⟩) W := by
  intro W
  rw [run_string_add_sum W _ _ (by simp [ByteArray.size]; omega), ByteArray.mk_append_mk, h]
end Go.Proofs.YtblliefejffhoaaGreatDoor

/- How many lines a program's text has: as many newlines as there are parts. -/
namespace Go.Proofs.YtblliefejffhoaaGreatDoor
set_option linter.unusedVariables false

def noNl (l : List UInt8) : Prop := (10 : UInt8) ∉ l
theorem noNl.app {a b : List UInt8} (h : noNl a) (k : noNl b) : noNl (a ++ b) := fun q => (List.mem_append.1 q).elim h k
theorem noNl.cons {d : UInt8} {b : List UInt8} (h : d ≠ 10) (k : noNl b) : noNl (d :: b) := fun q => (List.mem_cons.1 q).elim (fun e => h e.symm) k
theorem noNl.nil : noNl [] := fun q => by cases q
theorem dig_ne : ∀ d : Fin 10, UInt8.ofNat (48 + d.val) ≠ 10 := by decide
theorem decDigits_noNl (u : Nat) : noNl (Lib.decDigits u) := by
  induction u using Nat.strongRecOn with
  | _ u ih =>
    rw [Lib.decDigits]
    split
    · exact noNl.cons (dig_ne ⟨u, ‹_›⟩) noNl.nil
    · exact (ih (u / 10) (by omega)).app (noNl.cons (dig_ne ⟨u % 10, by omega⟩) noNl.nil)
theorem ofTxt_noNl (n : Int) : noNl (ofTxt n) := by
  unfold ofTxt
  split
  · exact fun q => absurd q (by decide)
  · split
    · exact fun q => absurd q (by decide)
    · exact decDigits_noNl _
theorem letter_noNl (k : Int) : noNl (letter k) := by
  unfold letter
  repeat' split
  all_goals exact fun q => absurd q (by decide)
theorem fdTxt_noNl (f : Fd) : noNl (fdTxt f) := by
  unfold fdTxt fieldTxt
  split
  · refine ((letter_noNl _).app ?_).app ?_
    · split
      · exact noNl.nil
      · exact ofTxt_noNl _
    · split
      · exact fun q => absurd q (by decide)
      · exact noNl.nil
  · exact noNl.nil
theorem fdsTxt_noNl (fs : List Fd) : noNl (fdsTxt fs) := by
  induction fs with
  | nil => exact noNl.nil
  | cons f r ih =>
    have e : fdsTxt (f :: r) = 32 :: (fdTxt f ++ fdsTxt r) := by simp [fdsTxt]
    rw [e]
    exact noNl.cons (by decide) ((fdTxt_noNl f).app ih)
theorem tyLine_noNl (t : Ty) : noNl (tyLine t) := by
  unfold tyLine
  refine (((?_ : noNl _).app (noNl.cons (by decide) ?_)).app (fdsTxt_noNl _)).app ?_
  · unfold kindTxt
    split
    all_goals exact fun q => absurd q (by decide)
  · unfold upTxt
    split
    · exact fun q => absurd q (by decide)
    · exact decDigits_noNl _
  · unfold lastTxt
    split
    all_goals exact fun q => absurd q (by decide)
theorem wordAt_noNl (k : Nat) : noNl (wordAt k) := by
  by_cases h : k < 34
  · have : ∀ i : Fin 34, (10 : UInt8) ∉ wordAt i.val := by decide
    exact this ⟨k, h⟩
  · have : wordAt k = [] := by
      unfold wordAt
      rw [List.getD_eq_getElem?_getD, List.getElem?_eq_none (by simp [words]; omega)]; rfl
    rw [this]; exact noNl.nil
theorem insLine_noNl (i : GIns) : noNl (insLine i) := by
  unfold insLine insText
  split
  · split
    · exact wordAt_noNl _
    · split
      · exact (wordAt_noNl _).app (noNl.cons (by decide) (ofTxt_noNl _))
      · exact (wordAt_noNl _).app (noNl.cons (by decide) ((ofTxt_noNl _).app (noNl.cons (by decide) (ofTxt_noNl _))))
  · exact noNl.nil

theorem grTo_noNl (g : List Ty) (k : Nat) : ∀ l ∈ grTo g k, noNl l := by
  intro l hl
  rcases List.mem_cons.1 hl with rfl | hl
  · exact fun q => absurd q (by decide)
  · obtain ⟨t, _, rfl⟩ := List.mem_map.1 hl
    exact tyLine_noNl t
theorem funLs_noNl (f : GFun) : ∀ l ∈ funLs f, noNl l := by
  intro l hl
  unfold funLs funTo at hl
  rcases List.mem_append.1 hl with hl | hl
  · rcases List.mem_cons.1 hl with rfl | hl
    · unfold funHead
      exact ((show noNl funW from fun q => absurd q (by decide)).app (fdTxt_noNl _)).app (fdsTxt_noNl _)
    · unfold ownLs at hl
      split at hl
      · cases hl
      · rw [List.mem_singleton.1 hl]
        exact (show noNl ownW from fun q => absurd q (by decide)).app (fdsTxt_noNl _)
  · obtain ⟨t, _, rfl⟩ := List.mem_map.1 hl
    exact insLine_noNl t
theorem progLs_noNl (p : GProg) : ∀ l ∈ progLs p, noNl l := by
  intro l hl
  unfold progLs at hl
  rcases List.mem_append.1 hl with hl | hl
  · rcases List.mem_append.1 hl with hl | hl
    · obtain ⟨g, _, hl⟩ := List.mem_flatMap.1 hl
      exact grTo_noNl _ _ l hl
    · unfold globLs at hl
      split at hl
      · cases hl
      · rw [List.mem_singleton.1 hl]
        exact (show noNl globW from fun q => absurd q (by decide)).app (fdsTxt_noNl _)
  · obtain ⟨g, _, hl⟩ := List.mem_flatMap.1 hl
    exact funLs_noNl _ l hl

end Go.Proofs.YtblliefejffhoaaGreatDoor
