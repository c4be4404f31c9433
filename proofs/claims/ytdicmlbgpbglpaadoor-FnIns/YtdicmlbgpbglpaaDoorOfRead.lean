/- ofRead of the program: a word is read as a number just if it is what is written of it. -/
import Derived.Test.YtdicmlbgpbglpaaDoorOfImpl
import Derived.Shelf.Strconv.AtoiAll
import Derived.Shelf.Strconv.ErrVarAll
import Derived.Deep.RegionHeld3
namespace Go.Proofs
open Go.Shelf Go.RowKit
shelf_lay LaysC.n172 Nm 172 at Tryd as Tryd.lays172
end Go.Proofs
namespace Go.Proofs.YtdicmlbgpbglpaaDoor
open Go.ChangeShapes Go.WideShapes Go.ChangeAt Go.RowKit Go.Joins
set_option linter.unusedVariables false

/-- What is written of any number. -/
def ofTxtI (n : Int) : List UInt8 := if n = -1 then [97, 110, 121] else if n = -2 then [99, 104, 105, 112] else Lib.itoa n

theorem ofTxtI_small {n : Int} (h : -2 ≤ n) : ofTxtI n = ofTxt n := by
  unfold ofTxtI ofTxt
  split
  · rfl
  · split
    · rfl
    · unfold Lib.itoa; rw [if_neg (by omega)]

set_option maxHeartbeats 400000 in
theorem ofTextI_any (n : Int) (w : World) (h1 : -9223372036854775808 ≤ n) (h2 : n ≤ 9223372036854775807) (ht : pow10 w) :
    Calls Tryd.prog 29 #[.int .i64 n] w fun e w' => e = .returned (.string ⟨(ofTxtI n).toArray⟩) ∧ Below w.heap.size w w' := by
  by_cases ha : n = -1
  · subst ha
    go_enter Tryd.func29, Tryd.ntmps29
    go_wp2_with fail
    go_ret
    exact ⟨rfl, Below.refl _ _⟩
  by_cases hb : n = -2
  · subst hb
    go_enter Tryd.func29, Tryd.ntmps29
    go_wp2_with fail
    go_ret
    exact ⟨rfl, Below.refl _ _⟩
  have HO : Hid (ofTxtI n = Lib.itoa n) := by simp only [Hid, ofTxtI]; rw [if_neg ha, if_neg hb]
  have g1 : (n == -1) = false := by simp [ha]
  have g2 : (n == -2) = false := by simp [hb]
  go_enter Tryd.func29, Tryd.ntmps29
  go_wp2_with fail
  refine (Tryd.itoa n h1 h2 w ht).mono ?_
  rintro e w1 ⟨rfl, k, os, rfl⟩
  have b1 := grown_below w k os
  generalize Sort.grow (w.drewN k) os = w1 at b1 ⊢
  go_wp2_with fail
  go_ret
  exact ⟨by rw [HO.out]; rfl, b1⟩

/-- The library's two errors, as they are laid. -/
def errsAt (w : World) : Prop := ∃ t p t' p', w.var? Tryd.prog "strconv.ErrSyntax" = some #[.iface t p] ∧ w.var? Tryd.prog "strconv.ErrRange" = some #[.iface t' p']
theorem gSyntax : Tryd.prog.globalNamed "strconv.ErrSyntax" = some 2 := by kernel_rfl
theorem gRange : Tryd.prog.globalNamed "strconv.ErrRange" = some 3 := by kernel_rfl
theorem errsAt.keep {w w' : World} (h : errsAt w) (hb : Below w.heap.size w w') : errsAt w' := by
  obtain ⟨t, p, t', p', h1, h2⟩ := h
  exact ⟨t, p, t', p', var_stays gSyntax h1 hb (Nat.le_refl _), var_stays gRange h2 hb (Nat.le_refl _)⟩

/-- strconv.Atoi of any word: a number, or an error. -/
theorem atoi_any (s : ByteArray) (w : World) (hs : s.size ≤ 1048576) (he : errsAt w) :
    Calls Tryd.prog 58 #[.string s] w fun e w' => Below w.heap.size w w' ∧ ((∃ v, Lib.atoiAll s.data.toList = .ok v ∧ e = .returned (.tuple #[.int .i64 v, .nilIface])) ∨
      ((∀ v, Lib.atoiAll s.data.toList ≠ .ok v) ∧ ∃ v t p, e = .returned (.tuple #[.int .i64 v, .iface t p]))) := by
  obtain ⟨t, p, t', p', e1, e2⟩ := he
  cases h : Lib.atoiAll s.data.toList with
  | ok v =>
    refine (Any.strconv_Atoi_ok { Tryd.lays172 with } s (by omega) v h w).mono ?_
    rintro e w' ⟨rfl, hw⟩
    refine ⟨?_, .inl ⟨v, rfl, rfl⟩⟩
    rcases hw with rfl | ⟨q, rfl⟩
    · exact Below.refl _ _
    · exact Lib.bytesWorld_below _ _ _
  | «syntax» =>
    refine (Any.strconv_Atoi_syntax_var { Tryd.lays172 with } s (by omega) h t p w e1).mono ?_
    rintro e w' ⟨n, rfl, _, _, hb⟩
    exact ⟨hb, .inr ⟨fun v hv => (by cases hv), _, _, _, rfl⟩⟩
  | range =>
    refine (Any.strconv_Atoi_range_var { Tryd.lays172 with } s (by omega) h t' p' w e2).mono ?_
    rintro e w' ⟨n, rfl, _, _, hb⟩
    exact ⟨hb, .inr ⟨fun v hv => (by cases hv), _, _, _, rfl⟩⟩
end Go.Proofs.YtdicmlbgpbglpaaDoor
