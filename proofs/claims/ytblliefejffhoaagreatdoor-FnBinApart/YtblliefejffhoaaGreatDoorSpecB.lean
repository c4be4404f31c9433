/- l1Match, l1Alike and l1Same of the model: which types are the same. -/
import Derived.Test.YtblliefejffhoaaGreatDoorSpecA
import Derived.Deep.RegionHeld3
namespace Go.Proofs.YtblliefejffhoaaGreatDoor
open Go.ChangeShapes Go.WideShapes Go.ChangeAt Go.RowKit
set_option linter.unusedVariables false

/-- Groups that have right types, but for what is above them. -/
def Parts (gs : List (List Ty)) : Prop := gs.length ≤ 4 ∧ kinCount gs ≤ 8 ∧ ∀ x, x < gs.length → 0 < (grAt gs x).length ∧ ∀ i, i < (grAt gs x).length →
  formOk (tyAt (grAt gs x) i) ((countTo (grAt gs) x + i : Nat) : Int) ((countTo (grAt gs) x + (grAt gs x).length : Nat) : Int) = true

/-- Groups of which no more is known than that their parts are small, and that what is above a type is ahead of it. -/
def PartsW (gs : List (List Ty)) : Prop := kinCount gs ≤ 8 ∧ ∀ x, x < gs.length → ∀ i, i < (grAt gs x).length →
  (tyAt (grAt gs x) i).fields.length ≤ 4 ∧ (-1 ≤ (tyAt (grAt gs x) i).up ∧ (tyAt (grAt gs x) i).up < ((countTo (grAt gs) x + i : Nat) : Int)) ∧ ∀ j, j < (tyAt (grAt gs x) i).fields.length → -2 ≤ (fdAt (tyAt (grAt gs x) i).fields j).of ∧ (fdAt (tyAt (grAt gs x) i).fields j).of ≤ 1000

def beg (gs : List (List Ty)) (x : Nat) : Nat := countTo (grAt gs) x

/-- What two types of two groups name matches. -/
def matchF (S : Nat → Nat → Bool) (gs : List (List Ty)) (a b : Int) (x y : Nat) : Bool :=
  if a < 0 ∨ b < 0 then a == b
  else if (beg gs x : Int) ≤ a ∧ (beg gs y : Int) ≤ b then a - (beg gs x : Int) == b - (beg gs y : Int)
  else (decide (a < (beg gs x : Int)) && decide (b < (beg gs y : Int))) && S a.toNat b.toNat

theorem beg_le {gs : List (List Ty)} {x : Nat} (h : x ≤ gs.length) : beg gs x ≤ kinCount gs := countTo_mono (grAt gs) h

/-- What l1Same answers, of types ahead of one. -/
def SameSaid (ga : Option Addr) (gc lo hi : Nat) (gs : List (List Ty)) (S : Nat → Nat → Bool) (B : Nat) : Prop :=
  ∀ p q, p < B → q < kinCount gs → ∀ w : World, hi ≤ w.heap.size → GroupsIn w lo hi ga gs →
    Calls Tryz.prog 142 #[.slice ga gs.length gc, .int .i64 (p : Int), .int .i64 (q : Int)] w fun e w' => e = .returned (.bool (S p q)) ∧ Below w.heap.size w w'

set_option maxHeartbeats 800000 in
theorem l1Match_any (ga : Option Addr) (gc lo hi : Nat) (gs : List (List Ty)) (S : Nat → Nat → Bool) (a b : Int) (x y : Nat) (w : World) (hP : PartsW gs) (hN : Few gs) (hc : gs.length ≤ gc) (hh : hi ≤ w.heap.size) (hx : GroupsIn w lo hi ga gs)
    (h1 : x < gs.length) (h2 : y < gs.length) (a0 : -2 ≤ a) (a1 : a ≤ 1000) (b0 : -2 ≤ b) (b1 : b ≤ 1000) (ih : SameSaid ga gc lo hi gs S (beg gs x)) :
    Calls Tryz.prog 150 #[.slice ga gs.length gc, .int .i64 a, .int .i64 b, .int .i64 (x : Int), .int .i64 (y : Int)] w fun e w' => e = .returned (.bool (matchF S gs a b x y)) ∧ Below w.heap.size w w' := by
  have m1 := beg_le (Nat.le_of_lt h1)
  have m2 := beg_le (Nat.le_of_lt h2)
  have m3 := hP.1
  have HX := hide hx
  have HN := hide hN
  clear hx hN hP
  by_cases ha : a < 0
  · have HF : Hid (matchF S gs a b x y = (a == b)) := by show _ = _; unfold matchF; rw [if_pos (.inl ha)]
    go_enter Tryz.func150, Tryz.ntmps150
    go_wp2_with fail
    go_ret
    exact ⟨ret_bool HF.out.symm, Below.refl _ _⟩
  by_cases hb : b < 0
  · have HF : Hid (matchF S gs a b x y = (a == b)) := by show _ = _; unfold matchF; rw [if_pos (.inr hb)]
    go_enter Tryz.func150, Tryz.ntmps150
    go_wp2_with fail
    go_ret
    exact ⟨ret_bool HF.out.symm, Below.refl _ _⟩
  obtain ⟨p, rfl⟩ := Int.eq_ofNat_of_zero_le (show 0 ≤ a by omega)
  obtain ⟨q, rfl⟩ := Int.eq_ofNat_of_zero_le (show 0 ≤ b by omega)
  have hne : ¬ ((p : Int) < 0 ∨ (q : Int) < 0) := by omega
  have HB1 := hide (l1Begin_any ga gc lo hi x gs w HN.out hc (Nat.le_of_lt h1) HX.out)
  have HB2 := hide (l1Begin_any ga gc lo hi y gs w HN.out hc (Nat.le_of_lt h2) HX.out)
  by_cases c1 : beg gs x ≤ p
  · by_cases c2 : beg gs y ≤ q
    · have HF : Hid (matchF S gs p q x y = ((p : Int) - (beg gs x : Int) == (q : Int) - (beg gs y : Int))) := by
        show _ = _; unfold matchF; rw [if_neg hne, if_pos ⟨by omega, by omega⟩]
      unfold beg at *
      go_enter Tryz.func150, Tryz.ntmps150
      go_wp2_with fail
      refine HB1.out.mono ?_
      rintro e w1 ⟨rfl, rfl⟩
      go_wp2_with fail
      refine HB2.out.mono ?_
      rintro e w1 ⟨rfl, rfl⟩
      go_wp2_with fail
      go_ret
      exact ⟨ret_bool HF.out.symm, Below.refl _ _⟩
    · have HF : Hid (matchF S gs p q x y = false) := by
        show _ = _; unfold matchF; rw [if_neg hne, if_neg (by omega)]; simp; omega
      unfold beg at *
      go_enter Tryz.func150, Tryz.ntmps150
      go_wp2_with fail
      refine HB1.out.mono ?_
      rintro e w1 ⟨rfl, rfl⟩
      go_wp2_with fail
      refine HB2.out.mono ?_
      rintro e w1 ⟨rfl, rfl⟩
      go_wp2_with fail
      go_ret
      exact ⟨ret_bool HF.out.symm, Below.refl _ _⟩
  · by_cases c2 : beg gs y ≤ q
    · have HF : Hid (matchF S gs p q x y = false) := by
        show _ = _; unfold matchF; rw [if_neg hne, if_neg (by omega)]; simp; omega
      unfold beg at *
      go_enter Tryz.func150, Tryz.ntmps150
      go_wp2_with fail
      refine HB1.out.mono ?_
      rintro e w1 ⟨rfl, rfl⟩
      go_wp2_with fail
      refine HB2.out.mono ?_
      rintro e w1 ⟨rfl, rfl⟩
      go_wp2_with fail
      go_ret
      exact ⟨ret_bool HF.out.symm, Below.refl _ _⟩
    · have HF : Hid (matchF S gs p q x y = S p q) := by
        show _ = _; unfold matchF; rw [if_neg hne, if_neg (by omega)]
        have e1 : decide ((p : Int) < (beg gs x : Int)) = true := by simp; omega
        have e2 : decide ((q : Int) < (beg gs y : Int)) = true := by simp; omega
        rw [e1, e2]; simp
      have HC := hide (ih p q (by omega) (by omega) w hh HX.out)
      unfold beg at *
      go_enter Tryz.func150, Tryz.ntmps150
      go_wp2_with fail
      refine HB1.out.mono ?_
      rintro e w1 ⟨rfl, rfl⟩
      go_wp2_with fail
      refine HB2.out.mono ?_
      rintro e w1 ⟨rfl, rfl⟩
      go_wp2_with fail
      refine HC.out.mono ?_
      rintro e w1 ⟨rfl, hb1⟩
      have HB := hide hb1
      clear hb1
      go_wp2_with fail
      go_ret
      exact ⟨ret_bool HF.out.symm, HB.out⟩
end Go.Proofs.YtblliefejffhoaaGreatDoor
