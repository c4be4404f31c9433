/- Heaps, plainly: what the program reckons with. -/
import Derived.Test.YtembifoimiochaaGreatDoorHpM
import Derived.Test.YtembifoimiochaaGreatDoorPhWord
namespace Go.Proofs.YtembifoimiochaaGreatDoor
open Go.ChangeShapes Go.WideShapes Go.ChangeAt Go.RowKit
set_option linter.unusedVariables false

/-- What begins somewhere, as it is asked for. -/
def StOk (gs : List (List Ty)) (h : GHeap) (S : List Int) : Prop := ∀ a ∈ S, ∃ q : Nat, a = (q : Int) ∧ q < h.words.length ∧ 0 ≤ nAt h.words q ∧ nAt h.words q / 16 < (kinCount gs : Int)
def stT (h : GHeap) (S : List Int) (n : Nat) : Int := if (n : Int) ∈ S then nAt h.words n / 16 else -1
def stL (h : GHeap) (S : List Int) : List GThing := (List.range 160).map fun n => ⟨stT h S n, []⟩
theorem stL_len (h : GHeap) (S : List Int) : (stL h S).length = 160 := by simp [stL]
theorem stL_at (h : GHeap) (S : List Int) {n : Nat} (hn : n < 160) : thingAt' (stL h S) n = ⟨stT h S n, []⟩ := by
 unfold thingAt' stL
 rw [List.getD_eq_getElem?_getD, List.getElem?_map, List.getElem?_range hn]; rfl
theorem hfit_fits {gs : List (List Ty)} {h : GHeap} {S : List Int} (hS : StOk gs h S) (k n fk fo : Int) (fm : Bool) : fitsV gs (stL h S) k n ⟨fk, fo, fm⟩ = (fieldOk fk fo (kinCount gs : Nat) && hfitF gs h S k n ⟨fk, fo, fm⟩) := by
 unfold fitsV hfitF valOkF
 rw [stL_len, show ((160 : Nat) : Int) = 160 from rfl]
 congr 1
 by_cases hk : k = 4
 ·subst hk
  cases hv : valForm 4 n 160 with
  | false => rfl
  | true =>
   obtain ⟨v0, v1⟩ := valForm_thing hv
   obtain ⟨q, rfl⟩ := Int.eq_ofNat_of_zero_le v0
   have hq : q < 160 := by omega
   unfold ofV
   rw [Int.toNat_natCast, stL_at h S hq]
   unfold stT
   by_cases hm : (q : Int) ∈ S
   ·obtain ⟨q', e, _, h1, h2⟩ := hS _ hm
    obtain rfl : q = q' := by omega
    rw [if_pos hm]
    have ht : isTypeF gs (nAt h.words q / 16) = true := by
     unfold isTypeF; simp; omega
    simp [ht, hm]
   ·rw [if_neg hm]
    have ht : isTypeF gs (-1) = false := by unfold isTypeF; simp
    simp [ht, hm]
 ·have e1 : (k == 4) = false := beq_eq_false_iff_ne.2 hk
  rw [e1]
  cases hv : valForm k n 160 with
  | false => rfl
  | true =>
   rcases valForm_kinds hv with rfl | rfl | rfl | rfl
   ·simp
   ·simp
   ·simp [ofV]
   ·exact absurd rfl hk

/-- The fields of what stands in a thing. -/
def fieldsT (t : Ty) (n : Nat) : List Fd := if t.kind = 2 then List.replicate n (fdAt t.fields 0) else t.fields
theorem fieldsT_at {t : Ty} {n i : Nat} (hi : i < n) : fdAt (fieldsT t n) i = fieldF t i := by
 unfold fieldsT fieldF
 by_cases h : t.kind = 2
 ·rw [if_pos h, if_pos h]
  unfold fdAt
  rw [List.getD_eq_getElem?_getD, List.getElem?_replicate, if_pos hi]; rfl
 ·rw [if_neg h, if_neg h]
theorem kind_of_parts {gs : List (List Ty)} (hP : Parts gs) {p : Nat} (hp : p < kinCount gs) : (tyN gs p).kind = 1 ∨ ((tyN gs p).kind = 2 ∧ (tyN gs p).fields.length = 1) := by
 obtain ⟨g1, g2, g3⟩ := grp_spec gs p hp
 have h := (hP.2.2 _ g1).2 (p - beg gs (grp gs p)) (by unfold beg; simp only [countTo] at g3; omega)
 have e : tyAt (grAt gs (grp gs p)) (p - beg gs (grp gs p)) = tyN gs p := by unfold tyN; rw [flat_at hp]
 rw [e] at h
 unfold formOk at h
 simp only [Bool.and_eq_true, Bool.or_eq_true, decide_eq_true_eq] at h
 rcases h.2.1 with h1 | h1
 ·exact .inl h1
 ·exact .inr h1

/-- How many words the things have. -/
def sumW (gs : List (List Ty)) (W : List Int) : List Int → Nat
 | [] => 0
 | a :: l => 1 + (lenF gs (nAt W a.toNat)).toNat + sumW gs W l
theorem sumW_app (gs : List (List Ty)) (W : List Int) : ∀ l m, sumW gs W (l ++ m) = sumW gs W l + sumW gs W m
 | [], m => by simp [sumW]
 | a :: l, m => by
  show 1 + (lenF gs (nAt W a.toNat)).toNat + sumW gs W (l ++ m) = 1 + (lenF gs (nAt W a.toNat)).toNat + sumW gs W l + sumW gs W m
  rw [sumW_app gs W l m]; omega
theorem part_sum {gs : List (List Ty)} {W : List Int} {to : Nat} : ∀ (m fr : Nat), to - fr ≤ m → fr ≤ to → fr + sumW gs W (part gs W to fr).1 ≤ to ∧ ((part gs W to fr).2 = true ↔ fr + sumW gs W (part gs W to fr).1 = to) := by
 intro m
 induction m with
 | zero =>
  intro fr h1 h2
  rw [part_stop (by omega)]
  simp [sumW]; omega
 | succ m ih =>
  intro fr h1 h2
  by_cases h3 : fr < to
  ·by_cases hb : lenF gs (nAt W fr) < 0 ∨ to < fr + 1 + (lenF gs (nAt W fr)).toNat
   ·rw [part_bad h3 hb]
    simp [sumW]; omega
   ·rw [part_step h3 hb]
    have := ih (fr + 1 + (lenF gs (nAt W fr)).toNat) (by omega) (by omega)
    have e : sumW gs W ((fr : Int) :: (part gs W to (fr + 1 + (lenF gs (nAt W fr)).toNat)).1) = 1 + (lenF gs (nAt W fr)).toNat + sumW gs W (part gs W to (fr + 1 + (lenF gs (nAt W fr)).toNat)).1 := by
     show 1 + (lenF gs (nAt W (fr : Int).toNat)).toNat + _ = _
     rw [Int.toNat_natCast]
    simp only [e]
    refine ⟨by omega, this.2.trans ?_⟩
    omega
  ·rw [part_stop (by omega)]
   simp [sumW]; omega
end Go.Proofs.YtembifoimiochaaGreatDoor
