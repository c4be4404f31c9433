/- Texts of fields: no two fields that are right have one. -/
import Derived.Test.YtdicmlbgpbglpaaDoorFieldTxt
namespace Go.Proofs.YtdicmlbgpbglpaaDoor
open Go.ChangeShapes Go.WideShapes Go.ChangeAt Go.RowKit
set_option linter.unusedVariables false

def ofTab : List (List UInt8) := [[99, 104, 105, 112], [97, 110, 121], [48], [49], [50], [51], [52], [53], [54], [55]]

theorem decDigits_one (d : Nat) (h : d < 10) : Lib.decDigits d = [UInt8.ofNat (48 + d)] := by
  rw [Lib.decDigits, dif_pos h]

theorem ofTxt_tab (o : Int) (h1 : -2 ≤ o) (h2 : o < 8) : ofTxt o = ofTab.getD (o + 2).toNat [] := by
  have hc : o = -2 ∨ o = -1 ∨ o = 0 ∨ o = 1 ∨ o = 2 ∨ o = 3 ∨ o = 4 ∨ o = 5 ∨ o = 6 ∨ o = 7 := by omega
  rcases hc with rfl | rfl | rfl | rfl | rfl | rfl | rfl | rfl | rfl | rfl
  · rfl
  · rfl
  all_goals
    unfold ofTxt
    rw [if_neg (by decide), if_neg (by decide), decDigits_one _ (by decide)]
    rfl

/-- All fields that are right, by their places. -/
def fieldTab (k : Fin 3) (o : Fin 10) (m : Bool) : List UInt8 :=
  (if k.val = 0 then [110] else if k.val = 1 then [114] else [115]) ++ (if k.val = 0 then [] else ofTab.getD o.val []) ++ (if m then [33] else [])

theorem fieldTab_inj : ∀ (k k' : Fin 3) (o o' : Fin 10) (m m' : Bool), fieldTab k o m = fieldTab k' o' m' → k = k' ∧ (k.val = 0 ∨ o = o') ∧ m = m' := by decide +kernel

theorem fieldTxt_tab {k o : Int} (h : fieldOk k o 8 = true) (m : Bool) : ∃ (a : Fin 3) (b : Fin 10), fieldTxt k o m = fieldTab a b m ∧ k = a.val + 1 ∧ (k = 1 → o = 0) ∧ (k ≠ 1 → o = (b.val : Int) - 2) := by
  rcases fieldOk_small h with ⟨rfl, rfl⟩ | ⟨hk, h1, h2⟩
  · exact ⟨0, 0, by simp [fieldTxt, h, letter, fieldTab], rfl, fun _ => rfl, fun h => absurd rfl h⟩
  · have hb : (o + 2).toNat < 10 := by omega
    rcases hk with rfl | rfl
    · exact ⟨1, ⟨(o + 2).toNat, hb⟩, by simp [fieldTxt, h, letter, fieldTab, ofTxt_tab o h1 h2], rfl, fun h => absurd h (by decide), fun _ => by simp; omega⟩
    · exact ⟨2, ⟨(o + 2).toNat, hb⟩, by simp [fieldTxt, h, letter, fieldTab, ofTxt_tab o h1 h2], rfl, fun h => absurd h (by decide), fun _ => by simp; omega⟩

theorem fieldTxt_inj {k o k' o' : Int} {m m' : Bool} (h : fieldOk k o 8 = true) (h' : fieldOk k' o' 8 = true) (e : fieldTxt k o m = fieldTxt k' o' m') : k = k' ∧ o = o' ∧ m = m' := by
  obtain ⟨a, b, ea, ka, za, oa⟩ := fieldTxt_tab h m
  obtain ⟨a', b', ea', ka', za', oa'⟩ := fieldTxt_tab h' m'
  rw [ea, ea'] at e
  obtain ⟨q1, q2, q3⟩ := fieldTab_inj a a' b b' m m' e
  subst q1
  refine ⟨by omega, ?_, q3⟩
  by_cases hk : k = 1
  · rw [za hk, za' (by omega)]
  · rcases q2 with q2 | q2
    · omega
    · subst q2
      rw [oa hk, oa' (by omega)]

/-- FieldRead, plainly: the field whose text it is. -/
def IsField (s : List UInt8) (k o : Int) (m : Bool) : Prop := fieldOk k o 8 = true ∧ fieldTxt k o m = s
end Go.Proofs.YtdicmlbgpbglpaaDoor
