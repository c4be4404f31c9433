/- checkRules and checkNotOk of the program. -/
import Derived.Test.YtchjiciopjplgaaGreatDoorAggRow
import Derived.Laws.EntriesVeiled
import Derived.Laws.NewBlocks
namespace Go.Proofs.YtchjiciopjplgaaGreatDoor
open Go.ChangeShapes Go.WideShapes Go.ChangeAt Go.RowKit
set_option linter.unusedVariables false

/-- The rules of instructions, as they lie. -/
def ruleVs : List Value := [.nilFunc, .func (.func 76) #[] #[], .func (.func 77) #[] #[], .func (.func 78) #[] #[], .func (.func 79) #[] #[], .func (.func 80) #[] #[], .func (.func 81) #[] #[], .func (.func 82) #[] #[], .func (.func 82) #[] #[], .func (.func 82) #[] #[], .func (.func 83) #[] #[], .func (.func 84) #[] #[], .func (.func 85) #[] #[], .func (.func 86) #[] #[], .func (.func 87) #[] #[], .func (.func 88) #[] #[], .func (.func 89) #[] #[], .func (.func 90) #[] #[], .func (.func 91) #[] #[], .func (.func 92) #[] #[], .func (.func 93) #[] #[], .func (.func 94) #[] #[], .func (.func 95) #[] #[], .func (.func 96) #[] #[], .func (.func 97) #[] #[], .func (.func 98) #[] #[], .func (.func 99) #[] #[], .func (.func 100) #[] #[], .func (.func 101) #[] #[], .func (.func 102) #[] #[], .func (.func 103) #[] #[], .func (.func 104) #[] #[], .func (.func 105) #[] #[], .func (.func 106) #[] #[]]
/-- The error that tells what is not written right. -/
def notOkV : Value := .iface 113 (.agg #[.int .i64 0, .int .i64 0, .int .i64 7])

theorem ruleVs_one : ruleVs.toArray.all (·.oneCell') = true := by simp [ruleVs, Value.oneCell']
set_option maxHeartbeats 1600000 in
set_option maxRecDepth 100000 in
theorem checkRules_any (w : World) :
    Calls Tryz.prog 54 #[] w fun e w' => e = .returned (.agg ruleVs.toArray) ∧ Below w.heap.size w w' := by
  have R0 : Hid (Rec (w.alloc (.cells (List.replicate 34 Value.nilFunc).toArray 59)) w.heap.size 59 (List.replicate 34 .nilFunc)) := Rec.new _ _ _
  go_enter Tryz.func54, Tryz.ntmps54
  go_wp2_with (refine wpList_store_rec rfl 59 _ _ rfl w.heap.size ruleVs.toArray 59 _ rfl rfl R0.out (by kernel_rfl) (by rfl) ruleVs_one ?_)
  intro w1 r1 k1 s1 b1
  have B1 : Hid (Below w.heap.size w w1) := ((Below.refl _ _).alloc (Nat.le_refl _) _).trans b1
  have R1 := hide r1
  clear r1 k1 s1 b1
  go_wp2_with fail
  exact bodyPost_ret (v := .agg ruleVs.toArray) (results_cell_row rfl _ _ w.heap.size 59 ruleVs.toArray (0, 0) _ rfl R1.out Tryz.underlying59 rfl (by kernel_rfl)) rfl ⟨rfl, B1.out⟩

set_option maxHeartbeats 400000 in
theorem checkNotOk_any (w : World) :
    Calls Tryz.prog 37 #[] w fun e w' => e = .returned notOkV ∧ w' = w := by
  go_enter Tryz.func37, Tryz.ntmps37
  go_wp2_with fail
  go_ret
  exact ⟨rfl, rfl⟩
end Go.Proofs.YtchjiciopjplgaaGreatDoor
