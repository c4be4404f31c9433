/- The texts of instructions, plainly; the model's words. -/
import Derived.Test.YtdicmlbgpbglpaaDoorOfTxt
import Derived.Test.YtdicmlbgpbglpaaDoorInsOk
namespace Go.Proofs.YtdicmlbgpbglpaaDoor
open Go.ChangeShapes Go.WideShapes Go.ChangeAt Go.RowKit
set_option linter.unusedVariables false

/-- The words of the kinds, by their places. -/
def words : List (List UInt8) := [[], [110, 117, 109], [103, 101, 116], [115, 101, 116], [116, 97, 107, 101], [107, 101, 101, 112], [100, 114, 111, 112], [97, 100, 100], [109, 117, 108], [108, 101, 115, 115], [99, 104, 105, 112], [98, 97, 99, 107], [110, 117, 108, 108], [110, 101, 119], [108, 111, 111, 107], [112, 117, 116], [114, 111, 119], [97, 116], [108, 97, 121], [108, 101, 110], [115, 97, 109, 101], [110, 111, 110, 101], [116, 101, 115, 116], [99, 97, 115, 116], [115, 117, 114, 101], [106, 117, 109, 112], [105, 102], [99, 97, 108, 108], [112, 97, 115, 115], [114, 101, 116], [115, 97, 121], [115, 104, 111, 119], [97, 115, 107], [115, 119, 101, 101, 112]]
def wordAt (i : Nat) : List UInt8 := words.getD i []

/-- InsText, plainly. -/
def insText (op a b : Int) : List UInt8 :=
  if insOk op a b then (if spanN op = 0 then wordAt op.toNat else if spanN op = 1 then wordAt op.toNat ++ 32 :: ofTxt a else wordAt op.toNat ++ 32 :: (ofTxt a ++ 32 :: ofTxt b)) else []

set_option maxHeartbeats 1000000 in
theorem words_any (w : World) :
    Calls Tryd.prog 44 #[] w fun e w' => e = .returned (.slice (some ⟨w.heap.size, 0, none⟩) 34 34) ∧ (∀ i, i < 34 → w'.cell? ⟨w.heap.size, i, none⟩ = some (.string ⟨(wordAt i).toArray⟩)) ∧ Below w.heap.size w w' := by
  go_enter Tryd.func44, Tryd.ntmps44
  go_wp2_with fail
  go_ret
  refine ⟨rfl, ?_, (Below.refl _ _).alloc (Nat.le_refl _) _⟩
  intro i hi
  have : ∀ i : Fin 34, (w.alloc (.cells (words.map (fun l => Value.string ⟨l.toArray⟩)).toArray 9)).cell? ⟨w.heap.size, i.val, none⟩ = some (.string ⟨(wordAt i.val).toArray⟩) := by
    intro i
    have hi : i.val < words.length := i.isLt
    simp [wordAt, hi]
  exact this ⟨i, hi⟩
end Go.Proofs.YtdicmlbgpbglpaaDoor
