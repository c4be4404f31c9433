/-
  No cell of these rows narrows 'for every input' (looked for: loops, veiled, ifaces, maps, wideKeys, modest, calm, conditions, laid).
  DERIVED. THE GIVEN ROWS OF THIS SEAT. 7 by the template 'for every input the law returns true; each argument reads behind the call as it read before'; 0 by the template 'total and deterministic' (their statements: YthnccdmkhllibaaTotals.lean).
  GIVEN WITH THE SEED: the statements are not yours to turn. If you find one false, say at which input.
  Laid BY PROGRAM, IN A SANDBOX (cutbox-rows.mjs): the forced cells as the released guide's own fill.sh prints them over the translation c4f6e291ecc87735… (all of the seat's roots in one cut). By AI agents, Wed Nov 11 2026. No macro, syntax, notation, axiom, sorry.
-/
import Derived.Test.YthnccdmkhllibaaChecked
import GoSem.Claim
import GoSem.ClaimJoined
import GoSem.ClaimMapViews
import Derived.JoinedTies
import Derived.KernelRfl
namespace Go.Proofs.Ythnccdmkhllibaa
/- THE CELL 'sum', in the pinned program and in every row, IS THE sha256 OF THE DUMP (.gsa) THAT YthnccdmkhllibaaProg.lean LOADS. Nothing in Lean hashes anything: it is a label: what it is worth is what the hold of that sum in a sandbox is worth. -/
noncomputable def Try.pinned : Pinned := { name := "ythnccdmkhllibaa", sum := "c4f6e291ecc87735a8dfbdd6f73fd1c738fd93cb0588e195a7d66f1e66e20537", checked := Try.checked }
namespace Rows
def none {H : Type} : Left H := { results := [], args := [] }

/-- 'laws.FnInsLeaves': WHATEVER THE INPUT: true; the input reads as it did. -/
def fnInsLeavesSpec : ChangeSpec := { name := "fnInsLeaves", fn := fun _ => fun
  | [d] => { results := [.lit (.bool true)], args := [d] }
  | _ => none }
def fnInsLeavesRow : OpenClaim := { program := "ythnccdmkhllibaa", sum := "c4f6e291ecc87735a8dfbdd6f73fd1c738fd93cb0588e195a7d66f1e66e20537", func := "loop.example/lairage/laws.FnInsLeaves", spec := "fnInsLeaves", apart := false }
def FnInsLeavesSaid : Prop := fnInsLeavesRow.holds Try.pinned (OpenSpec.ofChange fnInsLeavesSpec)

/-- ITS FALSE NEIGHBOUR: 'it returns false'. Refute it at one input. -/
def fnInsLeavesWrong : ChangeSpec := { name := "fnInsLeaves", fn := fun _ => fun
  | [d] => { results := [.lit (.bool false)], args := [d] }
  | _ => none }
def FnInsLeavesWrongFalsely : Prop := fnInsLeavesRow.holds Try.pinned (OpenSpec.ofChange fnInsLeavesWrong)

/-- 'laws.FnNumDo': WHATEVER THE INPUT: true; the input reads as it did. -/
def fnNumDoSpec : ChangeSpec := { name := "fnNumDo", fn := fun _ => fun
  | [d1, d2] => { results := [.lit (.bool true)], args := [d1, d2] }
  | _ => none }
def fnNumDoRow : OpenClaim := { program := "ythnccdmkhllibaa", sum := "c4f6e291ecc87735a8dfbdd6f73fd1c738fd93cb0588e195a7d66f1e66e20537", func := "loop.example/lairage/laws.FnNumDo", spec := "fnNumDo", unfollowed := true, recurses := true, apart := false }
def FnNumDoSaid : Prop := fnNumDoRow.holds Try.pinned (OpenSpec.ofChange fnNumDoSpec)

/-- ITS FALSE NEIGHBOUR: 'it returns false'. Refute it at one input. -/
def fnNumDoWrong : ChangeSpec := { name := "fnNumDo", fn := fun _ => fun
  | [d1, d2] => { results := [.lit (.bool false)], args := [d1, d2] }
  | _ => none }
def FnNumDoWrongFalsely : Prop := fnNumDoRow.holds Try.pinned (OpenSpec.ofChange fnNumDoWrong)

/-- 'laws.FnNumLess': WHATEVER THE INPUT: true; the input reads as it did. -/
def fnNumLessSpec : ChangeSpec := { name := "fnNumLess", fn := fun _ => fun
  | [d1, d2] => { results := [.lit (.bool true)], args := [d1, d2] }
  | _ => none }
def fnNumLessRow : OpenClaim := { program := "ythnccdmkhllibaa", sum := "c4f6e291ecc87735a8dfbdd6f73fd1c738fd93cb0588e195a7d66f1e66e20537", func := "loop.example/lairage/laws.FnNumLess", spec := "fnNumLess", unfollowed := true, recurses := true, apart := false }
def FnNumLessSaid : Prop := fnNumLessRow.holds Try.pinned (OpenSpec.ofChange fnNumLessSpec)

/-- ITS FALSE NEIGHBOUR: 'it returns false'. Refute it at one input. -/
def fnNumLessWrong : ChangeSpec := { name := "fnNumLess", fn := fun _ => fun
  | [d1, d2] => { results := [.lit (.bool false)], args := [d1, d2] }
  | _ => none }
def FnNumLessWrongFalsely : Prop := fnNumLessRow.holds Try.pinned (OpenSpec.ofChange fnNumLessWrong)

/-- 'laws.FnExactInsHas': WHATEVER THE INPUT: true; the input reads as it did. -/
def fnExactInsHasSpec : ChangeSpec := { name := "fnExactInsHas", fn := fun _ => fun
  | [d] => { results := [.lit (.bool true)], args := [d] }
  | _ => none }
def fnExactInsHasRow : OpenClaim := { program := "ythnccdmkhllibaa", sum := "c4f6e291ecc87735a8dfbdd6f73fd1c738fd93cb0588e195a7d66f1e66e20537", func := "loop.example/lairage/laws.FnExactInsHas", spec := "fnExactInsHas", apart := false }
def FnExactInsHasSaid : Prop := fnExactInsHasRow.holds Try.pinned (OpenSpec.ofChange fnExactInsHasSpec)

/-- ITS FALSE NEIGHBOUR: 'it returns false'. Refute it at one input. -/
def fnExactInsHasWrong : ChangeSpec := { name := "fnExactInsHas", fn := fun _ => fun
  | [d] => { results := [.lit (.bool false)], args := [d] }
  | _ => none }
def FnExactInsHasWrongFalsely : Prop := fnExactInsHasRow.holds Try.pinned (OpenSpec.ofChange fnExactInsHasWrong)

/-- 'laws.FnExactInsOk': WHATEVER THE INPUT: true; the input reads as it did. -/
def fnExactInsOkSpec : ChangeSpec := { name := "fnExactInsOk", fn := fun _ => fun
  | [d] => { results := [.lit (.bool true)], args := [d] }
  | _ => none }
def fnExactInsOkRow : OpenClaim := { program := "ythnccdmkhllibaa", sum := "c4f6e291ecc87735a8dfbdd6f73fd1c738fd93cb0588e195a7d66f1e66e20537", func := "loop.example/lairage/laws.FnExactInsOk", spec := "fnExactInsOk", apart := false }
def FnExactInsOkSaid : Prop := fnExactInsOkRow.holds Try.pinned (OpenSpec.ofChange fnExactInsOkSpec)

/-- ITS FALSE NEIGHBOUR: 'it returns false'. Refute it at one input. -/
def fnExactInsOkWrong : ChangeSpec := { name := "fnExactInsOk", fn := fun _ => fun
  | [d] => { results := [.lit (.bool false)], args := [d] }
  | _ => none }
def FnExactInsOkWrongFalsely : Prop := fnExactInsOkRow.holds Try.pinned (OpenSpec.ofChange fnExactInsOkWrong)

/-- 'laws.FnExactInsLeaves': WHATEVER THE INPUT: true; the input reads as it did. -/
def fnExactInsLeavesSpec : ChangeSpec := { name := "fnExactInsLeaves", fn := fun _ => fun
  | [d] => { results := [.lit (.bool true)], args := [d] }
  | _ => none }
def fnExactInsLeavesRow : OpenClaim := { program := "ythnccdmkhllibaa", sum := "c4f6e291ecc87735a8dfbdd6f73fd1c738fd93cb0588e195a7d66f1e66e20537", func := "loop.example/lairage/laws.FnExactInsLeaves", spec := "fnExactInsLeaves", apart := false }
def FnExactInsLeavesSaid : Prop := fnExactInsLeavesRow.holds Try.pinned (OpenSpec.ofChange fnExactInsLeavesSpec)

/-- ITS FALSE NEIGHBOUR: 'it returns false'. Refute it at one input. -/
def fnExactInsLeavesWrong : ChangeSpec := { name := "fnExactInsLeaves", fn := fun _ => fun
  | [d] => { results := [.lit (.bool false)], args := [d] }
  | _ => none }
def FnExactInsLeavesWrongFalsely : Prop := fnExactInsLeavesRow.holds Try.pinned (OpenSpec.ofChange fnExactInsLeavesWrong)

/-- 'laws.FnExactNumDo': WHATEVER THE INPUT: true; the input reads as it did. -/
def fnExactNumDoSpec : ChangeSpec := { name := "fnExactNumDo", fn := fun _ => fun
  | [d1, d2, d3] => { results := [.lit (.bool true)], args := [d1, d2, d3] }
  | _ => none }
def fnExactNumDoRow : OpenClaim := { program := "ythnccdmkhllibaa", sum := "c4f6e291ecc87735a8dfbdd6f73fd1c738fd93cb0588e195a7d66f1e66e20537", func := "loop.example/lairage/laws.FnExactNumDo", spec := "fnExactNumDo", unfollowed := true, recurses := true, apart := false }
def FnExactNumDoSaid : Prop := fnExactNumDoRow.holds Try.pinned (OpenSpec.ofChange fnExactNumDoSpec)

/-- ITS FALSE NEIGHBOUR: 'it returns false'. Refute it at one input. -/
def fnExactNumDoWrong : ChangeSpec := { name := "fnExactNumDo", fn := fun _ => fun
  | [d1, d2, d3] => { results := [.lit (.bool false)], args := [d1, d2, d3] }
  | _ => none }
def FnExactNumDoWrongFalsely : Prop := fnExactNumDoRow.holds Try.pinned (OpenSpec.ofChange fnExactNumDoWrong)

/- THE SECOND FORM. 'bulk': how many values and letters a reading holds, each counted each time it is reached (what is shared counts as often as it is met; a slice's spare places count too). A statement '..UptoSaid' is the law's where the arguments, and the package variables that the reading takes, are together of bulk at most 1048576: NARROWER than '..Said'. Prove '..Said' where nothing that the law and all that it calls make is longer than what came in: it says more and counts as full. Else prove '..UptoSaid'. A law counts once. -/
mutual
def uptoBulk {H : Type} : DataW H → Nat
  | .lit (.string bytes) => bytes.length + 1
  | .lit _ => 1
  | .nil => 1
  | .ptr d => uptoBulk d + 1
  | .slice elems spare => uptoBulkAll elems + uptoBulkAll spare + 1
  | .agg parts => uptoBulkAll parts + 1
  | .iface _ d => uptoBulk d + 1
  | .map entries => uptoBulkEntries entries + 1
  | .held _ => 1
def uptoBulkAll {H : Type} : List (DataW H) → Nat
  | [] => 0
  | d :: r => uptoBulk d + uptoBulkAll r
def uptoBulkEntries {H : Type} : List (Lit × DataW H) → Nat
  | [] => 0
  | x :: r => uptoBulkEntry x + uptoBulkEntries r
def uptoBulkEntry {H : Type} : Lit × DataW H → Nat
  | (.string bytes, d) => bytes.length + uptoBulk d + 1
  | (_, d) => uptoBulk d + 1
 end
def uptoSmall : (H : Type) → List (DataW H) → Bool := fun _ ds => decide (uptoBulkAll ds ≤ 1048576)
def OpenSpec.upto (s : _root_.Go.ChangeSpec) : _root_.Go.OpenSpec := { _root_.Go.OpenSpec.ofChange s with cond := some uptoSmall }

/-- 'laws.FnInsLeaves', WHERE WHAT IT READS IS OF BULK AT MOST 1048576: true; the input reads as it did. -/
def fnInsLeavesUptoRow : OpenClaim := { program := "ythnccdmkhllibaa", sum := "c4f6e291ecc87735a8dfbdd6f73fd1c738fd93cb0588e195a7d66f1e66e20537", func := "loop.example/lairage/laws.FnInsLeaves", spec := "fnInsLeaves", apart := false, narrowed := true }
def FnInsLeavesUptoSaid : Prop := fnInsLeavesUptoRow.holds Try.pinned (OpenSpec.upto fnInsLeavesSpec)

/-- 'laws.FnNumDo', WHERE WHAT IT READS IS OF BULK AT MOST 1048576: true; the input reads as it did. -/
def fnNumDoUptoRow : OpenClaim := { program := "ythnccdmkhllibaa", sum := "c4f6e291ecc87735a8dfbdd6f73fd1c738fd93cb0588e195a7d66f1e66e20537", func := "loop.example/lairage/laws.FnNumDo", spec := "fnNumDo", unfollowed := true, recurses := true, apart := false, narrowed := true }
def FnNumDoUptoSaid : Prop := fnNumDoUptoRow.holds Try.pinned (OpenSpec.upto fnNumDoSpec)

/-- 'laws.FnNumLess', WHERE WHAT IT READS IS OF BULK AT MOST 1048576: true; the input reads as it did. -/
def fnNumLessUptoRow : OpenClaim := { program := "ythnccdmkhllibaa", sum := "c4f6e291ecc87735a8dfbdd6f73fd1c738fd93cb0588e195a7d66f1e66e20537", func := "loop.example/lairage/laws.FnNumLess", spec := "fnNumLess", unfollowed := true, recurses := true, apart := false, narrowed := true }
def FnNumLessUptoSaid : Prop := fnNumLessUptoRow.holds Try.pinned (OpenSpec.upto fnNumLessSpec)

/-- 'laws.FnExactInsHas', WHERE WHAT IT READS IS OF BULK AT MOST 1048576: true; the input reads as it did. -/
def fnExactInsHasUptoRow : OpenClaim := { program := "ythnccdmkhllibaa", sum := "c4f6e291ecc87735a8dfbdd6f73fd1c738fd93cb0588e195a7d66f1e66e20537", func := "loop.example/lairage/laws.FnExactInsHas", spec := "fnExactInsHas", apart := false, narrowed := true }
def FnExactInsHasUptoSaid : Prop := fnExactInsHasUptoRow.holds Try.pinned (OpenSpec.upto fnExactInsHasSpec)

/-- 'laws.FnExactInsOk', WHERE WHAT IT READS IS OF BULK AT MOST 1048576: true; the input reads as it did. -/
def fnExactInsOkUptoRow : OpenClaim := { program := "ythnccdmkhllibaa", sum := "c4f6e291ecc87735a8dfbdd6f73fd1c738fd93cb0588e195a7d66f1e66e20537", func := "loop.example/lairage/laws.FnExactInsOk", spec := "fnExactInsOk", apart := false, narrowed := true }
def FnExactInsOkUptoSaid : Prop := fnExactInsOkUptoRow.holds Try.pinned (OpenSpec.upto fnExactInsOkSpec)

/-- 'laws.FnExactInsLeaves', WHERE WHAT IT READS IS OF BULK AT MOST 1048576: true; the input reads as it did. -/
def fnExactInsLeavesUptoRow : OpenClaim := { program := "ythnccdmkhllibaa", sum := "c4f6e291ecc87735a8dfbdd6f73fd1c738fd93cb0588e195a7d66f1e66e20537", func := "loop.example/lairage/laws.FnExactInsLeaves", spec := "fnExactInsLeaves", apart := false, narrowed := true }
def FnExactInsLeavesUptoSaid : Prop := fnExactInsLeavesUptoRow.holds Try.pinned (OpenSpec.upto fnExactInsLeavesSpec)

/-- 'laws.FnExactNumDo', WHERE WHAT IT READS IS OF BULK AT MOST 1048576: true; the input reads as it did. -/
def fnExactNumDoUptoRow : OpenClaim := { program := "ythnccdmkhllibaa", sum := "c4f6e291ecc87735a8dfbdd6f73fd1c738fd93cb0588e195a7d66f1e66e20537", func := "loop.example/lairage/laws.FnExactNumDo", spec := "fnExactNumDo", unfollowed := true, recurses := true, apart := false, narrowed := true }
def FnExactNumDoUptoSaid : Prop := fnExactNumDoUptoRow.holds Try.pinned (OpenSpec.upto fnExactNumDoSpec)

end Rows
end Go.Proofs.Ythnccdmkhllibaa
