/-
  No cell of these rows narrows 'for every input' (looked for: loops, veiled, ifaces, maps, wideKeys, modest, calm, conditions, laid).
  DERIVED. THE GIVEN ROWS OF THIS SEAT. 4 by the template 'for every input the law returns true; each argument reads behind the call as it read before'; 0 by the template 'total and deterministic' (their statements: YtlkgclcpinjioaaTotals.lean).
  GIVEN WITH THE SEED: the statements are not yours to turn. If you find one false, say at which input.
  Laid BY PROGRAM, IN A SANDBOX (cutbox-rows.mjs): the forced cells as the released guide's own fill.sh prints them over the translation 33925975f12a8ff0… (all of the seat's roots in one cut). By AI agents, Wed Nov 11 2026. No macro, syntax, notation, axiom, sorry.
-/
import Derived.Test.YtlkgclcpinjioaaChecked
import GoSem.Claim
import GoSem.ClaimJoined
import GoSem.ClaimMapViews
import Derived.JoinedTies
import Derived.KernelRfl
namespace Go.Proofs.Ytlkgclcpinjioaa
/- THE CELL 'sum', in the pinned program and in every row, IS THE sha256 OF THE DUMP (.gsa) THAT YtlkgclcpinjioaaProg.lean LOADS. Nothing in Lean hashes anything: it is a label: what it is worth is what the hold of that sum in a sandbox is worth. -/
noncomputable def Try.pinned : Pinned := { name := "ytlkgclcpinjioaa", sum := "33925975f12a8ff096607f0de35156ca5c59f68be6d963fb37d1d6bbc3b45dc6", checked := Try.checked }
namespace Rows
def none {H : Type} : Left H := { results := [], args := [] }

/-- 'laws.FnBinNum': WHATEVER THE INPUT: true; the input reads as it did. -/
def fnBinNumSpec : ChangeSpec := { name := "fnBinNum", fn := fun _ => fun
  | [d1, d2] => { results := [.lit (.bool true)], args := [d1, d2] }
  | _ => none }
def fnBinNumRow : OpenClaim := { program := "ytlkgclcpinjioaa", sum := "33925975f12a8ff096607f0de35156ca5c59f68be6d963fb37d1d6bbc3b45dc6", func := "loop.example/lairage/laws.FnBinNum", spec := "fnBinNum", apart := false }
def FnBinNumSaid : Prop := fnBinNumRow.holds Try.pinned (OpenSpec.ofChange fnBinNumSpec)

/-- ITS FALSE NEIGHBOUR: 'it returns false'. Refute it at one input. -/
def fnBinNumWrong : ChangeSpec := { name := "fnBinNum", fn := fun _ => fun
  | [d1, d2] => { results := [.lit (.bool false)], args := [d1, d2] }
  | _ => none }
def FnBinNumWrongFalsely : Prop := fnBinNumRow.holds Try.pinned (OpenSpec.ofChange fnBinNumWrong)

/-- 'laws.FnBinSeq': WHATEVER THE INPUT: true; the input reads as it did. -/
def fnBinSeqSpec : ChangeSpec := { name := "fnBinSeq", fn := fun _ => fun
  | [d1, d2] => { results := [.lit (.bool true)], args := [d1, d2] }
  | _ => none }
def fnBinSeqRow : OpenClaim := { program := "ytlkgclcpinjioaa", sum := "33925975f12a8ff096607f0de35156ca5c59f68be6d963fb37d1d6bbc3b45dc6", func := "loop.example/lairage/laws.FnBinSeq", spec := "fnBinSeq", apart := false }
def FnBinSeqSaid : Prop := fnBinSeqRow.holds Try.pinned (OpenSpec.ofChange fnBinSeqSpec)

/-- ITS FALSE NEIGHBOUR: 'it returns false'. Refute it at one input. -/
def fnBinSeqWrong : ChangeSpec := { name := "fnBinSeq", fn := fun _ => fun
  | [d1, d2] => { results := [.lit (.bool false)], args := [d1, d2] }
  | _ => none }
def FnBinSeqWrongFalsely : Prop := fnBinSeqRow.holds Try.pinned (OpenSpec.ofChange fnBinSeqWrong)

/-- 'laws.FnExactBinOfNum': WHATEVER THE INPUT: true; the input reads as it did. -/
def fnExactBinOfNumSpec : ChangeSpec := { name := "fnExactBinOfNum", fn := fun _ => fun
  | [d] => { results := [.lit (.bool true)], args := [d] }
  | _ => none }
def fnExactBinOfNumRow : OpenClaim := { program := "ytlkgclcpinjioaa", sum := "33925975f12a8ff096607f0de35156ca5c59f68be6d963fb37d1d6bbc3b45dc6", func := "loop.example/lairage/laws.FnExactBinOfNum", spec := "fnExactBinOfNum", apart := false }
def FnExactBinOfNumSaid : Prop := fnExactBinOfNumRow.holds Try.pinned (OpenSpec.ofChange fnExactBinOfNumSpec)

/-- ITS FALSE NEIGHBOUR: 'it returns false'. Refute it at one input. -/
def fnExactBinOfNumWrong : ChangeSpec := { name := "fnExactBinOfNum", fn := fun _ => fun
  | [d] => { results := [.lit (.bool false)], args := [d] }
  | _ => none }
def FnExactBinOfNumWrongFalsely : Prop := fnExactBinOfNumRow.holds Try.pinned (OpenSpec.ofChange fnExactBinOfNumWrong)

/-- 'laws.FnExactBinNumAt': WHATEVER THE INPUT: true; the input reads as it did. -/
def fnExactBinNumAtSpec : ChangeSpec := { name := "fnExactBinNumAt", fn := fun _ => fun
  | [d1, d2] => { results := [.lit (.bool true)], args := [d1, d2] }
  | _ => none }
def fnExactBinNumAtRow : OpenClaim := { program := "ytlkgclcpinjioaa", sum := "33925975f12a8ff096607f0de35156ca5c59f68be6d963fb37d1d6bbc3b45dc6", func := "loop.example/lairage/laws.FnExactBinNumAt", spec := "fnExactBinNumAt", apart := false }
def FnExactBinNumAtSaid : Prop := fnExactBinNumAtRow.holds Try.pinned (OpenSpec.ofChange fnExactBinNumAtSpec)

/-- ITS FALSE NEIGHBOUR: 'it returns false'. Refute it at one input. -/
def fnExactBinNumAtWrong : ChangeSpec := { name := "fnExactBinNumAt", fn := fun _ => fun
  | [d1, d2] => { results := [.lit (.bool false)], args := [d1, d2] }
  | _ => none }
def FnExactBinNumAtWrongFalsely : Prop := fnExactBinNumAtRow.holds Try.pinned (OpenSpec.ofChange fnExactBinNumAtWrong)

/- THE SECOND FORM. 'bulk': how many values and letters a reading holds, each counted each time it is reached (what is shared counts as often as it is met; a slice's spare places count too). A statement '..UptoSaid' is the law's where the arguments, and the package variables that the reading takes, are together of bulk at most 1048576: NARROWER than '..Said'. Prove '..Said' where nothing that the law and all that it calls make is longer than what came in: it says more and counts as full. Else prove '..UptoSaid'. A law counts once. -/
mutual
def uptoBulk {H : Type} : DataW H → Nat
  | .lit (.string bytes) => bytes.length + 1
  | .lit _ => 1
  | .nil => 1
  | .ptr d => uptoBulk d + 1
  | .slice elems spare => uptoBulkAll elems + uptoBulkAll spare + 1
  | .agg parts => uptoBulkAll parts + 1
  | .iface _ d => uptoBulk d + 1
  | .map entries => uptoBulkEntries entries + 1
  | .held _ => 1
def uptoBulkAll {H : Type} : List (DataW H) → Nat
  | [] => 0
  | d :: r => uptoBulk d + uptoBulkAll r
def uptoBulkEntries {H : Type} : List (Lit × DataW H) → Nat
  | [] => 0
  | x :: r => uptoBulkEntry x + uptoBulkEntries r
def uptoBulkEntry {H : Type} : Lit × DataW H → Nat
  | (.string bytes, d) => bytes.length + uptoBulk d + 1
  | (_, d) => uptoBulk d + 1
 end
def uptoSmall : (H : Type) → List (DataW H) → Bool := fun _ ds => decide (uptoBulkAll ds ≤ 1048576)
def OpenSpec.upto (s : _root_.Go.ChangeSpec) : _root_.Go.OpenSpec := { _root_.Go.OpenSpec.ofChange s with cond := some uptoSmall }

/-- 'laws.FnBinNum', WHERE WHAT IT READS IS OF BULK AT MOST 1048576: true; the input reads as it did. -/
def fnBinNumUptoRow : OpenClaim := { program := "ytlkgclcpinjioaa", sum := "33925975f12a8ff096607f0de35156ca5c59f68be6d963fb37d1d6bbc3b45dc6", func := "loop.example/lairage/laws.FnBinNum", spec := "fnBinNum", apart := false, narrowed := true }
def FnBinNumUptoSaid : Prop := fnBinNumUptoRow.holds Try.pinned (OpenSpec.upto fnBinNumSpec)

/-- 'laws.FnBinSeq', WHERE WHAT IT READS IS OF BULK AT MOST 1048576: true; the input reads as it did. -/
def fnBinSeqUptoRow : OpenClaim := { program := "ytlkgclcpinjioaa", sum := "33925975f12a8ff096607f0de35156ca5c59f68be6d963fb37d1d6bbc3b45dc6", func := "loop.example/lairage/laws.FnBinSeq", spec := "fnBinSeq", apart := false, narrowed := true }
def FnBinSeqUptoSaid : Prop := fnBinSeqUptoRow.holds Try.pinned (OpenSpec.upto fnBinSeqSpec)

/-- 'laws.FnExactBinOfNum', WHERE WHAT IT READS IS OF BULK AT MOST 1048576: true; the input reads as it did. -/
def fnExactBinOfNumUptoRow : OpenClaim := { program := "ytlkgclcpinjioaa", sum := "33925975f12a8ff096607f0de35156ca5c59f68be6d963fb37d1d6bbc3b45dc6", func := "loop.example/lairage/laws.FnExactBinOfNum", spec := "fnExactBinOfNum", apart := false, narrowed := true }
def FnExactBinOfNumUptoSaid : Prop := fnExactBinOfNumUptoRow.holds Try.pinned (OpenSpec.upto fnExactBinOfNumSpec)

/-- 'laws.FnExactBinNumAt', WHERE WHAT IT READS IS OF BULK AT MOST 1048576: true; the input reads as it did. -/
def fnExactBinNumAtUptoRow : OpenClaim := { program := "ytlkgclcpinjioaa", sum := "33925975f12a8ff096607f0de35156ca5c59f68be6d963fb37d1d6bbc3b45dc6", func := "loop.example/lairage/laws.FnExactBinNumAt", spec := "fnExactBinNumAt", apart := false, narrowed := true }
def FnExactBinNumAtUptoSaid : Prop := fnExactBinNumAtUptoRow.holds Try.pinned (OpenSpec.upto fnExactBinNumAtSpec)

end Rows
end Go.Proofs.Ytlkgclcpinjioaa
