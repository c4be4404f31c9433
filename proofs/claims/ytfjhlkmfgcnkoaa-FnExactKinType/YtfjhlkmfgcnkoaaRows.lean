/-
  No cell of these rows narrows 'for every input' (looked for: loops, veiled, ifaces, maps, wideKeys, modest, calm, conditions, laid).
  DERIVED. THE GIVEN ROWS OF THIS SEAT. 4 by the template 'for every input the law returns true; each argument reads behind the call as it read before'; 0 by the template 'total and deterministic' (their statements: YtfjhlkmfgcnkoaaTotals.lean).
  GIVEN WITH THE SEED: the statements are not yours to turn. If you find one false, say at which input.
  Laid BY PROGRAM, IN A SANDBOX (cutbox-rows.mjs): the forced cells as the released guide's own fill.sh prints them over the translation a7315d05dba63265… (all of the seat's roots in one cut). By AI agents, Wed Nov 11 2026. No macro, syntax, notation, axiom, sorry.
-/
import Derived.Test.YtfjhlkmfgcnkoaaChecked
import GoSem.Claim
import GoSem.ClaimJoined
import GoSem.ClaimMapViews
import Derived.JoinedTies
import Derived.KernelRfl
namespace Go.Proofs.Ytfjhlkmfgcnkoaa
/- THE CELL 'sum', in the pinned program and in every row, IS THE sha256 OF THE DUMP (.gsa) THAT YtfjhlkmfgcnkoaaProg.lean LOADS. Nothing in Lean hashes anything: it is a label: what it is worth is what the hold of that sum in a sandbox is worth. -/
noncomputable def Try.pinned : Pinned := { name := "ytfjhlkmfgcnkoaa", sum := "a7315d05dba632655a61717d80c7ddbbcb8a132f8dee23ed4ef662f0d1a4fc5d", checked := Try.checked }
namespace Rows
def none {H : Type} : Left H := { results := [], args := [] }

/-- 'laws.FnExactKinCount': WHATEVER THE INPUT: true; the input reads as it did. -/
def fnExactKinCountSpec : ChangeSpec := { name := "fnExactKinCount", fn := fun _ => fun
  | [d] => { results := [.lit (.bool true)], args := [d] }
  | _ => none }
def fnExactKinCountRow : OpenClaim := { program := "ytfjhlkmfgcnkoaa", sum := "a7315d05dba632655a61717d80c7ddbbcb8a132f8dee23ed4ef662f0d1a4fc5d", func := "loop.example/lairage/laws.FnExactKinCount", spec := "fnExactKinCount", apart := false }
def FnExactKinCountSaid : Prop := fnExactKinCountRow.holds Try.pinned (OpenSpec.ofChange fnExactKinCountSpec)

/-- ITS FALSE NEIGHBOUR: 'it returns false'. Refute it at one input. -/
def fnExactKinCountWrong : ChangeSpec := { name := "fnExactKinCount", fn := fun _ => fun
  | [d] => { results := [.lit (.bool false)], args := [d] }
  | _ => none }
def FnExactKinCountWrongFalsely : Prop := fnExactKinCountRow.holds Try.pinned (OpenSpec.ofChange fnExactKinCountWrong)

/-- 'laws.FnExactKinType': WHATEVER THE INPUT: true; the input reads as it did. -/
def fnExactKinTypeSpec : ChangeSpec := { name := "fnExactKinType", fn := fun _ => fun
  | [d1, d2] => { results := [.lit (.bool true)], args := [d1, d2] }
  | _ => none }
def fnExactKinTypeRow : OpenClaim := { program := "ytfjhlkmfgcnkoaa", sum := "a7315d05dba632655a61717d80c7ddbbcb8a132f8dee23ed4ef662f0d1a4fc5d", func := "loop.example/lairage/laws.FnExactKinType", spec := "fnExactKinType", apart := false }
def FnExactKinTypeSaid : Prop := fnExactKinTypeRow.holds Try.pinned (OpenSpec.ofChange fnExactKinTypeSpec)

/-- ITS FALSE NEIGHBOUR: 'it returns false'. Refute it at one input. -/
def fnExactKinTypeWrong : ChangeSpec := { name := "fnExactKinType", fn := fun _ => fun
  | [d1, d2] => { results := [.lit (.bool false)], args := [d1, d2] }
  | _ => none }
def FnExactKinTypeWrongFalsely : Prop := fnExactKinTypeRow.holds Try.pinned (OpenSpec.ofChange fnExactKinTypeWrong)

/-- 'laws.FnExactKinIn': WHATEVER THE INPUT: true; the input reads as it did. -/
def fnExactKinInSpec : ChangeSpec := { name := "fnExactKinIn", fn := fun _ => fun
  | [d1, d2] => { results := [.lit (.bool true)], args := [d1, d2] }
  | _ => none }
def fnExactKinInRow : OpenClaim := { program := "ytfjhlkmfgcnkoaa", sum := "a7315d05dba632655a61717d80c7ddbbcb8a132f8dee23ed4ef662f0d1a4fc5d", func := "loop.example/lairage/laws.FnExactKinIn", spec := "fnExactKinIn", apart := false }
def FnExactKinInSaid : Prop := fnExactKinInRow.holds Try.pinned (OpenSpec.ofChange fnExactKinInSpec)

/-- ITS FALSE NEIGHBOUR: 'it returns false'. Refute it at one input. -/
def fnExactKinInWrong : ChangeSpec := { name := "fnExactKinIn", fn := fun _ => fun
  | [d1, d2] => { results := [.lit (.bool false)], args := [d1, d2] }
  | _ => none }
def FnExactKinInWrongFalsely : Prop := fnExactKinInRow.holds Try.pinned (OpenSpec.ofChange fnExactKinInWrong)

/-- 'laws.FnExactFieldOk': WHATEVER THE INPUT: true; the input reads as it did. -/
def fnExactFieldOkSpec : ChangeSpec := { name := "fnExactFieldOk", fn := fun _ => fun
  | [d1, d2] => { results := [.lit (.bool true)], args := [d1, d2] }
  | _ => none }
def fnExactFieldOkRow : OpenClaim := { program := "ytfjhlkmfgcnkoaa", sum := "a7315d05dba632655a61717d80c7ddbbcb8a132f8dee23ed4ef662f0d1a4fc5d", func := "loop.example/lairage/laws.FnExactFieldOk", spec := "fnExactFieldOk", apart := false }
def FnExactFieldOkSaid : Prop := fnExactFieldOkRow.holds Try.pinned (OpenSpec.ofChange fnExactFieldOkSpec)

/-- ITS FALSE NEIGHBOUR: 'it returns false'. Refute it at one input. -/
def fnExactFieldOkWrong : ChangeSpec := { name := "fnExactFieldOk", fn := fun _ => fun
  | [d1, d2] => { results := [.lit (.bool false)], args := [d1, d2] }
  | _ => none }
def FnExactFieldOkWrongFalsely : Prop := fnExactFieldOkRow.holds Try.pinned (OpenSpec.ofChange fnExactFieldOkWrong)

/- THE SECOND FORM. 'bulk': how many values and letters a reading holds, each counted each time it is reached (what is shared counts as often as it is met; a slice's spare places count too). A statement '..UptoSaid' is the law's where the arguments, and the package variables that the reading takes, are together of bulk at most 1048576: NARROWER than '..Said'. Prove '..Said' where nothing that the law and all that it calls make is longer than what came in: it says more and counts as full. Else prove '..UptoSaid'. A law counts once. -/
mutual
def uptoBulk {H : Type} : DataW H → Nat
  | .lit (.string bytes) => bytes.length + 1
  | .lit _ => 1
  | .nil => 1
  | .ptr d => uptoBulk d + 1
  | .slice elems spare => uptoBulkAll elems + uptoBulkAll spare + 1
  | .agg parts => uptoBulkAll parts + 1
  | .iface _ d => uptoBulk d + 1
  | .map entries => uptoBulkEntries entries + 1
  | .held _ => 1
def uptoBulkAll {H : Type} : List (DataW H) → Nat
  | [] => 0
  | d :: r => uptoBulk d + uptoBulkAll r
def uptoBulkEntries {H : Type} : List (Lit × DataW H) → Nat
  | [] => 0
  | x :: r => uptoBulkEntry x + uptoBulkEntries r
def uptoBulkEntry {H : Type} : Lit × DataW H → Nat
  | (.string bytes, d) => bytes.length + uptoBulk d + 1
  | (_, d) => uptoBulk d + 1
 end
def uptoSmall : (H : Type) → List (DataW H) → Bool := fun _ ds => decide (uptoBulkAll ds ≤ 1048576)
def OpenSpec.upto (s : _root_.Go.ChangeSpec) : _root_.Go.OpenSpec := { _root_.Go.OpenSpec.ofChange s with cond := some uptoSmall }

/-- 'laws.FnExactKinCount', WHERE WHAT IT READS IS OF BULK AT MOST 1048576: true; the input reads as it did. -/
def fnExactKinCountUptoRow : OpenClaim := { program := "ytfjhlkmfgcnkoaa", sum := "a7315d05dba632655a61717d80c7ddbbcb8a132f8dee23ed4ef662f0d1a4fc5d", func := "loop.example/lairage/laws.FnExactKinCount", spec := "fnExactKinCount", apart := false, narrowed := true }
def FnExactKinCountUptoSaid : Prop := fnExactKinCountUptoRow.holds Try.pinned (OpenSpec.upto fnExactKinCountSpec)

/-- 'laws.FnExactKinType', WHERE WHAT IT READS IS OF BULK AT MOST 1048576: true; the input reads as it did. -/
def fnExactKinTypeUptoRow : OpenClaim := { program := "ytfjhlkmfgcnkoaa", sum := "a7315d05dba632655a61717d80c7ddbbcb8a132f8dee23ed4ef662f0d1a4fc5d", func := "loop.example/lairage/laws.FnExactKinType", spec := "fnExactKinType", apart := false, narrowed := true }
def FnExactKinTypeUptoSaid : Prop := fnExactKinTypeUptoRow.holds Try.pinned (OpenSpec.upto fnExactKinTypeSpec)

/-- 'laws.FnExactKinIn', WHERE WHAT IT READS IS OF BULK AT MOST 1048576: true; the input reads as it did. -/
def fnExactKinInUptoRow : OpenClaim := { program := "ytfjhlkmfgcnkoaa", sum := "a7315d05dba632655a61717d80c7ddbbcb8a132f8dee23ed4ef662f0d1a4fc5d", func := "loop.example/lairage/laws.FnExactKinIn", spec := "fnExactKinIn", apart := false, narrowed := true }
def FnExactKinInUptoSaid : Prop := fnExactKinInUptoRow.holds Try.pinned (OpenSpec.upto fnExactKinInSpec)

/-- 'laws.FnExactFieldOk', WHERE WHAT IT READS IS OF BULK AT MOST 1048576: true; the input reads as it did. -/
def fnExactFieldOkUptoRow : OpenClaim := { program := "ytfjhlkmfgcnkoaa", sum := "a7315d05dba632655a61717d80c7ddbbcb8a132f8dee23ed4ef662f0d1a4fc5d", func := "loop.example/lairage/laws.FnExactFieldOk", spec := "fnExactFieldOk", apart := false, narrowed := true }
def FnExactFieldOkUptoSaid : Prop := fnExactFieldOkUptoRow.holds Try.pinned (OpenSpec.upto fnExactFieldOkSpec)

end Rows
end Go.Proofs.Ytfjhlkmfgcnkoaa
