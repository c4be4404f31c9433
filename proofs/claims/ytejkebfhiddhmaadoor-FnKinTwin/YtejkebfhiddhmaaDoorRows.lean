/-
  NARROWER THAN 'FOR EVERY INPUT', by the rows' own cells (each row's printed sentence says how): FnKin: laid · FnKinSame: laid · FnKinTwin: laid · FnKinUnder: laid · FnKinLine: laid · FnKinFields: laid · FnFieldUnder: laid · FnKinCut: laid · FnKinBent: laid · FnKinUp: laid · FnKinMore: laid.
  DERIVED. THE GIVEN ROWS OF THIS SEAT. 11 by the template 'for every input the law returns true; each argument reads behind the call as it read before'; 0 by the template 'total and deterministic' (their statements: YtejkebfhiddhmaaDoorTotals.lean).
  GIVEN WITH THE SEED: the statements are not yours to turn. If you find one false, say at which input.
  Laid BY PROGRAM, IN A SANDBOX (cutbox-rows.mjs): the forced cells as the released guide's own fill.sh prints them over the translation 0861375ba88c8afa… (all of the seat's roots in one cut). By AI agents, Wed Nov 11 2026. No macro, syntax, notation, axiom, sorry.
-/
import Derived.Test.YtejkebfhiddhmaaDoorChecked
import GoSem.Claim
import GoSem.ClaimJoined
import GoSem.ClaimMapViews
import Derived.JoinedTies
import Derived.KernelRfl
namespace Go.Proofs.YtejkebfhiddhmaaDoor
/- THE CELL 'sum', in the pinned program and in every row, IS THE sha256 OF THE DUMP (.gsa) THAT YtejkebfhiddhmaaDoorProg.lean LOADS. Nothing in Lean hashes anything: it is a label: what it is worth is what the hold of that sum in a sandbox is worth. -/
noncomputable def Tryd.pinned : Pinned := { name := "ytejkebfhiddhmaadoor", sum := "0861375ba88c8afafef6a343a6628a90429de080beee69a85b1e9f7e6749c4e7", checked := Tryd.checked }
namespace Rows
def none {H : Type} : Left H := { results := [], args := [] }

/- WHAT THE LISTED PACKAGE-LEVEL VARIABLES READ AS WHEN THE CALL BEGINS. Each datum BY PROGRAM (the guide's laid-datum.mjs) off the statement by which the dump's own 'gosem.cut.vars' lays the variable. In a bare row this is a premise. The card (YtejkebfhiddhmaaDoorCards.lean) ties it to the program's text. -/
def laid_math_bits_deBruijn32tab {H : Type} : DataW H := .agg [.lit (.int .u8 0), .lit (.int .u8 1), .lit (.int .u8 28), .lit (.int .u8 2), .lit (.int .u8 29), .lit (.int .u8 14), .lit (.int .u8 24), .lit (.int .u8 3), .lit (.int .u8 30), .lit (.int .u8 22), .lit (.int .u8 20), .lit (.int .u8 15), .lit (.int .u8 25), .lit (.int .u8 17), .lit (.int .u8 4), .lit (.int .u8 8), .lit (.int .u8 31), .lit (.int .u8 27), .lit (.int .u8 13), .lit (.int .u8 23), .lit (.int .u8 21), .lit (.int .u8 19), .lit (.int .u8 16), .lit (.int .u8 7), .lit (.int .u8 26), .lit (.int .u8 12), .lit (.int .u8 18), .lit (.int .u8 6), .lit (.int .u8 11), .lit (.int .u8 5), .lit (.int .u8 10), .lit (.int .u8 9)]
def laid_math_bits_deBruijn64tab {H : Type} : DataW H := .agg [.lit (.int .u8 0), .lit (.int .u8 1), .lit (.int .u8 56), .lit (.int .u8 2), .lit (.int .u8 57), .lit (.int .u8 49), .lit (.int .u8 28), .lit (.int .u8 3), .lit (.int .u8 61), .lit (.int .u8 58), .lit (.int .u8 42), .lit (.int .u8 50), .lit (.int .u8 38), .lit (.int .u8 29), .lit (.int .u8 17), .lit (.int .u8 4), .lit (.int .u8 62), .lit (.int .u8 47), .lit (.int .u8 59), .lit (.int .u8 36), .lit (.int .u8 45), .lit (.int .u8 43), .lit (.int .u8 51), .lit (.int .u8 22), .lit (.int .u8 53), .lit (.int .u8 39), .lit (.int .u8 33), .lit (.int .u8 30), .lit (.int .u8 24), .lit (.int .u8 18), .lit (.int .u8 12), .lit (.int .u8 5), .lit (.int .u8 63), .lit (.int .u8 55), .lit (.int .u8 48), .lit (.int .u8 27), .lit (.int .u8 60), .lit (.int .u8 41), .lit (.int .u8 37), .lit (.int .u8 16), .lit (.int .u8 46), .lit (.int .u8 35), .lit (.int .u8 44), .lit (.int .u8 21), .lit (.int .u8 52), .lit (.int .u8 32), .lit (.int .u8 23), .lit (.int .u8 11), .lit (.int .u8 54), .lit (.int .u8 26), .lit (.int .u8 40), .lit (.int .u8 15), .lit (.int .u8 34), .lit (.int .u8 20), .lit (.int .u8 31), .lit (.int .u8 10), .lit (.int .u8 25), .lit (.int .u8 14), .lit (.int .u8 19), .lit (.int .u8 9), .lit (.int .u8 13), .lit (.int .u8 8), .lit (.int .u8 7), .lit (.int .u8 6)]
def laid_internal_strconv_uint64pow10 {H : Type} : DataW H := .agg [.lit (.int .u64 1), .lit (.int .u64 10), .lit (.int .u64 100), .lit (.int .u64 1000), .lit (.int .u64 10000), .lit (.int .u64 100000), .lit (.int .u64 1000000), .lit (.int .u64 10000000), .lit (.int .u64 100000000), .lit (.int .u64 1000000000), .lit (.int .u64 10000000000), .lit (.int .u64 100000000000), .lit (.int .u64 1000000000000), .lit (.int .u64 10000000000000), .lit (.int .u64 100000000000000), .lit (.int .u64 1000000000000000), .lit (.int .u64 10000000000000000), .lit (.int .u64 100000000000000000), .lit (.int .u64 1000000000000000000), .lit (.int .u64 10000000000000000000)]

/-- 'laws.FnKin': WHATEVER THE INPUT: true; the input reads as it did. -/
def fnKinSpec : ChangeSpec := { name := "fnKin", fn := fun _ => fun
  | [d] => { results := [.lit (.bool true)], args := [d] }
  | _ => none }
def fnKinRow : OpenClaim := { program := "ytejkebfhiddhmaadoor", sum := "0861375ba88c8afafef6a343a6628a90429de080beee69a85b1e9f7e6749c4e7", func := "loop.example/lairage/laws.FnKin", spec := "fnKin", unfollowed := true, recurses := true, named := ["internal/strconv.uint64pow10", "math/bits.deBruijn32tab", "math/bits.deBruijn64tab"], apart := false, laid := [("math/bits.deBruijn32tab", laid_math_bits_deBruijn32tab), ("math/bits.deBruijn64tab", laid_math_bits_deBruijn64tab), ("internal/strconv.uint64pow10", laid_internal_strconv_uint64pow10)] }
def FnKinSaid : Prop := fnKinRow.holds Tryd.pinned (OpenSpec.ofChange fnKinSpec)

/-- ITS FALSE NEIGHBOUR: 'it returns false'. Refute it at one input. -/
def fnKinWrong : ChangeSpec := { name := "fnKin", fn := fun _ => fun
  | [d] => { results := [.lit (.bool false)], args := [d] }
  | _ => none }
def FnKinWrongFalsely : Prop := fnKinRow.holds Tryd.pinned (OpenSpec.ofChange fnKinWrong)

/-- 'laws.FnKinSame': WHATEVER THE INPUT: true; the input reads as it did. -/
def fnKinSameSpec : ChangeSpec := { name := "fnKinSame", fn := fun _ => fun
  | [d] => { results := [.lit (.bool true)], args := [d] }
  | _ => none }
def fnKinSameRow : OpenClaim := { program := "ytejkebfhiddhmaadoor", sum := "0861375ba88c8afafef6a343a6628a90429de080beee69a85b1e9f7e6749c4e7", func := "loop.example/lairage/laws.FnKinSame", spec := "fnKinSame", unfollowed := true, recurses := true, named := ["internal/strconv.uint64pow10", "math/bits.deBruijn32tab", "math/bits.deBruijn64tab"], apart := false, laid := [("math/bits.deBruijn32tab", laid_math_bits_deBruijn32tab), ("math/bits.deBruijn64tab", laid_math_bits_deBruijn64tab), ("internal/strconv.uint64pow10", laid_internal_strconv_uint64pow10)] }
def FnKinSameSaid : Prop := fnKinSameRow.holds Tryd.pinned (OpenSpec.ofChange fnKinSameSpec)

/-- ITS FALSE NEIGHBOUR: 'it returns false'. Refute it at one input. -/
def fnKinSameWrong : ChangeSpec := { name := "fnKinSame", fn := fun _ => fun
  | [d] => { results := [.lit (.bool false)], args := [d] }
  | _ => none }
def FnKinSameWrongFalsely : Prop := fnKinSameRow.holds Tryd.pinned (OpenSpec.ofChange fnKinSameWrong)

/-- 'laws.FnKinTwin': WHATEVER THE INPUT: true; the input reads as it did. -/
def fnKinTwinSpec : ChangeSpec := { name := "fnKinTwin", fn := fun _ => fun
  | [d] => { results := [.lit (.bool true)], args := [d] }
  | _ => none }
def fnKinTwinRow : OpenClaim := { program := "ytejkebfhiddhmaadoor", sum := "0861375ba88c8afafef6a343a6628a90429de080beee69a85b1e9f7e6749c4e7", func := "loop.example/lairage/laws.FnKinTwin", spec := "fnKinTwin", unfollowed := true, recurses := true, named := ["internal/strconv.uint64pow10", "math/bits.deBruijn32tab", "math/bits.deBruijn64tab"], apart := false, laid := [("math/bits.deBruijn32tab", laid_math_bits_deBruijn32tab), ("math/bits.deBruijn64tab", laid_math_bits_deBruijn64tab), ("internal/strconv.uint64pow10", laid_internal_strconv_uint64pow10)] }
def FnKinTwinSaid : Prop := fnKinTwinRow.holds Tryd.pinned (OpenSpec.ofChange fnKinTwinSpec)

/-- ITS FALSE NEIGHBOUR: 'it returns false'. Refute it at one input. -/
def fnKinTwinWrong : ChangeSpec := { name := "fnKinTwin", fn := fun _ => fun
  | [d] => { results := [.lit (.bool false)], args := [d] }
  | _ => none }
def FnKinTwinWrongFalsely : Prop := fnKinTwinRow.holds Tryd.pinned (OpenSpec.ofChange fnKinTwinWrong)

/-- 'laws.FnKinUnder': WHATEVER THE INPUT: true; the input reads as it did. -/
def fnKinUnderSpec : ChangeSpec := { name := "fnKinUnder", fn := fun _ => fun
  | [d] => { results := [.lit (.bool true)], args := [d] }
  | _ => none }
def fnKinUnderRow : OpenClaim := { program := "ytejkebfhiddhmaadoor", sum := "0861375ba88c8afafef6a343a6628a90429de080beee69a85b1e9f7e6749c4e7", func := "loop.example/lairage/laws.FnKinUnder", spec := "fnKinUnder", unfollowed := true, recurses := true, named := ["internal/strconv.uint64pow10", "math/bits.deBruijn32tab", "math/bits.deBruijn64tab"], apart := false, laid := [("math/bits.deBruijn32tab", laid_math_bits_deBruijn32tab), ("math/bits.deBruijn64tab", laid_math_bits_deBruijn64tab), ("internal/strconv.uint64pow10", laid_internal_strconv_uint64pow10)] }
def FnKinUnderSaid : Prop := fnKinUnderRow.holds Tryd.pinned (OpenSpec.ofChange fnKinUnderSpec)

/-- ITS FALSE NEIGHBOUR: 'it returns false'. Refute it at one input. -/
def fnKinUnderWrong : ChangeSpec := { name := "fnKinUnder", fn := fun _ => fun
  | [d] => { results := [.lit (.bool false)], args := [d] }
  | _ => none }
def FnKinUnderWrongFalsely : Prop := fnKinUnderRow.holds Tryd.pinned (OpenSpec.ofChange fnKinUnderWrong)

/-- 'laws.FnKinLine': WHATEVER THE INPUT: true; the input reads as it did. -/
def fnKinLineSpec : ChangeSpec := { name := "fnKinLine", fn := fun _ => fun
  | [d] => { results := [.lit (.bool true)], args := [d] }
  | _ => none }
def fnKinLineRow : OpenClaim := { program := "ytejkebfhiddhmaadoor", sum := "0861375ba88c8afafef6a343a6628a90429de080beee69a85b1e9f7e6749c4e7", func := "loop.example/lairage/laws.FnKinLine", spec := "fnKinLine", unfollowed := true, recurses := true, named := ["internal/strconv.uint64pow10", "math/bits.deBruijn32tab", "math/bits.deBruijn64tab"], apart := false, laid := [("math/bits.deBruijn32tab", laid_math_bits_deBruijn32tab), ("math/bits.deBruijn64tab", laid_math_bits_deBruijn64tab), ("internal/strconv.uint64pow10", laid_internal_strconv_uint64pow10)] }
def FnKinLineSaid : Prop := fnKinLineRow.holds Tryd.pinned (OpenSpec.ofChange fnKinLineSpec)

/-- ITS FALSE NEIGHBOUR: 'it returns false'. Refute it at one input. -/
def fnKinLineWrong : ChangeSpec := { name := "fnKinLine", fn := fun _ => fun
  | [d] => { results := [.lit (.bool false)], args := [d] }
  | _ => none }
def FnKinLineWrongFalsely : Prop := fnKinLineRow.holds Tryd.pinned (OpenSpec.ofChange fnKinLineWrong)

/-- 'laws.FnKinFields': WHATEVER THE INPUT: true; the input reads as it did. -/
def fnKinFieldsSpec : ChangeSpec := { name := "fnKinFields", fn := fun _ => fun
  | [d] => { results := [.lit (.bool true)], args := [d] }
  | _ => none }
def fnKinFieldsRow : OpenClaim := { program := "ytejkebfhiddhmaadoor", sum := "0861375ba88c8afafef6a343a6628a90429de080beee69a85b1e9f7e6749c4e7", func := "loop.example/lairage/laws.FnKinFields", spec := "fnKinFields", unfollowed := true, recurses := true, named := ["internal/strconv.uint64pow10", "math/bits.deBruijn32tab", "math/bits.deBruijn64tab"], apart := false, laid := [("math/bits.deBruijn32tab", laid_math_bits_deBruijn32tab), ("math/bits.deBruijn64tab", laid_math_bits_deBruijn64tab), ("internal/strconv.uint64pow10", laid_internal_strconv_uint64pow10)] }
def FnKinFieldsSaid : Prop := fnKinFieldsRow.holds Tryd.pinned (OpenSpec.ofChange fnKinFieldsSpec)

/-- ITS FALSE NEIGHBOUR: 'it returns false'. Refute it at one input. -/
def fnKinFieldsWrong : ChangeSpec := { name := "fnKinFields", fn := fun _ => fun
  | [d] => { results := [.lit (.bool false)], args := [d] }
  | _ => none }
def FnKinFieldsWrongFalsely : Prop := fnKinFieldsRow.holds Tryd.pinned (OpenSpec.ofChange fnKinFieldsWrong)

/-- 'laws.FnFieldUnder': WHATEVER THE INPUT: true; the input reads as it did. -/
def fnFieldUnderSpec : ChangeSpec := { name := "fnFieldUnder", fn := fun _ => fun
  | [d1, d2] => { results := [.lit (.bool true)], args := [d1, d2] }
  | _ => none }
def fnFieldUnderRow : OpenClaim := { program := "ytejkebfhiddhmaadoor", sum := "0861375ba88c8afafef6a343a6628a90429de080beee69a85b1e9f7e6749c4e7", func := "loop.example/lairage/laws.FnFieldUnder", spec := "fnFieldUnder", unfollowed := true, recurses := true, named := ["internal/strconv.uint64pow10", "math/bits.deBruijn32tab", "math/bits.deBruijn64tab"], apart := false, laid := [("math/bits.deBruijn32tab", laid_math_bits_deBruijn32tab), ("math/bits.deBruijn64tab", laid_math_bits_deBruijn64tab), ("internal/strconv.uint64pow10", laid_internal_strconv_uint64pow10)] }
def FnFieldUnderSaid : Prop := fnFieldUnderRow.holds Tryd.pinned (OpenSpec.ofChange fnFieldUnderSpec)

/-- ITS FALSE NEIGHBOUR: 'it returns false'. Refute it at one input. -/
def fnFieldUnderWrong : ChangeSpec := { name := "fnFieldUnder", fn := fun _ => fun
  | [d1, d2] => { results := [.lit (.bool false)], args := [d1, d2] }
  | _ => none }
def FnFieldUnderWrongFalsely : Prop := fnFieldUnderRow.holds Tryd.pinned (OpenSpec.ofChange fnFieldUnderWrong)

/-- 'laws.FnKinCut': WHATEVER THE INPUT: true; the input reads as it did. -/
def fnKinCutSpec : ChangeSpec := { name := "fnKinCut", fn := fun _ => fun
  | [d1, d2] => { results := [.lit (.bool true)], args := [d1, d2] }
  | _ => none }
def fnKinCutRow : OpenClaim := { program := "ytejkebfhiddhmaadoor", sum := "0861375ba88c8afafef6a343a6628a90429de080beee69a85b1e9f7e6749c4e7", func := "loop.example/lairage/laws.FnKinCut", spec := "fnKinCut", unfollowed := true, recurses := true, named := ["internal/strconv.uint64pow10", "math/bits.deBruijn32tab", "math/bits.deBruijn64tab"], apart := false, laid := [("math/bits.deBruijn32tab", laid_math_bits_deBruijn32tab), ("math/bits.deBruijn64tab", laid_math_bits_deBruijn64tab), ("internal/strconv.uint64pow10", laid_internal_strconv_uint64pow10)] }
def FnKinCutSaid : Prop := fnKinCutRow.holds Tryd.pinned (OpenSpec.ofChange fnKinCutSpec)

/-- ITS FALSE NEIGHBOUR: 'it returns false'. Refute it at one input. -/
def fnKinCutWrong : ChangeSpec := { name := "fnKinCut", fn := fun _ => fun
  | [d1, d2] => { results := [.lit (.bool false)], args := [d1, d2] }
  | _ => none }
def FnKinCutWrongFalsely : Prop := fnKinCutRow.holds Tryd.pinned (OpenSpec.ofChange fnKinCutWrong)

/-- 'laws.FnKinBent': WHATEVER THE INPUT: true; the input reads as it did. -/
def fnKinBentSpec : ChangeSpec := { name := "fnKinBent", fn := fun _ => fun
  | [d] => { results := [.lit (.bool true)], args := [d] }
  | _ => none }
def fnKinBentRow : OpenClaim := { program := "ytejkebfhiddhmaadoor", sum := "0861375ba88c8afafef6a343a6628a90429de080beee69a85b1e9f7e6749c4e7", func := "loop.example/lairage/laws.FnKinBent", spec := "fnKinBent", unfollowed := true, recurses := true, named := ["internal/strconv.uint64pow10", "math/bits.deBruijn32tab", "math/bits.deBruijn64tab"], apart := false, laid := [("math/bits.deBruijn32tab", laid_math_bits_deBruijn32tab), ("math/bits.deBruijn64tab", laid_math_bits_deBruijn64tab), ("internal/strconv.uint64pow10", laid_internal_strconv_uint64pow10)] }
def FnKinBentSaid : Prop := fnKinBentRow.holds Tryd.pinned (OpenSpec.ofChange fnKinBentSpec)

/-- ITS FALSE NEIGHBOUR: 'it returns false'. Refute it at one input. -/
def fnKinBentWrong : ChangeSpec := { name := "fnKinBent", fn := fun _ => fun
  | [d] => { results := [.lit (.bool false)], args := [d] }
  | _ => none }
def FnKinBentWrongFalsely : Prop := fnKinBentRow.holds Tryd.pinned (OpenSpec.ofChange fnKinBentWrong)

/-- 'laws.FnKinUp': WHATEVER THE INPUT: true; the input reads as it did. -/
def fnKinUpSpec : ChangeSpec := { name := "fnKinUp", fn := fun _ => fun
  | [d] => { results := [.lit (.bool true)], args := [d] }
  | _ => none }
def fnKinUpRow : OpenClaim := { program := "ytejkebfhiddhmaadoor", sum := "0861375ba88c8afafef6a343a6628a90429de080beee69a85b1e9f7e6749c4e7", func := "loop.example/lairage/laws.FnKinUp", spec := "fnKinUp", unfollowed := true, recurses := true, named := ["internal/strconv.uint64pow10", "math/bits.deBruijn32tab", "math/bits.deBruijn64tab"], apart := false, laid := [("math/bits.deBruijn32tab", laid_math_bits_deBruijn32tab), ("math/bits.deBruijn64tab", laid_math_bits_deBruijn64tab), ("internal/strconv.uint64pow10", laid_internal_strconv_uint64pow10)] }
def FnKinUpSaid : Prop := fnKinUpRow.holds Tryd.pinned (OpenSpec.ofChange fnKinUpSpec)

/-- ITS FALSE NEIGHBOUR: 'it returns false'. Refute it at one input. -/
def fnKinUpWrong : ChangeSpec := { name := "fnKinUp", fn := fun _ => fun
  | [d] => { results := [.lit (.bool false)], args := [d] }
  | _ => none }
def FnKinUpWrongFalsely : Prop := fnKinUpRow.holds Tryd.pinned (OpenSpec.ofChange fnKinUpWrong)

/-- 'laws.FnKinMore': WHATEVER THE INPUT: true; the input reads as it did. -/
def fnKinMoreSpec : ChangeSpec := { name := "fnKinMore", fn := fun _ => fun
  | [d] => { results := [.lit (.bool true)], args := [d] }
  | _ => none }
def fnKinMoreRow : OpenClaim := { program := "ytejkebfhiddhmaadoor", sum := "0861375ba88c8afafef6a343a6628a90429de080beee69a85b1e9f7e6749c4e7", func := "loop.example/lairage/laws.FnKinMore", spec := "fnKinMore", unfollowed := true, recurses := true, named := ["internal/strconv.uint64pow10", "math/bits.deBruijn32tab", "math/bits.deBruijn64tab"], apart := false, laid := [("math/bits.deBruijn32tab", laid_math_bits_deBruijn32tab), ("math/bits.deBruijn64tab", laid_math_bits_deBruijn64tab), ("internal/strconv.uint64pow10", laid_internal_strconv_uint64pow10)] }
def FnKinMoreSaid : Prop := fnKinMoreRow.holds Tryd.pinned (OpenSpec.ofChange fnKinMoreSpec)

/-- ITS FALSE NEIGHBOUR: 'it returns false'. Refute it at one input. -/
def fnKinMoreWrong : ChangeSpec := { name := "fnKinMore", fn := fun _ => fun
  | [d] => { results := [.lit (.bool false)], args := [d] }
  | _ => none }
def FnKinMoreWrongFalsely : Prop := fnKinMoreRow.holds Tryd.pinned (OpenSpec.ofChange fnKinMoreWrong)

/- THE SECOND FORM. 'bulk': how many values and letters a reading holds, each counted each time it is reached (what is shared counts as often as it is met; a slice's spare places count too). A statement '..UptoSaid' is the law's where the arguments, and the package variables that the reading takes, are together of bulk at most 1048576: NARROWER than '..Said'. Prove '..Said' where nothing that the law and all that it calls make is longer than what came in: it says more and counts as full. Else prove '..UptoSaid'. A law counts once. -/
mutual
def uptoBulk {H : Type} : DataW H → Nat
  | .lit (.string bytes) => bytes.length + 1
  | .lit _ => 1
  | .nil => 1
  | .ptr d => uptoBulk d + 1
  | .slice elems spare => uptoBulkAll elems + uptoBulkAll spare + 1
  | .agg parts => uptoBulkAll parts + 1
  | .iface _ d => uptoBulk d + 1
  | .map entries => uptoBulkEntries entries + 1
  | .held _ => 1
def uptoBulkAll {H : Type} : List (DataW H) → Nat
  | [] => 0
  | d :: r => uptoBulk d + uptoBulkAll r
def uptoBulkEntries {H : Type} : List (Lit × DataW H) → Nat
  | [] => 0
  | x :: r => uptoBulkEntry x + uptoBulkEntries r
def uptoBulkEntry {H : Type} : Lit × DataW H → Nat
  | (.string bytes, d) => bytes.length + uptoBulk d + 1
  | (_, d) => uptoBulk d + 1
 end
def uptoSmall : (H : Type) → List (DataW H) → Bool := fun _ ds => decide (uptoBulkAll ds ≤ 1048576)
def OpenSpec.upto (s : _root_.Go.ChangeSpec) : _root_.Go.OpenSpec := { _root_.Go.OpenSpec.ofChange s with cond := some uptoSmall }

/-- 'laws.FnKin', WHERE WHAT IT READS IS OF BULK AT MOST 1048576: true; the input reads as it did. -/
def fnKinUptoRow : OpenClaim := { program := "ytejkebfhiddhmaadoor", sum := "0861375ba88c8afafef6a343a6628a90429de080beee69a85b1e9f7e6749c4e7", func := "loop.example/lairage/laws.FnKin", spec := "fnKin", unfollowed := true, recurses := true, named := ["internal/strconv.uint64pow10", "math/bits.deBruijn32tab", "math/bits.deBruijn64tab"], apart := false, laid := [("math/bits.deBruijn32tab", laid_math_bits_deBruijn32tab), ("math/bits.deBruijn64tab", laid_math_bits_deBruijn64tab), ("internal/strconv.uint64pow10", laid_internal_strconv_uint64pow10)], narrowed := true }
def FnKinUptoSaid : Prop := fnKinUptoRow.holds Tryd.pinned (OpenSpec.upto fnKinSpec)

/-- 'laws.FnKinSame', WHERE WHAT IT READS IS OF BULK AT MOST 1048576: true; the input reads as it did. -/
def fnKinSameUptoRow : OpenClaim := { program := "ytejkebfhiddhmaadoor", sum := "0861375ba88c8afafef6a343a6628a90429de080beee69a85b1e9f7e6749c4e7", func := "loop.example/lairage/laws.FnKinSame", spec := "fnKinSame", unfollowed := true, recurses := true, named := ["internal/strconv.uint64pow10", "math/bits.deBruijn32tab", "math/bits.deBruijn64tab"], apart := false, laid := [("math/bits.deBruijn32tab", laid_math_bits_deBruijn32tab), ("math/bits.deBruijn64tab", laid_math_bits_deBruijn64tab), ("internal/strconv.uint64pow10", laid_internal_strconv_uint64pow10)], narrowed := true }
def FnKinSameUptoSaid : Prop := fnKinSameUptoRow.holds Tryd.pinned (OpenSpec.upto fnKinSameSpec)

/-- 'laws.FnKinTwin', WHERE WHAT IT READS IS OF BULK AT MOST 1048576: true; the input reads as it did. -/
def fnKinTwinUptoRow : OpenClaim := { program := "ytejkebfhiddhmaadoor", sum := "0861375ba88c8afafef6a343a6628a90429de080beee69a85b1e9f7e6749c4e7", func := "loop.example/lairage/laws.FnKinTwin", spec := "fnKinTwin", unfollowed := true, recurses := true, named := ["internal/strconv.uint64pow10", "math/bits.deBruijn32tab", "math/bits.deBruijn64tab"], apart := false, laid := [("math/bits.deBruijn32tab", laid_math_bits_deBruijn32tab), ("math/bits.deBruijn64tab", laid_math_bits_deBruijn64tab), ("internal/strconv.uint64pow10", laid_internal_strconv_uint64pow10)], narrowed := true }
def FnKinTwinUptoSaid : Prop := fnKinTwinUptoRow.holds Tryd.pinned (OpenSpec.upto fnKinTwinSpec)

/-- 'laws.FnKinUnder', WHERE WHAT IT READS IS OF BULK AT MOST 1048576: true; the input reads as it did. -/
def fnKinUnderUptoRow : OpenClaim := { program := "ytejkebfhiddhmaadoor", sum := "0861375ba88c8afafef6a343a6628a90429de080beee69a85b1e9f7e6749c4e7", func := "loop.example/lairage/laws.FnKinUnder", spec := "fnKinUnder", unfollowed := true, recurses := true, named := ["internal/strconv.uint64pow10", "math/bits.deBruijn32tab", "math/bits.deBruijn64tab"], apart := false, laid := [("math/bits.deBruijn32tab", laid_math_bits_deBruijn32tab), ("math/bits.deBruijn64tab", laid_math_bits_deBruijn64tab), ("internal/strconv.uint64pow10", laid_internal_strconv_uint64pow10)], narrowed := true }
def FnKinUnderUptoSaid : Prop := fnKinUnderUptoRow.holds Tryd.pinned (OpenSpec.upto fnKinUnderSpec)

/-- 'laws.FnKinLine', WHERE WHAT IT READS IS OF BULK AT MOST 1048576: true; the input reads as it did. -/
def fnKinLineUptoRow : OpenClaim := { program := "ytejkebfhiddhmaadoor", sum := "0861375ba88c8afafef6a343a6628a90429de080beee69a85b1e9f7e6749c4e7", func := "loop.example/lairage/laws.FnKinLine", spec := "fnKinLine", unfollowed := true, recurses := true, named := ["internal/strconv.uint64pow10", "math/bits.deBruijn32tab", "math/bits.deBruijn64tab"], apart := false, laid := [("math/bits.deBruijn32tab", laid_math_bits_deBruijn32tab), ("math/bits.deBruijn64tab", laid_math_bits_deBruijn64tab), ("internal/strconv.uint64pow10", laid_internal_strconv_uint64pow10)], narrowed := true }
def FnKinLineUptoSaid : Prop := fnKinLineUptoRow.holds Tryd.pinned (OpenSpec.upto fnKinLineSpec)

/-- 'laws.FnKinFields', WHERE WHAT IT READS IS OF BULK AT MOST 1048576: true; the input reads as it did. -/
def fnKinFieldsUptoRow : OpenClaim := { program := "ytejkebfhiddhmaadoor", sum := "0861375ba88c8afafef6a343a6628a90429de080beee69a85b1e9f7e6749c4e7", func := "loop.example/lairage/laws.FnKinFields", spec := "fnKinFields", unfollowed := true, recurses := true, named := ["internal/strconv.uint64pow10", "math/bits.deBruijn32tab", "math/bits.deBruijn64tab"], apart := false, laid := [("math/bits.deBruijn32tab", laid_math_bits_deBruijn32tab), ("math/bits.deBruijn64tab", laid_math_bits_deBruijn64tab), ("internal/strconv.uint64pow10", laid_internal_strconv_uint64pow10)], narrowed := true }
def FnKinFieldsUptoSaid : Prop := fnKinFieldsUptoRow.holds Tryd.pinned (OpenSpec.upto fnKinFieldsSpec)

/-- 'laws.FnFieldUnder', WHERE WHAT IT READS IS OF BULK AT MOST 1048576: true; the input reads as it did. -/
def fnFieldUnderUptoRow : OpenClaim := { program := "ytejkebfhiddhmaadoor", sum := "0861375ba88c8afafef6a343a6628a90429de080beee69a85b1e9f7e6749c4e7", func := "loop.example/lairage/laws.FnFieldUnder", spec := "fnFieldUnder", unfollowed := true, recurses := true, named := ["internal/strconv.uint64pow10", "math/bits.deBruijn32tab", "math/bits.deBruijn64tab"], apart := false, laid := [("math/bits.deBruijn32tab", laid_math_bits_deBruijn32tab), ("math/bits.deBruijn64tab", laid_math_bits_deBruijn64tab), ("internal/strconv.uint64pow10", laid_internal_strconv_uint64pow10)], narrowed := true }
def FnFieldUnderUptoSaid : Prop := fnFieldUnderUptoRow.holds Tryd.pinned (OpenSpec.upto fnFieldUnderSpec)

/-- 'laws.FnKinCut', WHERE WHAT IT READS IS OF BULK AT MOST 1048576: true; the input reads as it did. -/
def fnKinCutUptoRow : OpenClaim := { program := "ytejkebfhiddhmaadoor", sum := "0861375ba88c8afafef6a343a6628a90429de080beee69a85b1e9f7e6749c4e7", func := "loop.example/lairage/laws.FnKinCut", spec := "fnKinCut", unfollowed := true, recurses := true, named := ["internal/strconv.uint64pow10", "math/bits.deBruijn32tab", "math/bits.deBruijn64tab"], apart := false, laid := [("math/bits.deBruijn32tab", laid_math_bits_deBruijn32tab), ("math/bits.deBruijn64tab", laid_math_bits_deBruijn64tab), ("internal/strconv.uint64pow10", laid_internal_strconv_uint64pow10)], narrowed := true }
def FnKinCutUptoSaid : Prop := fnKinCutUptoRow.holds Tryd.pinned (OpenSpec.upto fnKinCutSpec)

/-- 'laws.FnKinBent', WHERE WHAT IT READS IS OF BULK AT MOST 1048576: true; the input reads as it did. -/
def fnKinBentUptoRow : OpenClaim := { program := "ytejkebfhiddhmaadoor", sum := "0861375ba88c8afafef6a343a6628a90429de080beee69a85b1e9f7e6749c4e7", func := "loop.example/lairage/laws.FnKinBent", spec := "fnKinBent", unfollowed := true, recurses := true, named := ["internal/strconv.uint64pow10", "math/bits.deBruijn32tab", "math/bits.deBruijn64tab"], apart := false, laid := [("math/bits.deBruijn32tab", laid_math_bits_deBruijn32tab), ("math/bits.deBruijn64tab", laid_math_bits_deBruijn64tab), ("internal/strconv.uint64pow10", laid_internal_strconv_uint64pow10)], narrowed := true }
def FnKinBentUptoSaid : Prop := fnKinBentUptoRow.holds Tryd.pinned (OpenSpec.upto fnKinBentSpec)

/-- 'laws.FnKinUp', WHERE WHAT IT READS IS OF BULK AT MOST 1048576: true; the input reads as it did. -/
def fnKinUpUptoRow : OpenClaim := { program := "ytejkebfhiddhmaadoor", sum := "0861375ba88c8afafef6a343a6628a90429de080beee69a85b1e9f7e6749c4e7", func := "loop.example/lairage/laws.FnKinUp", spec := "fnKinUp", unfollowed := true, recurses := true, named := ["internal/strconv.uint64pow10", "math/bits.deBruijn32tab", "math/bits.deBruijn64tab"], apart := false, laid := [("math/bits.deBruijn32tab", laid_math_bits_deBruijn32tab), ("math/bits.deBruijn64tab", laid_math_bits_deBruijn64tab), ("internal/strconv.uint64pow10", laid_internal_strconv_uint64pow10)], narrowed := true }
def FnKinUpUptoSaid : Prop := fnKinUpUptoRow.holds Tryd.pinned (OpenSpec.upto fnKinUpSpec)

/-- 'laws.FnKinMore', WHERE WHAT IT READS IS OF BULK AT MOST 1048576: true; the input reads as it did. -/
def fnKinMoreUptoRow : OpenClaim := { program := "ytejkebfhiddhmaadoor", sum := "0861375ba88c8afafef6a343a6628a90429de080beee69a85b1e9f7e6749c4e7", func := "loop.example/lairage/laws.FnKinMore", spec := "fnKinMore", unfollowed := true, recurses := true, named := ["internal/strconv.uint64pow10", "math/bits.deBruijn32tab", "math/bits.deBruijn64tab"], apart := false, laid := [("math/bits.deBruijn32tab", laid_math_bits_deBruijn32tab), ("math/bits.deBruijn64tab", laid_math_bits_deBruijn64tab), ("internal/strconv.uint64pow10", laid_internal_strconv_uint64pow10)], narrowed := true }
def FnKinMoreUptoSaid : Prop := fnKinMoreUptoRow.holds Tryd.pinned (OpenSpec.upto fnKinMoreSpec)

end Rows
end Go.Proofs.YtejkebfhiddhmaaDoor
