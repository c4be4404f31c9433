/-
  DERIVED. GIVEN WITH THE SEED: THE CARDS: each row of YtpaneomkphjpcaaGreatDoorRows.lean that lists a variable, with what it lists TIED to the program's text (the seventh form; the later family's looks); each row that meets fmt, with fmt's text TOLD by the authors' own Lean function (tested against real Go, not proved from fmt's source: count such statements apart). THE CARD IS WHAT COUNTS. Prove the row's statement (the work); the ties are given (YtpaneomkphjpcaaGreatDoorTie.lean); close each card by the builder's one call (the guide's Derived/Test/ToyasCard.lean, 'card_holds'). Laid BY PROGRAM, IN A SANDBOX (cutbox-door.mjs). By AI agents, Wed Nov 11 2026. No macro, syntax, notation, axiom, sorry.
-/
import Derived.Test.YtpaneomkphjpcaaGreatDoorRows
import GoSem.ClaimSeven
namespace Go.Proofs.YtpaneomkphjpcaaGreatDoor
namespace Rows

/-- THE TIED CARD OF 'laws.FnExactCheckIns'. -/
def fnExactCheckInsCard : Claim7 := { stood := { row := fnExactCheckInsRow, standIns := [], harness := (true, "29871db42fbc37c2ec8f1ee6f6cc7efb9e36e67d1c48fbbf72caf8b858860fe6"), looks := true }, kinds := [], alts := [], laidByText := true, laidKinds := [.data, .data, .data, .handle], laidTests := true, laidLooks := .later }
def FnExactCheckInsCardSaid : Prop := Claim7.holds Tryz.pinned (.plain (OpenSpec.ofChange fnExactCheckInsSpec)) fnExactCheckInsCard

/-- THE TIED CARD OF 'laws.FnExactCheckStacks'. -/
def fnExactCheckStacksCard : Claim7 := { stood := { row := fnExactCheckStacksRow, standIns := [], harness := (true, "29871db42fbc37c2ec8f1ee6f6cc7efb9e36e67d1c48fbbf72caf8b858860fe6"), looks := true }, kinds := [], alts := [], laidByText := true, laidKinds := [.data, .data, .data], laidTests := true, laidLooks := .later }
def FnExactCheckStacksCardSaid : Prop := Claim7.holds Tryz.pinned (.plain (OpenSpec.ofChange fnExactCheckStacksSpec)) fnExactCheckStacksCard

/-- THE TIED CARD OF 'laws.FnExactCheckFun'. -/
def fnExactCheckFunCard : Claim7 := { stood := { row := fnExactCheckFunRow, standIns := [], harness := (true, "29871db42fbc37c2ec8f1ee6f6cc7efb9e36e67d1c48fbbf72caf8b858860fe6"), looks := true }, kinds := [], alts := [], laidByText := true, laidKinds := [.data, .data, .data, .handle], laidTests := true, laidLooks := .later }
def FnExactCheckFunCardSaid : Prop := Claim7.holds Tryz.pinned (.plain (OpenSpec.ofChange fnExactCheckFunSpec)) fnExactCheckFunCard

/-- THE TIED CARD OF 'laws.FnExactCheckAll'. -/
def fnExactCheckAllCard : Claim7 := { stood := { row := fnExactCheckAllRow, standIns := [], harness := (true, "29871db42fbc37c2ec8f1ee6f6cc7efb9e36e67d1c48fbbf72caf8b858860fe6"), looks := true }, kinds := [], alts := [], laidByText := true, laidKinds := [.data, .data, .data, .handle], laidTests := true, laidLooks := .later }
def FnExactCheckAllCardSaid : Prop := Claim7.holds Tryz.pinned (.plain (OpenSpec.ofChange fnExactCheckAllSpec)) fnExactCheckAllCard

/-- THE SECOND FORM's CARD OF 'laws.FnExactCheckIns'. -/
def fnExactCheckInsUptoCard : Claim7 := { stood := { row := fnExactCheckInsUptoRow, standIns := [], harness := (true, "29871db42fbc37c2ec8f1ee6f6cc7efb9e36e67d1c48fbbf72caf8b858860fe6"), looks := true }, kinds := [], alts := [], laidByText := true, laidKinds := [.data, .data, .data, .handle], laidTests := true, laidLooks := .later }
def FnExactCheckInsUptoCardSaid : Prop := Claim7.holds Tryz.pinned (.plain (OpenSpec.upto fnExactCheckInsSpec)) fnExactCheckInsUptoCard

/-- THE SECOND FORM's CARD OF 'laws.FnExactCheckStacks'. -/
def fnExactCheckStacksUptoCard : Claim7 := { stood := { row := fnExactCheckStacksUptoRow, standIns := [], harness := (true, "29871db42fbc37c2ec8f1ee6f6cc7efb9e36e67d1c48fbbf72caf8b858860fe6"), looks := true }, kinds := [], alts := [], laidByText := true, laidKinds := [.data, .data, .data], laidTests := true, laidLooks := .later }
def FnExactCheckStacksUptoCardSaid : Prop := Claim7.holds Tryz.pinned (.plain (OpenSpec.upto fnExactCheckStacksSpec)) fnExactCheckStacksUptoCard

/-- THE SECOND FORM's CARD OF 'laws.FnExactCheckFun'. -/
def fnExactCheckFunUptoCard : Claim7 := { stood := { row := fnExactCheckFunUptoRow, standIns := [], harness := (true, "29871db42fbc37c2ec8f1ee6f6cc7efb9e36e67d1c48fbbf72caf8b858860fe6"), looks := true }, kinds := [], alts := [], laidByText := true, laidKinds := [.data, .data, .data, .handle], laidTests := true, laidLooks := .later }
def FnExactCheckFunUptoCardSaid : Prop := Claim7.holds Tryz.pinned (.plain (OpenSpec.upto fnExactCheckFunSpec)) fnExactCheckFunUptoCard

/-- THE SECOND FORM's CARD OF 'laws.FnExactCheckAll'. -/
def fnExactCheckAllUptoCard : Claim7 := { stood := { row := fnExactCheckAllUptoRow, standIns := [], harness := (true, "29871db42fbc37c2ec8f1ee6f6cc7efb9e36e67d1c48fbbf72caf8b858860fe6"), looks := true }, kinds := [], alts := [], laidByText := true, laidKinds := [.data, .data, .data, .handle], laidTests := true, laidLooks := .later }
def FnExactCheckAllUptoCardSaid : Prop := Claim7.holds Tryz.pinned (.plain (OpenSpec.upto fnExactCheckAllSpec)) fnExactCheckAllUptoCard
end Rows
end Go.Proofs.YtpaneomkphjpcaaGreatDoor
