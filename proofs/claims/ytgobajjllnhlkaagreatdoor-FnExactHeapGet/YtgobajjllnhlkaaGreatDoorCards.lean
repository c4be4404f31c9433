/-
  DERIVED. GIVEN WITH THE SEED: THE CARDS: each row of YtgobajjllnhlkaaGreatDoorRows.lean that lists a variable, with what it lists TIED to the program's text (the seventh form; the later family's looks); each row that meets fmt, with fmt's text TOLD by the authors' own Lean function (tested against real Go, not proved from fmt's source: count such statements apart). THE CARD IS WHAT COUNTS. Prove the row's statement (the work); the ties are given (YtgobajjllnhlkaaGreatDoorTie.lean); close each card by the builder's one call (the guide's Derived/Test/ToyasCard.lean, 'card_holds'). Laid BY PROGRAM, IN A SANDBOX (cutbox-door.mjs). By AI agents, Wed Nov 11 2026. No macro, syntax, notation, axiom, sorry.
-/
import Derived.Test.YtgobajjllnhlkaaGreatDoorRows
import GoSem.ClaimSeven
namespace Go.Proofs.YtgobajjllnhlkaaGreatDoor
namespace Rows

/-- THE TIED CARD OF 'laws.FnExactHeapOk'. -/
def fnExactHeapOkCard : Claim7 := { stood := { row := fnExactHeapOkRow, standIns := [], harness := (true, "8ec6676e55321ab6faab79cf88d15a94ce79239369f4036263e9e0db477b1eae"), looks := false }, kinds := [], alts := [], laidByText := true, laidKinds := [.data, .data, .data], laidTests := true, laidLooks := .later }
def FnExactHeapOkCardSaid : Prop := Claim7.holds Tryz.pinned (.plain (OpenSpec.ofChange fnExactHeapOkSpec)) fnExactHeapOkCard

/-- THE TIED CARD OF 'laws.FnExactHeapThings'. -/
def fnExactHeapThingsCard : Claim7 := { stood := { row := fnExactHeapThingsRow, standIns := [], harness := (true, "8ec6676e55321ab6faab79cf88d15a94ce79239369f4036263e9e0db477b1eae"), looks := false }, kinds := [], alts := [], laidByText := true, laidKinds := [.data, .data, .data], laidTests := true, laidLooks := .later }
def FnExactHeapThingsCardSaid : Prop := Claim7.holds Tryz.pinned (.plain (OpenSpec.ofChange fnExactHeapThingsSpec)) fnExactHeapThingsCard

/-- THE TIED CARD OF 'laws.FnExactHeapGet'. -/
def fnExactHeapGetCard : Claim7 := { stood := { row := fnExactHeapGetRow, standIns := [], harness := (true, "8ec6676e55321ab6faab79cf88d15a94ce79239369f4036263e9e0db477b1eae"), looks := false }, kinds := [], alts := [], laidByText := true, laidKinds := [.data, .data, .data], laidTests := true, laidLooks := .later }
def FnExactHeapGetCardSaid : Prop := Claim7.holds Tryz.pinned (.plain (OpenSpec.ofChange fnExactHeapGetSpec)) fnExactHeapGetCard

/-- THE TIED CARD OF 'laws.FnExactHeapFits'. -/
def fnExactHeapFitsCard : Claim7 := { stood := { row := fnExactHeapFitsRow, standIns := [], harness := (true, "8ec6676e55321ab6faab79cf88d15a94ce79239369f4036263e9e0db477b1eae"), looks := false }, kinds := [], alts := [], laidByText := true, laidKinds := [.data, .data, .data], laidTests := true, laidLooks := .later }
def FnExactHeapFitsCardSaid : Prop := Claim7.holds Tryz.pinned (.plain (OpenSpec.ofChange fnExactHeapFitsSpec)) fnExactHeapFitsCard

/-- THE TIED CARD OF 'laws.FnExactHeapMake'. -/
def fnExactHeapMakeCard : Claim7 := { stood := { row := fnExactHeapMakeRow, standIns := [], harness := (true, "8ec6676e55321ab6faab79cf88d15a94ce79239369f4036263e9e0db477b1eae"), looks := false }, kinds := [], alts := [], laidByText := true, laidKinds := [.data, .data, .data], laidTests := true, laidLooks := .later }
def FnExactHeapMakeCardSaid : Prop := Claim7.holds Tryz.pinned (.plain (OpenSpec.ofChange fnExactHeapMakeSpec)) fnExactHeapMakeCard

/-- THE TIED CARD OF 'laws.FnExactHeapPut'. -/
def fnExactHeapPutCard : Claim7 := { stood := { row := fnExactHeapPutRow, standIns := [], harness := (true, "8ec6676e55321ab6faab79cf88d15a94ce79239369f4036263e9e0db477b1eae"), looks := false }, kinds := [], alts := [], laidByText := true, laidKinds := [.data, .data, .data], laidTests := true, laidLooks := .later }
def FnExactHeapPutCardSaid : Prop := Claim7.holds Tryz.pinned (.plain (OpenSpec.ofChange fnExactHeapPutSpec)) fnExactHeapPutCard

/-- THE SECOND FORM's CARD OF 'laws.FnExactHeapOk'. -/
def fnExactHeapOkUptoCard : Claim7 := { stood := { row := fnExactHeapOkUptoRow, standIns := [], harness := (true, "8ec6676e55321ab6faab79cf88d15a94ce79239369f4036263e9e0db477b1eae"), looks := false }, kinds := [], alts := [], laidByText := true, laidKinds := [.data, .data, .data], laidTests := true, laidLooks := .later }
def FnExactHeapOkUptoCardSaid : Prop := Claim7.holds Tryz.pinned (.plain (OpenSpec.upto fnExactHeapOkSpec)) fnExactHeapOkUptoCard

/-- THE SECOND FORM's CARD OF 'laws.FnExactHeapThings'. -/
def fnExactHeapThingsUptoCard : Claim7 := { stood := { row := fnExactHeapThingsUptoRow, standIns := [], harness := (true, "8ec6676e55321ab6faab79cf88d15a94ce79239369f4036263e9e0db477b1eae"), looks := false }, kinds := [], alts := [], laidByText := true, laidKinds := [.data, .data, .data], laidTests := true, laidLooks := .later }
def FnExactHeapThingsUptoCardSaid : Prop := Claim7.holds Tryz.pinned (.plain (OpenSpec.upto fnExactHeapThingsSpec)) fnExactHeapThingsUptoCard

/-- THE SECOND FORM's CARD OF 'laws.FnExactHeapGet'. -/
def fnExactHeapGetUptoCard : Claim7 := { stood := { row := fnExactHeapGetUptoRow, standIns := [], harness := (true, "8ec6676e55321ab6faab79cf88d15a94ce79239369f4036263e9e0db477b1eae"), looks := false }, kinds := [], alts := [], laidByText := true, laidKinds := [.data, .data, .data], laidTests := true, laidLooks := .later }
def FnExactHeapGetUptoCardSaid : Prop := Claim7.holds Tryz.pinned (.plain (OpenSpec.upto fnExactHeapGetSpec)) fnExactHeapGetUptoCard

/-- THE SECOND FORM's CARD OF 'laws.FnExactHeapFits'. -/
def fnExactHeapFitsUptoCard : Claim7 := { stood := { row := fnExactHeapFitsUptoRow, standIns := [], harness := (true, "8ec6676e55321ab6faab79cf88d15a94ce79239369f4036263e9e0db477b1eae"), looks := false }, kinds := [], alts := [], laidByText := true, laidKinds := [.data, .data, .data], laidTests := true, laidLooks := .later }
def FnExactHeapFitsUptoCardSaid : Prop := Claim7.holds Tryz.pinned (.plain (OpenSpec.upto fnExactHeapFitsSpec)) fnExactHeapFitsUptoCard

/-- THE SECOND FORM's CARD OF 'laws.FnExactHeapMake'. -/
def fnExactHeapMakeUptoCard : Claim7 := { stood := { row := fnExactHeapMakeUptoRow, standIns := [], harness := (true, "8ec6676e55321ab6faab79cf88d15a94ce79239369f4036263e9e0db477b1eae"), looks := false }, kinds := [], alts := [], laidByText := true, laidKinds := [.data, .data, .data], laidTests := true, laidLooks := .later }
def FnExactHeapMakeUptoCardSaid : Prop := Claim7.holds Tryz.pinned (.plain (OpenSpec.upto fnExactHeapMakeSpec)) fnExactHeapMakeUptoCard

/-- THE SECOND FORM's CARD OF 'laws.FnExactHeapPut'. -/
def fnExactHeapPutUptoCard : Claim7 := { stood := { row := fnExactHeapPutUptoRow, standIns := [], harness := (true, "8ec6676e55321ab6faab79cf88d15a94ce79239369f4036263e9e0db477b1eae"), looks := false }, kinds := [], alts := [], laidByText := true, laidKinds := [.data, .data, .data], laidTests := true, laidLooks := .later }
def FnExactHeapPutUptoCardSaid : Prop := Claim7.holds Tryz.pinned (.plain (OpenSpec.upto fnExactHeapPutSpec)) fnExactHeapPutUptoCard
end Rows
end Go.Proofs.YtgobajjllnhlkaaGreatDoor
