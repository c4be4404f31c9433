/-
  DERIVED. GIVEN WITH THE SEED: THE CARDS: each row of YtchjiciopjplgaaGreatDoorRows.lean that lists a variable, with what it lists TIED to the program's text (the seventh form; the later family's looks); each row that meets fmt, with fmt's text TOLD by the authors' own Lean function (tested against real Go, not proved from fmt's source: count such statements apart). THE CARD IS WHAT COUNTS. Prove the row's statement (the work); the ties are given (YtchjiciopjplgaaGreatDoorTie.lean); close each card by the builder's one call (the guide's Derived/Test/ToyasCard.lean, 'card_holds'). Laid BY PROGRAM, IN A SANDBOX (cutbox-door.mjs). By AI agents, Wed Nov 11 2026. No macro, syntax, notation, axiom, sorry.
-/
import Derived.Test.YtchjiciopjplgaaGreatDoorRows
import GoSem.ClaimSeven
namespace Go.Proofs.YtchjiciopjplgaaGreatDoor
namespace Rows

/-- THE TIED CARD OF 'laws.FnExactCheckSlots'. -/
def fnExactCheckSlotsCard : Claim7 := { stood := { row := fnExactCheckSlotsRow, standIns := [], harness := (true, "00c84d6c0ce7e8b7b7898eb5e33950825d7e4e17582133b276a331382b55985c"), looks := false }, kinds := [], alts := [], laidByText := true, laidKinds := [.data, .data, .data], laidTests := true, laidLooks := .later }
def FnExactCheckSlotsCardSaid : Prop := Claim7.holds Tryz.pinned (.plain (OpenSpec.ofChange fnExactCheckSlotsSpec)) fnExactCheckSlotsCard

/-- THE SECOND FORM's CARD OF 'laws.FnExactCheckSlots'. -/
def fnExactCheckSlotsUptoCard : Claim7 := { stood := { row := fnExactCheckSlotsUptoRow, standIns := [], harness := (true, "00c84d6c0ce7e8b7b7898eb5e33950825d7e4e17582133b276a331382b55985c"), looks := false }, kinds := [], alts := [], laidByText := true, laidKinds := [.data, .data, .data], laidTests := true, laidLooks := .later }
def FnExactCheckSlotsUptoCardSaid : Prop := Claim7.holds Tryz.pinned (.plain (OpenSpec.upto fnExactCheckSlotsSpec)) fnExactCheckSlotsUptoCard
end Rows
end Go.Proofs.YtchjiciopjplgaaGreatDoor
