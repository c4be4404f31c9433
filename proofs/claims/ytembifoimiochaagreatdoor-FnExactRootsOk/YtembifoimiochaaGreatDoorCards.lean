/-
  DERIVED. GIVEN WITH THE SEED: THE CARDS: each row of YtembifoimiochaaGreatDoorRows.lean that lists a variable, with what it lists TIED to the program's text (the seventh form; the later family's looks); each row that meets fmt, with fmt's text TOLD by the authors' own Lean function (tested against real Go, not proved from fmt's source: count such statements apart). THE CARD IS WHAT COUNTS. Prove the row's statement (the work); the ties are given (YtembifoimiochaaGreatDoorTie.lean); close each card by the builder's one call (the guide's Derived/Test/ToyasCard.lean, 'card_holds'). Laid BY PROGRAM, IN A SANDBOX (cutbox-door.mjs). By AI agents, Wed Nov 11 2026. No macro, syntax, notation, axiom, sorry.
-/
import Derived.Test.YtembifoimiochaaGreatDoorRows
import GoSem.ClaimSeven
namespace Go.Proofs.YtembifoimiochaaGreatDoor
namespace Rows

/-- THE TIED CARD OF 'laws.FnExactRootsOk'. -/
def fnExactRootsOkCard : Claim7 := { stood := { row := fnExactRootsOkRow, standIns := [], harness := (true, "9b2fca9fded0a157966e6222e1e10d95f21709f1a45cd28349fa03b9a458ec8b"), looks := false }, kinds := [], alts := [], laidByText := true, laidKinds := [.data, .data, .data], laidTests := true, laidLooks := .later }
def FnExactRootsOkCardSaid : Prop := Claim7.holds Tryz.pinned (.plain (OpenSpec.ofChange fnExactRootsOkSpec)) fnExactRootsOkCard

/-- THE SECOND FORM's CARD OF 'laws.FnExactRootsOk'. -/
def fnExactRootsOkUptoCard : Claim7 := { stood := { row := fnExactRootsOkUptoRow, standIns := [], harness := (true, "9b2fca9fded0a157966e6222e1e10d95f21709f1a45cd28349fa03b9a458ec8b"), looks := false }, kinds := [], alts := [], laidByText := true, laidKinds := [.data, .data, .data], laidTests := true, laidLooks := .later }
def FnExactRootsOkUptoCardSaid : Prop := Claim7.holds Tryz.pinned (.plain (OpenSpec.upto fnExactRootsOkSpec)) fnExactRootsOkUptoCard
end Rows
end Go.Proofs.YtembifoimiochaaGreatDoor
