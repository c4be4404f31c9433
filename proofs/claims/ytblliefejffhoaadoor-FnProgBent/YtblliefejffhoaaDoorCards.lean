/-
  DERIVED. GIVEN WITH THE SEED: THE CARDS: each row of YtblliefejffhoaaDoorRows.lean that lists a variable, with what it lists TIED to the program's text (the seventh form; the later family's looks); each row that meets fmt, with fmt's text TOLD by the authors' own Lean function (tested against real Go, not proved from fmt's source: count such statements apart). THE CARD IS WHAT COUNTS. Prove the row's statement (the work); the ties are given (YtblliefejffhoaaDoorTie.lean); close each card by the builder's one call (the guide's Derived/Test/ToyasCard.lean, 'card_holds'). Laid BY PROGRAM, IN A SANDBOX (cutbox-door.mjs). By AI agents, Wed Nov 11 2026. No macro, syntax, notation, axiom, sorry.
-/
import Derived.Test.YtblliefejffhoaaDoorRows
import GoSem.ClaimSeven
namespace Go.Proofs.YtblliefejffhoaaDoor
namespace Rows

/-- THE TIED CARD OF 'laws.FnProgBent'. -/
def fnProgBentCard : Claim7 := { stood := { row := fnProgBentRow, standIns := [], harness := (true, "5aefaeb5be329daf933d3a19759b4ae412470753cf797bd888ebf2639cf31a5a"), looks := false }, kinds := [], alts := [], laidByText := true, laidKinds := [.data, .data, .data], laidTests := true, laidLooks := .later }
def FnProgBentCardSaid : Prop := Claim7.holds Tryd.pinned (.plain (OpenSpec.ofChange fnProgBentSpec)) fnProgBentCard

/-- THE SECOND FORM's CARD OF 'laws.FnProgBent'. -/
def fnProgBentUptoCard : Claim7 := { stood := { row := fnProgBentUptoRow, standIns := [], harness := (true, "5aefaeb5be329daf933d3a19759b4ae412470753cf797bd888ebf2639cf31a5a"), looks := false }, kinds := [], alts := [], laidByText := true, laidKinds := [.data, .data, .data], laidTests := true, laidLooks := .later }
def FnProgBentUptoCardSaid : Prop := Claim7.holds Tryd.pinned (.plain (OpenSpec.upto fnProgBentSpec)) fnProgBentUptoCard
end Rows
end Go.Proofs.YtblliefejffhoaaDoor
