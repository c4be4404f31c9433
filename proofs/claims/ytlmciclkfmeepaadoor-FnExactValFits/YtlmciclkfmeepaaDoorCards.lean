/-
  DERIVED. GIVEN WITH THE SEED: THE CARDS: each row of YtlmciclkfmeepaaDoorRows.lean that lists a variable, with what it lists TIED to the program's text (the seventh form; the later family's looks); each row that meets fmt, with fmt's text TOLD by the authors' own Lean function (tested against real Go, not proved from fmt's source: count such statements apart). THE CARD IS WHAT COUNTS. Prove the row's statement (the work); the ties are given (YtlmciclkfmeepaaDoorTie.lean); close each card by the builder's one call (the guide's Derived/Test/ToyasCard.lean, 'card_holds'). Laid BY PROGRAM, IN A SANDBOX (cutbox-door.mjs). By AI agents, Wed Nov 11 2026. No macro, syntax, notation, axiom, sorry.
-/
import Derived.Test.YtlmciclkfmeepaaDoorRows
import GoSem.ClaimSeven
namespace Go.Proofs.YtlmciclkfmeepaaDoor
namespace Rows

/-- THE TIED CARD OF 'laws.FnExactValFits'. -/
def fnExactValFitsCard : Claim7 := { stood := { row := fnExactValFitsRow, standIns := [], harness := (true, "4a5406c73136f1b3601171689f618627a9470ff26d545c96e92c90ff79cd6292"), looks := false }, kinds := [], alts := [], laidByText := true, laidKinds := [.data, .data, .data], laidTests := true, laidLooks := .later }
def FnExactValFitsCardSaid : Prop := Claim7.holds Tryd.pinned (.plain (OpenSpec.ofChange fnExactValFitsSpec)) fnExactValFitsCard

/-- THE TIED CARD OF 'laws.FnExactValTell'. -/
def fnExactValTellCard : Claim7 := { stood := { row := fnExactValTellRow, standIns := [], harness := (true, "4a5406c73136f1b3601171689f618627a9470ff26d545c96e92c90ff79cd6292"), looks := false }, kinds := [], alts := [], laidByText := true, laidKinds := [.data, .data, .data], laidTests := true, laidLooks := .later }
def FnExactValTellCardSaid : Prop := Claim7.holds Tryd.pinned (.plain (OpenSpec.ofChange fnExactValTellSpec)) fnExactValTellCard

/-- THE SECOND FORM's CARD OF 'laws.FnExactValFits'. -/
def fnExactValFitsUptoCard : Claim7 := { stood := { row := fnExactValFitsUptoRow, standIns := [], harness := (true, "4a5406c73136f1b3601171689f618627a9470ff26d545c96e92c90ff79cd6292"), looks := false }, kinds := [], alts := [], laidByText := true, laidKinds := [.data, .data, .data], laidTests := true, laidLooks := .later }
def FnExactValFitsUptoCardSaid : Prop := Claim7.holds Tryd.pinned (.plain (OpenSpec.upto fnExactValFitsSpec)) fnExactValFitsUptoCard

/-- THE SECOND FORM's CARD OF 'laws.FnExactValTell'. -/
def fnExactValTellUptoCard : Claim7 := { stood := { row := fnExactValTellUptoRow, standIns := [], harness := (true, "4a5406c73136f1b3601171689f618627a9470ff26d545c96e92c90ff79cd6292"), looks := false }, kinds := [], alts := [], laidByText := true, laidKinds := [.data, .data, .data], laidTests := true, laidLooks := .later }
def FnExactValTellUptoCardSaid : Prop := Claim7.holds Tryd.pinned (.plain (OpenSpec.upto fnExactValTellSpec)) fnExactValTellUptoCard
end Rows
end Go.Proofs.YtlmciclkfmeepaaDoor
