/-
  DERIVED. GIVEN WITH THE SEED: THE CARDS: each row of YthidiabeffgjlaaDoorRows.lean that lists a variable, with what it lists TIED to the program's text (the seventh form; the later family's looks); each row that meets fmt, with fmt's text TOLD by the authors' own Lean function (tested against real Go, not proved from fmt's source: count such statements apart). THE CARD IS WHAT COUNTS. Prove the row's statement (the work); the ties are given (YthidiabeffgjlaaDoorTie.lean); close each card by the builder's one call (the guide's Derived/Test/ToyasCard.lean, 'card_holds'). Laid BY PROGRAM, IN A SANDBOX (cutbox-door.mjs). By AI agents, Wed Nov 11 2026. No macro, syntax, notation, axiom, sorry.
-/
import Derived.Test.YthidiabeffgjlaaDoorRows
import GoSem.ClaimSeven
namespace Go.Proofs.YthidiabeffgjlaaDoor
namespace Rows

/-- THE TIED CARD OF 'laws.FnThingText'. -/
def fnThingTextCard : Claim7 := { stood := { row := fnThingTextRow, standIns := [], harness := (true, "f13eb35b0e5d73c138e160ac23166440a4acc709cd5b6ddc027cf7c0443261d2"), looks := false }, kinds := [], alts := [], laidByText := true, laidKinds := [.data, .data, .data], laidTests := true, laidLooks := .later }
def FnThingTextCardSaid : Prop := Claim7.holds Tryd.pinned (.plain (OpenSpec.ofChange fnThingTextSpec)) fnThingTextCard

/-- THE TIED CARD OF 'laws.FnExactThingText'. -/
def fnExactThingTextCard : Claim7 := { stood := { row := fnExactThingTextRow, standIns := [], harness := (true, "f13eb35b0e5d73c138e160ac23166440a4acc709cd5b6ddc027cf7c0443261d2"), looks := false }, kinds := [], alts := [], laidByText := true, laidKinds := [.data, .data, .data], laidTests := true, laidLooks := .later }
def FnExactThingTextCardSaid : Prop := Claim7.holds Tryd.pinned (.plain (OpenSpec.ofChange fnExactThingTextSpec)) fnExactThingTextCard

/-- THE SECOND FORM's CARD OF 'laws.FnThingText'. -/
def fnThingTextUptoCard : Claim7 := { stood := { row := fnThingTextUptoRow, standIns := [], harness := (true, "f13eb35b0e5d73c138e160ac23166440a4acc709cd5b6ddc027cf7c0443261d2"), looks := false }, kinds := [], alts := [], laidByText := true, laidKinds := [.data, .data, .data], laidTests := true, laidLooks := .later }
def FnThingTextUptoCardSaid : Prop := Claim7.holds Tryd.pinned (.plain (OpenSpec.upto fnThingTextSpec)) fnThingTextUptoCard

/-- THE SECOND FORM's CARD OF 'laws.FnExactThingText'. -/
def fnExactThingTextUptoCard : Claim7 := { stood := { row := fnExactThingTextUptoRow, standIns := [], harness := (true, "f13eb35b0e5d73c138e160ac23166440a4acc709cd5b6ddc027cf7c0443261d2"), looks := false }, kinds := [], alts := [], laidByText := true, laidKinds := [.data, .data, .data], laidTests := true, laidLooks := .later }
def FnExactThingTextUptoCardSaid : Prop := Claim7.holds Tryd.pinned (.plain (OpenSpec.upto fnExactThingTextSpec)) fnExactThingTextUptoCard
end Rows
end Go.Proofs.YthidiabeffgjlaaDoor
