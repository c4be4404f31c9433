/-
  DERIVED. GIVEN WITH THE SEED: THE CARDS: each row of YtblliefejffhoaaGreatDoorRows.lean that lists a variable, with what it lists TIED to the program's text (the seventh form; the later family's looks); each row that meets fmt, with fmt's text TOLD by the authors' own Lean function (tested against real Go, not proved from fmt's source: count such statements apart). THE CARD IS WHAT COUNTS. Prove the row's statement (the work); the ties are given (YtblliefejffhoaaGreatDoorTie.lean); close each card by the builder's one call (the guide's Derived/Test/ToyasCard.lean, 'card_holds'). Laid BY PROGRAM, IN A SANDBOX (cutbox-door.mjs). By AI agents, Wed Nov 11 2026. No macro, syntax, notation, axiom, sorry.
-/
import Derived.Test.YtblliefejffhoaaGreatDoorRows
import GoSem.ClaimSeven
namespace Go.Proofs.YtblliefejffhoaaGreatDoor
namespace Rows

/-- THE TIED CARD OF 'laws.FnProgLines'. -/
def fnProgLinesCard : Claim7 := { stood := { row := fnProgLinesRow, standIns := [], harness := (true, "1a5f35cf4ad61f5091049fac8d92789c14c1aa9f857dac1b57aa7f1fd73c9bf5"), looks := false }, kinds := [], alts := [], laidByText := true, laidKinds := [.data, .data, .data, .data, .data], laidTests := true, laidLooks := .later }
def FnProgLinesCardSaid : Prop := Claim7.holds Tryz.pinned (.plain (OpenSpec.ofChange fnProgLinesSpec)) fnProgLinesCard

/-- THE TIED CARD OF 'laws.FnProgSame'. -/
def fnProgSameCard : Claim7 := { stood := { row := fnProgSameRow, standIns := [], harness := (true, "1a5f35cf4ad61f5091049fac8d92789c14c1aa9f857dac1b57aa7f1fd73c9bf5"), looks := false }, kinds := [], alts := [], laidByText := true, laidKinds := [.data, .data, .data, .data, .data], laidTests := true, laidLooks := .later }
def FnProgSameCardSaid : Prop := Claim7.holds Tryz.pinned (.plain (OpenSpec.ofChange fnProgSameSpec)) fnProgSameCard

/-- THE TIED CARD OF 'laws.FnBinApart'. -/
def fnBinApartCard : Claim7 := { stood := { row := fnBinApartRow, standIns := [], harness := (true, "1a5f35cf4ad61f5091049fac8d92789c14c1aa9f857dac1b57aa7f1fd73c9bf5"), looks := false }, kinds := [], alts := [], laidByText := true, laidKinds := [.data, .data, .data, .data, .data], laidTests := true, laidLooks := .later }
def FnBinApartCardSaid : Prop := Claim7.holds Tryz.pinned (.plain (OpenSpec.ofChange fnBinApartSpec)) fnBinApartCard

/-- THE SECOND FORM's CARD OF 'laws.FnProgLines'. -/
def fnProgLinesUptoCard : Claim7 := { stood := { row := fnProgLinesUptoRow, standIns := [], harness := (true, "1a5f35cf4ad61f5091049fac8d92789c14c1aa9f857dac1b57aa7f1fd73c9bf5"), looks := false }, kinds := [], alts := [], laidByText := true, laidKinds := [.data, .data, .data, .data, .data], laidTests := true, laidLooks := .later }
def FnProgLinesUptoCardSaid : Prop := Claim7.holds Tryz.pinned (.plain (OpenSpec.upto fnProgLinesSpec)) fnProgLinesUptoCard

/-- THE SECOND FORM's CARD OF 'laws.FnProgSame'. -/
def fnProgSameUptoCard : Claim7 := { stood := { row := fnProgSameUptoRow, standIns := [], harness := (true, "1a5f35cf4ad61f5091049fac8d92789c14c1aa9f857dac1b57aa7f1fd73c9bf5"), looks := false }, kinds := [], alts := [], laidByText := true, laidKinds := [.data, .data, .data, .data, .data], laidTests := true, laidLooks := .later }
def FnProgSameUptoCardSaid : Prop := Claim7.holds Tryz.pinned (.plain (OpenSpec.upto fnProgSameSpec)) fnProgSameUptoCard

/-- THE SECOND FORM's CARD OF 'laws.FnBinApart'. -/
def fnBinApartUptoCard : Claim7 := { stood := { row := fnBinApartUptoRow, standIns := [], harness := (true, "1a5f35cf4ad61f5091049fac8d92789c14c1aa9f857dac1b57aa7f1fd73c9bf5"), looks := false }, kinds := [], alts := [], laidByText := true, laidKinds := [.data, .data, .data, .data, .data], laidTests := true, laidLooks := .later }
def FnBinApartUptoCardSaid : Prop := Claim7.holds Tryz.pinned (.plain (OpenSpec.upto fnBinApartSpec)) fnBinApartUptoCard
end Rows
end Go.Proofs.YtblliefejffhoaaGreatDoor
