/-
  DERIVED. GIVEN WITH THE SEED: THE CARDS: each row of YtpkfihliconenaaDoorRows.lean that lists a variable, with what it lists TIED to the program's text (the seventh form; the later family's looks); each row that meets fmt, with fmt's text TOLD by the authors' own Lean function (tested against real Go, not proved from fmt's source: count such statements apart). THE CARD IS WHAT COUNTS. Prove the row's statement (the work); the ties are given (YtpkfihliconenaaDoorTie.lean); close each card by the builder's one call (the guide's Derived/Test/ToyasCard.lean, 'card_holds'). Laid BY PROGRAM, IN A SANDBOX (cutbox-door.mjs). By AI agents, Wed Nov 11 2026. No macro, syntax, notation, axiom, sorry.
-/
import Derived.Test.YtpkfihliconenaaDoorRows
import GoSem.ClaimSeven
namespace Go.Proofs.YtpkfihliconenaaDoor
namespace Rows

/-- THE TIED CARD OF 'laws.FnExactKinOk'. -/
def fnExactKinOkCard : Claim7 := { stood := { row := fnExactKinOkRow, standIns := [], harness := (true, "ac22a94a1f42dfaa2b41f29e7ebe56a1179876d79b480cf8369f21a91329a21f"), looks := false }, kinds := [], alts := [], laidByText := true, laidKinds := [.data, .data, .data], laidTests := true, laidLooks := .later }
def FnExactKinOkCardSaid : Prop := Claim7.holds Tryd.pinned (.plain (OpenSpec.ofChange fnExactKinOkSpec)) fnExactKinOkCard

/-- THE TIED CARD OF 'laws.FnExactKinSame'. -/
def fnExactKinSameCard : Claim7 := { stood := { row := fnExactKinSameRow, standIns := [], harness := (true, "ac22a94a1f42dfaa2b41f29e7ebe56a1179876d79b480cf8369f21a91329a21f"), looks := false }, kinds := [], alts := [], laidByText := true, laidKinds := [.data, .data, .data], laidTests := true, laidLooks := .later }
def FnExactKinSameCardSaid : Prop := Claim7.holds Tryd.pinned (.plain (OpenSpec.ofChange fnExactKinSameSpec)) fnExactKinSameCard

/-- THE TIED CARD OF 'laws.FnExactKinUnder'. -/
def fnExactKinUnderCard : Claim7 := { stood := { row := fnExactKinUnderRow, standIns := [], harness := (true, "ac22a94a1f42dfaa2b41f29e7ebe56a1179876d79b480cf8369f21a91329a21f"), looks := false }, kinds := [], alts := [], laidByText := true, laidKinds := [.data, .data, .data], laidTests := true, laidLooks := .later }
def FnExactKinUnderCardSaid : Prop := Claim7.holds Tryd.pinned (.plain (OpenSpec.ofChange fnExactKinUnderSpec)) fnExactKinUnderCard

/-- THE TIED CARD OF 'laws.FnExactKinCanon'. -/
def fnExactKinCanonCard : Claim7 := { stood := { row := fnExactKinCanonRow, standIns := [], harness := (true, "ac22a94a1f42dfaa2b41f29e7ebe56a1179876d79b480cf8369f21a91329a21f"), looks := false }, kinds := [], alts := [], laidByText := true, laidKinds := [.data, .data, .data], laidTests := true, laidLooks := .later }
def FnExactKinCanonCardSaid : Prop := Claim7.holds Tryd.pinned (.plain (OpenSpec.ofChange fnExactKinCanonSpec)) fnExactKinCanonCard

/-- THE TIED CARD OF 'laws.FnExactKinLine'. -/
def fnExactKinLineCard : Claim7 := { stood := { row := fnExactKinLineRow, standIns := [], harness := (true, "ac22a94a1f42dfaa2b41f29e7ebe56a1179876d79b480cf8369f21a91329a21f"), looks := false }, kinds := [], alts := [], laidByText := true, laidKinds := [.data, .data, .data], laidTests := true, laidLooks := .later }
def FnExactKinLineCardSaid : Prop := Claim7.holds Tryd.pinned (.plain (OpenSpec.ofChange fnExactKinLineSpec)) fnExactKinLineCard

/-- THE TIED CARD OF 'laws.FnExactFieldUnder'. -/
def fnExactFieldUnderCard : Claim7 := { stood := { row := fnExactFieldUnderRow, standIns := [], harness := (true, "ac22a94a1f42dfaa2b41f29e7ebe56a1179876d79b480cf8369f21a91329a21f"), looks := false }, kinds := [], alts := [], laidByText := true, laidKinds := [.data, .data, .data], laidTests := true, laidLooks := .later }
def FnExactFieldUnderCardSaid : Prop := Claim7.holds Tryd.pinned (.plain (OpenSpec.ofChange fnExactFieldUnderSpec)) fnExactFieldUnderCard

/-- THE SECOND FORM's CARD OF 'laws.FnExactKinOk'. -/
def fnExactKinOkUptoCard : Claim7 := { stood := { row := fnExactKinOkUptoRow, standIns := [], harness := (true, "ac22a94a1f42dfaa2b41f29e7ebe56a1179876d79b480cf8369f21a91329a21f"), looks := false }, kinds := [], alts := [], laidByText := true, laidKinds := [.data, .data, .data], laidTests := true, laidLooks := .later }
def FnExactKinOkUptoCardSaid : Prop := Claim7.holds Tryd.pinned (.plain (OpenSpec.upto fnExactKinOkSpec)) fnExactKinOkUptoCard

/-- THE SECOND FORM's CARD OF 'laws.FnExactKinSame'. -/
def fnExactKinSameUptoCard : Claim7 := { stood := { row := fnExactKinSameUptoRow, standIns := [], harness := (true, "ac22a94a1f42dfaa2b41f29e7ebe56a1179876d79b480cf8369f21a91329a21f"), looks := false }, kinds := [], alts := [], laidByText := true, laidKinds := [.data, .data, .data], laidTests := true, laidLooks := .later }
def FnExactKinSameUptoCardSaid : Prop := Claim7.holds Tryd.pinned (.plain (OpenSpec.upto fnExactKinSameSpec)) fnExactKinSameUptoCard

/-- THE SECOND FORM's CARD OF 'laws.FnExactKinUnder'. -/
def fnExactKinUnderUptoCard : Claim7 := { stood := { row := fnExactKinUnderUptoRow, standIns := [], harness := (true, "ac22a94a1f42dfaa2b41f29e7ebe56a1179876d79b480cf8369f21a91329a21f"), looks := false }, kinds := [], alts := [], laidByText := true, laidKinds := [.data, .data, .data], laidTests := true, laidLooks := .later }
def FnExactKinUnderUptoCardSaid : Prop := Claim7.holds Tryd.pinned (.plain (OpenSpec.upto fnExactKinUnderSpec)) fnExactKinUnderUptoCard

/-- THE SECOND FORM's CARD OF 'laws.FnExactKinCanon'. -/
def fnExactKinCanonUptoCard : Claim7 := { stood := { row := fnExactKinCanonUptoRow, standIns := [], harness := (true, "ac22a94a1f42dfaa2b41f29e7ebe56a1179876d79b480cf8369f21a91329a21f"), looks := false }, kinds := [], alts := [], laidByText := true, laidKinds := [.data, .data, .data], laidTests := true, laidLooks := .later }
def FnExactKinCanonUptoCardSaid : Prop := Claim7.holds Tryd.pinned (.plain (OpenSpec.upto fnExactKinCanonSpec)) fnExactKinCanonUptoCard

/-- THE SECOND FORM's CARD OF 'laws.FnExactKinLine'. -/
def fnExactKinLineUptoCard : Claim7 := { stood := { row := fnExactKinLineUptoRow, standIns := [], harness := (true, "ac22a94a1f42dfaa2b41f29e7ebe56a1179876d79b480cf8369f21a91329a21f"), looks := false }, kinds := [], alts := [], laidByText := true, laidKinds := [.data, .data, .data], laidTests := true, laidLooks := .later }
def FnExactKinLineUptoCardSaid : Prop := Claim7.holds Tryd.pinned (.plain (OpenSpec.upto fnExactKinLineSpec)) fnExactKinLineUptoCard

/-- THE SECOND FORM's CARD OF 'laws.FnExactFieldUnder'. -/
def fnExactFieldUnderUptoCard : Claim7 := { stood := { row := fnExactFieldUnderUptoRow, standIns := [], harness := (true, "ac22a94a1f42dfaa2b41f29e7ebe56a1179876d79b480cf8369f21a91329a21f"), looks := false }, kinds := [], alts := [], laidByText := true, laidKinds := [.data, .data, .data], laidTests := true, laidLooks := .later }
def FnExactFieldUnderUptoCardSaid : Prop := Claim7.holds Tryd.pinned (.plain (OpenSpec.upto fnExactFieldUnderSpec)) fnExactFieldUnderUptoCard
end Rows
end Go.Proofs.YtpkfihliconenaaDoor
