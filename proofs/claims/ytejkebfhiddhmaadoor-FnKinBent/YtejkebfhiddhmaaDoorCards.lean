/-
  DERIVED. GIVEN WITH THE SEED: THE CARDS: each row of YtejkebfhiddhmaaDoorRows.lean that lists a variable, with what it lists TIED to the program's text (the seventh form; the later family's looks); each row that meets fmt, with fmt's text TOLD by the authors' own Lean function (tested against real Go, not proved from fmt's source: count such statements apart). THE CARD IS WHAT COUNTS. Prove the row's statement (the work); the ties are given (YtejkebfhiddhmaaDoorTie.lean); close each card by the builder's one call (the guide's Derived/Test/ToyasCard.lean, 'card_holds'). Laid BY PROGRAM, IN A SANDBOX (cutbox-door.mjs). By AI agents, Wed Nov 11 2026. No macro, syntax, notation, axiom, sorry.
-/
import Derived.Test.YtejkebfhiddhmaaDoorRows
import GoSem.ClaimSeven
namespace Go.Proofs.YtejkebfhiddhmaaDoor
namespace Rows

/-- THE TIED CARD OF 'laws.FnKin'. -/
def fnKinCard : Claim7 := { stood := { row := fnKinRow, standIns := [], harness := (true, "7e1edb46eab2b3db6933c45d87e21dfa7c783a4231a7eb9a5084d6579cebf25c"), looks := false }, kinds := [], alts := [], laidByText := true, laidKinds := [.data, .data, .data], laidTests := true, laidLooks := .later }
def FnKinCardSaid : Prop := Claim7.holds Tryd.pinned (.plain (OpenSpec.ofChange fnKinSpec)) fnKinCard

/-- THE TIED CARD OF 'laws.FnKinSame'. -/
def fnKinSameCard : Claim7 := { stood := { row := fnKinSameRow, standIns := [], harness := (true, "7e1edb46eab2b3db6933c45d87e21dfa7c783a4231a7eb9a5084d6579cebf25c"), looks := false }, kinds := [], alts := [], laidByText := true, laidKinds := [.data, .data, .data], laidTests := true, laidLooks := .later }
def FnKinSameCardSaid : Prop := Claim7.holds Tryd.pinned (.plain (OpenSpec.ofChange fnKinSameSpec)) fnKinSameCard

/-- THE TIED CARD OF 'laws.FnKinTwin'. -/
def fnKinTwinCard : Claim7 := { stood := { row := fnKinTwinRow, standIns := [], harness := (true, "7e1edb46eab2b3db6933c45d87e21dfa7c783a4231a7eb9a5084d6579cebf25c"), looks := false }, kinds := [], alts := [], laidByText := true, laidKinds := [.data, .data, .data], laidTests := true, laidLooks := .later }
def FnKinTwinCardSaid : Prop := Claim7.holds Tryd.pinned (.plain (OpenSpec.ofChange fnKinTwinSpec)) fnKinTwinCard

/-- THE TIED CARD OF 'laws.FnKinUnder'. -/
def fnKinUnderCard : Claim7 := { stood := { row := fnKinUnderRow, standIns := [], harness := (true, "7e1edb46eab2b3db6933c45d87e21dfa7c783a4231a7eb9a5084d6579cebf25c"), looks := false }, kinds := [], alts := [], laidByText := true, laidKinds := [.data, .data, .data], laidTests := true, laidLooks := .later }
def FnKinUnderCardSaid : Prop := Claim7.holds Tryd.pinned (.plain (OpenSpec.ofChange fnKinUnderSpec)) fnKinUnderCard

/-- THE TIED CARD OF 'laws.FnKinLine'. -/
def fnKinLineCard : Claim7 := { stood := { row := fnKinLineRow, standIns := [], harness := (true, "7e1edb46eab2b3db6933c45d87e21dfa7c783a4231a7eb9a5084d6579cebf25c"), looks := false }, kinds := [], alts := [], laidByText := true, laidKinds := [.data, .data, .data], laidTests := true, laidLooks := .later }
def FnKinLineCardSaid : Prop := Claim7.holds Tryd.pinned (.plain (OpenSpec.ofChange fnKinLineSpec)) fnKinLineCard

/-- THE TIED CARD OF 'laws.FnKinFields'. -/
def fnKinFieldsCard : Claim7 := { stood := { row := fnKinFieldsRow, standIns := [], harness := (true, "7e1edb46eab2b3db6933c45d87e21dfa7c783a4231a7eb9a5084d6579cebf25c"), looks := false }, kinds := [], alts := [], laidByText := true, laidKinds := [.data, .data, .data], laidTests := true, laidLooks := .later }
def FnKinFieldsCardSaid : Prop := Claim7.holds Tryd.pinned (.plain (OpenSpec.ofChange fnKinFieldsSpec)) fnKinFieldsCard

/-- THE TIED CARD OF 'laws.FnFieldUnder'. -/
def fnFieldUnderCard : Claim7 := { stood := { row := fnFieldUnderRow, standIns := [], harness := (true, "7e1edb46eab2b3db6933c45d87e21dfa7c783a4231a7eb9a5084d6579cebf25c"), looks := false }, kinds := [], alts := [], laidByText := true, laidKinds := [.data, .data, .data], laidTests := true, laidLooks := .later }
def FnFieldUnderCardSaid : Prop := Claim7.holds Tryd.pinned (.plain (OpenSpec.ofChange fnFieldUnderSpec)) fnFieldUnderCard

/-- THE TIED CARD OF 'laws.FnKinCut'. -/
def fnKinCutCard : Claim7 := { stood := { row := fnKinCutRow, standIns := [], harness := (true, "7e1edb46eab2b3db6933c45d87e21dfa7c783a4231a7eb9a5084d6579cebf25c"), looks := false }, kinds := [], alts := [], laidByText := true, laidKinds := [.data, .data, .data], laidTests := true, laidLooks := .later }
def FnKinCutCardSaid : Prop := Claim7.holds Tryd.pinned (.plain (OpenSpec.ofChange fnKinCutSpec)) fnKinCutCard

/-- THE TIED CARD OF 'laws.FnKinBent'. -/
def fnKinBentCard : Claim7 := { stood := { row := fnKinBentRow, standIns := [], harness := (true, "7e1edb46eab2b3db6933c45d87e21dfa7c783a4231a7eb9a5084d6579cebf25c"), looks := false }, kinds := [], alts := [], laidByText := true, laidKinds := [.data, .data, .data], laidTests := true, laidLooks := .later }
def FnKinBentCardSaid : Prop := Claim7.holds Tryd.pinned (.plain (OpenSpec.ofChange fnKinBentSpec)) fnKinBentCard

/-- THE TIED CARD OF 'laws.FnKinUp'. -/
def fnKinUpCard : Claim7 := { stood := { row := fnKinUpRow, standIns := [], harness := (true, "7e1edb46eab2b3db6933c45d87e21dfa7c783a4231a7eb9a5084d6579cebf25c"), looks := false }, kinds := [], alts := [], laidByText := true, laidKinds := [.data, .data, .data], laidTests := true, laidLooks := .later }
def FnKinUpCardSaid : Prop := Claim7.holds Tryd.pinned (.plain (OpenSpec.ofChange fnKinUpSpec)) fnKinUpCard

/-- THE TIED CARD OF 'laws.FnKinMore'. -/
def fnKinMoreCard : Claim7 := { stood := { row := fnKinMoreRow, standIns := [], harness := (true, "7e1edb46eab2b3db6933c45d87e21dfa7c783a4231a7eb9a5084d6579cebf25c"), looks := false }, kinds := [], alts := [], laidByText := true, laidKinds := [.data, .data, .data], laidTests := true, laidLooks := .later }
def FnKinMoreCardSaid : Prop := Claim7.holds Tryd.pinned (.plain (OpenSpec.ofChange fnKinMoreSpec)) fnKinMoreCard

/-- THE SECOND FORM's CARD OF 'laws.FnKin'. -/
def fnKinUptoCard : Claim7 := { stood := { row := fnKinUptoRow, standIns := [], harness := (true, "7e1edb46eab2b3db6933c45d87e21dfa7c783a4231a7eb9a5084d6579cebf25c"), looks := false }, kinds := [], alts := [], laidByText := true, laidKinds := [.data, .data, .data], laidTests := true, laidLooks := .later }
def FnKinUptoCardSaid : Prop := Claim7.holds Tryd.pinned (.plain (OpenSpec.upto fnKinSpec)) fnKinUptoCard

/-- THE SECOND FORM's CARD OF 'laws.FnKinSame'. -/
def fnKinSameUptoCard : Claim7 := { stood := { row := fnKinSameUptoRow, standIns := [], harness := (true, "7e1edb46eab2b3db6933c45d87e21dfa7c783a4231a7eb9a5084d6579cebf25c"), looks := false }, kinds := [], alts := [], laidByText := true, laidKinds := [.data, .data, .data], laidTests := true, laidLooks := .later }
def FnKinSameUptoCardSaid : Prop := Claim7.holds Tryd.pinned (.plain (OpenSpec.upto fnKinSameSpec)) fnKinSameUptoCard

/-- THE SECOND FORM's CARD OF 'laws.FnKinTwin'. -/
def fnKinTwinUptoCard : Claim7 := { stood := { row := fnKinTwinUptoRow, standIns := [], harness := (true, "7e1edb46eab2b3db6933c45d87e21dfa7c783a4231a7eb9a5084d6579cebf25c"), looks := false }, kinds := [], alts := [], laidByText := true, laidKinds := [.data, .data, .data], laidTests := true, laidLooks := .later }
def FnKinTwinUptoCardSaid : Prop := Claim7.holds Tryd.pinned (.plain (OpenSpec.upto fnKinTwinSpec)) fnKinTwinUptoCard

/-- THE SECOND FORM's CARD OF 'laws.FnKinUnder'. -/
def fnKinUnderUptoCard : Claim7 := { stood := { row := fnKinUnderUptoRow, standIns := [], harness := (true, "7e1edb46eab2b3db6933c45d87e21dfa7c783a4231a7eb9a5084d6579cebf25c"), looks := false }, kinds := [], alts := [], laidByText := true, laidKinds := [.data, .data, .data], laidTests := true, laidLooks := .later }
def FnKinUnderUptoCardSaid : Prop := Claim7.holds Tryd.pinned (.plain (OpenSpec.upto fnKinUnderSpec)) fnKinUnderUptoCard

/-- THE SECOND FORM's CARD OF 'laws.FnKinLine'. -/
def fnKinLineUptoCard : Claim7 := { stood := { row := fnKinLineUptoRow, standIns := [], harness := (true, "7e1edb46eab2b3db6933c45d87e21dfa7c783a4231a7eb9a5084d6579cebf25c"), looks := false }, kinds := [], alts := [], laidByText := true, laidKinds := [.data, .data, .data], laidTests := true, laidLooks := .later }
def FnKinLineUptoCardSaid : Prop := Claim7.holds Tryd.pinned (.plain (OpenSpec.upto fnKinLineSpec)) fnKinLineUptoCard

/-- THE SECOND FORM's CARD OF 'laws.FnKinFields'. -/
def fnKinFieldsUptoCard : Claim7 := { stood := { row := fnKinFieldsUptoRow, standIns := [], harness := (true, "7e1edb46eab2b3db6933c45d87e21dfa7c783a4231a7eb9a5084d6579cebf25c"), looks := false }, kinds := [], alts := [], laidByText := true, laidKinds := [.data, .data, .data], laidTests := true, laidLooks := .later }
def FnKinFieldsUptoCardSaid : Prop := Claim7.holds Tryd.pinned (.plain (OpenSpec.upto fnKinFieldsSpec)) fnKinFieldsUptoCard

/-- THE SECOND FORM's CARD OF 'laws.FnFieldUnder'. -/
def fnFieldUnderUptoCard : Claim7 := { stood := { row := fnFieldUnderUptoRow, standIns := [], harness := (true, "7e1edb46eab2b3db6933c45d87e21dfa7c783a4231a7eb9a5084d6579cebf25c"), looks := false }, kinds := [], alts := [], laidByText := true, laidKinds := [.data, .data, .data], laidTests := true, laidLooks := .later }
def FnFieldUnderUptoCardSaid : Prop := Claim7.holds Tryd.pinned (.plain (OpenSpec.upto fnFieldUnderSpec)) fnFieldUnderUptoCard

/-- THE SECOND FORM's CARD OF 'laws.FnKinCut'. -/
def fnKinCutUptoCard : Claim7 := { stood := { row := fnKinCutUptoRow, standIns := [], harness := (true, "7e1edb46eab2b3db6933c45d87e21dfa7c783a4231a7eb9a5084d6579cebf25c"), looks := false }, kinds := [], alts := [], laidByText := true, laidKinds := [.data, .data, .data], laidTests := true, laidLooks := .later }
def FnKinCutUptoCardSaid : Prop := Claim7.holds Tryd.pinned (.plain (OpenSpec.upto fnKinCutSpec)) fnKinCutUptoCard

/-- THE SECOND FORM's CARD OF 'laws.FnKinBent'. -/
def fnKinBentUptoCard : Claim7 := { stood := { row := fnKinBentUptoRow, standIns := [], harness := (true, "7e1edb46eab2b3db6933c45d87e21dfa7c783a4231a7eb9a5084d6579cebf25c"), looks := false }, kinds := [], alts := [], laidByText := true, laidKinds := [.data, .data, .data], laidTests := true, laidLooks := .later }
def FnKinBentUptoCardSaid : Prop := Claim7.holds Tryd.pinned (.plain (OpenSpec.upto fnKinBentSpec)) fnKinBentUptoCard

/-- THE SECOND FORM's CARD OF 'laws.FnKinUp'. -/
def fnKinUpUptoCard : Claim7 := { stood := { row := fnKinUpUptoRow, standIns := [], harness := (true, "7e1edb46eab2b3db6933c45d87e21dfa7c783a4231a7eb9a5084d6579cebf25c"), looks := false }, kinds := [], alts := [], laidByText := true, laidKinds := [.data, .data, .data], laidTests := true, laidLooks := .later }
def FnKinUpUptoCardSaid : Prop := Claim7.holds Tryd.pinned (.plain (OpenSpec.upto fnKinUpSpec)) fnKinUpUptoCard

/-- THE SECOND FORM's CARD OF 'laws.FnKinMore'. -/
def fnKinMoreUptoCard : Claim7 := { stood := { row := fnKinMoreUptoRow, standIns := [], harness := (true, "7e1edb46eab2b3db6933c45d87e21dfa7c783a4231a7eb9a5084d6579cebf25c"), looks := false }, kinds := [], alts := [], laidByText := true, laidKinds := [.data, .data, .data], laidTests := true, laidLooks := .later }
def FnKinMoreUptoCardSaid : Prop := Claim7.holds Tryd.pinned (.plain (OpenSpec.upto fnKinMoreSpec)) fnKinMoreUptoCard
end Rows
end Go.Proofs.YtejkebfhiddhmaaDoor
