/-
  DERIVED. GIVEN WITH THE SEED: THE CARDS: each row of YtnfigpknejmkmaaGreatDoorRows.lean that lists a variable, with what it lists TIED to the program's text (the seventh form; the later family's looks); each row that meets fmt, with fmt's text TOLD by the authors' own Lean function (tested against real Go, not proved from fmt's source: count such statements apart). THE CARD IS WHAT COUNTS. Prove the row's statement (the work); the ties are given (YtnfigpknejmkmaaGreatDoorTie.lean); close each card by the builder's one call (the guide's Derived/Test/ToyasCard.lean, 'card_holds'). Laid BY PROGRAM, IN A SANDBOX (cutbox-door.mjs). By AI agents, Wed Nov 11 2026. No macro, syntax, notation, axiom, sorry.
-/
import Derived.Test.YtnfigpknejmkmaaGreatDoorRows
import GoSem.ClaimSeven
namespace Go.Proofs.YtnfigpknejmkmaaGreatDoor
namespace Rows

/-- THE TIED CARD OF 'laws.FnKeyParse'. -/
def fnKeyParseCard : Claim7 := { stood := { row := fnKeyParseRow, standIns := [], harness := (true, "3e3dfa7c4629f6c694b83e549ef062de2d88e953ad55d42ac19b5dbbb6329e1f"), looks := true }, kinds := [], alts := [], laidByText := true, laidKinds := [.data, .data, .data, .pinned, .pinned], laidTests := true, laidLooks := .later }
def FnKeyParseCardSaid : Prop := Claim7.holds Tryz.pinned (.plain (OpenSpec.ofChange fnKeyParseSpec)) fnKeyParseCard

/-- THE TIED CARD OF 'laws.FnKeyBlank'. -/
def fnKeyBlankCard : Claim7 := { stood := { row := fnKeyBlankRow, standIns := [], harness := (true, "3e3dfa7c4629f6c694b83e549ef062de2d88e953ad55d42ac19b5dbbb6329e1f"), looks := true }, kinds := [], alts := [], laidByText := true, laidKinds := [.data, .data, .data, .pinned, .pinned], laidTests := true, laidLooks := .later }
def FnKeyBlankCardSaid : Prop := Claim7.holds Tryz.pinned (.plain (OpenSpec.ofChange fnKeyBlankSpec)) fnKeyBlankCard

/-- THE TIED CARD OF 'laws.FnExactKeyParse'. -/
def fnExactKeyParseCard : Claim7 := { stood := { row := fnExactKeyParseRow, standIns := [], harness := (true, "3e3dfa7c4629f6c694b83e549ef062de2d88e953ad55d42ac19b5dbbb6329e1f"), looks := true }, kinds := [], alts := [], laidByText := true, laidKinds := [.data, .data, .data, .pinned, .pinned], laidTests := true, laidLooks := .later }
def FnExactKeyParseCardSaid : Prop := Claim7.holds Tryz.pinned (.plain (OpenSpec.ofChange fnExactKeyParseSpec)) fnExactKeyParseCard

/-- THE TIED CARD OF 'laws.FnExactSearchBox'. -/
def fnExactSearchBoxCard : Claim7 := { stood := { row := fnExactSearchBoxRow, standIns := [], harness := (true, "3e3dfa7c4629f6c694b83e549ef062de2d88e953ad55d42ac19b5dbbb6329e1f"), looks := true }, kinds := [], alts := [], laidByText := true, laidKinds := [.data, .data, .data, .pinned, .pinned], laidTests := true, laidLooks := .later }
def FnExactSearchBoxCardSaid : Prop := Claim7.holds Tryz.pinned (.plain (OpenSpec.ofChange fnExactSearchBoxSpec)) fnExactSearchBoxCard

/-- THE SECOND FORM's CARD OF 'laws.FnKeyParse'. -/
def fnKeyParseUptoCard : Claim7 := { stood := { row := fnKeyParseUptoRow, standIns := [], harness := (true, "3e3dfa7c4629f6c694b83e549ef062de2d88e953ad55d42ac19b5dbbb6329e1f"), looks := true }, kinds := [], alts := [], laidByText := true, laidKinds := [.data, .data, .data, .pinned, .pinned], laidTests := true, laidLooks := .later }
def FnKeyParseUptoCardSaid : Prop := Claim7.holds Tryz.pinned (.plain (OpenSpec.upto fnKeyParseSpec)) fnKeyParseUptoCard

/-- THE SECOND FORM's CARD OF 'laws.FnKeyBlank'. -/
def fnKeyBlankUptoCard : Claim7 := { stood := { row := fnKeyBlankUptoRow, standIns := [], harness := (true, "3e3dfa7c4629f6c694b83e549ef062de2d88e953ad55d42ac19b5dbbb6329e1f"), looks := true }, kinds := [], alts := [], laidByText := true, laidKinds := [.data, .data, .data, .pinned, .pinned], laidTests := true, laidLooks := .later }
def FnKeyBlankUptoCardSaid : Prop := Claim7.holds Tryz.pinned (.plain (OpenSpec.upto fnKeyBlankSpec)) fnKeyBlankUptoCard

/-- THE SECOND FORM's CARD OF 'laws.FnExactKeyParse'. -/
def fnExactKeyParseUptoCard : Claim7 := { stood := { row := fnExactKeyParseUptoRow, standIns := [], harness := (true, "3e3dfa7c4629f6c694b83e549ef062de2d88e953ad55d42ac19b5dbbb6329e1f"), looks := true }, kinds := [], alts := [], laidByText := true, laidKinds := [.data, .data, .data, .pinned, .pinned], laidTests := true, laidLooks := .later }
def FnExactKeyParseUptoCardSaid : Prop := Claim7.holds Tryz.pinned (.plain (OpenSpec.upto fnExactKeyParseSpec)) fnExactKeyParseUptoCard

/-- THE SECOND FORM's CARD OF 'laws.FnExactSearchBox'. -/
def fnExactSearchBoxUptoCard : Claim7 := { stood := { row := fnExactSearchBoxUptoRow, standIns := [], harness := (true, "3e3dfa7c4629f6c694b83e549ef062de2d88e953ad55d42ac19b5dbbb6329e1f"), looks := true }, kinds := [], alts := [], laidByText := true, laidKinds := [.data, .data, .data, .pinned, .pinned], laidTests := true, laidLooks := .later }
def FnExactSearchBoxUptoCardSaid : Prop := Claim7.holds Tryz.pinned (.plain (OpenSpec.upto fnExactSearchBoxSpec)) fnExactSearchBoxUptoCard
end Rows
end Go.Proofs.YtnfigpknejmkmaaGreatDoor
