/-
  DERIVED. GIVEN WITH THE SEED: THE CARDS: each row of YtbcooiifpfdiaaaDoorRows.lean that lists a variable, with what it lists TIED to the program's text (the seventh form; the later family's looks); each row that meets fmt, with fmt's text TOLD by the authors' own Lean function (tested against real Go, not proved from fmt's source: count such statements apart). THE CARD IS WHAT COUNTS. Prove the row's statement (the work); the ties are given (YtbcooiifpfdiaaaDoorTie.lean); close each card by the builder's one call (the guide's Derived/Test/ToyasCard.lean, 'card_holds'). Laid BY PROGRAM, IN A SANDBOX (cutbox-door.mjs). By AI agents, Wed Nov 11 2026. No macro, syntax, notation, axiom, sorry.
-/
import Derived.Test.YtbcooiifpfdiaaaDoorRows
import GoSem.ClaimSeven
namespace Go.Proofs.YtbcooiifpfdiaaaDoor
namespace Rows

/-- THE TIED CARD OF 'laws.FnFlags'. -/
def fnFlagsCard : Claim7 := { stood := { row := fnFlagsRow, standIns := [], harness := (true, "3d68f63c9c519bf94dbf343ba904d3ae6aa0c12f0f4b7e76c49ae066a633fb7b"), looks := false }, kinds := [], alts := [], laidByText := true, laidKinds := [.data], laidTests := true, laidLooks := .later }
def FnFlagsCardSaid : Prop := Claim7.holds Tryd.pinned (.plain (OpenSpec.ofChange fnFlagsSpec)) fnFlagsCard

/-- THE TIED CARD OF 'laws.FnFlagsText'. -/
def fnFlagsTextCard : Claim7 := { stood := { row := fnFlagsTextRow, standIns := [], harness := (true, "3d68f63c9c519bf94dbf343ba904d3ae6aa0c12f0f4b7e76c49ae066a633fb7b"), looks := false }, kinds := [], alts := [], laidByText := true, laidKinds := [.data], laidTests := true, laidLooks := .later }
def FnFlagsTextCardSaid : Prop := Claim7.holds Tryd.pinned (.plain (OpenSpec.ofChange fnFlagsTextSpec)) fnFlagsTextCard

/-- THE TIED CARD OF 'laws.FnFlagsParse'. -/
def fnFlagsParseCard : Claim7 := { stood := { row := fnFlagsParseRow, standIns := [], harness := (true, "3d68f63c9c519bf94dbf343ba904d3ae6aa0c12f0f4b7e76c49ae066a633fb7b"), looks := false }, kinds := [], alts := [], laidByText := true, laidKinds := [.data], laidTests := true, laidLooks := .later }
def FnFlagsParseCardSaid : Prop := Claim7.holds Tryd.pinned (.plain (OpenSpec.ofChange fnFlagsParseSpec)) fnFlagsParseCard

/-- THE TIED CARD OF 'laws.FnFlagsTwice'. -/
def fnFlagsTwiceCard : Claim7 := { stood := { row := fnFlagsTwiceRow, standIns := [], harness := (true, "3d68f63c9c519bf94dbf343ba904d3ae6aa0c12f0f4b7e76c49ae066a633fb7b"), looks := false }, kinds := [], alts := [], laidByText := true, laidKinds := [.data], laidTests := true, laidLooks := .later }
def FnFlagsTwiceCardSaid : Prop := Claim7.holds Tryd.pinned (.plain (OpenSpec.ofChange fnFlagsTwiceSpec)) fnFlagsTwiceCard

/-- THE TIED CARD OF 'laws.FnFlagsOrder'. -/
def fnFlagsOrderCard : Claim7 := { stood := { row := fnFlagsOrderRow, standIns := [], harness := (true, "3d68f63c9c519bf94dbf343ba904d3ae6aa0c12f0f4b7e76c49ae066a633fb7b"), looks := false }, kinds := [], alts := [], laidByText := true, laidKinds := [.data], laidTests := true, laidLooks := .later }
def FnFlagsOrderCardSaid : Prop := Claim7.holds Tryd.pinned (.plain (OpenSpec.ofChange fnFlagsOrderSpec)) fnFlagsOrderCard

/-- THE TIED CARD OF 'laws.FnChangeBad'. -/
def fnChangeBadCard : Claim7 := { stood := { row := fnChangeBadRow, standIns := [], harness := (true, "3d68f63c9c519bf94dbf343ba904d3ae6aa0c12f0f4b7e76c49ae066a633fb7b"), looks := false }, kinds := [], alts := [], laidByText := true, laidKinds := [.data], laidTests := true, laidLooks := .later }
def FnChangeBadCardSaid : Prop := Claim7.holds Tryd.pinned (.plain (OpenSpec.ofChange fnChangeBadSpec)) fnChangeBadCard

/-- THE TIED CARD OF 'laws.FnHaveSelf'. -/
def fnHaveSelfCard : Claim7 := { stood := { row := fnHaveSelfRow, standIns := [], harness := (true, "3d68f63c9c519bf94dbf343ba904d3ae6aa0c12f0f4b7e76c49ae066a633fb7b"), looks := false }, kinds := [], alts := [], laidByText := true, laidKinds := [.data], laidTests := true, laidLooks := .later }
def FnHaveSelfCardSaid : Prop := Claim7.holds Tryd.pinned (.plain (OpenSpec.ofChange fnHaveSelfSpec)) fnHaveSelfCard

/-- THE TIED CARD OF 'laws.FnExactFlagsText'. -/
def fnExactFlagsTextCard : Claim7 := { stood := { row := fnExactFlagsTextRow, standIns := [], harness := (true, "3d68f63c9c519bf94dbf343ba904d3ae6aa0c12f0f4b7e76c49ae066a633fb7b"), looks := false }, kinds := [], alts := [], laidByText := true, laidKinds := [.data], laidTests := true, laidLooks := .later }
def FnExactFlagsTextCardSaid : Prop := Claim7.holds Tryd.pinned (.plain (OpenSpec.ofChange fnExactFlagsTextSpec)) fnExactFlagsTextCard

/-- THE TIED CARD OF 'laws.FnExactFlagsParse'. -/
def fnExactFlagsParseCard : Claim7 := { stood := { row := fnExactFlagsParseRow, standIns := [], harness := (true, "3d68f63c9c519bf94dbf343ba904d3ae6aa0c12f0f4b7e76c49ae066a633fb7b"), looks := false }, kinds := [], alts := [], laidByText := true, laidKinds := [.data], laidTests := true, laidLooks := .later }
def FnExactFlagsParseCardSaid : Prop := Claim7.holds Tryd.pinned (.plain (OpenSpec.ofChange fnExactFlagsParseSpec)) fnExactFlagsParseCard

/-- THE SECOND FORM's CARD OF 'laws.FnFlags'. -/
def fnFlagsUptoCard : Claim7 := { stood := { row := fnFlagsUptoRow, standIns := [], harness := (true, "3d68f63c9c519bf94dbf343ba904d3ae6aa0c12f0f4b7e76c49ae066a633fb7b"), looks := false }, kinds := [], alts := [], laidByText := true, laidKinds := [.data], laidTests := true, laidLooks := .later }
def FnFlagsUptoCardSaid : Prop := Claim7.holds Tryd.pinned (.plain (OpenSpec.upto fnFlagsSpec)) fnFlagsUptoCard

/-- THE SECOND FORM's CARD OF 'laws.FnFlagsText'. -/
def fnFlagsTextUptoCard : Claim7 := { stood := { row := fnFlagsTextUptoRow, standIns := [], harness := (true, "3d68f63c9c519bf94dbf343ba904d3ae6aa0c12f0f4b7e76c49ae066a633fb7b"), looks := false }, kinds := [], alts := [], laidByText := true, laidKinds := [.data], laidTests := true, laidLooks := .later }
def FnFlagsTextUptoCardSaid : Prop := Claim7.holds Tryd.pinned (.plain (OpenSpec.upto fnFlagsTextSpec)) fnFlagsTextUptoCard

/-- THE SECOND FORM's CARD OF 'laws.FnFlagsParse'. -/
def fnFlagsParseUptoCard : Claim7 := { stood := { row := fnFlagsParseUptoRow, standIns := [], harness := (true, "3d68f63c9c519bf94dbf343ba904d3ae6aa0c12f0f4b7e76c49ae066a633fb7b"), looks := false }, kinds := [], alts := [], laidByText := true, laidKinds := [.data], laidTests := true, laidLooks := .later }
def FnFlagsParseUptoCardSaid : Prop := Claim7.holds Tryd.pinned (.plain (OpenSpec.upto fnFlagsParseSpec)) fnFlagsParseUptoCard

/-- THE SECOND FORM's CARD OF 'laws.FnFlagsTwice'. -/
def fnFlagsTwiceUptoCard : Claim7 := { stood := { row := fnFlagsTwiceUptoRow, standIns := [], harness := (true, "3d68f63c9c519bf94dbf343ba904d3ae6aa0c12f0f4b7e76c49ae066a633fb7b"), looks := false }, kinds := [], alts := [], laidByText := true, laidKinds := [.data], laidTests := true, laidLooks := .later }
def FnFlagsTwiceUptoCardSaid : Prop := Claim7.holds Tryd.pinned (.plain (OpenSpec.upto fnFlagsTwiceSpec)) fnFlagsTwiceUptoCard

/-- THE SECOND FORM's CARD OF 'laws.FnFlagsOrder'. -/
def fnFlagsOrderUptoCard : Claim7 := { stood := { row := fnFlagsOrderUptoRow, standIns := [], harness := (true, "3d68f63c9c519bf94dbf343ba904d3ae6aa0c12f0f4b7e76c49ae066a633fb7b"), looks := false }, kinds := [], alts := [], laidByText := true, laidKinds := [.data], laidTests := true, laidLooks := .later }
def FnFlagsOrderUptoCardSaid : Prop := Claim7.holds Tryd.pinned (.plain (OpenSpec.upto fnFlagsOrderSpec)) fnFlagsOrderUptoCard

/-- THE SECOND FORM's CARD OF 'laws.FnChangeBad'. -/
def fnChangeBadUptoCard : Claim7 := { stood := { row := fnChangeBadUptoRow, standIns := [], harness := (true, "3d68f63c9c519bf94dbf343ba904d3ae6aa0c12f0f4b7e76c49ae066a633fb7b"), looks := false }, kinds := [], alts := [], laidByText := true, laidKinds := [.data], laidTests := true, laidLooks := .later }
def FnChangeBadUptoCardSaid : Prop := Claim7.holds Tryd.pinned (.plain (OpenSpec.upto fnChangeBadSpec)) fnChangeBadUptoCard

/-- THE SECOND FORM's CARD OF 'laws.FnHaveSelf'. -/
def fnHaveSelfUptoCard : Claim7 := { stood := { row := fnHaveSelfUptoRow, standIns := [], harness := (true, "3d68f63c9c519bf94dbf343ba904d3ae6aa0c12f0f4b7e76c49ae066a633fb7b"), looks := false }, kinds := [], alts := [], laidByText := true, laidKinds := [.data], laidTests := true, laidLooks := .later }
def FnHaveSelfUptoCardSaid : Prop := Claim7.holds Tryd.pinned (.plain (OpenSpec.upto fnHaveSelfSpec)) fnHaveSelfUptoCard

/-- THE SECOND FORM's CARD OF 'laws.FnExactFlagsText'. -/
def fnExactFlagsTextUptoCard : Claim7 := { stood := { row := fnExactFlagsTextUptoRow, standIns := [], harness := (true, "3d68f63c9c519bf94dbf343ba904d3ae6aa0c12f0f4b7e76c49ae066a633fb7b"), looks := false }, kinds := [], alts := [], laidByText := true, laidKinds := [.data], laidTests := true, laidLooks := .later }
def FnExactFlagsTextUptoCardSaid : Prop := Claim7.holds Tryd.pinned (.plain (OpenSpec.upto fnExactFlagsTextSpec)) fnExactFlagsTextUptoCard

/-- THE SECOND FORM's CARD OF 'laws.FnExactFlagsParse'. -/
def fnExactFlagsParseUptoCard : Claim7 := { stood := { row := fnExactFlagsParseUptoRow, standIns := [], harness := (true, "3d68f63c9c519bf94dbf343ba904d3ae6aa0c12f0f4b7e76c49ae066a633fb7b"), looks := false }, kinds := [], alts := [], laidByText := true, laidKinds := [.data], laidTests := true, laidLooks := .later }
def FnExactFlagsParseUptoCardSaid : Prop := Claim7.holds Tryd.pinned (.plain (OpenSpec.upto fnExactFlagsParseSpec)) fnExactFlagsParseUptoCard
end Rows
end Go.Proofs.YtbcooiifpfdiaaaDoor
