/-
  DERIVED. GIVEN WITH THE SEED: THE CARDS: each row of YtpihibconbejlaaDoorRows.lean that lists a variable, with what it lists TIED to the program's text (the seventh form; the later family's looks); each row that meets fmt, with fmt's text TOLD by the authors' own Lean function (tested against real Go, not proved from fmt's source: count such statements apart). THE CARD IS WHAT COUNTS. Prove the row's statement (the work); the ties are given (YtpihibconbejlaaDoorTie.lean); close each card by the builder's one call (the guide's Derived/Test/ToyasCard.lean, 'card_holds'). Laid BY PROGRAM, IN A SANDBOX (cutbox-door.mjs). By AI agents, Wed Nov 11 2026. No macro, syntax, notation, axiom, sorry.
-/
import Derived.Test.YtpihibconbejlaaDoorRows
import GoSem.ClaimSeven
namespace Go.Proofs.YtpihibconbejlaaDoor
namespace Rows

/-- THE TIED CARD OF 'laws.FnKeyFormat'. -/
def fnKeyFormatCard : Claim7 := { stood := { row := fnKeyFormatRow, standIns := [], harness := (true, "00523bf867bb87d86b027b5fe42b789cd57396f2449214dfc84ca65572303408"), looks := true }, kinds := [], alts := [], laidByText := true, laidKinds := [.data, .data, .data, .pinned, .pinned], laidTests := true, laidLooks := .later }
def FnKeyFormatCardSaid : Prop := Claim7.holds Tryd.pinned (.plain (OpenSpec.ofChange fnKeyFormatSpec)) fnKeyFormatCard

/-- THE TIED CARD OF 'laws.FnKeyNodes'. -/
def fnKeyNodesCard : Claim7 := { stood := { row := fnKeyNodesRow, standIns := [], harness := (true, "00523bf867bb87d86b027b5fe42b789cd57396f2449214dfc84ca65572303408"), looks := true }, kinds := [], alts := [], laidByText := true, laidKinds := [.data, .data, .data, .pinned, .pinned], laidTests := true, laidLooks := .later }
def FnKeyNodesCardSaid : Prop := Claim7.holds Tryd.pinned (.plain (OpenSpec.ofChange fnKeyNodesSpec)) fnKeyNodesCard

/-- THE TIED CARD OF 'laws.FnKeyFields'. -/
def fnKeyFieldsCard : Claim7 := { stood := { row := fnKeyFieldsRow, standIns := [], harness := (true, "00523bf867bb87d86b027b5fe42b789cd57396f2449214dfc84ca65572303408"), looks := true }, kinds := [], alts := [], laidByText := true, laidKinds := [.data, .data, .data, .pinned, .pinned], laidTests := true, laidLooks := .later }
def FnKeyFieldsCardSaid : Prop := Claim7.holds Tryd.pinned (.plain (OpenSpec.ofChange fnKeyFieldsSpec)) fnKeyFieldsCard

/-- THE TIED CARD OF 'laws.FnKeyParts'. -/
def fnKeyPartsCard : Claim7 := { stood := { row := fnKeyPartsRow, standIns := [], harness := (true, "00523bf867bb87d86b027b5fe42b789cd57396f2449214dfc84ca65572303408"), looks := true }, kinds := [], alts := [], laidByText := true, laidKinds := [.data, .data, .data, .pinned, .pinned], laidTests := true, laidLooks := .later }
def FnKeyPartsCardSaid : Prop := Claim7.holds Tryd.pinned (.plain (OpenSpec.ofChange fnKeyPartsSpec)) fnKeyPartsCard

/-- THE TIED CARD OF 'laws.FnSearch'. -/
def fnSearchCard : Claim7 := { stood := { row := fnSearchRow, standIns := [], harness := (true, "00523bf867bb87d86b027b5fe42b789cd57396f2449214dfc84ca65572303408"), looks := true }, kinds := [], alts := [], laidByText := true, laidKinds := [.data, .data, .data, .pinned, .pinned], laidTests := true, laidLooks := .later }
def FnSearchCardSaid : Prop := Claim7.holds Tryd.pinned (.plain (OpenSpec.ofChange fnSearchSpec)) fnSearchCard

/-- THE TIED CARD OF 'laws.FnSearchNot'. -/
def fnSearchNotCard : Claim7 := { stood := { row := fnSearchNotRow, standIns := [], harness := (true, "00523bf867bb87d86b027b5fe42b789cd57396f2449214dfc84ca65572303408"), looks := true }, kinds := [], alts := [], laidByText := true, laidKinds := [.data, .data, .data, .pinned, .pinned], laidTests := true, laidLooks := .later }
def FnSearchNotCardSaid : Prop := Claim7.holds Tryd.pinned (.plain (OpenSpec.ofChange fnSearchNotSpec)) fnSearchNotCard

/-- THE TIED CARD OF 'laws.FnSearchAnd'. -/
def fnSearchAndCard : Claim7 := { stood := { row := fnSearchAndRow, standIns := [], harness := (true, "00523bf867bb87d86b027b5fe42b789cd57396f2449214dfc84ca65572303408"), looks := true }, kinds := [], alts := [], laidByText := true, laidKinds := [.data, .data, .data, .pinned, .pinned], laidTests := true, laidLooks := .later }
def FnSearchAndCardSaid : Prop := Claim7.holds Tryd.pinned (.plain (OpenSpec.ofChange fnSearchAndSpec)) fnSearchAndCard

/-- THE TIED CARD OF 'laws.FnSearchOr'. -/
def fnSearchOrCard : Claim7 := { stood := { row := fnSearchOrRow, standIns := [], harness := (true, "00523bf867bb87d86b027b5fe42b789cd57396f2449214dfc84ca65572303408"), looks := true }, kinds := [], alts := [], laidByText := true, laidKinds := [.data, .data, .data, .pinned, .pinned], laidTests := true, laidLooks := .later }
def FnSearchOrCardSaid : Prop := Claim7.holds Tryd.pinned (.plain (OpenSpec.ofChange fnSearchOrSpec)) fnSearchOrCard

/-- THE TIED CARD OF 'laws.FnSearchOrder'. -/
def fnSearchOrderCard : Claim7 := { stood := { row := fnSearchOrderRow, standIns := [], harness := (true, "00523bf867bb87d86b027b5fe42b789cd57396f2449214dfc84ca65572303408"), looks := true }, kinds := [], alts := [], laidByText := true, laidKinds := [.data, .data, .data, .pinned, .pinned], laidTests := true, laidLooks := .later }
def FnSearchOrderCardSaid : Prop := Claim7.holds Tryd.pinned (.plain (OpenSpec.ofChange fnSearchOrderSpec)) fnSearchOrderCard

/-- THE TIED CARD OF 'laws.FnSearchMorgan'. -/
def fnSearchMorganCard : Claim7 := { stood := { row := fnSearchMorganRow, standIns := [], harness := (true, "00523bf867bb87d86b027b5fe42b789cd57396f2449214dfc84ca65572303408"), looks := true }, kinds := [], alts := [], laidByText := true, laidKinds := [.data, .data, .data, .pinned, .pinned], laidTests := true, laidLooks := .later }
def FnSearchMorganCardSaid : Prop := Claim7.holds Tryd.pinned (.plain (OpenSpec.ofChange fnSearchMorganSpec)) fnSearchMorganCard

/-- THE TIED CARD OF 'laws.FnSearchFlag'. -/
def fnSearchFlagCard : Claim7 := { stood := { row := fnSearchFlagRow, standIns := [], harness := (true, "00523bf867bb87d86b027b5fe42b789cd57396f2449214dfc84ca65572303408"), looks := true }, kinds := [], alts := [], laidByText := true, laidKinds := [.data, .data, .data, .pinned, .pinned], laidTests := true, laidLooks := .later }
def FnSearchFlagCardSaid : Prop := Claim7.holds Tryd.pinned (.plain (OpenSpec.ofChange fnSearchFlagSpec)) fnSearchFlagCard

/-- THE TIED CARD OF 'laws.FnSearchPlace'. -/
def fnSearchPlaceCard : Claim7 := { stood := { row := fnSearchPlaceRow, standIns := [], harness := (true, "00523bf867bb87d86b027b5fe42b789cd57396f2449214dfc84ca65572303408"), looks := true }, kinds := [], alts := [], laidByText := true, laidKinds := [.data, .data, .data, .pinned, .pinned], laidTests := true, laidLooks := .later }
def FnSearchPlaceCardSaid : Prop := Claim7.holds Tryd.pinned (.plain (OpenSpec.ofChange fnSearchPlaceSpec)) fnSearchPlaceCard

/-- THE TIED CARD OF 'laws.FnSearchUid'. -/
def fnSearchUidCard : Claim7 := { stood := { row := fnSearchUidRow, standIns := [], harness := (true, "00523bf867bb87d86b027b5fe42b789cd57396f2449214dfc84ca65572303408"), looks := true }, kinds := [], alts := [], laidByText := true, laidKinds := [.data, .data, .data, .pinned, .pinned], laidTests := true, laidLooks := .later }
def FnSearchUidCardSaid : Prop := Claim7.holds Tryd.pinned (.plain (OpenSpec.ofChange fnSearchUidSpec)) fnSearchUidCard

/-- THE TIED CARD OF 'laws.FnSearchText'. -/
def fnSearchTextCard : Claim7 := { stood := { row := fnSearchTextRow, standIns := [], harness := (true, "00523bf867bb87d86b027b5fe42b789cd57396f2449214dfc84ca65572303408"), looks := true }, kinds := [], alts := [], laidByText := true, laidKinds := [.data, .data, .data, .pinned, .pinned], laidTests := true, laidLooks := .later }
def FnSearchTextCardSaid : Prop := Claim7.holds Tryd.pinned (.plain (OpenSpec.ofChange fnSearchTextSpec)) fnSearchTextCard

/-- THE TIED CARD OF 'laws.FnExactKeyValid'. -/
def fnExactKeyValidCard : Claim7 := { stood := { row := fnExactKeyValidRow, standIns := [], harness := (true, "00523bf867bb87d86b027b5fe42b789cd57396f2449214dfc84ca65572303408"), looks := true }, kinds := [], alts := [], laidByText := true, laidKinds := [.data, .data, .data, .pinned, .pinned], laidTests := true, laidLooks := .later }
def FnExactKeyValidCardSaid : Prop := Claim7.holds Tryd.pinned (.plain (OpenSpec.ofChange fnExactKeyValidSpec)) fnExactKeyValidCard

/-- THE TIED CARD OF 'laws.FnExactKeyFormat'. -/
def fnExactKeyFormatCard : Claim7 := { stood := { row := fnExactKeyFormatRow, standIns := [], harness := (true, "00523bf867bb87d86b027b5fe42b789cd57396f2449214dfc84ca65572303408"), looks := true }, kinds := [], alts := [], laidByText := true, laidKinds := [.data, .data, .data, .pinned, .pinned], laidTests := true, laidLooks := .later }
def FnExactKeyFormatCardSaid : Prop := Claim7.holds Tryd.pinned (.plain (OpenSpec.ofChange fnExactKeyFormatSpec)) fnExactKeyFormatCard

/-- THE SECOND FORM's CARD OF 'laws.FnKeyFormat'. -/
def fnKeyFormatUptoCard : Claim7 := { stood := { row := fnKeyFormatUptoRow, standIns := [], harness := (true, "00523bf867bb87d86b027b5fe42b789cd57396f2449214dfc84ca65572303408"), looks := true }, kinds := [], alts := [], laidByText := true, laidKinds := [.data, .data, .data, .pinned, .pinned], laidTests := true, laidLooks := .later }
def FnKeyFormatUptoCardSaid : Prop := Claim7.holds Tryd.pinned (.plain (OpenSpec.upto fnKeyFormatSpec)) fnKeyFormatUptoCard

/-- THE SECOND FORM's CARD OF 'laws.FnKeyNodes'. -/
def fnKeyNodesUptoCard : Claim7 := { stood := { row := fnKeyNodesUptoRow, standIns := [], harness := (true, "00523bf867bb87d86b027b5fe42b789cd57396f2449214dfc84ca65572303408"), looks := true }, kinds := [], alts := [], laidByText := true, laidKinds := [.data, .data, .data, .pinned, .pinned], laidTests := true, laidLooks := .later }
def FnKeyNodesUptoCardSaid : Prop := Claim7.holds Tryd.pinned (.plain (OpenSpec.upto fnKeyNodesSpec)) fnKeyNodesUptoCard

/-- THE SECOND FORM's CARD OF 'laws.FnKeyFields'. -/
def fnKeyFieldsUptoCard : Claim7 := { stood := { row := fnKeyFieldsUptoRow, standIns := [], harness := (true, "00523bf867bb87d86b027b5fe42b789cd57396f2449214dfc84ca65572303408"), looks := true }, kinds := [], alts := [], laidByText := true, laidKinds := [.data, .data, .data, .pinned, .pinned], laidTests := true, laidLooks := .later }
def FnKeyFieldsUptoCardSaid : Prop := Claim7.holds Tryd.pinned (.plain (OpenSpec.upto fnKeyFieldsSpec)) fnKeyFieldsUptoCard

/-- THE SECOND FORM's CARD OF 'laws.FnKeyParts'. -/
def fnKeyPartsUptoCard : Claim7 := { stood := { row := fnKeyPartsUptoRow, standIns := [], harness := (true, "00523bf867bb87d86b027b5fe42b789cd57396f2449214dfc84ca65572303408"), looks := true }, kinds := [], alts := [], laidByText := true, laidKinds := [.data, .data, .data, .pinned, .pinned], laidTests := true, laidLooks := .later }
def FnKeyPartsUptoCardSaid : Prop := Claim7.holds Tryd.pinned (.plain (OpenSpec.upto fnKeyPartsSpec)) fnKeyPartsUptoCard

/-- THE SECOND FORM's CARD OF 'laws.FnSearch'. -/
def fnSearchUptoCard : Claim7 := { stood := { row := fnSearchUptoRow, standIns := [], harness := (true, "00523bf867bb87d86b027b5fe42b789cd57396f2449214dfc84ca65572303408"), looks := true }, kinds := [], alts := [], laidByText := true, laidKinds := [.data, .data, .data, .pinned, .pinned], laidTests := true, laidLooks := .later }
def FnSearchUptoCardSaid : Prop := Claim7.holds Tryd.pinned (.plain (OpenSpec.upto fnSearchSpec)) fnSearchUptoCard

/-- THE SECOND FORM's CARD OF 'laws.FnSearchNot'. -/
def fnSearchNotUptoCard : Claim7 := { stood := { row := fnSearchNotUptoRow, standIns := [], harness := (true, "00523bf867bb87d86b027b5fe42b789cd57396f2449214dfc84ca65572303408"), looks := true }, kinds := [], alts := [], laidByText := true, laidKinds := [.data, .data, .data, .pinned, .pinned], laidTests := true, laidLooks := .later }
def FnSearchNotUptoCardSaid : Prop := Claim7.holds Tryd.pinned (.plain (OpenSpec.upto fnSearchNotSpec)) fnSearchNotUptoCard

/-- THE SECOND FORM's CARD OF 'laws.FnSearchAnd'. -/
def fnSearchAndUptoCard : Claim7 := { stood := { row := fnSearchAndUptoRow, standIns := [], harness := (true, "00523bf867bb87d86b027b5fe42b789cd57396f2449214dfc84ca65572303408"), looks := true }, kinds := [], alts := [], laidByText := true, laidKinds := [.data, .data, .data, .pinned, .pinned], laidTests := true, laidLooks := .later }
def FnSearchAndUptoCardSaid : Prop := Claim7.holds Tryd.pinned (.plain (OpenSpec.upto fnSearchAndSpec)) fnSearchAndUptoCard

/-- THE SECOND FORM's CARD OF 'laws.FnSearchOr'. -/
def fnSearchOrUptoCard : Claim7 := { stood := { row := fnSearchOrUptoRow, standIns := [], harness := (true, "00523bf867bb87d86b027b5fe42b789cd57396f2449214dfc84ca65572303408"), looks := true }, kinds := [], alts := [], laidByText := true, laidKinds := [.data, .data, .data, .pinned, .pinned], laidTests := true, laidLooks := .later }
def FnSearchOrUptoCardSaid : Prop := Claim7.holds Tryd.pinned (.plain (OpenSpec.upto fnSearchOrSpec)) fnSearchOrUptoCard

/-- THE SECOND FORM's CARD OF 'laws.FnSearchOrder'. -/
def fnSearchOrderUptoCard : Claim7 := { stood := { row := fnSearchOrderUptoRow, standIns := [], harness := (true, "00523bf867bb87d86b027b5fe42b789cd57396f2449214dfc84ca65572303408"), looks := true }, kinds := [], alts := [], laidByText := true, laidKinds := [.data, .data, .data, .pinned, .pinned], laidTests := true, laidLooks := .later }
def FnSearchOrderUptoCardSaid : Prop := Claim7.holds Tryd.pinned (.plain (OpenSpec.upto fnSearchOrderSpec)) fnSearchOrderUptoCard

/-- THE SECOND FORM's CARD OF 'laws.FnSearchMorgan'. -/
def fnSearchMorganUptoCard : Claim7 := { stood := { row := fnSearchMorganUptoRow, standIns := [], harness := (true, "00523bf867bb87d86b027b5fe42b789cd57396f2449214dfc84ca65572303408"), looks := true }, kinds := [], alts := [], laidByText := true, laidKinds := [.data, .data, .data, .pinned, .pinned], laidTests := true, laidLooks := .later }
def FnSearchMorganUptoCardSaid : Prop := Claim7.holds Tryd.pinned (.plain (OpenSpec.upto fnSearchMorganSpec)) fnSearchMorganUptoCard

/-- THE SECOND FORM's CARD OF 'laws.FnSearchFlag'. -/
def fnSearchFlagUptoCard : Claim7 := { stood := { row := fnSearchFlagUptoRow, standIns := [], harness := (true, "00523bf867bb87d86b027b5fe42b789cd57396f2449214dfc84ca65572303408"), looks := true }, kinds := [], alts := [], laidByText := true, laidKinds := [.data, .data, .data, .pinned, .pinned], laidTests := true, laidLooks := .later }
def FnSearchFlagUptoCardSaid : Prop := Claim7.holds Tryd.pinned (.plain (OpenSpec.upto fnSearchFlagSpec)) fnSearchFlagUptoCard

/-- THE SECOND FORM's CARD OF 'laws.FnSearchPlace'. -/
def fnSearchPlaceUptoCard : Claim7 := { stood := { row := fnSearchPlaceUptoRow, standIns := [], harness := (true, "00523bf867bb87d86b027b5fe42b789cd57396f2449214dfc84ca65572303408"), looks := true }, kinds := [], alts := [], laidByText := true, laidKinds := [.data, .data, .data, .pinned, .pinned], laidTests := true, laidLooks := .later }
def FnSearchPlaceUptoCardSaid : Prop := Claim7.holds Tryd.pinned (.plain (OpenSpec.upto fnSearchPlaceSpec)) fnSearchPlaceUptoCard

/-- THE SECOND FORM's CARD OF 'laws.FnSearchUid'. -/
def fnSearchUidUptoCard : Claim7 := { stood := { row := fnSearchUidUptoRow, standIns := [], harness := (true, "00523bf867bb87d86b027b5fe42b789cd57396f2449214dfc84ca65572303408"), looks := true }, kinds := [], alts := [], laidByText := true, laidKinds := [.data, .data, .data, .pinned, .pinned], laidTests := true, laidLooks := .later }
def FnSearchUidUptoCardSaid : Prop := Claim7.holds Tryd.pinned (.plain (OpenSpec.upto fnSearchUidSpec)) fnSearchUidUptoCard

/-- THE SECOND FORM's CARD OF 'laws.FnSearchText'. -/
def fnSearchTextUptoCard : Claim7 := { stood := { row := fnSearchTextUptoRow, standIns := [], harness := (true, "00523bf867bb87d86b027b5fe42b789cd57396f2449214dfc84ca65572303408"), looks := true }, kinds := [], alts := [], laidByText := true, laidKinds := [.data, .data, .data, .pinned, .pinned], laidTests := true, laidLooks := .later }
def FnSearchTextUptoCardSaid : Prop := Claim7.holds Tryd.pinned (.plain (OpenSpec.upto fnSearchTextSpec)) fnSearchTextUptoCard

/-- THE SECOND FORM's CARD OF 'laws.FnExactKeyValid'. -/
def fnExactKeyValidUptoCard : Claim7 := { stood := { row := fnExactKeyValidUptoRow, standIns := [], harness := (true, "00523bf867bb87d86b027b5fe42b789cd57396f2449214dfc84ca65572303408"), looks := true }, kinds := [], alts := [], laidByText := true, laidKinds := [.data, .data, .data, .pinned, .pinned], laidTests := true, laidLooks := .later }
def FnExactKeyValidUptoCardSaid : Prop := Claim7.holds Tryd.pinned (.plain (OpenSpec.upto fnExactKeyValidSpec)) fnExactKeyValidUptoCard

/-- THE SECOND FORM's CARD OF 'laws.FnExactKeyFormat'. -/
def fnExactKeyFormatUptoCard : Claim7 := { stood := { row := fnExactKeyFormatUptoRow, standIns := [], harness := (true, "00523bf867bb87d86b027b5fe42b789cd57396f2449214dfc84ca65572303408"), looks := true }, kinds := [], alts := [], laidByText := true, laidKinds := [.data, .data, .data, .pinned, .pinned], laidTests := true, laidLooks := .later }
def FnExactKeyFormatUptoCardSaid : Prop := Claim7.holds Tryd.pinned (.plain (OpenSpec.upto fnExactKeyFormatSpec)) fnExactKeyFormatUptoCard
end Rows
end Go.Proofs.YtpihibconbejlaaDoor
