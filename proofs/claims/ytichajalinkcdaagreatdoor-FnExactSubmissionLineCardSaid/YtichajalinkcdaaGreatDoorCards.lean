/-
  DERIVED. GIVEN WITH THE SEED: THE CARDS: each row of YtichajalinkcdaaGreatDoorRows.lean that lists a variable, with what it lists TIED to the program's text (the seventh form; the later family's looks); each row that meets fmt, with fmt's text TOLD by the authors' own Lean function (tested against real Go, not proved from fmt's source: count such statements apart). THE CARD IS WHAT COUNTS. Prove the row's statement (the work); the ties are given (YtichajalinkcdaaGreatDoorTie.lean); close each card by the builder's one call (the guide's Derived/Test/ToyasCard.lean, 'card_holds'). Laid BY PROGRAM, IN A SANDBOX (cutbox-door.mjs). By AI agents, Wed Nov 11 2026. No macro, syntax, notation, axiom, sorry.
-/
import Derived.Test.YtichajalinkcdaaGreatDoorRows
import GoSem.ClaimSeven
namespace Go.Proofs.YtichajalinkcdaaGreatDoor
namespace Rows

/-- THE TIED CARD OF 'laws.FnHello'. -/
def fnHelloCard : Claim7 := { stood := { row := fnHelloRow, standIns := [], harness := (true, "e7d847127776a89c75eef38de0de6df6e12a5ead1ef73e67cedd49420f97698e"), looks := false }, kinds := [], alts := [], laidByText := true, laidKinds := [.data, .pinned], laidTests := true, laidLooks := .later }
def FnHelloCardSaid : Prop := Claim7.holds Tryz.pinned (.plain (OpenSpec.ofChange fnHelloSpec)) fnHelloCard

/-- THE TIED CARD OF 'laws.FnHelloBad'. -/
def fnHelloBadCard : Claim7 := { stood := { row := fnHelloBadRow, standIns := [], harness := (true, "e7d847127776a89c75eef38de0de6df6e12a5ead1ef73e67cedd49420f97698e"), looks := false }, kinds := [], alts := [], laidByText := true, laidKinds := [.data, .pinned], laidTests := true, laidLooks := .later }
def FnHelloBadCardSaid : Prop := Claim7.holds Tryz.pinned (.plain (OpenSpec.ofChange fnHelloBadSpec)) fnHelloBadCard

/-- THE TIED CARD OF 'laws.FnReset'. -/
def fnResetCard : Claim7 := { stood := { row := fnResetRow, standIns := [], harness := (true, "e7d847127776a89c75eef38de0de6df6e12a5ead1ef73e67cedd49420f97698e"), looks := false }, kinds := [], alts := [], laidByText := true, laidKinds := [.data, .pinned], laidTests := true, laidLooks := .later }
def FnResetCardSaid : Prop := Claim7.holds Tryz.pinned (.plain (OpenSpec.ofChange fnResetSpec)) fnResetCard

/-- THE TIED CARD OF 'laws.FnNoop'. -/
def fnNoopCard : Claim7 := { stood := { row := fnNoopRow, standIns := [], harness := (true, "e7d847127776a89c75eef38de0de6df6e12a5ead1ef73e67cedd49420f97698e"), looks := false }, kinds := [], alts := [], laidByText := true, laidKinds := [.data, .pinned], laidTests := true, laidLooks := .later }
def FnNoopCardSaid : Prop := Claim7.holds Tryz.pinned (.plain (OpenSpec.ofChange fnNoopSpec)) fnNoopCard

/-- THE TIED CARD OF 'laws.FnQuit'. -/
def fnQuitCard : Claim7 := { stood := { row := fnQuitRow, standIns := [], harness := (true, "e7d847127776a89c75eef38de0de6df6e12a5ead1ef73e67cedd49420f97698e"), looks := false }, kinds := [], alts := [], laidByText := true, laidKinds := [.data, .pinned], laidTests := true, laidLooks := .later }
def FnQuitCardSaid : Prop := Claim7.holds Tryz.pinned (.plain (OpenSpec.ofChange fnQuitSpec)) fnQuitCard

/-- THE TIED CARD OF 'laws.FnAuth'. -/
def fnAuthCard : Claim7 := { stood := { row := fnAuthRow, standIns := [], harness := (true, "e7d847127776a89c75eef38de0de6df6e12a5ead1ef73e67cedd49420f97698e"), looks := false }, kinds := [], alts := [], laidByText := true, laidKinds := [.data, .pinned], laidTests := true, laidLooks := .later }
def FnAuthCardSaid : Prop := Claim7.holds Tryz.pinned (.plain (OpenSpec.ofChange fnAuthSpec)) fnAuthCard

/-- THE TIED CARD OF 'laws.FnAuthWrong'. -/
def fnAuthWrongCard : Claim7 := { stood := { row := fnAuthWrongRow, standIns := [], harness := (true, "e7d847127776a89c75eef38de0de6df6e12a5ead1ef73e67cedd49420f97698e"), looks := false }, kinds := [], alts := [], laidByText := true, laidKinds := [.data, .pinned], laidTests := true, laidLooks := .later }
def FnAuthWrongCardSaid : Prop := Claim7.holds Tryz.pinned (.plain (OpenSpec.ofChange fnAuthWrongSpec)) fnAuthWrongCard

/-- THE TIED CARD OF 'laws.FnFrom'. -/
def fnFromCard : Claim7 := { stood := { row := fnFromRow, standIns := [], harness := (true, "e7d847127776a89c75eef38de0de6df6e12a5ead1ef73e67cedd49420f97698e"), looks := false }, kinds := [], alts := [], laidByText := true, laidKinds := [.data, .pinned], laidTests := true, laidLooks := .later }
def FnFromCardSaid : Prop := Claim7.holds Tryz.pinned (.plain (OpenSpec.ofChange fnFromSpec)) fnFromCard

/-- THE TIED CARD OF 'laws.FnFromEarly'. -/
def fnFromEarlyCard : Claim7 := { stood := { row := fnFromEarlyRow, standIns := [], harness := (true, "e7d847127776a89c75eef38de0de6df6e12a5ead1ef73e67cedd49420f97698e"), looks := false }, kinds := [], alts := [], laidByText := true, laidKinds := [.data, .pinned], laidTests := true, laidLooks := .later }
def FnFromEarlyCardSaid : Prop := Claim7.holds Tryz.pinned (.plain (OpenSpec.ofChange fnFromEarlySpec)) fnFromEarlyCard

/-- THE TIED CARD OF 'laws.FnRcpt'. -/
def fnRcptCard : Claim7 := { stood := { row := fnRcptRow, standIns := [], harness := (true, "e7d847127776a89c75eef38de0de6df6e12a5ead1ef73e67cedd49420f97698e"), looks := false }, kinds := [], alts := [], laidByText := true, laidKinds := [.data, .pinned], laidTests := true, laidLooks := .later }
def FnRcptCardSaid : Prop := Claim7.holds Tryz.pinned (.plain (OpenSpec.ofChange fnRcptSpec)) fnRcptCard

/-- THE TIED CARD OF 'laws.FnRcptUnknown'. -/
def fnRcptUnknownCard : Claim7 := { stood := { row := fnRcptUnknownRow, standIns := [], harness := (true, "e7d847127776a89c75eef38de0de6df6e12a5ead1ef73e67cedd49420f97698e"), looks := false }, kinds := [], alts := [], laidByText := true, laidKinds := [.data, .pinned], laidTests := true, laidLooks := .later }
def FnRcptUnknownCardSaid : Prop := Claim7.holds Tryz.pinned (.plain (OpenSpec.ofChange fnRcptUnknownSpec)) fnRcptUnknownCard

/-- THE TIED CARD OF 'laws.FnRcptEarly'. -/
def fnRcptEarlyCard : Claim7 := { stood := { row := fnRcptEarlyRow, standIns := [], harness := (true, "e7d847127776a89c75eef38de0de6df6e12a5ead1ef73e67cedd49420f97698e"), looks := false }, kinds := [], alts := [], laidByText := true, laidKinds := [.data, .pinned], laidTests := true, laidLooks := .later }
def FnRcptEarlyCardSaid : Prop := Claim7.holds Tryz.pinned (.plain (OpenSpec.ofChange fnRcptEarlySpec)) fnRcptEarlyCard

/-- THE TIED CARD OF 'laws.FnData'. -/
def fnDataCard : Claim7 := { stood := { row := fnDataRow, standIns := [], harness := (true, "e7d847127776a89c75eef38de0de6df6e12a5ead1ef73e67cedd49420f97698e"), looks := false }, kinds := [], alts := [], laidByText := true, laidKinds := [.data, .pinned], laidTests := true, laidLooks := .later }
def FnDataCardSaid : Prop := Claim7.holds Tryz.pinned (.plain (OpenSpec.ofChange fnDataSpec)) fnDataCard

/-- THE TIED CARD OF 'laws.FnText'. -/
def fnTextCard : Claim7 := { stood := { row := fnTextRow, standIns := [], harness := (true, "e7d847127776a89c75eef38de0de6df6e12a5ead1ef73e67cedd49420f97698e"), looks := false }, kinds := [], alts := [], laidByText := true, laidKinds := [.data, .pinned], laidTests := true, laidLooks := .later }
def FnTextCardSaid : Prop := Claim7.holds Tryz.pinned (.plain (OpenSpec.ofChange fnTextSpec)) fnTextCard

/-- THE TIED CARD OF 'laws.FnDot'. -/
def fnDotCard : Claim7 := { stood := { row := fnDotRow, standIns := [], harness := (true, "e7d847127776a89c75eef38de0de6df6e12a5ead1ef73e67cedd49420f97698e"), looks := false }, kinds := [], alts := [], laidByText := true, laidKinds := [.data, .pinned], laidTests := true, laidLooks := .later }
def FnDotCardSaid : Prop := Claim7.holds Tryz.pinned (.plain (OpenSpec.ofChange fnDotSpec)) fnDotCard

/-- THE TIED CARD OF 'laws.FnDotLine'. -/
def fnDotLineCard : Claim7 := { stood := { row := fnDotLineRow, standIns := [], harness := (true, "e7d847127776a89c75eef38de0de6df6e12a5ead1ef73e67cedd49420f97698e"), looks := false }, kinds := [], alts := [], laidByText := true, laidKinds := [.data, .pinned], laidTests := true, laidLooks := .later }
def FnDotLineCardSaid : Prop := Claim7.holds Tryz.pinned (.plain (OpenSpec.ofChange fnDotLineSpec)) fnDotLineCard

/-- THE TIED CARD OF 'laws.FnLineValid'. -/
def fnLineValidCard : Claim7 := { stood := { row := fnLineValidRow, standIns := [], harness := (true, "e7d847127776a89c75eef38de0de6df6e12a5ead1ef73e67cedd49420f97698e"), looks := false }, kinds := [], alts := [], laidByText := true, laidKinds := [.data, .pinned], laidTests := true, laidLooks := .later }
def FnLineValidCardSaid : Prop := Claim7.holds Tryz.pinned (.plain (OpenSpec.ofChange fnLineValidSpec)) fnLineValidCard

/-- THE TIED CARD OF 'laws.FnExactSubmissionLine'. -/
def fnExactSubmissionLineCard : Claim7 := { stood := { row := fnExactSubmissionLineRow, standIns := [], harness := (true, "e7d847127776a89c75eef38de0de6df6e12a5ead1ef73e67cedd49420f97698e"), looks := false }, kinds := [], alts := [], laidByText := true, laidKinds := [.data, .pinned], laidTests := true, laidLooks := .later }
def FnExactSubmissionLineCardSaid : Prop := Claim7.holds Tryz.pinned (.plain (OpenSpec.ofChange fnExactSubmissionLineSpec)) fnExactSubmissionLineCard

/-- THE SECOND FORM's CARD OF 'laws.FnHello'. -/
def fnHelloUptoCard : Claim7 := { stood := { row := fnHelloUptoRow, standIns := [], harness := (true, "e7d847127776a89c75eef38de0de6df6e12a5ead1ef73e67cedd49420f97698e"), looks := false }, kinds := [], alts := [], laidByText := true, laidKinds := [.data, .pinned], laidTests := true, laidLooks := .later }
def FnHelloUptoCardSaid : Prop := Claim7.holds Tryz.pinned (.plain (OpenSpec.upto fnHelloSpec)) fnHelloUptoCard

/-- THE SECOND FORM's CARD OF 'laws.FnHelloBad'. -/
def fnHelloBadUptoCard : Claim7 := { stood := { row := fnHelloBadUptoRow, standIns := [], harness := (true, "e7d847127776a89c75eef38de0de6df6e12a5ead1ef73e67cedd49420f97698e"), looks := false }, kinds := [], alts := [], laidByText := true, laidKinds := [.data, .pinned], laidTests := true, laidLooks := .later }
def FnHelloBadUptoCardSaid : Prop := Claim7.holds Tryz.pinned (.plain (OpenSpec.upto fnHelloBadSpec)) fnHelloBadUptoCard

/-- THE SECOND FORM's CARD OF 'laws.FnReset'. -/
def fnResetUptoCard : Claim7 := { stood := { row := fnResetUptoRow, standIns := [], harness := (true, "e7d847127776a89c75eef38de0de6df6e12a5ead1ef73e67cedd49420f97698e"), looks := false }, kinds := [], alts := [], laidByText := true, laidKinds := [.data, .pinned], laidTests := true, laidLooks := .later }
def FnResetUptoCardSaid : Prop := Claim7.holds Tryz.pinned (.plain (OpenSpec.upto fnResetSpec)) fnResetUptoCard

/-- THE SECOND FORM's CARD OF 'laws.FnNoop'. -/
def fnNoopUptoCard : Claim7 := { stood := { row := fnNoopUptoRow, standIns := [], harness := (true, "e7d847127776a89c75eef38de0de6df6e12a5ead1ef73e67cedd49420f97698e"), looks := false }, kinds := [], alts := [], laidByText := true, laidKinds := [.data, .pinned], laidTests := true, laidLooks := .later }
def FnNoopUptoCardSaid : Prop := Claim7.holds Tryz.pinned (.plain (OpenSpec.upto fnNoopSpec)) fnNoopUptoCard

/-- THE SECOND FORM's CARD OF 'laws.FnQuit'. -/
def fnQuitUptoCard : Claim7 := { stood := { row := fnQuitUptoRow, standIns := [], harness := (true, "e7d847127776a89c75eef38de0de6df6e12a5ead1ef73e67cedd49420f97698e"), looks := false }, kinds := [], alts := [], laidByText := true, laidKinds := [.data, .pinned], laidTests := true, laidLooks := .later }
def FnQuitUptoCardSaid : Prop := Claim7.holds Tryz.pinned (.plain (OpenSpec.upto fnQuitSpec)) fnQuitUptoCard

/-- THE SECOND FORM's CARD OF 'laws.FnAuth'. -/
def fnAuthUptoCard : Claim7 := { stood := { row := fnAuthUptoRow, standIns := [], harness := (true, "e7d847127776a89c75eef38de0de6df6e12a5ead1ef73e67cedd49420f97698e"), looks := false }, kinds := [], alts := [], laidByText := true, laidKinds := [.data, .pinned], laidTests := true, laidLooks := .later }
def FnAuthUptoCardSaid : Prop := Claim7.holds Tryz.pinned (.plain (OpenSpec.upto fnAuthSpec)) fnAuthUptoCard

/-- THE SECOND FORM's CARD OF 'laws.FnAuthWrong'. -/
def fnAuthWrongUptoCard : Claim7 := { stood := { row := fnAuthWrongUptoRow, standIns := [], harness := (true, "e7d847127776a89c75eef38de0de6df6e12a5ead1ef73e67cedd49420f97698e"), looks := false }, kinds := [], alts := [], laidByText := true, laidKinds := [.data, .pinned], laidTests := true, laidLooks := .later }
def FnAuthWrongUptoCardSaid : Prop := Claim7.holds Tryz.pinned (.plain (OpenSpec.upto fnAuthWrongSpec)) fnAuthWrongUptoCard

/-- THE SECOND FORM's CARD OF 'laws.FnFrom'. -/
def fnFromUptoCard : Claim7 := { stood := { row := fnFromUptoRow, standIns := [], harness := (true, "e7d847127776a89c75eef38de0de6df6e12a5ead1ef73e67cedd49420f97698e"), looks := false }, kinds := [], alts := [], laidByText := true, laidKinds := [.data, .pinned], laidTests := true, laidLooks := .later }
def FnFromUptoCardSaid : Prop := Claim7.holds Tryz.pinned (.plain (OpenSpec.upto fnFromSpec)) fnFromUptoCard

/-- THE SECOND FORM's CARD OF 'laws.FnFromEarly'. -/
def fnFromEarlyUptoCard : Claim7 := { stood := { row := fnFromEarlyUptoRow, standIns := [], harness := (true, "e7d847127776a89c75eef38de0de6df6e12a5ead1ef73e67cedd49420f97698e"), looks := false }, kinds := [], alts := [], laidByText := true, laidKinds := [.data, .pinned], laidTests := true, laidLooks := .later }
def FnFromEarlyUptoCardSaid : Prop := Claim7.holds Tryz.pinned (.plain (OpenSpec.upto fnFromEarlySpec)) fnFromEarlyUptoCard

/-- THE SECOND FORM's CARD OF 'laws.FnRcpt'. -/
def fnRcptUptoCard : Claim7 := { stood := { row := fnRcptUptoRow, standIns := [], harness := (true, "e7d847127776a89c75eef38de0de6df6e12a5ead1ef73e67cedd49420f97698e"), looks := false }, kinds := [], alts := [], laidByText := true, laidKinds := [.data, .pinned], laidTests := true, laidLooks := .later }
def FnRcptUptoCardSaid : Prop := Claim7.holds Tryz.pinned (.plain (OpenSpec.upto fnRcptSpec)) fnRcptUptoCard

/-- THE SECOND FORM's CARD OF 'laws.FnRcptUnknown'. -/
def fnRcptUnknownUptoCard : Claim7 := { stood := { row := fnRcptUnknownUptoRow, standIns := [], harness := (true, "e7d847127776a89c75eef38de0de6df6e12a5ead1ef73e67cedd49420f97698e"), looks := false }, kinds := [], alts := [], laidByText := true, laidKinds := [.data, .pinned], laidTests := true, laidLooks := .later }
def FnRcptUnknownUptoCardSaid : Prop := Claim7.holds Tryz.pinned (.plain (OpenSpec.upto fnRcptUnknownSpec)) fnRcptUnknownUptoCard

/-- THE SECOND FORM's CARD OF 'laws.FnRcptEarly'. -/
def fnRcptEarlyUptoCard : Claim7 := { stood := { row := fnRcptEarlyUptoRow, standIns := [], harness := (true, "e7d847127776a89c75eef38de0de6df6e12a5ead1ef73e67cedd49420f97698e"), looks := false }, kinds := [], alts := [], laidByText := true, laidKinds := [.data, .pinned], laidTests := true, laidLooks := .later }
def FnRcptEarlyUptoCardSaid : Prop := Claim7.holds Tryz.pinned (.plain (OpenSpec.upto fnRcptEarlySpec)) fnRcptEarlyUptoCard

/-- THE SECOND FORM's CARD OF 'laws.FnData'. -/
def fnDataUptoCard : Claim7 := { stood := { row := fnDataUptoRow, standIns := [], harness := (true, "e7d847127776a89c75eef38de0de6df6e12a5ead1ef73e67cedd49420f97698e"), looks := false }, kinds := [], alts := [], laidByText := true, laidKinds := [.data, .pinned], laidTests := true, laidLooks := .later }
def FnDataUptoCardSaid : Prop := Claim7.holds Tryz.pinned (.plain (OpenSpec.upto fnDataSpec)) fnDataUptoCard

/-- THE SECOND FORM's CARD OF 'laws.FnText'. -/
def fnTextUptoCard : Claim7 := { stood := { row := fnTextUptoRow, standIns := [], harness := (true, "e7d847127776a89c75eef38de0de6df6e12a5ead1ef73e67cedd49420f97698e"), looks := false }, kinds := [], alts := [], laidByText := true, laidKinds := [.data, .pinned], laidTests := true, laidLooks := .later }
def FnTextUptoCardSaid : Prop := Claim7.holds Tryz.pinned (.plain (OpenSpec.upto fnTextSpec)) fnTextUptoCard

/-- THE SECOND FORM's CARD OF 'laws.FnDot'. -/
def fnDotUptoCard : Claim7 := { stood := { row := fnDotUptoRow, standIns := [], harness := (true, "e7d847127776a89c75eef38de0de6df6e12a5ead1ef73e67cedd49420f97698e"), looks := false }, kinds := [], alts := [], laidByText := true, laidKinds := [.data, .pinned], laidTests := true, laidLooks := .later }
def FnDotUptoCardSaid : Prop := Claim7.holds Tryz.pinned (.plain (OpenSpec.upto fnDotSpec)) fnDotUptoCard

/-- THE SECOND FORM's CARD OF 'laws.FnDotLine'. -/
def fnDotLineUptoCard : Claim7 := { stood := { row := fnDotLineUptoRow, standIns := [], harness := (true, "e7d847127776a89c75eef38de0de6df6e12a5ead1ef73e67cedd49420f97698e"), looks := false }, kinds := [], alts := [], laidByText := true, laidKinds := [.data, .pinned], laidTests := true, laidLooks := .later }
def FnDotLineUptoCardSaid : Prop := Claim7.holds Tryz.pinned (.plain (OpenSpec.upto fnDotLineSpec)) fnDotLineUptoCard

/-- THE SECOND FORM's CARD OF 'laws.FnLineValid'. -/
def fnLineValidUptoCard : Claim7 := { stood := { row := fnLineValidUptoRow, standIns := [], harness := (true, "e7d847127776a89c75eef38de0de6df6e12a5ead1ef73e67cedd49420f97698e"), looks := false }, kinds := [], alts := [], laidByText := true, laidKinds := [.data, .pinned], laidTests := true, laidLooks := .later }
def FnLineValidUptoCardSaid : Prop := Claim7.holds Tryz.pinned (.plain (OpenSpec.upto fnLineValidSpec)) fnLineValidUptoCard

/-- THE SECOND FORM's CARD OF 'laws.FnExactSubmissionLine'. -/
def fnExactSubmissionLineUptoCard : Claim7 := { stood := { row := fnExactSubmissionLineUptoRow, standIns := [], harness := (true, "e7d847127776a89c75eef38de0de6df6e12a5ead1ef73e67cedd49420f97698e"), looks := false }, kinds := [], alts := [], laidByText := true, laidKinds := [.data, .pinned], laidTests := true, laidLooks := .later }
def FnExactSubmissionLineUptoCardSaid : Prop := Claim7.holds Tryz.pinned (.plain (OpenSpec.upto fnExactSubmissionLineSpec)) fnExactSubmissionLineUptoCard
end Rows
end Go.Proofs.YtichajalinkcdaaGreatDoor
