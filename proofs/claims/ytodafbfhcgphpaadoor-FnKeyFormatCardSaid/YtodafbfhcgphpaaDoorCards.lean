/-
  DERIVED. GIVEN WITH THE SEED: THE CARDS: each row of YtodafbfhcgphpaaDoorRows.lean that lists a variable, with what it lists TIED to the program's text (the seventh form; the later family's looks); each row that meets fmt, with fmt's text TOLD by the authors' own Lean function (tested against real Go, not proved from fmt's source: count such statements apart). THE CARD IS WHAT COUNTS. Prove the row's statement (the work); the ties are given (YtodafbfhcgphpaaDoorTie.lean); close each card by the builder's one call (the guide's Derived/Test/ToyasCard.lean, 'card_holds'). Laid BY PROGRAM, IN A SANDBOX (cutbox-door.mjs). By AI agents, Wed Nov 11 2026. No macro, syntax, notation, axiom, sorry.
-/
import Derived.Test.YtodafbfhcgphpaaDoorRows
import GoSem.ClaimSeven
namespace Go.Proofs.YtodafbfhcgphpaaDoor
namespace Rows

/-- THE TIED CARD OF 'laws.FnKeyFormat'. -/
def fnKeyFormatCard : Claim7 := { stood := { row := fnKeyFormatRow, standIns := [], harness := (true, "c53b22c19140475d5924fd26335be1d65f42d72a364ce3d30aaf50c336425745"), looks := false }, kinds := [], alts := [], laidByText := true, laidKinds := [.data, .data, .data, .pinned, .pinned], laidTests := true, laidLooks := .later }
def FnKeyFormatCardSaid : Prop := Claim7.holds Tryd.pinned (.plain (OpenSpec.ofChange fnKeyFormatSpec)) fnKeyFormatCard

/-- THE TIED CARD OF 'laws.FnExactKeyValid'. -/
def fnExactKeyValidCard : Claim7 := { stood := { row := fnExactKeyValidRow, standIns := [], harness := (true, "c53b22c19140475d5924fd26335be1d65f42d72a364ce3d30aaf50c336425745"), looks := false }, kinds := [], alts := [], laidByText := true, laidKinds := [.data, .data, .data, .pinned, .pinned], laidTests := true, laidLooks := .later }
def FnExactKeyValidCardSaid : Prop := Claim7.holds Tryd.pinned (.plain (OpenSpec.ofChange fnExactKeyValidSpec)) fnExactKeyValidCard

/-- THE TIED CARD OF 'laws.FnExactKeyFormat'. -/
def fnExactKeyFormatCard : Claim7 := { stood := { row := fnExactKeyFormatRow, standIns := [], harness := (true, "c53b22c19140475d5924fd26335be1d65f42d72a364ce3d30aaf50c336425745"), looks := false }, kinds := [], alts := [], laidByText := true, laidKinds := [.data, .data, .data, .pinned, .pinned], laidTests := true, laidLooks := .later }
def FnExactKeyFormatCardSaid : Prop := Claim7.holds Tryd.pinned (.plain (OpenSpec.ofChange fnExactKeyFormatSpec)) fnExactKeyFormatCard

/-- THE SECOND FORM's CARD OF 'laws.FnKeyFormat'. -/
def fnKeyFormatUptoCard : Claim7 := { stood := { row := fnKeyFormatUptoRow, standIns := [], harness := (true, "c53b22c19140475d5924fd26335be1d65f42d72a364ce3d30aaf50c336425745"), looks := false }, kinds := [], alts := [], laidByText := true, laidKinds := [.data, .data, .data, .pinned, .pinned], laidTests := true, laidLooks := .later }
def FnKeyFormatUptoCardSaid : Prop := Claim7.holds Tryd.pinned (.plain (OpenSpec.upto fnKeyFormatSpec)) fnKeyFormatUptoCard

/-- THE SECOND FORM's CARD OF 'laws.FnExactKeyValid'. -/
def fnExactKeyValidUptoCard : Claim7 := { stood := { row := fnExactKeyValidUptoRow, standIns := [], harness := (true, "c53b22c19140475d5924fd26335be1d65f42d72a364ce3d30aaf50c336425745"), looks := false }, kinds := [], alts := [], laidByText := true, laidKinds := [.data, .data, .data, .pinned, .pinned], laidTests := true, laidLooks := .later }
def FnExactKeyValidUptoCardSaid : Prop := Claim7.holds Tryd.pinned (.plain (OpenSpec.upto fnExactKeyValidSpec)) fnExactKeyValidUptoCard

/-- THE SECOND FORM's CARD OF 'laws.FnExactKeyFormat'. -/
def fnExactKeyFormatUptoCard : Claim7 := { stood := { row := fnExactKeyFormatUptoRow, standIns := [], harness := (true, "c53b22c19140475d5924fd26335be1d65f42d72a364ce3d30aaf50c336425745"), looks := false }, kinds := [], alts := [], laidByText := true, laidKinds := [.data, .data, .data, .pinned, .pinned], laidTests := true, laidLooks := .later }
def FnExactKeyFormatUptoCardSaid : Prop := Claim7.holds Tryd.pinned (.plain (OpenSpec.upto fnExactKeyFormatSpec)) fnExactKeyFormatUptoCard
end Rows
end Go.Proofs.YtodafbfhcgphpaaDoor
