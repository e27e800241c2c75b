/-
  NARROWER THAN 'FOR EVERY INPUT', by the rows' own cells (each row's printed sentence says how): FnHello: laid · FnHelloBad: laid · FnReset: laid · FnNoop: laid · FnQuit: laid · FnAuth: laid · FnAuthWrong: laid · FnFrom: laid · FnFromEarly: laid · FnRcpt: laid · FnRcptUnknown: laid · FnRcptEarly: laid · FnData: laid · FnText: laid · FnDot: laid · FnDotLine: laid · FnLineValid: laid · FnExactSubmissionLine: laid.
  DERIVED. THE GIVEN ROWS OF THIS SEAT. 18 by the template 'for every input the law returns true; each argument reads behind the call as it read before'; 0 by the template 'total and deterministic' (their statements: YtichajalinkcdaaGreatDoorTotals.lean).
  GIVEN WITH THE SEED: the statements are not yours to turn. If you find one false, say at which input.
  Laid BY PROGRAM, IN A SANDBOX (cutbox-rows.mjs): the forced cells as the released guide's own fill.sh prints them over the translation 6f56701dda9ed99e… (all of the seat's roots in one cut). By AI agents, Wed Nov 11 2026. No macro, syntax, notation, axiom, sorry.
-/
import Derived.Test.YtichajalinkcdaaGreatDoorChecked
import GoSem.PinnedTables
import GoSem.Claim
import GoSem.ClaimJoined
import GoSem.ClaimMapViews
import Derived.JoinedTies
import Derived.KernelRfl
namespace Go.Proofs.YtichajalinkcdaaGreatDoor
/- THE CELL 'sum', in the pinned program and in every row, IS THE sha256 OF THE DUMP (.gsa) THAT YtichajalinkcdaaGreatDoorProg.lean LOADS. Nothing in Lean hashes anything: it is a label: what it is worth is what the hold of that sum in a sandbox is worth. -/
noncomputable def Tryz.pinned : Pinned := { name := "ytichajalinkcdaagreatdoor", sum := "6f56701dda9ed99eed388b6b263ca8b760860ca609ae459f33a92b0a51fec7f4", checked := Tryz.checked }
namespace Rows
def none {H : Type} : Left H := { results := [], args := [] }

/- WHAT THE LISTED PACKAGE-LEVEL VARIABLES READ AS WHEN THE CALL BEGINS. Each datum BY PROGRAM (the guide's laid-datum.mjs) off the statement by which the dump's own 'gosem.cut.vars' lays the variable. In a bare row this is a premise. The card (YtichajalinkcdaaGreatDoorCards.lean) ties it to the program's text. -/
def laid_unicode_utf8_acceptRanges {H : Type} : DataW H := .agg [.agg [.lit (.int .u8 128), .lit (.int .u8 191)], .agg [.lit (.int .u8 160), .lit (.int .u8 191)], .agg [.lit (.int .u8 128), .lit (.int .u8 159)], .agg [.lit (.int .u8 144), .lit (.int .u8 191)], .agg [.lit (.int .u8 128), .lit (.int .u8 143)], .agg [.lit (.int .u8 0), .lit (.int .u8 0)], .agg [.lit (.int .u8 0), .lit (.int .u8 0)], .agg [.lit (.int .u8 0), .lit (.int .u8 0)], .agg [.lit (.int .u8 0), .lit (.int .u8 0)], .agg [.lit (.int .u8 0), .lit (.int .u8 0)], .agg [.lit (.int .u8 0), .lit (.int .u8 0)], .agg [.lit (.int .u8 0), .lit (.int .u8 0)], .agg [.lit (.int .u8 0), .lit (.int .u8 0)], .agg [.lit (.int .u8 0), .lit (.int .u8 0)], .agg [.lit (.int .u8 0), .lit (.int .u8 0)], .agg [.lit (.int .u8 0), .lit (.int .u8 0)]]
/-- One of Go's own tables, pinned by name: the form's constant. -/
def laid_unicode_utf8_first : DataW Unit := Go.Pinned.utf8First

/-- 'laws.FnHello': WHATEVER THE INPUT: true; the input reads as it did. -/
def fnHelloSpec : ChangeSpec := { name := "fnHello", fn := fun _ => fun
  | [d] => { results := [.lit (.bool true)], args := [d] }
  | _ => none }
def fnHelloRow : OpenClaim := { program := "ytichajalinkcdaagreatdoor", sum := "6f56701dda9ed99eed388b6b263ca8b760860ca609ae459f33a92b0a51fec7f4", func := "loop.example/mailhost/laws.FnHello", spec := "fnHello", inPlace := ["internal/bytealg.CountString", "internal/bytealg.IndexByteString", "internal/bytealg.IndexString", "internal/abi.NoEscape"], unfollowed := true, recurses := true, named := ["unicode/utf8.first", "unicode/utf8.acceptRanges", "internal/bytealg.MaxLen"], apart := false, laid := [("unicode/utf8.acceptRanges", laid_unicode_utf8_acceptRanges), ("unicode/utf8.first", laid_unicode_utf8_first)] }
def FnHelloSaid : Prop := fnHelloRow.holds Tryz.pinned (OpenSpec.ofChange fnHelloSpec)

/-- ITS FALSE NEIGHBOUR: 'it returns false'. Refute it at one input. -/
def fnHelloWrong : ChangeSpec := { name := "fnHello", fn := fun _ => fun
  | [d] => { results := [.lit (.bool false)], args := [d] }
  | _ => none }
def FnHelloWrongFalsely : Prop := fnHelloRow.holds Tryz.pinned (OpenSpec.ofChange fnHelloWrong)

/-- 'laws.FnHelloBad': WHATEVER THE INPUT: true; the input reads as it did. -/
def fnHelloBadSpec : ChangeSpec := { name := "fnHelloBad", fn := fun _ => fun
  | [d] => { results := [.lit (.bool true)], args := [d] }
  | _ => none }
def fnHelloBadRow : OpenClaim := { program := "ytichajalinkcdaagreatdoor", sum := "6f56701dda9ed99eed388b6b263ca8b760860ca609ae459f33a92b0a51fec7f4", func := "loop.example/mailhost/laws.FnHelloBad", spec := "fnHelloBad", inPlace := ["internal/bytealg.CountString", "internal/bytealg.IndexByteString", "internal/bytealg.IndexString", "internal/abi.NoEscape"], unfollowed := true, recurses := true, named := ["unicode/utf8.first", "unicode/utf8.acceptRanges", "internal/bytealg.MaxLen"], apart := false, laid := [("unicode/utf8.acceptRanges", laid_unicode_utf8_acceptRanges), ("unicode/utf8.first", laid_unicode_utf8_first)] }
def FnHelloBadSaid : Prop := fnHelloBadRow.holds Tryz.pinned (OpenSpec.ofChange fnHelloBadSpec)

/-- ITS FALSE NEIGHBOUR: 'it returns false'. Refute it at one input. -/
def fnHelloBadWrong : ChangeSpec := { name := "fnHelloBad", fn := fun _ => fun
  | [d] => { results := [.lit (.bool false)], args := [d] }
  | _ => none }
def FnHelloBadWrongFalsely : Prop := fnHelloBadRow.holds Tryz.pinned (OpenSpec.ofChange fnHelloBadWrong)

/-- 'laws.FnReset': WHATEVER THE INPUT: true; the input reads as it did. -/
def fnResetSpec : ChangeSpec := { name := "fnReset", fn := fun _ => fun
  | [d] => { results := [.lit (.bool true)], args := [d] }
  | _ => none }
def fnResetRow : OpenClaim := { program := "ytichajalinkcdaagreatdoor", sum := "6f56701dda9ed99eed388b6b263ca8b760860ca609ae459f33a92b0a51fec7f4", func := "loop.example/mailhost/laws.FnReset", spec := "fnReset", inPlace := ["internal/bytealg.CountString", "internal/bytealg.IndexByteString", "internal/bytealg.IndexString", "internal/abi.NoEscape"], unfollowed := true, recurses := true, named := ["unicode/utf8.first", "unicode/utf8.acceptRanges", "internal/bytealg.MaxLen"], apart := false, laid := [("unicode/utf8.acceptRanges", laid_unicode_utf8_acceptRanges), ("unicode/utf8.first", laid_unicode_utf8_first)] }
def FnResetSaid : Prop := fnResetRow.holds Tryz.pinned (OpenSpec.ofChange fnResetSpec)

/-- ITS FALSE NEIGHBOUR: 'it returns false'. Refute it at one input. -/
def fnResetWrong : ChangeSpec := { name := "fnReset", fn := fun _ => fun
  | [d] => { results := [.lit (.bool false)], args := [d] }
  | _ => none }
def FnResetWrongFalsely : Prop := fnResetRow.holds Tryz.pinned (OpenSpec.ofChange fnResetWrong)

/-- 'laws.FnNoop': WHATEVER THE INPUT: true; the input reads as it did. -/
def fnNoopSpec : ChangeSpec := { name := "fnNoop", fn := fun _ => fun
  | [d] => { results := [.lit (.bool true)], args := [d] }
  | _ => none }
def fnNoopRow : OpenClaim := { program := "ytichajalinkcdaagreatdoor", sum := "6f56701dda9ed99eed388b6b263ca8b760860ca609ae459f33a92b0a51fec7f4", func := "loop.example/mailhost/laws.FnNoop", spec := "fnNoop", inPlace := ["internal/bytealg.CountString", "internal/bytealg.IndexByteString", "internal/bytealg.IndexString", "internal/abi.NoEscape"], unfollowed := true, recurses := true, named := ["unicode/utf8.first", "unicode/utf8.acceptRanges", "internal/bytealg.MaxLen"], apart := false, laid := [("unicode/utf8.acceptRanges", laid_unicode_utf8_acceptRanges), ("unicode/utf8.first", laid_unicode_utf8_first)] }
def FnNoopSaid : Prop := fnNoopRow.holds Tryz.pinned (OpenSpec.ofChange fnNoopSpec)

/-- ITS FALSE NEIGHBOUR: 'it returns false'. Refute it at one input. -/
def fnNoopWrong : ChangeSpec := { name := "fnNoop", fn := fun _ => fun
  | [d] => { results := [.lit (.bool false)], args := [d] }
  | _ => none }
def FnNoopWrongFalsely : Prop := fnNoopRow.holds Tryz.pinned (OpenSpec.ofChange fnNoopWrong)

/-- 'laws.FnQuit': WHATEVER THE INPUT: true; the input reads as it did. -/
def fnQuitSpec : ChangeSpec := { name := "fnQuit", fn := fun _ => fun
  | [d] => { results := [.lit (.bool true)], args := [d] }
  | _ => none }
def fnQuitRow : OpenClaim := { program := "ytichajalinkcdaagreatdoor", sum := "6f56701dda9ed99eed388b6b263ca8b760860ca609ae459f33a92b0a51fec7f4", func := "loop.example/mailhost/laws.FnQuit", spec := "fnQuit", inPlace := ["internal/bytealg.CountString", "internal/bytealg.IndexByteString", "internal/bytealg.IndexString", "internal/abi.NoEscape"], unfollowed := true, recurses := true, named := ["unicode/utf8.first", "unicode/utf8.acceptRanges", "internal/bytealg.MaxLen"], apart := false, laid := [("unicode/utf8.acceptRanges", laid_unicode_utf8_acceptRanges), ("unicode/utf8.first", laid_unicode_utf8_first)] }
def FnQuitSaid : Prop := fnQuitRow.holds Tryz.pinned (OpenSpec.ofChange fnQuitSpec)

/-- ITS FALSE NEIGHBOUR: 'it returns false'. Refute it at one input. -/
def fnQuitWrong : ChangeSpec := { name := "fnQuit", fn := fun _ => fun
  | [d] => { results := [.lit (.bool false)], args := [d] }
  | _ => none }
def FnQuitWrongFalsely : Prop := fnQuitRow.holds Tryz.pinned (OpenSpec.ofChange fnQuitWrong)

/-- 'laws.FnAuth': WHATEVER THE INPUT: true; the input reads as it did. -/
def fnAuthSpec : ChangeSpec := { name := "fnAuth", fn := fun _ => fun
  | [d1, d2] => { results := [.lit (.bool true)], args := [d1, d2] }
  | _ => none }
def fnAuthRow : OpenClaim := { program := "ytichajalinkcdaagreatdoor", sum := "6f56701dda9ed99eed388b6b263ca8b760860ca609ae459f33a92b0a51fec7f4", func := "loop.example/mailhost/laws.FnAuth", spec := "fnAuth", inPlace := ["internal/bytealg.CountString", "internal/bytealg.IndexByteString", "internal/bytealg.IndexString", "internal/abi.NoEscape"], unfollowed := true, recurses := true, named := ["unicode/utf8.first", "unicode/utf8.acceptRanges", "internal/bytealg.MaxLen"], apart := false, laid := [("unicode/utf8.acceptRanges", laid_unicode_utf8_acceptRanges), ("unicode/utf8.first", laid_unicode_utf8_first)] }
def FnAuthSaid : Prop := fnAuthRow.holds Tryz.pinned (OpenSpec.ofChange fnAuthSpec)

/-- ITS FALSE NEIGHBOUR: 'it returns false'. Refute it at one input. -/
def fnAuthWrong : ChangeSpec := { name := "fnAuth", fn := fun _ => fun
  | [d1, d2] => { results := [.lit (.bool false)], args := [d1, d2] }
  | _ => none }
def FnAuthWrongFalsely : Prop := fnAuthRow.holds Tryz.pinned (OpenSpec.ofChange fnAuthWrong)

/-- 'laws.FnAuthWrong': WHATEVER THE INPUT: true; the input reads as it did. -/
def fnAuthWrongSpec : ChangeSpec := { name := "fnAuthWrong", fn := fun _ => fun
  | [d1, d2] => { results := [.lit (.bool true)], args := [d1, d2] }
  | _ => none }
def fnAuthWrongRow : OpenClaim := { program := "ytichajalinkcdaagreatdoor", sum := "6f56701dda9ed99eed388b6b263ca8b760860ca609ae459f33a92b0a51fec7f4", func := "loop.example/mailhost/laws.FnAuthWrong", spec := "fnAuthWrong", inPlace := ["internal/bytealg.CountString", "internal/bytealg.IndexByteString", "internal/bytealg.IndexString", "internal/abi.NoEscape"], unfollowed := true, recurses := true, named := ["unicode/utf8.first", "unicode/utf8.acceptRanges", "internal/bytealg.MaxLen"], apart := false, laid := [("unicode/utf8.acceptRanges", laid_unicode_utf8_acceptRanges), ("unicode/utf8.first", laid_unicode_utf8_first)] }
def FnAuthWrongSaid : Prop := fnAuthWrongRow.holds Tryz.pinned (OpenSpec.ofChange fnAuthWrongSpec)

/-- ITS FALSE NEIGHBOUR: 'it returns false'. Refute it at one input. -/
def fnAuthWrongWrong : ChangeSpec := { name := "fnAuthWrong", fn := fun _ => fun
  | [d1, d2] => { results := [.lit (.bool false)], args := [d1, d2] }
  | _ => none }
def FnAuthWrongWrongFalsely : Prop := fnAuthWrongRow.holds Tryz.pinned (OpenSpec.ofChange fnAuthWrongWrong)

/-- 'laws.FnFrom': WHATEVER THE INPUT: true; the input reads as it did. -/
def fnFromSpec : ChangeSpec := { name := "fnFrom", fn := fun _ => fun
  | [d] => { results := [.lit (.bool true)], args := [d] }
  | _ => none }
def fnFromRow : OpenClaim := { program := "ytichajalinkcdaagreatdoor", sum := "6f56701dda9ed99eed388b6b263ca8b760860ca609ae459f33a92b0a51fec7f4", func := "loop.example/mailhost/laws.FnFrom", spec := "fnFrom", inPlace := ["internal/bytealg.CountString", "internal/bytealg.IndexByteString", "internal/bytealg.IndexString", "internal/abi.NoEscape"], unfollowed := true, recurses := true, named := ["unicode/utf8.first", "unicode/utf8.acceptRanges", "internal/bytealg.MaxLen"], apart := false, laid := [("unicode/utf8.acceptRanges", laid_unicode_utf8_acceptRanges), ("unicode/utf8.first", laid_unicode_utf8_first)] }
def FnFromSaid : Prop := fnFromRow.holds Tryz.pinned (OpenSpec.ofChange fnFromSpec)

/-- ITS FALSE NEIGHBOUR: 'it returns false'. Refute it at one input. -/
def fnFromWrong : ChangeSpec := { name := "fnFrom", fn := fun _ => fun
  | [d] => { results := [.lit (.bool false)], args := [d] }
  | _ => none }
def FnFromWrongFalsely : Prop := fnFromRow.holds Tryz.pinned (OpenSpec.ofChange fnFromWrong)

/-- 'laws.FnFromEarly': WHATEVER THE INPUT: true; the input reads as it did. -/
def fnFromEarlySpec : ChangeSpec := { name := "fnFromEarly", fn := fun _ => fun
  | [d] => { results := [.lit (.bool true)], args := [d] }
  | _ => none }
def fnFromEarlyRow : OpenClaim := { program := "ytichajalinkcdaagreatdoor", sum := "6f56701dda9ed99eed388b6b263ca8b760860ca609ae459f33a92b0a51fec7f4", func := "loop.example/mailhost/laws.FnFromEarly", spec := "fnFromEarly", inPlace := ["internal/bytealg.CountString", "internal/bytealg.IndexByteString", "internal/bytealg.IndexString", "internal/abi.NoEscape"], unfollowed := true, recurses := true, named := ["unicode/utf8.first", "unicode/utf8.acceptRanges", "internal/bytealg.MaxLen"], apart := false, laid := [("unicode/utf8.acceptRanges", laid_unicode_utf8_acceptRanges), ("unicode/utf8.first", laid_unicode_utf8_first)] }
def FnFromEarlySaid : Prop := fnFromEarlyRow.holds Tryz.pinned (OpenSpec.ofChange fnFromEarlySpec)

/-- ITS FALSE NEIGHBOUR: 'it returns false'. Refute it at one input. -/
def fnFromEarlyWrong : ChangeSpec := { name := "fnFromEarly", fn := fun _ => fun
  | [d] => { results := [.lit (.bool false)], args := [d] }
  | _ => none }
def FnFromEarlyWrongFalsely : Prop := fnFromEarlyRow.holds Tryz.pinned (OpenSpec.ofChange fnFromEarlyWrong)

/-- 'laws.FnRcpt': WHATEVER THE INPUT: true; the input reads as it did. -/
def fnRcptSpec : ChangeSpec := { name := "fnRcpt", fn := fun _ => fun
  | [d1, d2] => { results := [.lit (.bool true)], args := [d1, d2] }
  | _ => none }
def fnRcptRow : OpenClaim := { program := "ytichajalinkcdaagreatdoor", sum := "6f56701dda9ed99eed388b6b263ca8b760860ca609ae459f33a92b0a51fec7f4", func := "loop.example/mailhost/laws.FnRcpt", spec := "fnRcpt", inPlace := ["internal/bytealg.CountString", "internal/bytealg.IndexByteString", "internal/bytealg.IndexString", "internal/abi.NoEscape"], unfollowed := true, recurses := true, named := ["unicode/utf8.first", "unicode/utf8.acceptRanges", "internal/bytealg.MaxLen"], apart := false, laid := [("unicode/utf8.acceptRanges", laid_unicode_utf8_acceptRanges), ("unicode/utf8.first", laid_unicode_utf8_first)] }
def FnRcptSaid : Prop := fnRcptRow.holds Tryz.pinned (OpenSpec.ofChange fnRcptSpec)

/-- ITS FALSE NEIGHBOUR: 'it returns false'. Refute it at one input. -/
def fnRcptWrong : ChangeSpec := { name := "fnRcpt", fn := fun _ => fun
  | [d1, d2] => { results := [.lit (.bool false)], args := [d1, d2] }
  | _ => none }
def FnRcptWrongFalsely : Prop := fnRcptRow.holds Tryz.pinned (OpenSpec.ofChange fnRcptWrong)

/-- 'laws.FnRcptUnknown': WHATEVER THE INPUT: true; the input reads as it did. -/
def fnRcptUnknownSpec : ChangeSpec := { name := "fnRcptUnknown", fn := fun _ => fun
  | [d] => { results := [.lit (.bool true)], args := [d] }
  | _ => none }
def fnRcptUnknownRow : OpenClaim := { program := "ytichajalinkcdaagreatdoor", sum := "6f56701dda9ed99eed388b6b263ca8b760860ca609ae459f33a92b0a51fec7f4", func := "loop.example/mailhost/laws.FnRcptUnknown", spec := "fnRcptUnknown", inPlace := ["internal/bytealg.CountString", "internal/bytealg.IndexByteString", "internal/bytealg.IndexString", "internal/abi.NoEscape"], unfollowed := true, recurses := true, named := ["unicode/utf8.first", "unicode/utf8.acceptRanges", "internal/bytealg.MaxLen"], apart := false, laid := [("unicode/utf8.acceptRanges", laid_unicode_utf8_acceptRanges), ("unicode/utf8.first", laid_unicode_utf8_first)] }
def FnRcptUnknownSaid : Prop := fnRcptUnknownRow.holds Tryz.pinned (OpenSpec.ofChange fnRcptUnknownSpec)

/-- ITS FALSE NEIGHBOUR: 'it returns false'. Refute it at one input. -/
def fnRcptUnknownWrong : ChangeSpec := { name := "fnRcptUnknown", fn := fun _ => fun
  | [d] => { results := [.lit (.bool false)], args := [d] }
  | _ => none }
def FnRcptUnknownWrongFalsely : Prop := fnRcptUnknownRow.holds Tryz.pinned (OpenSpec.ofChange fnRcptUnknownWrong)

/-- 'laws.FnRcptEarly': WHATEVER THE INPUT: true; the input reads as it did. -/
def fnRcptEarlySpec : ChangeSpec := { name := "fnRcptEarly", fn := fun _ => fun
  | [d] => { results := [.lit (.bool true)], args := [d] }
  | _ => none }
def fnRcptEarlyRow : OpenClaim := { program := "ytichajalinkcdaagreatdoor", sum := "6f56701dda9ed99eed388b6b263ca8b760860ca609ae459f33a92b0a51fec7f4", func := "loop.example/mailhost/laws.FnRcptEarly", spec := "fnRcptEarly", inPlace := ["internal/bytealg.CountString", "internal/bytealg.IndexByteString", "internal/bytealg.IndexString", "internal/abi.NoEscape"], unfollowed := true, recurses := true, named := ["unicode/utf8.first", "unicode/utf8.acceptRanges", "internal/bytealg.MaxLen"], apart := false, laid := [("unicode/utf8.acceptRanges", laid_unicode_utf8_acceptRanges), ("unicode/utf8.first", laid_unicode_utf8_first)] }
def FnRcptEarlySaid : Prop := fnRcptEarlyRow.holds Tryz.pinned (OpenSpec.ofChange fnRcptEarlySpec)

/-- ITS FALSE NEIGHBOUR: 'it returns false'. Refute it at one input. -/
def fnRcptEarlyWrong : ChangeSpec := { name := "fnRcptEarly", fn := fun _ => fun
  | [d] => { results := [.lit (.bool false)], args := [d] }
  | _ => none }
def FnRcptEarlyWrongFalsely : Prop := fnRcptEarlyRow.holds Tryz.pinned (OpenSpec.ofChange fnRcptEarlyWrong)

/-- 'laws.FnData': WHATEVER THE INPUT: true; the input reads as it did. -/
def fnDataSpec : ChangeSpec := { name := "fnData", fn := fun _ => fun
  | [d] => { results := [.lit (.bool true)], args := [d] }
  | _ => none }
def fnDataRow : OpenClaim := { program := "ytichajalinkcdaagreatdoor", sum := "6f56701dda9ed99eed388b6b263ca8b760860ca609ae459f33a92b0a51fec7f4", func := "loop.example/mailhost/laws.FnData", spec := "fnData", inPlace := ["internal/bytealg.CountString", "internal/bytealg.IndexByteString", "internal/bytealg.IndexString", "internal/abi.NoEscape"], unfollowed := true, recurses := true, named := ["unicode/utf8.first", "unicode/utf8.acceptRanges", "internal/bytealg.MaxLen"], apart := false, laid := [("unicode/utf8.acceptRanges", laid_unicode_utf8_acceptRanges), ("unicode/utf8.first", laid_unicode_utf8_first)] }
def FnDataSaid : Prop := fnDataRow.holds Tryz.pinned (OpenSpec.ofChange fnDataSpec)

/-- ITS FALSE NEIGHBOUR: 'it returns false'. Refute it at one input. -/
def fnDataWrong : ChangeSpec := { name := "fnData", fn := fun _ => fun
  | [d] => { results := [.lit (.bool false)], args := [d] }
  | _ => none }
def FnDataWrongFalsely : Prop := fnDataRow.holds Tryz.pinned (OpenSpec.ofChange fnDataWrong)

/-- 'laws.FnText': WHATEVER THE INPUT: true; the input reads as it did. -/
def fnTextSpec : ChangeSpec := { name := "fnText", fn := fun _ => fun
  | [d] => { results := [.lit (.bool true)], args := [d] }
  | _ => none }
def fnTextRow : OpenClaim := { program := "ytichajalinkcdaagreatdoor", sum := "6f56701dda9ed99eed388b6b263ca8b760860ca609ae459f33a92b0a51fec7f4", func := "loop.example/mailhost/laws.FnText", spec := "fnText", inPlace := ["internal/bytealg.CountString", "internal/bytealg.IndexByteString", "internal/bytealg.IndexString", "internal/abi.NoEscape"], unfollowed := true, recurses := true, named := ["unicode/utf8.first", "unicode/utf8.acceptRanges", "internal/bytealg.MaxLen"], apart := false, laid := [("unicode/utf8.acceptRanges", laid_unicode_utf8_acceptRanges), ("unicode/utf8.first", laid_unicode_utf8_first)] }
def FnTextSaid : Prop := fnTextRow.holds Tryz.pinned (OpenSpec.ofChange fnTextSpec)

/-- ITS FALSE NEIGHBOUR: 'it returns false'. Refute it at one input. -/
def fnTextWrong : ChangeSpec := { name := "fnText", fn := fun _ => fun
  | [d] => { results := [.lit (.bool false)], args := [d] }
  | _ => none }
def FnTextWrongFalsely : Prop := fnTextRow.holds Tryz.pinned (OpenSpec.ofChange fnTextWrong)

/-- 'laws.FnDot': WHATEVER THE INPUT: true; the input reads as it did. -/
def fnDotSpec : ChangeSpec := { name := "fnDot", fn := fun _ => fun
  | [d] => { results := [.lit (.bool true)], args := [d] }
  | _ => none }
def fnDotRow : OpenClaim := { program := "ytichajalinkcdaagreatdoor", sum := "6f56701dda9ed99eed388b6b263ca8b760860ca609ae459f33a92b0a51fec7f4", func := "loop.example/mailhost/laws.FnDot", spec := "fnDot", inPlace := ["internal/bytealg.CountString", "internal/bytealg.IndexByteString", "internal/bytealg.IndexString", "internal/abi.NoEscape"], unfollowed := true, recurses := true, named := ["unicode/utf8.first", "unicode/utf8.acceptRanges", "internal/bytealg.MaxLen"], apart := false, laid := [("unicode/utf8.acceptRanges", laid_unicode_utf8_acceptRanges), ("unicode/utf8.first", laid_unicode_utf8_first)] }
def FnDotSaid : Prop := fnDotRow.holds Tryz.pinned (OpenSpec.ofChange fnDotSpec)

/-- ITS FALSE NEIGHBOUR: 'it returns false'. Refute it at one input. -/
def fnDotWrong : ChangeSpec := { name := "fnDot", fn := fun _ => fun
  | [d] => { results := [.lit (.bool false)], args := [d] }
  | _ => none }
def FnDotWrongFalsely : Prop := fnDotRow.holds Tryz.pinned (OpenSpec.ofChange fnDotWrong)

/-- 'laws.FnDotLine': WHATEVER THE INPUT: true; the input reads as it did. -/
def fnDotLineSpec : ChangeSpec := { name := "fnDotLine", fn := fun _ => fun
  | [d] => { results := [.lit (.bool true)], args := [d] }
  | _ => none }
def fnDotLineRow : OpenClaim := { program := "ytichajalinkcdaagreatdoor", sum := "6f56701dda9ed99eed388b6b263ca8b760860ca609ae459f33a92b0a51fec7f4", func := "loop.example/mailhost/laws.FnDotLine", spec := "fnDotLine", inPlace := ["internal/bytealg.CountString", "internal/bytealg.IndexByteString", "internal/bytealg.IndexString", "internal/abi.NoEscape"], unfollowed := true, recurses := true, named := ["unicode/utf8.first", "unicode/utf8.acceptRanges", "internal/bytealg.MaxLen"], apart := false, laid := [("unicode/utf8.acceptRanges", laid_unicode_utf8_acceptRanges), ("unicode/utf8.first", laid_unicode_utf8_first)] }
def FnDotLineSaid : Prop := fnDotLineRow.holds Tryz.pinned (OpenSpec.ofChange fnDotLineSpec)

/-- ITS FALSE NEIGHBOUR: 'it returns false'. Refute it at one input. -/
def fnDotLineWrong : ChangeSpec := { name := "fnDotLine", fn := fun _ => fun
  | [d] => { results := [.lit (.bool false)], args := [d] }
  | _ => none }
def FnDotLineWrongFalsely : Prop := fnDotLineRow.holds Tryz.pinned (OpenSpec.ofChange fnDotLineWrong)

/-- 'laws.FnLineValid': WHATEVER THE INPUT: true; the input reads as it did. -/
def fnLineValidSpec : ChangeSpec := { name := "fnLineValid", fn := fun _ => fun
  | [d] => { results := [.lit (.bool true)], args := [d] }
  | _ => none }
def fnLineValidRow : OpenClaim := { program := "ytichajalinkcdaagreatdoor", sum := "6f56701dda9ed99eed388b6b263ca8b760860ca609ae459f33a92b0a51fec7f4", func := "loop.example/mailhost/laws.FnLineValid", spec := "fnLineValid", inPlace := ["internal/bytealg.CountString", "internal/bytealg.IndexByteString", "internal/bytealg.IndexString", "internal/abi.NoEscape"], unfollowed := true, recurses := true, named := ["unicode/utf8.first", "unicode/utf8.acceptRanges", "internal/bytealg.MaxLen"], apart := false, laid := [("unicode/utf8.acceptRanges", laid_unicode_utf8_acceptRanges), ("unicode/utf8.first", laid_unicode_utf8_first)] }
def FnLineValidSaid : Prop := fnLineValidRow.holds Tryz.pinned (OpenSpec.ofChange fnLineValidSpec)

/-- ITS FALSE NEIGHBOUR: 'it returns false'. Refute it at one input. -/
def fnLineValidWrong : ChangeSpec := { name := "fnLineValid", fn := fun _ => fun
  | [d] => { results := [.lit (.bool false)], args := [d] }
  | _ => none }
def FnLineValidWrongFalsely : Prop := fnLineValidRow.holds Tryz.pinned (OpenSpec.ofChange fnLineValidWrong)

/-- 'laws.FnExactSubmissionLine': WHATEVER THE INPUT: true; the input reads as it did. -/
def fnExactSubmissionLineSpec : ChangeSpec := { name := "fnExactSubmissionLine", fn := fun _ => fun
  | [d1, d2, d3, d4] => { results := [.lit (.bool true)], args := [d1, d2, d3, d4] }
  | _ => none }
def fnExactSubmissionLineRow : OpenClaim := { program := "ytichajalinkcdaagreatdoor", sum := "6f56701dda9ed99eed388b6b263ca8b760860ca609ae459f33a92b0a51fec7f4", func := "loop.example/mailhost/laws.FnExactSubmissionLine", spec := "fnExactSubmissionLine", inPlace := ["internal/bytealg.CountString", "internal/bytealg.IndexByteString", "internal/bytealg.IndexString", "internal/abi.NoEscape"], unfollowed := true, recurses := true, named := ["unicode/utf8.first", "unicode/utf8.acceptRanges", "internal/bytealg.MaxLen"], apart := false, laid := [("unicode/utf8.acceptRanges", laid_unicode_utf8_acceptRanges), ("unicode/utf8.first", laid_unicode_utf8_first)] }
def FnExactSubmissionLineSaid : Prop := fnExactSubmissionLineRow.holds Tryz.pinned (OpenSpec.ofChange fnExactSubmissionLineSpec)

/-- ITS FALSE NEIGHBOUR: 'it returns false'. Refute it at one input. -/
def fnExactSubmissionLineWrong : ChangeSpec := { name := "fnExactSubmissionLine", fn := fun _ => fun
  | [d1, d2, d3, d4] => { results := [.lit (.bool false)], args := [d1, d2, d3, d4] }
  | _ => none }
def FnExactSubmissionLineWrongFalsely : Prop := fnExactSubmissionLineRow.holds Tryz.pinned (OpenSpec.ofChange fnExactSubmissionLineWrong)

/- THE SECOND FORM. 'bulk': how many values and letters a reading holds, each counted each time it is reached (what is shared counts as often as it is met; a slice's spare places count too). A statement '..UptoSaid' is the law's where the arguments, and the package variables that the reading takes, are together of bulk at most 1048576: NARROWER than '..Said'. Prove '..Said' where nothing that the law and all that it calls make is longer than what came in: it says more and counts as full. Else prove '..UptoSaid'. A law counts once. -/
mutual
def uptoBulk {H : Type} : DataW H → Nat
  | .lit (.string bytes) => bytes.length + 1
  | .lit _ => 1
  | .nil => 1
  | .ptr d => uptoBulk d + 1
  | .slice elems spare => uptoBulkAll elems + uptoBulkAll spare + 1
  | .agg parts => uptoBulkAll parts + 1
  | .iface _ d => uptoBulk d + 1
  | .map entries => uptoBulkEntries entries + 1
  | .held _ => 1
def uptoBulkAll {H : Type} : List (DataW H) → Nat
  | [] => 0
  | d :: r => uptoBulk d + uptoBulkAll r
def uptoBulkEntries {H : Type} : List (Lit × DataW H) → Nat
  | [] => 0
  | x :: r => uptoBulkEntry x + uptoBulkEntries r
def uptoBulkEntry {H : Type} : Lit × DataW H → Nat
  | (.string bytes, d) => bytes.length + uptoBulk d + 1
  | (_, d) => uptoBulk d + 1
 end
def uptoSmall : (H : Type) → List (DataW H) → Bool := fun _ ds => decide (uptoBulkAll ds ≤ 1048576)
def OpenSpec.upto (s : _root_.Go.ChangeSpec) : _root_.Go.OpenSpec := { _root_.Go.OpenSpec.ofChange s with cond := some uptoSmall }

/-- 'laws.FnHello', WHERE WHAT IT READS IS OF BULK AT MOST 1048576: true; the input reads as it did. -/
def fnHelloUptoRow : OpenClaim := { program := "ytichajalinkcdaagreatdoor", sum := "6f56701dda9ed99eed388b6b263ca8b760860ca609ae459f33a92b0a51fec7f4", func := "loop.example/mailhost/laws.FnHello", spec := "fnHello", inPlace := ["internal/bytealg.CountString", "internal/bytealg.IndexByteString", "internal/bytealg.IndexString", "internal/abi.NoEscape"], unfollowed := true, recurses := true, named := ["unicode/utf8.first", "unicode/utf8.acceptRanges", "internal/bytealg.MaxLen"], apart := false, laid := [("unicode/utf8.acceptRanges", laid_unicode_utf8_acceptRanges), ("unicode/utf8.first", laid_unicode_utf8_first)], narrowed := true }
def FnHelloUptoSaid : Prop := fnHelloUptoRow.holds Tryz.pinned (OpenSpec.upto fnHelloSpec)

/-- 'laws.FnHelloBad', WHERE WHAT IT READS IS OF BULK AT MOST 1048576: true; the input reads as it did. -/
def fnHelloBadUptoRow : OpenClaim := { program := "ytichajalinkcdaagreatdoor", sum := "6f56701dda9ed99eed388b6b263ca8b760860ca609ae459f33a92b0a51fec7f4", func := "loop.example/mailhost/laws.FnHelloBad", spec := "fnHelloBad", inPlace := ["internal/bytealg.CountString", "internal/bytealg.IndexByteString", "internal/bytealg.IndexString", "internal/abi.NoEscape"], unfollowed := true, recurses := true, named := ["unicode/utf8.first", "unicode/utf8.acceptRanges", "internal/bytealg.MaxLen"], apart := false, laid := [("unicode/utf8.acceptRanges", laid_unicode_utf8_acceptRanges), ("unicode/utf8.first", laid_unicode_utf8_first)], narrowed := true }
def FnHelloBadUptoSaid : Prop := fnHelloBadUptoRow.holds Tryz.pinned (OpenSpec.upto fnHelloBadSpec)

/-- 'laws.FnReset', WHERE WHAT IT READS IS OF BULK AT MOST 1048576: true; the input reads as it did. -/
def fnResetUptoRow : OpenClaim := { program := "ytichajalinkcdaagreatdoor", sum := "6f56701dda9ed99eed388b6b263ca8b760860ca609ae459f33a92b0a51fec7f4", func := "loop.example/mailhost/laws.FnReset", spec := "fnReset", inPlace := ["internal/bytealg.CountString", "internal/bytealg.IndexByteString", "internal/bytealg.IndexString", "internal/abi.NoEscape"], unfollowed := true, recurses := true, named := ["unicode/utf8.first", "unicode/utf8.acceptRanges", "internal/bytealg.MaxLen"], apart := false, laid := [("unicode/utf8.acceptRanges", laid_unicode_utf8_acceptRanges), ("unicode/utf8.first", laid_unicode_utf8_first)], narrowed := true }
def FnResetUptoSaid : Prop := fnResetUptoRow.holds Tryz.pinned (OpenSpec.upto fnResetSpec)

/-- 'laws.FnNoop', WHERE WHAT IT READS IS OF BULK AT MOST 1048576: true; the input reads as it did. -/
def fnNoopUptoRow : OpenClaim := { program := "ytichajalinkcdaagreatdoor", sum := "6f56701dda9ed99eed388b6b263ca8b760860ca609ae459f33a92b0a51fec7f4", func := "loop.example/mailhost/laws.FnNoop", spec := "fnNoop", inPlace := ["internal/bytealg.CountString", "internal/bytealg.IndexByteString", "internal/bytealg.IndexString", "internal/abi.NoEscape"], unfollowed := true, recurses := true, named := ["unicode/utf8.first", "unicode/utf8.acceptRanges", "internal/bytealg.MaxLen"], apart := false, laid := [("unicode/utf8.acceptRanges", laid_unicode_utf8_acceptRanges), ("unicode/utf8.first", laid_unicode_utf8_first)], narrowed := true }
def FnNoopUptoSaid : Prop := fnNoopUptoRow.holds Tryz.pinned (OpenSpec.upto fnNoopSpec)

/-- 'laws.FnQuit', WHERE WHAT IT READS IS OF BULK AT MOST 1048576: true; the input reads as it did. -/
def fnQuitUptoRow : OpenClaim := { program := "ytichajalinkcdaagreatdoor", sum := "6f56701dda9ed99eed388b6b263ca8b760860ca609ae459f33a92b0a51fec7f4", func := "loop.example/mailhost/laws.FnQuit", spec := "fnQuit", inPlace := ["internal/bytealg.CountString", "internal/bytealg.IndexByteString", "internal/bytealg.IndexString", "internal/abi.NoEscape"], unfollowed := true, recurses := true, named := ["unicode/utf8.first", "unicode/utf8.acceptRanges", "internal/bytealg.MaxLen"], apart := false, laid := [("unicode/utf8.acceptRanges", laid_unicode_utf8_acceptRanges), ("unicode/utf8.first", laid_unicode_utf8_first)], narrowed := true }
def FnQuitUptoSaid : Prop := fnQuitUptoRow.holds Tryz.pinned (OpenSpec.upto fnQuitSpec)

/-- 'laws.FnAuth', WHERE WHAT IT READS IS OF BULK AT MOST 1048576: true; the input reads as it did. -/
def fnAuthUptoRow : OpenClaim := { program := "ytichajalinkcdaagreatdoor", sum := "6f56701dda9ed99eed388b6b263ca8b760860ca609ae459f33a92b0a51fec7f4", func := "loop.example/mailhost/laws.FnAuth", spec := "fnAuth", inPlace := ["internal/bytealg.CountString", "internal/bytealg.IndexByteString", "internal/bytealg.IndexString", "internal/abi.NoEscape"], unfollowed := true, recurses := true, named := ["unicode/utf8.first", "unicode/utf8.acceptRanges", "internal/bytealg.MaxLen"], apart := false, laid := [("unicode/utf8.acceptRanges", laid_unicode_utf8_acceptRanges), ("unicode/utf8.first", laid_unicode_utf8_first)], narrowed := true }
def FnAuthUptoSaid : Prop := fnAuthUptoRow.holds Tryz.pinned (OpenSpec.upto fnAuthSpec)

/-- 'laws.FnAuthWrong', WHERE WHAT IT READS IS OF BULK AT MOST 1048576: true; the input reads as it did. -/
def fnAuthWrongUptoRow : OpenClaim := { program := "ytichajalinkcdaagreatdoor", sum := "6f56701dda9ed99eed388b6b263ca8b760860ca609ae459f33a92b0a51fec7f4", func := "loop.example/mailhost/laws.FnAuthWrong", spec := "fnAuthWrong", inPlace := ["internal/bytealg.CountString", "internal/bytealg.IndexByteString", "internal/bytealg.IndexString", "internal/abi.NoEscape"], unfollowed := true, recurses := true, named := ["unicode/utf8.first", "unicode/utf8.acceptRanges", "internal/bytealg.MaxLen"], apart := false, laid := [("unicode/utf8.acceptRanges", laid_unicode_utf8_acceptRanges), ("unicode/utf8.first", laid_unicode_utf8_first)], narrowed := true }
def FnAuthWrongUptoSaid : Prop := fnAuthWrongUptoRow.holds Tryz.pinned (OpenSpec.upto fnAuthWrongSpec)

/-- 'laws.FnFrom', WHERE WHAT IT READS IS OF BULK AT MOST 1048576: true; the input reads as it did. -/
def fnFromUptoRow : OpenClaim := { program := "ytichajalinkcdaagreatdoor", sum := "6f56701dda9ed99eed388b6b263ca8b760860ca609ae459f33a92b0a51fec7f4", func := "loop.example/mailhost/laws.FnFrom", spec := "fnFrom", inPlace := ["internal/bytealg.CountString", "internal/bytealg.IndexByteString", "internal/bytealg.IndexString", "internal/abi.NoEscape"], unfollowed := true, recurses := true, named := ["unicode/utf8.first", "unicode/utf8.acceptRanges", "internal/bytealg.MaxLen"], apart := false, laid := [("unicode/utf8.acceptRanges", laid_unicode_utf8_acceptRanges), ("unicode/utf8.first", laid_unicode_utf8_first)], narrowed := true }
def FnFromUptoSaid : Prop := fnFromUptoRow.holds Tryz.pinned (OpenSpec.upto fnFromSpec)

/-- 'laws.FnFromEarly', WHERE WHAT IT READS IS OF BULK AT MOST 1048576: true; the input reads as it did. -/
def fnFromEarlyUptoRow : OpenClaim := { program := "ytichajalinkcdaagreatdoor", sum := "6f56701dda9ed99eed388b6b263ca8b760860ca609ae459f33a92b0a51fec7f4", func := "loop.example/mailhost/laws.FnFromEarly", spec := "fnFromEarly", inPlace := ["internal/bytealg.CountString", "internal/bytealg.IndexByteString", "internal/bytealg.IndexString", "internal/abi.NoEscape"], unfollowed := true, recurses := true, named := ["unicode/utf8.first", "unicode/utf8.acceptRanges", "internal/bytealg.MaxLen"], apart := false, laid := [("unicode/utf8.acceptRanges", laid_unicode_utf8_acceptRanges), ("unicode/utf8.first", laid_unicode_utf8_first)], narrowed := true }
def FnFromEarlyUptoSaid : Prop := fnFromEarlyUptoRow.holds Tryz.pinned (OpenSpec.upto fnFromEarlySpec)

/-- 'laws.FnRcpt', WHERE WHAT IT READS IS OF BULK AT MOST 1048576: true; the input reads as it did. -/
def fnRcptUptoRow : OpenClaim := { program := "ytichajalinkcdaagreatdoor", sum := "6f56701dda9ed99eed388b6b263ca8b760860ca609ae459f33a92b0a51fec7f4", func := "loop.example/mailhost/laws.FnRcpt", spec := "fnRcpt", inPlace := ["internal/bytealg.CountString", "internal/bytealg.IndexByteString", "internal/bytealg.IndexString", "internal/abi.NoEscape"], unfollowed := true, recurses := true, named := ["unicode/utf8.first", "unicode/utf8.acceptRanges", "internal/bytealg.MaxLen"], apart := false, laid := [("unicode/utf8.acceptRanges", laid_unicode_utf8_acceptRanges), ("unicode/utf8.first", laid_unicode_utf8_first)], narrowed := true }
def FnRcptUptoSaid : Prop := fnRcptUptoRow.holds Tryz.pinned (OpenSpec.upto fnRcptSpec)

/-- 'laws.FnRcptUnknown', WHERE WHAT IT READS IS OF BULK AT MOST 1048576: true; the input reads as it did. -/
def fnRcptUnknownUptoRow : OpenClaim := { program := "ytichajalinkcdaagreatdoor", sum := "6f56701dda9ed99eed388b6b263ca8b760860ca609ae459f33a92b0a51fec7f4", func := "loop.example/mailhost/laws.FnRcptUnknown", spec := "fnRcptUnknown", inPlace := ["internal/bytealg.CountString", "internal/bytealg.IndexByteString", "internal/bytealg.IndexString", "internal/abi.NoEscape"], unfollowed := true, recurses := true, named := ["unicode/utf8.first", "unicode/utf8.acceptRanges", "internal/bytealg.MaxLen"], apart := false, laid := [("unicode/utf8.acceptRanges", laid_unicode_utf8_acceptRanges), ("unicode/utf8.first", laid_unicode_utf8_first)], narrowed := true }
def FnRcptUnknownUptoSaid : Prop := fnRcptUnknownUptoRow.holds Tryz.pinned (OpenSpec.upto fnRcptUnknownSpec)

/-- 'laws.FnRcptEarly', WHERE WHAT IT READS IS OF BULK AT MOST 1048576: true; the input reads as it did. -/
def fnRcptEarlyUptoRow : OpenClaim := { program := "ytichajalinkcdaagreatdoor", sum := "6f56701dda9ed99eed388b6b263ca8b760860ca609ae459f33a92b0a51fec7f4", func := "loop.example/mailhost/laws.FnRcptEarly", spec := "fnRcptEarly", inPlace := ["internal/bytealg.CountString", "internal/bytealg.IndexByteString", "internal/bytealg.IndexString", "internal/abi.NoEscape"], unfollowed := true, recurses := true, named := ["unicode/utf8.first", "unicode/utf8.acceptRanges", "internal/bytealg.MaxLen"], apart := false, laid := [("unicode/utf8.acceptRanges", laid_unicode_utf8_acceptRanges), ("unicode/utf8.first", laid_unicode_utf8_first)], narrowed := true }
def FnRcptEarlyUptoSaid : Prop := fnRcptEarlyUptoRow.holds Tryz.pinned (OpenSpec.upto fnRcptEarlySpec)

/-- 'laws.FnData', WHERE WHAT IT READS IS OF BULK AT MOST 1048576: true; the input reads as it did. -/
def fnDataUptoRow : OpenClaim := { program := "ytichajalinkcdaagreatdoor", sum := "6f56701dda9ed99eed388b6b263ca8b760860ca609ae459f33a92b0a51fec7f4", func := "loop.example/mailhost/laws.FnData", spec := "fnData", inPlace := ["internal/bytealg.CountString", "internal/bytealg.IndexByteString", "internal/bytealg.IndexString", "internal/abi.NoEscape"], unfollowed := true, recurses := true, named := ["unicode/utf8.first", "unicode/utf8.acceptRanges", "internal/bytealg.MaxLen"], apart := false, laid := [("unicode/utf8.acceptRanges", laid_unicode_utf8_acceptRanges), ("unicode/utf8.first", laid_unicode_utf8_first)], narrowed := true }
def FnDataUptoSaid : Prop := fnDataUptoRow.holds Tryz.pinned (OpenSpec.upto fnDataSpec)

/-- 'laws.FnText', WHERE WHAT IT READS IS OF BULK AT MOST 1048576: true; the input reads as it did. -/
def fnTextUptoRow : OpenClaim := { program := "ytichajalinkcdaagreatdoor", sum := "6f56701dda9ed99eed388b6b263ca8b760860ca609ae459f33a92b0a51fec7f4", func := "loop.example/mailhost/laws.FnText", spec := "fnText", inPlace := ["internal/bytealg.CountString", "internal/bytealg.IndexByteString", "internal/bytealg.IndexString", "internal/abi.NoEscape"], unfollowed := true, recurses := true, named := ["unicode/utf8.first", "unicode/utf8.acceptRanges", "internal/bytealg.MaxLen"], apart := false, laid := [("unicode/utf8.acceptRanges", laid_unicode_utf8_acceptRanges), ("unicode/utf8.first", laid_unicode_utf8_first)], narrowed := true }
def FnTextUptoSaid : Prop := fnTextUptoRow.holds Tryz.pinned (OpenSpec.upto fnTextSpec)

/-- 'laws.FnDot', WHERE WHAT IT READS IS OF BULK AT MOST 1048576: true; the input reads as it did. -/
def fnDotUptoRow : OpenClaim := { program := "ytichajalinkcdaagreatdoor", sum := "6f56701dda9ed99eed388b6b263ca8b760860ca609ae459f33a92b0a51fec7f4", func := "loop.example/mailhost/laws.FnDot", spec := "fnDot", inPlace := ["internal/bytealg.CountString", "internal/bytealg.IndexByteString", "internal/bytealg.IndexString", "internal/abi.NoEscape"], unfollowed := true, recurses := true, named := ["unicode/utf8.first", "unicode/utf8.acceptRanges", "internal/bytealg.MaxLen"], apart := false, laid := [("unicode/utf8.acceptRanges", laid_unicode_utf8_acceptRanges), ("unicode/utf8.first", laid_unicode_utf8_first)], narrowed := true }
def FnDotUptoSaid : Prop := fnDotUptoRow.holds Tryz.pinned (OpenSpec.upto fnDotSpec)

/-- 'laws.FnDotLine', WHERE WHAT IT READS IS OF BULK AT MOST 1048576: true; the input reads as it did. -/
def fnDotLineUptoRow : OpenClaim := { program := "ytichajalinkcdaagreatdoor", sum := "6f56701dda9ed99eed388b6b263ca8b760860ca609ae459f33a92b0a51fec7f4", func := "loop.example/mailhost/laws.FnDotLine", spec := "fnDotLine", inPlace := ["internal/bytealg.CountString", "internal/bytealg.IndexByteString", "internal/bytealg.IndexString", "internal/abi.NoEscape"], unfollowed := true, recurses := true, named := ["unicode/utf8.first", "unicode/utf8.acceptRanges", "internal/bytealg.MaxLen"], apart := false, laid := [("unicode/utf8.acceptRanges", laid_unicode_utf8_acceptRanges), ("unicode/utf8.first", laid_unicode_utf8_first)], narrowed := true }
def FnDotLineUptoSaid : Prop := fnDotLineUptoRow.holds Tryz.pinned (OpenSpec.upto fnDotLineSpec)

/-- 'laws.FnLineValid', WHERE WHAT IT READS IS OF BULK AT MOST 1048576: true; the input reads as it did. -/
def fnLineValidUptoRow : OpenClaim := { program := "ytichajalinkcdaagreatdoor", sum := "6f56701dda9ed99eed388b6b263ca8b760860ca609ae459f33a92b0a51fec7f4", func := "loop.example/mailhost/laws.FnLineValid", spec := "fnLineValid", inPlace := ["internal/bytealg.CountString", "internal/bytealg.IndexByteString", "internal/bytealg.IndexString", "internal/abi.NoEscape"], unfollowed := true, recurses := true, named := ["unicode/utf8.first", "unicode/utf8.acceptRanges", "internal/bytealg.MaxLen"], apart := false, laid := [("unicode/utf8.acceptRanges", laid_unicode_utf8_acceptRanges), ("unicode/utf8.first", laid_unicode_utf8_first)], narrowed := true }
def FnLineValidUptoSaid : Prop := fnLineValidUptoRow.holds Tryz.pinned (OpenSpec.upto fnLineValidSpec)

/-- 'laws.FnExactSubmissionLine', WHERE WHAT IT READS IS OF BULK AT MOST 1048576: true; the input reads as it did. -/
def fnExactSubmissionLineUptoRow : OpenClaim := { program := "ytichajalinkcdaagreatdoor", sum := "6f56701dda9ed99eed388b6b263ca8b760860ca609ae459f33a92b0a51fec7f4", func := "loop.example/mailhost/laws.FnExactSubmissionLine", spec := "fnExactSubmissionLine", inPlace := ["internal/bytealg.CountString", "internal/bytealg.IndexByteString", "internal/bytealg.IndexString", "internal/abi.NoEscape"], unfollowed := true, recurses := true, named := ["unicode/utf8.first", "unicode/utf8.acceptRanges", "internal/bytealg.MaxLen"], apart := false, laid := [("unicode/utf8.acceptRanges", laid_unicode_utf8_acceptRanges), ("unicode/utf8.first", laid_unicode_utf8_first)], narrowed := true }
def FnExactSubmissionLineUptoSaid : Prop := fnExactSubmissionLineUptoRow.holds Tryz.pinned (OpenSpec.upto fnExactSubmissionLineSpec)

end Rows
end Go.Proofs.YtichajalinkcdaaGreatDoor
