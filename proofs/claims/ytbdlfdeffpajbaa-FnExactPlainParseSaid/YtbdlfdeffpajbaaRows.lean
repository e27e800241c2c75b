/-
  No cell of these rows narrows 'for every input' (looked for: loops, veiled, ifaces, maps, wideKeys, modest, calm, conditions, laid).
  DERIVED. THE GIVEN ROWS OF THIS SEAT. 18 by the template 'for every input the law returns true; each argument reads behind the call as it read before'; 0 by the template 'total and deterministic' (their statements: YtbdlfdeffpajbaaTotals.lean).
  GIVEN WITH THE SEED: the statements are not yours to turn. If you find one false, say at which input.
  Laid BY PROGRAM, IN A SANDBOX (cutbox-rows.mjs): the forced cells as the released guide's own fill.sh prints them over the translation 232ece5364d9fa36… (all of the seat's roots in one cut). By AI agents, Wed Nov 11 2026. No macro, syntax, notation, axiom, sorry.
-/
import Derived.Test.YtbdlfdeffpajbaaChecked
import GoSem.Claim
import GoSem.ClaimJoined
import GoSem.ClaimMapViews
import Derived.JoinedTies
import Derived.KernelRfl
namespace Go.Proofs.Ytbdlfdeffpajbaa
/- THE CELL 'sum', in the pinned program and in every row, IS THE sha256 OF THE DUMP (.gsa) THAT YtbdlfdeffpajbaaProg.lean LOADS. Nothing in Lean hashes anything: it is a label: what it is worth is what the hold of that sum in a sandbox is worth. -/
noncomputable def Try.pinned : Pinned := { name := "ytbdlfdeffpajbaa", sum := "232ece5364d9fa36eb38d4c07d0052b5b99a9bf4cea0e3dfbf4d749d93e4ee31", checked := Try.checked }
namespace Rows
def none {H : Type} : Left H := { results := [], args := [] }

/-- 'laws.FnEncode': WHATEVER THE INPUT: true; the input reads as it did. -/
def fnEncodeSpec : ChangeSpec := { name := "fnEncode", fn := fun _ => fun
  | [d] => { results := [.lit (.bool true)], args := [d] }
  | _ => none }
def fnEncodeRow : OpenClaim := { program := "ytbdlfdeffpajbaa", sum := "232ece5364d9fa36eb38d4c07d0052b5b99a9bf4cea0e3dfbf4d749d93e4ee31", func := "loop.example/mailhost/laws.FnEncode", spec := "fnEncode", inPlace := ["internal/abi.NoEscape"], unfollowed := true, recurses := true, apart := false }
def FnEncodeSaid : Prop := fnEncodeRow.holds Try.pinned (OpenSpec.ofChange fnEncodeSpec)

/-- ITS FALSE NEIGHBOUR: 'it returns false'. Refute it at one input. -/
def fnEncodeWrong : ChangeSpec := { name := "fnEncode", fn := fun _ => fun
  | [d] => { results := [.lit (.bool false)], args := [d] }
  | _ => none }
def FnEncodeWrongFalsely : Prop := fnEncodeRow.holds Try.pinned (OpenSpec.ofChange fnEncodeWrong)

/-- 'laws.FnEncodeBack': WHATEVER THE INPUT: true; the input reads as it did. -/
def fnEncodeBackSpec : ChangeSpec := { name := "fnEncodeBack", fn := fun _ => fun
  | [d] => { results := [.lit (.bool true)], args := [d] }
  | _ => none }
def fnEncodeBackRow : OpenClaim := { program := "ytbdlfdeffpajbaa", sum := "232ece5364d9fa36eb38d4c07d0052b5b99a9bf4cea0e3dfbf4d749d93e4ee31", func := "loop.example/mailhost/laws.FnEncodeBack", spec := "fnEncodeBack", inPlace := ["internal/abi.NoEscape", "internal/bytealg.IndexByteString"], unfollowed := true, recurses := true, apart := false }
def FnEncodeBackSaid : Prop := fnEncodeBackRow.holds Try.pinned (OpenSpec.ofChange fnEncodeBackSpec)

/-- ITS FALSE NEIGHBOUR: 'it returns false'. Refute it at one input. -/
def fnEncodeBackWrong : ChangeSpec := { name := "fnEncodeBack", fn := fun _ => fun
  | [d] => { results := [.lit (.bool false)], args := [d] }
  | _ => none }
def FnEncodeBackWrongFalsely : Prop := fnEncodeBackRow.holds Try.pinned (OpenSpec.ofChange fnEncodeBackWrong)

/-- 'laws.FnEncodeLong': WHATEVER THE INPUT: true; the input reads as it did. -/
def fnEncodeLongSpec : ChangeSpec := { name := "fnEncodeLong", fn := fun _ => fun
  | [d] => { results := [.lit (.bool true)], args := [d] }
  | _ => none }
def fnEncodeLongRow : OpenClaim := { program := "ytbdlfdeffpajbaa", sum := "232ece5364d9fa36eb38d4c07d0052b5b99a9bf4cea0e3dfbf4d749d93e4ee31", func := "loop.example/mailhost/laws.FnEncodeLong", spec := "fnEncodeLong", inPlace := ["internal/abi.NoEscape"], unfollowed := true, recurses := true, apart := false }
def FnEncodeLongSaid : Prop := fnEncodeLongRow.holds Try.pinned (OpenSpec.ofChange fnEncodeLongSpec)

/-- ITS FALSE NEIGHBOUR: 'it returns false'. Refute it at one input. -/
def fnEncodeLongWrong : ChangeSpec := { name := "fnEncodeLong", fn := fun _ => fun
  | [d] => { results := [.lit (.bool false)], args := [d] }
  | _ => none }
def FnEncodeLongWrongFalsely : Prop := fnEncodeLongRow.holds Try.pinned (OpenSpec.ofChange fnEncodeLongWrong)

/-- 'laws.FnEncodeJoin': WHATEVER THE INPUT: true; the input reads as it did. -/
def fnEncodeJoinSpec : ChangeSpec := { name := "fnEncodeJoin", fn := fun _ => fun
  | [d1, d2] => { results := [.lit (.bool true)], args := [d1, d2] }
  | _ => none }
def fnEncodeJoinRow : OpenClaim := { program := "ytbdlfdeffpajbaa", sum := "232ece5364d9fa36eb38d4c07d0052b5b99a9bf4cea0e3dfbf4d749d93e4ee31", func := "loop.example/mailhost/laws.FnEncodeJoin", spec := "fnEncodeJoin", inPlace := ["internal/abi.NoEscape"], unfollowed := true, recurses := true, apart := false }
def FnEncodeJoinSaid : Prop := fnEncodeJoinRow.holds Try.pinned (OpenSpec.ofChange fnEncodeJoinSpec)

/-- ITS FALSE NEIGHBOUR: 'it returns false'. Refute it at one input. -/
def fnEncodeJoinWrong : ChangeSpec := { name := "fnEncodeJoin", fn := fun _ => fun
  | [d1, d2] => { results := [.lit (.bool false)], args := [d1, d2] }
  | _ => none }
def FnEncodeJoinWrongFalsely : Prop := fnEncodeJoinRow.holds Try.pinned (OpenSpec.ofChange fnEncodeJoinWrong)

/-- 'laws.FnEncodeEqual': WHATEVER THE INPUT: true; the input reads as it did. -/
def fnEncodeEqualSpec : ChangeSpec := { name := "fnEncodeEqual", fn := fun _ => fun
  | [d] => { results := [.lit (.bool true)], args := [d] }
  | _ => none }
def fnEncodeEqualRow : OpenClaim := { program := "ytbdlfdeffpajbaa", sum := "232ece5364d9fa36eb38d4c07d0052b5b99a9bf4cea0e3dfbf4d749d93e4ee31", func := "loop.example/mailhost/laws.FnEncodeEqual", spec := "fnEncodeEqual", inPlace := ["internal/abi.NoEscape"], unfollowed := true, recurses := true, apart := false }
def FnEncodeEqualSaid : Prop := fnEncodeEqualRow.holds Try.pinned (OpenSpec.ofChange fnEncodeEqualSpec)

/-- ITS FALSE NEIGHBOUR: 'it returns false'. Refute it at one input. -/
def fnEncodeEqualWrong : ChangeSpec := { name := "fnEncodeEqual", fn := fun _ => fun
  | [d] => { results := [.lit (.bool false)], args := [d] }
  | _ => none }
def FnEncodeEqualWrongFalsely : Prop := fnEncodeEqualRow.holds Try.pinned (OpenSpec.ofChange fnEncodeEqualWrong)

/-- 'laws.FnDecode': WHATEVER THE INPUT: true; the input reads as it did. -/
def fnDecodeSpec : ChangeSpec := { name := "fnDecode", fn := fun _ => fun
  | [d] => { results := [.lit (.bool true)], args := [d] }
  | _ => none }
def fnDecodeRow : OpenClaim := { program := "ytbdlfdeffpajbaa", sum := "232ece5364d9fa36eb38d4c07d0052b5b99a9bf4cea0e3dfbf4d749d93e4ee31", func := "loop.example/mailhost/laws.FnDecode", spec := "fnDecode", inPlace := ["internal/bytealg.IndexByteString", "internal/abi.NoEscape"], unfollowed := true, recurses := true, apart := false }
def FnDecodeSaid : Prop := fnDecodeRow.holds Try.pinned (OpenSpec.ofChange fnDecodeSpec)

/-- ITS FALSE NEIGHBOUR: 'it returns false'. Refute it at one input. -/
def fnDecodeWrong : ChangeSpec := { name := "fnDecode", fn := fun _ => fun
  | [d] => { results := [.lit (.bool false)], args := [d] }
  | _ => none }
def FnDecodeWrongFalsely : Prop := fnDecodeRow.holds Try.pinned (OpenSpec.ofChange fnDecodeWrong)

/-- 'laws.FnDecodePart': WHATEVER THE INPUT: true; the input reads as it did. -/
def fnDecodePartSpec : ChangeSpec := { name := "fnDecodePart", fn := fun _ => fun
  | [d] => { results := [.lit (.bool true)], args := [d] }
  | _ => none }
def fnDecodePartRow : OpenClaim := { program := "ytbdlfdeffpajbaa", sum := "232ece5364d9fa36eb38d4c07d0052b5b99a9bf4cea0e3dfbf4d749d93e4ee31", func := "loop.example/mailhost/laws.FnDecodePart", spec := "fnDecodePart", inPlace := ["internal/bytealg.IndexByteString", "internal/abi.NoEscape"], unfollowed := true, recurses := true, apart := false }
def FnDecodePartSaid : Prop := fnDecodePartRow.holds Try.pinned (OpenSpec.ofChange fnDecodePartSpec)

/-- ITS FALSE NEIGHBOUR: 'it returns false'. Refute it at one input. -/
def fnDecodePartWrong : ChangeSpec := { name := "fnDecodePart", fn := fun _ => fun
  | [d] => { results := [.lit (.bool false)], args := [d] }
  | _ => none }
def FnDecodePartWrongFalsely : Prop := fnDecodePartRow.holds Try.pinned (OpenSpec.ofChange fnDecodePartWrong)

/-- 'laws.FnDecodeSign': WHATEVER THE INPUT: true; the input reads as it did. -/
def fnDecodeSignSpec : ChangeSpec := { name := "fnDecodeSign", fn := fun _ => fun
  | [d1, d2] => { results := [.lit (.bool true)], args := [d1, d2] }
  | _ => none }
def fnDecodeSignRow : OpenClaim := { program := "ytbdlfdeffpajbaa", sum := "232ece5364d9fa36eb38d4c07d0052b5b99a9bf4cea0e3dfbf4d749d93e4ee31", func := "loop.example/mailhost/laws.FnDecodeSign", spec := "fnDecodeSign", inPlace := ["internal/bytealg.IndexByteString", "internal/abi.NoEscape"], unfollowed := true, recurses := true, apart := false }
def FnDecodeSignSaid : Prop := fnDecodeSignRow.holds Try.pinned (OpenSpec.ofChange fnDecodeSignSpec)

/-- ITS FALSE NEIGHBOUR: 'it returns false'. Refute it at one input. -/
def fnDecodeSignWrong : ChangeSpec := { name := "fnDecodeSign", fn := fun _ => fun
  | [d1, d2] => { results := [.lit (.bool false)], args := [d1, d2] }
  | _ => none }
def FnDecodeSignWrongFalsely : Prop := fnDecodeSignRow.holds Try.pinned (OpenSpec.ofChange fnDecodeSignWrong)

/-- 'laws.FnPlainMake': WHATEVER THE INPUT: true; the input reads as it did. -/
def fnPlainMakeSpec : ChangeSpec := { name := "fnPlainMake", fn := fun _ => fun
  | [d] => { results := [.lit (.bool true)], args := [d] }
  | _ => none }
def fnPlainMakeRow : OpenClaim := { program := "ytbdlfdeffpajbaa", sum := "232ece5364d9fa36eb38d4c07d0052b5b99a9bf4cea0e3dfbf4d749d93e4ee31", func := "loop.example/mailhost/laws.FnPlainMake", spec := "fnPlainMake", inPlace := ["internal/abi.NoEscape", "internal/bytealg.IndexByteString"], unfollowed := true, recurses := true, apart := false }
def FnPlainMakeSaid : Prop := fnPlainMakeRow.holds Try.pinned (OpenSpec.ofChange fnPlainMakeSpec)

/-- ITS FALSE NEIGHBOUR: 'it returns false'. Refute it at one input. -/
def fnPlainMakeWrong : ChangeSpec := { name := "fnPlainMake", fn := fun _ => fun
  | [d] => { results := [.lit (.bool false)], args := [d] }
  | _ => none }
def FnPlainMakeWrongFalsely : Prop := fnPlainMakeRow.holds Try.pinned (OpenSpec.ofChange fnPlainMakeWrong)

/-- 'laws.FnPlainNames': WHATEVER THE INPUT: true; the input reads as it did. -/
def fnPlainNamesSpec : ChangeSpec := { name := "fnPlainNames", fn := fun _ => fun
  | [d] => { results := [.lit (.bool true)], args := [d] }
  | _ => none }
def fnPlainNamesRow : OpenClaim := { program := "ytbdlfdeffpajbaa", sum := "232ece5364d9fa36eb38d4c07d0052b5b99a9bf4cea0e3dfbf4d749d93e4ee31", func := "loop.example/mailhost/laws.FnPlainNames", spec := "fnPlainNames", inPlace := ["internal/abi.NoEscape"], unfollowed := true, recurses := true, apart := false }
def FnPlainNamesSaid : Prop := fnPlainNamesRow.holds Try.pinned (OpenSpec.ofChange fnPlainNamesSpec)

/-- ITS FALSE NEIGHBOUR: 'it returns false'. Refute it at one input. -/
def fnPlainNamesWrong : ChangeSpec := { name := "fnPlainNames", fn := fun _ => fun
  | [d] => { results := [.lit (.bool false)], args := [d] }
  | _ => none }
def FnPlainNamesWrongFalsely : Prop := fnPlainNamesRow.holds Try.pinned (OpenSpec.ofChange fnPlainNamesWrong)

/-- 'laws.FnPlainBytes': WHATEVER THE INPUT: true; the input reads as it did. -/
def fnPlainBytesSpec : ChangeSpec := { name := "fnPlainBytes", fn := fun _ => fun
  | [d] => { results := [.lit (.bool true)], args := [d] }
  | _ => none }
def fnPlainBytesRow : OpenClaim := { program := "ytbdlfdeffpajbaa", sum := "232ece5364d9fa36eb38d4c07d0052b5b99a9bf4cea0e3dfbf4d749d93e4ee31", func := "loop.example/mailhost/laws.FnPlainBytes", spec := "fnPlainBytes", inPlace := ["internal/abi.NoEscape", "internal/bytealg.IndexByteString"], unfollowed := true, recurses := true, apart := false }
def FnPlainBytesSaid : Prop := fnPlainBytesRow.holds Try.pinned (OpenSpec.ofChange fnPlainBytesSpec)

/-- ITS FALSE NEIGHBOUR: 'it returns false'. Refute it at one input. -/
def fnPlainBytesWrong : ChangeSpec := { name := "fnPlainBytes", fn := fun _ => fun
  | [d] => { results := [.lit (.bool false)], args := [d] }
  | _ => none }
def FnPlainBytesWrongFalsely : Prop := fnPlainBytesRow.holds Try.pinned (OpenSpec.ofChange fnPlainBytesWrong)

/-- 'laws.FnPlainSwap': WHATEVER THE INPUT: true; the input reads as it did. -/
def fnPlainSwapSpec : ChangeSpec := { name := "fnPlainSwap", fn := fun _ => fun
  | [d] => { results := [.lit (.bool true)], args := [d] }
  | _ => none }
def fnPlainSwapRow : OpenClaim := { program := "ytbdlfdeffpajbaa", sum := "232ece5364d9fa36eb38d4c07d0052b5b99a9bf4cea0e3dfbf4d749d93e4ee31", func := "loop.example/mailhost/laws.FnPlainSwap", spec := "fnPlainSwap", inPlace := ["internal/abi.NoEscape"], unfollowed := true, recurses := true, apart := false }
def FnPlainSwapSaid : Prop := fnPlainSwapRow.holds Try.pinned (OpenSpec.ofChange fnPlainSwapSpec)

/-- ITS FALSE NEIGHBOUR: 'it returns false'. Refute it at one input. -/
def fnPlainSwapWrong : ChangeSpec := { name := "fnPlainSwap", fn := fun _ => fun
  | [d] => { results := [.lit (.bool false)], args := [d] }
  | _ => none }
def FnPlainSwapWrongFalsely : Prop := fnPlainSwapRow.holds Try.pinned (OpenSpec.ofChange fnPlainSwapWrong)

/-- 'laws.FnPlainParse': WHATEVER THE INPUT: true; the input reads as it did. -/
def fnPlainParseSpec : ChangeSpec := { name := "fnPlainParse", fn := fun _ => fun
  | [d] => { results := [.lit (.bool true)], args := [d] }
  | _ => none }
def fnPlainParseRow : OpenClaim := { program := "ytbdlfdeffpajbaa", sum := "232ece5364d9fa36eb38d4c07d0052b5b99a9bf4cea0e3dfbf4d749d93e4ee31", func := "loop.example/mailhost/laws.FnPlainParse", spec := "fnPlainParse", inPlace := ["internal/bytealg.IndexByteString", "internal/abi.NoEscape"], unfollowed := true, recurses := true, apart := false }
def FnPlainParseSaid : Prop := fnPlainParseRow.holds Try.pinned (OpenSpec.ofChange fnPlainParseSpec)

/-- ITS FALSE NEIGHBOUR: 'it returns false'. Refute it at one input. -/
def fnPlainParseWrong : ChangeSpec := { name := "fnPlainParse", fn := fun _ => fun
  | [d] => { results := [.lit (.bool false)], args := [d] }
  | _ => none }
def FnPlainParseWrongFalsely : Prop := fnPlainParseRow.holds Try.pinned (OpenSpec.ofChange fnPlainParseWrong)

/-- 'laws.FnPlainMore': WHATEVER THE INPUT: true; the input reads as it did. -/
def fnPlainMoreSpec : ChangeSpec := { name := "fnPlainMore", fn := fun _ => fun
  | [d] => { results := [.lit (.bool true)], args := [d] }
  | _ => none }
def fnPlainMoreRow : OpenClaim := { program := "ytbdlfdeffpajbaa", sum := "232ece5364d9fa36eb38d4c07d0052b5b99a9bf4cea0e3dfbf4d749d93e4ee31", func := "loop.example/mailhost/laws.FnPlainMore", spec := "fnPlainMore", inPlace := ["internal/bytealg.IndexByteString", "internal/abi.NoEscape"], unfollowed := true, recurses := true, apart := false }
def FnPlainMoreSaid : Prop := fnPlainMoreRow.holds Try.pinned (OpenSpec.ofChange fnPlainMoreSpec)

/-- ITS FALSE NEIGHBOUR: 'it returns false'. Refute it at one input. -/
def fnPlainMoreWrong : ChangeSpec := { name := "fnPlainMore", fn := fun _ => fun
  | [d] => { results := [.lit (.bool false)], args := [d] }
  | _ => none }
def FnPlainMoreWrongFalsely : Prop := fnPlainMoreRow.holds Try.pinned (OpenSpec.ofChange fnPlainMoreWrong)

/-- 'laws.FnExactBase64Encode': WHATEVER THE INPUT: true; the input reads as it did. -/
def fnExactBase64EncodeSpec : ChangeSpec := { name := "fnExactBase64Encode", fn := fun _ => fun
  | [d] => { results := [.lit (.bool true)], args := [d] }
  | _ => none }
def fnExactBase64EncodeRow : OpenClaim := { program := "ytbdlfdeffpajbaa", sum := "232ece5364d9fa36eb38d4c07d0052b5b99a9bf4cea0e3dfbf4d749d93e4ee31", func := "loop.example/mailhost/laws.FnExactBase64Encode", spec := "fnExactBase64Encode", inPlace := ["internal/abi.NoEscape"], unfollowed := true, recurses := true, apart := false }
def FnExactBase64EncodeSaid : Prop := fnExactBase64EncodeRow.holds Try.pinned (OpenSpec.ofChange fnExactBase64EncodeSpec)

/-- ITS FALSE NEIGHBOUR: 'it returns false'. Refute it at one input. -/
def fnExactBase64EncodeWrong : ChangeSpec := { name := "fnExactBase64Encode", fn := fun _ => fun
  | [d] => { results := [.lit (.bool false)], args := [d] }
  | _ => none }
def FnExactBase64EncodeWrongFalsely : Prop := fnExactBase64EncodeRow.holds Try.pinned (OpenSpec.ofChange fnExactBase64EncodeWrong)

/-- 'laws.FnExactBase64Decode': WHATEVER THE INPUT: true; the input reads as it did. -/
def fnExactBase64DecodeSpec : ChangeSpec := { name := "fnExactBase64Decode", fn := fun _ => fun
  | [d] => { results := [.lit (.bool true)], args := [d] }
  | _ => none }
def fnExactBase64DecodeRow : OpenClaim := { program := "ytbdlfdeffpajbaa", sum := "232ece5364d9fa36eb38d4c07d0052b5b99a9bf4cea0e3dfbf4d749d93e4ee31", func := "loop.example/mailhost/laws.FnExactBase64Decode", spec := "fnExactBase64Decode", inPlace := ["internal/bytealg.IndexByteString", "internal/abi.NoEscape"], unfollowed := true, recurses := true, apart := false }
def FnExactBase64DecodeSaid : Prop := fnExactBase64DecodeRow.holds Try.pinned (OpenSpec.ofChange fnExactBase64DecodeSpec)

/-- ITS FALSE NEIGHBOUR: 'it returns false'. Refute it at one input. -/
def fnExactBase64DecodeWrong : ChangeSpec := { name := "fnExactBase64Decode", fn := fun _ => fun
  | [d] => { results := [.lit (.bool false)], args := [d] }
  | _ => none }
def FnExactBase64DecodeWrongFalsely : Prop := fnExactBase64DecodeRow.holds Try.pinned (OpenSpec.ofChange fnExactBase64DecodeWrong)

/-- 'laws.FnExactPlainMake': WHATEVER THE INPUT: true; the input reads as it did. -/
def fnExactPlainMakeSpec : ChangeSpec := { name := "fnExactPlainMake", fn := fun _ => fun
  | [d1, d2] => { results := [.lit (.bool true)], args := [d1, d2] }
  | _ => none }
def fnExactPlainMakeRow : OpenClaim := { program := "ytbdlfdeffpajbaa", sum := "232ece5364d9fa36eb38d4c07d0052b5b99a9bf4cea0e3dfbf4d749d93e4ee31", func := "loop.example/mailhost/laws.FnExactPlainMake", spec := "fnExactPlainMake", inPlace := ["internal/abi.NoEscape"], unfollowed := true, recurses := true, apart := false }
def FnExactPlainMakeSaid : Prop := fnExactPlainMakeRow.holds Try.pinned (OpenSpec.ofChange fnExactPlainMakeSpec)

/-- ITS FALSE NEIGHBOUR: 'it returns false'. Refute it at one input. -/
def fnExactPlainMakeWrong : ChangeSpec := { name := "fnExactPlainMake", fn := fun _ => fun
  | [d1, d2] => { results := [.lit (.bool false)], args := [d1, d2] }
  | _ => none }
def FnExactPlainMakeWrongFalsely : Prop := fnExactPlainMakeRow.holds Try.pinned (OpenSpec.ofChange fnExactPlainMakeWrong)

/-- 'laws.FnExactPlainParse': WHATEVER THE INPUT: true; the input reads as it did. -/
def fnExactPlainParseSpec : ChangeSpec := { name := "fnExactPlainParse", fn := fun _ => fun
  | [d] => { results := [.lit (.bool true)], args := [d] }
  | _ => none }
def fnExactPlainParseRow : OpenClaim := { program := "ytbdlfdeffpajbaa", sum := "232ece5364d9fa36eb38d4c07d0052b5b99a9bf4cea0e3dfbf4d749d93e4ee31", func := "loop.example/mailhost/laws.FnExactPlainParse", spec := "fnExactPlainParse", inPlace := ["internal/bytealg.IndexByteString", "internal/abi.NoEscape"], unfollowed := true, recurses := true, apart := false }
def FnExactPlainParseSaid : Prop := fnExactPlainParseRow.holds Try.pinned (OpenSpec.ofChange fnExactPlainParseSpec)

/-- ITS FALSE NEIGHBOUR: 'it returns false'. Refute it at one input. -/
def fnExactPlainParseWrong : ChangeSpec := { name := "fnExactPlainParse", fn := fun _ => fun
  | [d] => { results := [.lit (.bool false)], args := [d] }
  | _ => none }
def FnExactPlainParseWrongFalsely : Prop := fnExactPlainParseRow.holds Try.pinned (OpenSpec.ofChange fnExactPlainParseWrong)

/- THE SECOND FORM. 'bulk': how many values and letters a reading holds, each counted each time it is reached (what is shared counts as often as it is met; a slice's spare places count too). A statement '..UptoSaid' is the law's where the arguments, and the package variables that the reading takes, are together of bulk at most 1048576: NARROWER than '..Said'. Prove '..Said' where nothing that the law and all that it calls make is longer than what came in: it says more and counts as full. Else prove '..UptoSaid'. A law counts once. -/
mutual
def uptoBulk {H : Type} : DataW H → Nat
  | .lit (.string bytes) => bytes.length + 1
  | .lit _ => 1
  | .nil => 1
  | .ptr d => uptoBulk d + 1
  | .slice elems spare => uptoBulkAll elems + uptoBulkAll spare + 1
  | .agg parts => uptoBulkAll parts + 1
  | .iface _ d => uptoBulk d + 1
  | .map entries => uptoBulkEntries entries + 1
  | .held _ => 1
def uptoBulkAll {H : Type} : List (DataW H) → Nat
  | [] => 0
  | d :: r => uptoBulk d + uptoBulkAll r
def uptoBulkEntries {H : Type} : List (Lit × DataW H) → Nat
  | [] => 0
  | x :: r => uptoBulkEntry x + uptoBulkEntries r
def uptoBulkEntry {H : Type} : Lit × DataW H → Nat
  | (.string bytes, d) => bytes.length + uptoBulk d + 1
  | (_, d) => uptoBulk d + 1
 end
def uptoSmall : (H : Type) → List (DataW H) → Bool := fun _ ds => decide (uptoBulkAll ds ≤ 1048576)
def OpenSpec.upto (s : _root_.Go.ChangeSpec) : _root_.Go.OpenSpec := { _root_.Go.OpenSpec.ofChange s with cond := some uptoSmall }

/-- 'laws.FnEncode', WHERE WHAT IT READS IS OF BULK AT MOST 1048576: true; the input reads as it did. -/
def fnEncodeUptoRow : OpenClaim := { program := "ytbdlfdeffpajbaa", sum := "232ece5364d9fa36eb38d4c07d0052b5b99a9bf4cea0e3dfbf4d749d93e4ee31", func := "loop.example/mailhost/laws.FnEncode", spec := "fnEncode", inPlace := ["internal/abi.NoEscape"], unfollowed := true, recurses := true, apart := false, narrowed := true }
def FnEncodeUptoSaid : Prop := fnEncodeUptoRow.holds Try.pinned (OpenSpec.upto fnEncodeSpec)

/-- 'laws.FnEncodeBack', WHERE WHAT IT READS IS OF BULK AT MOST 1048576: true; the input reads as it did. -/
def fnEncodeBackUptoRow : OpenClaim := { program := "ytbdlfdeffpajbaa", sum := "232ece5364d9fa36eb38d4c07d0052b5b99a9bf4cea0e3dfbf4d749d93e4ee31", func := "loop.example/mailhost/laws.FnEncodeBack", spec := "fnEncodeBack", inPlace := ["internal/abi.NoEscape", "internal/bytealg.IndexByteString"], unfollowed := true, recurses := true, apart := false, narrowed := true }
def FnEncodeBackUptoSaid : Prop := fnEncodeBackUptoRow.holds Try.pinned (OpenSpec.upto fnEncodeBackSpec)

/-- 'laws.FnEncodeLong', WHERE WHAT IT READS IS OF BULK AT MOST 1048576: true; the input reads as it did. -/
def fnEncodeLongUptoRow : OpenClaim := { program := "ytbdlfdeffpajbaa", sum := "232ece5364d9fa36eb38d4c07d0052b5b99a9bf4cea0e3dfbf4d749d93e4ee31", func := "loop.example/mailhost/laws.FnEncodeLong", spec := "fnEncodeLong", inPlace := ["internal/abi.NoEscape"], unfollowed := true, recurses := true, apart := false, narrowed := true }
def FnEncodeLongUptoSaid : Prop := fnEncodeLongUptoRow.holds Try.pinned (OpenSpec.upto fnEncodeLongSpec)

/-- 'laws.FnEncodeJoin', WHERE WHAT IT READS IS OF BULK AT MOST 1048576: true; the input reads as it did. -/
def fnEncodeJoinUptoRow : OpenClaim := { program := "ytbdlfdeffpajbaa", sum := "232ece5364d9fa36eb38d4c07d0052b5b99a9bf4cea0e3dfbf4d749d93e4ee31", func := "loop.example/mailhost/laws.FnEncodeJoin", spec := "fnEncodeJoin", inPlace := ["internal/abi.NoEscape"], unfollowed := true, recurses := true, apart := false, narrowed := true }
def FnEncodeJoinUptoSaid : Prop := fnEncodeJoinUptoRow.holds Try.pinned (OpenSpec.upto fnEncodeJoinSpec)

/-- 'laws.FnEncodeEqual', WHERE WHAT IT READS IS OF BULK AT MOST 1048576: true; the input reads as it did. -/
def fnEncodeEqualUptoRow : OpenClaim := { program := "ytbdlfdeffpajbaa", sum := "232ece5364d9fa36eb38d4c07d0052b5b99a9bf4cea0e3dfbf4d749d93e4ee31", func := "loop.example/mailhost/laws.FnEncodeEqual", spec := "fnEncodeEqual", inPlace := ["internal/abi.NoEscape"], unfollowed := true, recurses := true, apart := false, narrowed := true }
def FnEncodeEqualUptoSaid : Prop := fnEncodeEqualUptoRow.holds Try.pinned (OpenSpec.upto fnEncodeEqualSpec)

/-- 'laws.FnDecode', WHERE WHAT IT READS IS OF BULK AT MOST 1048576: true; the input reads as it did. -/
def fnDecodeUptoRow : OpenClaim := { program := "ytbdlfdeffpajbaa", sum := "232ece5364d9fa36eb38d4c07d0052b5b99a9bf4cea0e3dfbf4d749d93e4ee31", func := "loop.example/mailhost/laws.FnDecode", spec := "fnDecode", inPlace := ["internal/bytealg.IndexByteString", "internal/abi.NoEscape"], unfollowed := true, recurses := true, apart := false, narrowed := true }
def FnDecodeUptoSaid : Prop := fnDecodeUptoRow.holds Try.pinned (OpenSpec.upto fnDecodeSpec)

/-- 'laws.FnDecodePart', WHERE WHAT IT READS IS OF BULK AT MOST 1048576: true; the input reads as it did. -/
def fnDecodePartUptoRow : OpenClaim := { program := "ytbdlfdeffpajbaa", sum := "232ece5364d9fa36eb38d4c07d0052b5b99a9bf4cea0e3dfbf4d749d93e4ee31", func := "loop.example/mailhost/laws.FnDecodePart", spec := "fnDecodePart", inPlace := ["internal/bytealg.IndexByteString", "internal/abi.NoEscape"], unfollowed := true, recurses := true, apart := false, narrowed := true }
def FnDecodePartUptoSaid : Prop := fnDecodePartUptoRow.holds Try.pinned (OpenSpec.upto fnDecodePartSpec)

/-- 'laws.FnDecodeSign', WHERE WHAT IT READS IS OF BULK AT MOST 1048576: true; the input reads as it did. -/
def fnDecodeSignUptoRow : OpenClaim := { program := "ytbdlfdeffpajbaa", sum := "232ece5364d9fa36eb38d4c07d0052b5b99a9bf4cea0e3dfbf4d749d93e4ee31", func := "loop.example/mailhost/laws.FnDecodeSign", spec := "fnDecodeSign", inPlace := ["internal/bytealg.IndexByteString", "internal/abi.NoEscape"], unfollowed := true, recurses := true, apart := false, narrowed := true }
def FnDecodeSignUptoSaid : Prop := fnDecodeSignUptoRow.holds Try.pinned (OpenSpec.upto fnDecodeSignSpec)

/-- 'laws.FnPlainMake', WHERE WHAT IT READS IS OF BULK AT MOST 1048576: true; the input reads as it did. -/
def fnPlainMakeUptoRow : OpenClaim := { program := "ytbdlfdeffpajbaa", sum := "232ece5364d9fa36eb38d4c07d0052b5b99a9bf4cea0e3dfbf4d749d93e4ee31", func := "loop.example/mailhost/laws.FnPlainMake", spec := "fnPlainMake", inPlace := ["internal/abi.NoEscape", "internal/bytealg.IndexByteString"], unfollowed := true, recurses := true, apart := false, narrowed := true }
def FnPlainMakeUptoSaid : Prop := fnPlainMakeUptoRow.holds Try.pinned (OpenSpec.upto fnPlainMakeSpec)

/-- 'laws.FnPlainNames', WHERE WHAT IT READS IS OF BULK AT MOST 1048576: true; the input reads as it did. -/
def fnPlainNamesUptoRow : OpenClaim := { program := "ytbdlfdeffpajbaa", sum := "232ece5364d9fa36eb38d4c07d0052b5b99a9bf4cea0e3dfbf4d749d93e4ee31", func := "loop.example/mailhost/laws.FnPlainNames", spec := "fnPlainNames", inPlace := ["internal/abi.NoEscape"], unfollowed := true, recurses := true, apart := false, narrowed := true }
def FnPlainNamesUptoSaid : Prop := fnPlainNamesUptoRow.holds Try.pinned (OpenSpec.upto fnPlainNamesSpec)

/-- 'laws.FnPlainBytes', WHERE WHAT IT READS IS OF BULK AT MOST 1048576: true; the input reads as it did. -/
def fnPlainBytesUptoRow : OpenClaim := { program := "ytbdlfdeffpajbaa", sum := "232ece5364d9fa36eb38d4c07d0052b5b99a9bf4cea0e3dfbf4d749d93e4ee31", func := "loop.example/mailhost/laws.FnPlainBytes", spec := "fnPlainBytes", inPlace := ["internal/abi.NoEscape", "internal/bytealg.IndexByteString"], unfollowed := true, recurses := true, apart := false, narrowed := true }
def FnPlainBytesUptoSaid : Prop := fnPlainBytesUptoRow.holds Try.pinned (OpenSpec.upto fnPlainBytesSpec)

/-- 'laws.FnPlainSwap', WHERE WHAT IT READS IS OF BULK AT MOST 1048576: true; the input reads as it did. -/
def fnPlainSwapUptoRow : OpenClaim := { program := "ytbdlfdeffpajbaa", sum := "232ece5364d9fa36eb38d4c07d0052b5b99a9bf4cea0e3dfbf4d749d93e4ee31", func := "loop.example/mailhost/laws.FnPlainSwap", spec := "fnPlainSwap", inPlace := ["internal/abi.NoEscape"], unfollowed := true, recurses := true, apart := false, narrowed := true }
def FnPlainSwapUptoSaid : Prop := fnPlainSwapUptoRow.holds Try.pinned (OpenSpec.upto fnPlainSwapSpec)

/-- 'laws.FnPlainParse', WHERE WHAT IT READS IS OF BULK AT MOST 1048576: true; the input reads as it did. -/
def fnPlainParseUptoRow : OpenClaim := { program := "ytbdlfdeffpajbaa", sum := "232ece5364d9fa36eb38d4c07d0052b5b99a9bf4cea0e3dfbf4d749d93e4ee31", func := "loop.example/mailhost/laws.FnPlainParse", spec := "fnPlainParse", inPlace := ["internal/bytealg.IndexByteString", "internal/abi.NoEscape"], unfollowed := true, recurses := true, apart := false, narrowed := true }
def FnPlainParseUptoSaid : Prop := fnPlainParseUptoRow.holds Try.pinned (OpenSpec.upto fnPlainParseSpec)

/-- 'laws.FnPlainMore', WHERE WHAT IT READS IS OF BULK AT MOST 1048576: true; the input reads as it did. -/
def fnPlainMoreUptoRow : OpenClaim := { program := "ytbdlfdeffpajbaa", sum := "232ece5364d9fa36eb38d4c07d0052b5b99a9bf4cea0e3dfbf4d749d93e4ee31", func := "loop.example/mailhost/laws.FnPlainMore", spec := "fnPlainMore", inPlace := ["internal/bytealg.IndexByteString", "internal/abi.NoEscape"], unfollowed := true, recurses := true, apart := false, narrowed := true }
def FnPlainMoreUptoSaid : Prop := fnPlainMoreUptoRow.holds Try.pinned (OpenSpec.upto fnPlainMoreSpec)

/-- 'laws.FnExactBase64Encode', WHERE WHAT IT READS IS OF BULK AT MOST 1048576: true; the input reads as it did. -/
def fnExactBase64EncodeUptoRow : OpenClaim := { program := "ytbdlfdeffpajbaa", sum := "232ece5364d9fa36eb38d4c07d0052b5b99a9bf4cea0e3dfbf4d749d93e4ee31", func := "loop.example/mailhost/laws.FnExactBase64Encode", spec := "fnExactBase64Encode", inPlace := ["internal/abi.NoEscape"], unfollowed := true, recurses := true, apart := false, narrowed := true }
def FnExactBase64EncodeUptoSaid : Prop := fnExactBase64EncodeUptoRow.holds Try.pinned (OpenSpec.upto fnExactBase64EncodeSpec)

/-- 'laws.FnExactBase64Decode', WHERE WHAT IT READS IS OF BULK AT MOST 1048576: true; the input reads as it did. -/
def fnExactBase64DecodeUptoRow : OpenClaim := { program := "ytbdlfdeffpajbaa", sum := "232ece5364d9fa36eb38d4c07d0052b5b99a9bf4cea0e3dfbf4d749d93e4ee31", func := "loop.example/mailhost/laws.FnExactBase64Decode", spec := "fnExactBase64Decode", inPlace := ["internal/bytealg.IndexByteString", "internal/abi.NoEscape"], unfollowed := true, recurses := true, apart := false, narrowed := true }
def FnExactBase64DecodeUptoSaid : Prop := fnExactBase64DecodeUptoRow.holds Try.pinned (OpenSpec.upto fnExactBase64DecodeSpec)

/-- 'laws.FnExactPlainMake', WHERE WHAT IT READS IS OF BULK AT MOST 1048576: true; the input reads as it did. -/
def fnExactPlainMakeUptoRow : OpenClaim := { program := "ytbdlfdeffpajbaa", sum := "232ece5364d9fa36eb38d4c07d0052b5b99a9bf4cea0e3dfbf4d749d93e4ee31", func := "loop.example/mailhost/laws.FnExactPlainMake", spec := "fnExactPlainMake", inPlace := ["internal/abi.NoEscape"], unfollowed := true, recurses := true, apart := false, narrowed := true }
def FnExactPlainMakeUptoSaid : Prop := fnExactPlainMakeUptoRow.holds Try.pinned (OpenSpec.upto fnExactPlainMakeSpec)

/-- 'laws.FnExactPlainParse', WHERE WHAT IT READS IS OF BULK AT MOST 1048576: true; the input reads as it did. -/
def fnExactPlainParseUptoRow : OpenClaim := { program := "ytbdlfdeffpajbaa", sum := "232ece5364d9fa36eb38d4c07d0052b5b99a9bf4cea0e3dfbf4d749d93e4ee31", func := "loop.example/mailhost/laws.FnExactPlainParse", spec := "fnExactPlainParse", inPlace := ["internal/bytealg.IndexByteString", "internal/abi.NoEscape"], unfollowed := true, recurses := true, apart := false, narrowed := true }
def FnExactPlainParseUptoSaid : Prop := fnExactPlainParseUptoRow.holds Try.pinned (OpenSpec.upto fnExactPlainParseSpec)

end Rows
end Go.Proofs.Ytbdlfdeffpajbaa
