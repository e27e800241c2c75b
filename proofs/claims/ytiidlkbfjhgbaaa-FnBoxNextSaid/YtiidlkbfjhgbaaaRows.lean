/-
  No cell of these rows narrows 'for every input' (looked for: loops, veiled, ifaces, maps, wideKeys, modest, calm, conditions, laid).
  DERIVED. THE GIVEN ROWS OF THIS SEAT. 28 by the template 'for every input the law returns true; each argument reads behind the call as it read before'; 0 by the template 'total and deterministic' (their statements: YtiidlkbfjhgbaaaTotals.lean).
  GIVEN WITH THE SEED: the statements are not yours to turn. If you find one false, say at which input.
  Laid BY PROGRAM, IN A SANDBOX (cutbox-rows.mjs): the forced cells as the released guide's own fill.sh prints them over the translation f85b068bfb7c8be6… (all of the seat's roots in one cut). By AI agents, Wed Nov 11 2026. No macro, syntax, notation, axiom, sorry.
-/
import Derived.Test.YtiidlkbfjhgbaaaChecked
import GoSem.Claim
import GoSem.ClaimJoined
import GoSem.ClaimMapViews
import Derived.JoinedTies
import Derived.KernelRfl
namespace Go.Proofs.Ytiidlkbfjhgbaaa
/- THE CELL 'sum', in the pinned program and in every row, IS THE sha256 OF THE DUMP (.gsa) THAT YtiidlkbfjhgbaaaProg.lean LOADS. Nothing in Lean hashes anything: it is a label: what it is worth is what the hold of that sum in a sandbox is worth. -/
noncomputable def Try.pinned : Pinned := { name := "ytiidlkbfjhgbaaa", sum := "f85b068bfb7c8be620bdc4348442127d304e5e4807d930d46e37dc2ad7559fc7", checked := Try.checked }
namespace Rows
def none {H : Type} : Left H := { results := [], args := [] }

/-- 'laws.FnAppend': WHATEVER THE INPUT: true; the input reads as it did. -/
def fnAppendSpec : ChangeSpec := { name := "fnAppend", fn := fun _ => fun
  | [d] => { results := [.lit (.bool true)], args := [d] }
  | _ => none }
def fnAppendRow : OpenClaim := { program := "ytiidlkbfjhgbaaa", sum := "f85b068bfb7c8be620bdc4348442127d304e5e4807d930d46e37dc2ad7559fc7", func := "loop.example/mailhost/laws.FnAppend", spec := "fnAppend", apart := false }
def FnAppendSaid : Prop := fnAppendRow.holds Try.pinned (OpenSpec.ofChange fnAppendSpec)

/-- ITS FALSE NEIGHBOUR: 'it returns false'. Refute it at one input. -/
def fnAppendWrong : ChangeSpec := { name := "fnAppend", fn := fun _ => fun
  | [d] => { results := [.lit (.bool false)], args := [d] }
  | _ => none }
def FnAppendWrongFalsely : Prop := fnAppendRow.holds Try.pinned (OpenSpec.ofChange fnAppendWrong)

/-- 'laws.FnAppendOld': WHATEVER THE INPUT: true; the input reads as it did. -/
def fnAppendOldSpec : ChangeSpec := { name := "fnAppendOld", fn := fun _ => fun
  | [d] => { results := [.lit (.bool true)], args := [d] }
  | _ => none }
def fnAppendOldRow : OpenClaim := { program := "ytiidlkbfjhgbaaa", sum := "f85b068bfb7c8be620bdc4348442127d304e5e4807d930d46e37dc2ad7559fc7", func := "loop.example/mailhost/laws.FnAppendOld", spec := "fnAppendOld", apart := false }
def FnAppendOldSaid : Prop := fnAppendOldRow.holds Try.pinned (OpenSpec.ofChange fnAppendOldSpec)

/-- ITS FALSE NEIGHBOUR: 'it returns false'. Refute it at one input. -/
def fnAppendOldWrong : ChangeSpec := { name := "fnAppendOld", fn := fun _ => fun
  | [d] => { results := [.lit (.bool false)], args := [d] }
  | _ => none }
def FnAppendOldWrongFalsely : Prop := fnAppendOldRow.holds Try.pinned (OpenSpec.ofChange fnAppendOldWrong)

/-- 'laws.FnAppendFull': WHATEVER THE INPUT: true; the input reads as it did. -/
def fnAppendFullSpec : ChangeSpec := { name := "fnAppendFull", fn := fun _ => fun
  | [d] => { results := [.lit (.bool true)], args := [d] }
  | _ => none }
def fnAppendFullRow : OpenClaim := { program := "ytiidlkbfjhgbaaa", sum := "f85b068bfb7c8be620bdc4348442127d304e5e4807d930d46e37dc2ad7559fc7", func := "loop.example/mailhost/laws.FnAppendFull", spec := "fnAppendFull", apart := false }
def FnAppendFullSaid : Prop := fnAppendFullRow.holds Try.pinned (OpenSpec.ofChange fnAppendFullSpec)

/-- ITS FALSE NEIGHBOUR: 'it returns false'. Refute it at one input. -/
def fnAppendFullWrong : ChangeSpec := { name := "fnAppendFull", fn := fun _ => fun
  | [d] => { results := [.lit (.bool false)], args := [d] }
  | _ => none }
def FnAppendFullWrongFalsely : Prop := fnAppendFullRow.holds Try.pinned (OpenSpec.ofChange fnAppendFullWrong)

/-- 'laws.FnBoxPart': WHATEVER THE INPUT: true; the input reads as it did. -/
def fnBoxPartSpec : ChangeSpec := { name := "fnBoxPart", fn := fun _ => fun
  | [d1, d2] => { results := [.lit (.bool true)], args := [d1, d2] }
  | _ => none }
def fnBoxPartRow : OpenClaim := { program := "ytiidlkbfjhgbaaa", sum := "f85b068bfb7c8be620bdc4348442127d304e5e4807d930d46e37dc2ad7559fc7", func := "loop.example/mailhost/laws.FnBoxPart", spec := "fnBoxPart", apart := false }
def FnBoxPartSaid : Prop := fnBoxPartRow.holds Try.pinned (OpenSpec.ofChange fnBoxPartSpec)

/-- ITS FALSE NEIGHBOUR: 'it returns false'. Refute it at one input. -/
def fnBoxPartWrong : ChangeSpec := { name := "fnBoxPart", fn := fun _ => fun
  | [d1, d2] => { results := [.lit (.bool false)], args := [d1, d2] }
  | _ => none }
def FnBoxPartWrongFalsely : Prop := fnBoxPartRow.holds Try.pinned (OpenSpec.ofChange fnBoxPartWrong)

/-- 'laws.FnBoxNext': WHATEVER THE INPUT: true; the input reads as it did. -/
def fnBoxNextSpec : ChangeSpec := { name := "fnBoxNext", fn := fun _ => fun
  | [d1, d2] => { results := [.lit (.bool true)], args := [d1, d2] }
  | _ => none }
def fnBoxNextRow : OpenClaim := { program := "ytiidlkbfjhgbaaa", sum := "f85b068bfb7c8be620bdc4348442127d304e5e4807d930d46e37dc2ad7559fc7", func := "loop.example/mailhost/laws.FnBoxNext", spec := "fnBoxNext", apart := false }
def FnBoxNextSaid : Prop := fnBoxNextRow.holds Try.pinned (OpenSpec.ofChange fnBoxNextSpec)

/-- ITS FALSE NEIGHBOUR: 'it returns false'. Refute it at one input. -/
def fnBoxNextWrong : ChangeSpec := { name := "fnBoxNext", fn := fun _ => fun
  | [d1, d2] => { results := [.lit (.bool false)], args := [d1, d2] }
  | _ => none }
def FnBoxNextWrongFalsely : Prop := fnBoxNextRow.holds Try.pinned (OpenSpec.ofChange fnBoxNextWrong)

/-- 'laws.FnBoxOrder': WHATEVER THE INPUT: true; the input reads as it did. -/
def fnBoxOrderSpec : ChangeSpec := { name := "fnBoxOrder", fn := fun _ => fun
  | [d] => { results := [.lit (.bool true)], args := [d] }
  | _ => none }
def fnBoxOrderRow : OpenClaim := { program := "ytiidlkbfjhgbaaa", sum := "f85b068bfb7c8be620bdc4348442127d304e5e4807d930d46e37dc2ad7559fc7", func := "loop.example/mailhost/laws.FnBoxOrder", spec := "fnBoxOrder", apart := false }
def FnBoxOrderSaid : Prop := fnBoxOrderRow.holds Try.pinned (OpenSpec.ofChange fnBoxOrderSpec)

/-- ITS FALSE NEIGHBOUR: 'it returns false'. Refute it at one input. -/
def fnBoxOrderWrong : ChangeSpec := { name := "fnBoxOrder", fn := fun _ => fun
  | [d] => { results := [.lit (.bool false)], args := [d] }
  | _ => none }
def FnBoxOrderWrongFalsely : Prop := fnBoxOrderRow.holds Try.pinned (OpenSpec.ofChange fnBoxOrderWrong)

/-- 'laws.FnBoxFlags': WHATEVER THE INPUT: true; the input reads as it did. -/
def fnBoxFlagsSpec : ChangeSpec := { name := "fnBoxFlags", fn := fun _ => fun
  | [d] => { results := [.lit (.bool true)], args := [d] }
  | _ => none }
def fnBoxFlagsRow : OpenClaim := { program := "ytiidlkbfjhgbaaa", sum := "f85b068bfb7c8be620bdc4348442127d304e5e4807d930d46e37dc2ad7559fc7", func := "loop.example/mailhost/laws.FnBoxFlags", spec := "fnBoxFlags", unfollowed := true, recurses := true, apart := false }
def FnBoxFlagsSaid : Prop := fnBoxFlagsRow.holds Try.pinned (OpenSpec.ofChange fnBoxFlagsSpec)

/-- ITS FALSE NEIGHBOUR: 'it returns false'. Refute it at one input. -/
def fnBoxFlagsWrong : ChangeSpec := { name := "fnBoxFlags", fn := fun _ => fun
  | [d] => { results := [.lit (.bool false)], args := [d] }
  | _ => none }
def FnBoxFlagsWrongFalsely : Prop := fnBoxFlagsRow.holds Try.pinned (OpenSpec.ofChange fnBoxFlagsWrong)

/-- 'laws.FnBoxFlagsTwice': WHATEVER THE INPUT: true; the input reads as it did. -/
def fnBoxFlagsTwiceSpec : ChangeSpec := { name := "fnBoxFlagsTwice", fn := fun _ => fun
  | [d] => { results := [.lit (.bool true)], args := [d] }
  | _ => none }
def fnBoxFlagsTwiceRow : OpenClaim := { program := "ytiidlkbfjhgbaaa", sum := "f85b068bfb7c8be620bdc4348442127d304e5e4807d930d46e37dc2ad7559fc7", func := "loop.example/mailhost/laws.FnBoxFlagsTwice", spec := "fnBoxFlagsTwice", unfollowed := true, recurses := true, apart := false }
def FnBoxFlagsTwiceSaid : Prop := fnBoxFlagsTwiceRow.holds Try.pinned (OpenSpec.ofChange fnBoxFlagsTwiceSpec)

/-- ITS FALSE NEIGHBOUR: 'it returns false'. Refute it at one input. -/
def fnBoxFlagsTwiceWrong : ChangeSpec := { name := "fnBoxFlagsTwice", fn := fun _ => fun
  | [d] => { results := [.lit (.bool false)], args := [d] }
  | _ => none }
def FnBoxFlagsTwiceWrongFalsely : Prop := fnBoxFlagsTwiceRow.holds Try.pinned (OpenSpec.ofChange fnBoxFlagsTwiceWrong)

/-- 'laws.FnBoxFlagsNone': WHATEVER THE INPUT: true; the input reads as it did. -/
def fnBoxFlagsNoneSpec : ChangeSpec := { name := "fnBoxFlagsNone", fn := fun _ => fun
  | [d] => { results := [.lit (.bool true)], args := [d] }
  | _ => none }
def fnBoxFlagsNoneRow : OpenClaim := { program := "ytiidlkbfjhgbaaa", sum := "f85b068bfb7c8be620bdc4348442127d304e5e4807d930d46e37dc2ad7559fc7", func := "loop.example/mailhost/laws.FnBoxFlagsNone", spec := "fnBoxFlagsNone", unfollowed := true, recurses := true, apart := false }
def FnBoxFlagsNoneSaid : Prop := fnBoxFlagsNoneRow.holds Try.pinned (OpenSpec.ofChange fnBoxFlagsNoneSpec)

/-- ITS FALSE NEIGHBOUR: 'it returns false'. Refute it at one input. -/
def fnBoxFlagsNoneWrong : ChangeSpec := { name := "fnBoxFlagsNone", fn := fun _ => fun
  | [d] => { results := [.lit (.bool false)], args := [d] }
  | _ => none }
def FnBoxFlagsNoneWrongFalsely : Prop := fnBoxFlagsNoneRow.holds Try.pinned (OpenSpec.ofChange fnBoxFlagsNoneWrong)

/-- 'laws.FnExpunge': WHATEVER THE INPUT: true; the input reads as it did. -/
def fnExpungeSpec : ChangeSpec := { name := "fnExpunge", fn := fun _ => fun
  | [d] => { results := [.lit (.bool true)], args := [d] }
  | _ => none }
def fnExpungeRow : OpenClaim := { program := "ytiidlkbfjhgbaaa", sum := "f85b068bfb7c8be620bdc4348442127d304e5e4807d930d46e37dc2ad7559fc7", func := "loop.example/mailhost/laws.FnExpunge", spec := "fnExpunge", apart := false }
def FnExpungeSaid : Prop := fnExpungeRow.holds Try.pinned (OpenSpec.ofChange fnExpungeSpec)

/-- ITS FALSE NEIGHBOUR: 'it returns false'. Refute it at one input. -/
def fnExpungeWrong : ChangeSpec := { name := "fnExpunge", fn := fun _ => fun
  | [d] => { results := [.lit (.bool false)], args := [d] }
  | _ => none }
def FnExpungeWrongFalsely : Prop := fnExpungeRow.holds Try.pinned (OpenSpec.ofChange fnExpungeWrong)

/-- 'laws.FnExpungeNumbers': WHATEVER THE INPUT: true; the input reads as it did. -/
def fnExpungeNumbersSpec : ChangeSpec := { name := "fnExpungeNumbers", fn := fun _ => fun
  | [d] => { results := [.lit (.bool true)], args := [d] }
  | _ => none }
def fnExpungeNumbersRow : OpenClaim := { program := "ytiidlkbfjhgbaaa", sum := "f85b068bfb7c8be620bdc4348442127d304e5e4807d930d46e37dc2ad7559fc7", func := "loop.example/mailhost/laws.FnExpungeNumbers", spec := "fnExpungeNumbers", apart := false }
def FnExpungeNumbersSaid : Prop := fnExpungeNumbersRow.holds Try.pinned (OpenSpec.ofChange fnExpungeNumbersSpec)

/-- ITS FALSE NEIGHBOUR: 'it returns false'. Refute it at one input. -/
def fnExpungeNumbersWrong : ChangeSpec := { name := "fnExpungeNumbers", fn := fun _ => fun
  | [d] => { results := [.lit (.bool false)], args := [d] }
  | _ => none }
def FnExpungeNumbersWrongFalsely : Prop := fnExpungeNumbersRow.holds Try.pinned (OpenSpec.ofChange fnExpungeNumbersWrong)

/-- 'laws.FnExpungeTwice': WHATEVER THE INPUT: true; the input reads as it did. -/
def fnExpungeTwiceSpec : ChangeSpec := { name := "fnExpungeTwice", fn := fun _ => fun
  | [d] => { results := [.lit (.bool true)], args := [d] }
  | _ => none }
def fnExpungeTwiceRow : OpenClaim := { program := "ytiidlkbfjhgbaaa", sum := "f85b068bfb7c8be620bdc4348442127d304e5e4807d930d46e37dc2ad7559fc7", func := "loop.example/mailhost/laws.FnExpungeTwice", spec := "fnExpungeTwice", apart := false }
def FnExpungeTwiceSaid : Prop := fnExpungeTwiceRow.holds Try.pinned (OpenSpec.ofChange fnExpungeTwiceSpec)

/-- ITS FALSE NEIGHBOUR: 'it returns false'. Refute it at one input. -/
def fnExpungeTwiceWrong : ChangeSpec := { name := "fnExpungeTwice", fn := fun _ => fun
  | [d] => { results := [.lit (.bool false)], args := [d] }
  | _ => none }
def FnExpungeTwiceWrongFalsely : Prop := fnExpungeTwiceRow.holds Try.pinned (OpenSpec.ofChange fnExpungeTwiceWrong)

/-- 'laws.FnExpungeKept': WHATEVER THE INPUT: true; the input reads as it did. -/
def fnExpungeKeptSpec : ChangeSpec := { name := "fnExpungeKept", fn := fun _ => fun
  | [d] => { results := [.lit (.bool true)], args := [d] }
  | _ => none }
def fnExpungeKeptRow : OpenClaim := { program := "ytiidlkbfjhgbaaa", sum := "f85b068bfb7c8be620bdc4348442127d304e5e4807d930d46e37dc2ad7559fc7", func := "loop.example/mailhost/laws.FnExpungeKept", spec := "fnExpungeKept", unfollowed := true, recurses := true, apart := false }
def FnExpungeKeptSaid : Prop := fnExpungeKeptRow.holds Try.pinned (OpenSpec.ofChange fnExpungeKeptSpec)

/-- ITS FALSE NEIGHBOUR: 'it returns false'. Refute it at one input. -/
def fnExpungeKeptWrong : ChangeSpec := { name := "fnExpungeKept", fn := fun _ => fun
  | [d] => { results := [.lit (.bool false)], args := [d] }
  | _ => none }
def FnExpungeKeptWrongFalsely : Prop := fnExpungeKeptRow.holds Try.pinned (OpenSpec.ofChange fnExpungeKeptWrong)

/-- 'laws.FnExpungeNext': WHATEVER THE INPUT: true; the input reads as it did. -/
def fnExpungeNextSpec : ChangeSpec := { name := "fnExpungeNext", fn := fun _ => fun
  | [d] => { results := [.lit (.bool true)], args := [d] }
  | _ => none }
def fnExpungeNextRow : OpenClaim := { program := "ytiidlkbfjhgbaaa", sum := "f85b068bfb7c8be620bdc4348442127d304e5e4807d930d46e37dc2ad7559fc7", func := "loop.example/mailhost/laws.FnExpungeNext", spec := "fnExpungeNext", apart := false }
def FnExpungeNextSaid : Prop := fnExpungeNextRow.holds Try.pinned (OpenSpec.ofChange fnExpungeNextSpec)

/-- ITS FALSE NEIGHBOUR: 'it returns false'. Refute it at one input. -/
def fnExpungeNextWrong : ChangeSpec := { name := "fnExpungeNext", fn := fun _ => fun
  | [d] => { results := [.lit (.bool false)], args := [d] }
  | _ => none }
def FnExpungeNextWrongFalsely : Prop := fnExpungeNextRow.holds Try.pinned (OpenSpec.ofChange fnExpungeNextWrong)

/-- 'laws.FnCopy': WHATEVER THE INPUT: true; the input reads as it did. -/
def fnCopySpec : ChangeSpec := { name := "fnCopy", fn := fun _ => fun
  | [d] => { results := [.lit (.bool true)], args := [d] }
  | _ => none }
def fnCopyRow : OpenClaim := { program := "ytiidlkbfjhgbaaa", sum := "f85b068bfb7c8be620bdc4348442127d304e5e4807d930d46e37dc2ad7559fc7", func := "loop.example/mailhost/laws.FnCopy", spec := "fnCopy", apart := false }
def FnCopySaid : Prop := fnCopyRow.holds Try.pinned (OpenSpec.ofChange fnCopySpec)

/-- ITS FALSE NEIGHBOUR: 'it returns false'. Refute it at one input. -/
def fnCopyWrong : ChangeSpec := { name := "fnCopy", fn := fun _ => fun
  | [d] => { results := [.lit (.bool false)], args := [d] }
  | _ => none }
def FnCopyWrongFalsely : Prop := fnCopyRow.holds Try.pinned (OpenSpec.ofChange fnCopyWrong)

/-- 'laws.FnCopyFull': WHATEVER THE INPUT: true; the input reads as it did. -/
def fnCopyFullSpec : ChangeSpec := { name := "fnCopyFull", fn := fun _ => fun
  | [d] => { results := [.lit (.bool true)], args := [d] }
  | _ => none }
def fnCopyFullRow : OpenClaim := { program := "ytiidlkbfjhgbaaa", sum := "f85b068bfb7c8be620bdc4348442127d304e5e4807d930d46e37dc2ad7559fc7", func := "loop.example/mailhost/laws.FnCopyFull", spec := "fnCopyFull", apart := false }
def FnCopyFullSaid : Prop := fnCopyFullRow.holds Try.pinned (OpenSpec.ofChange fnCopyFullSpec)

/-- ITS FALSE NEIGHBOUR: 'it returns false'. Refute it at one input. -/
def fnCopyFullWrong : ChangeSpec := { name := "fnCopyFull", fn := fun _ => fun
  | [d] => { results := [.lit (.bool false)], args := [d] }
  | _ => none }
def FnCopyFullWrongFalsely : Prop := fnCopyFullRow.holds Try.pinned (OpenSpec.ofChange fnCopyFullWrong)

/-- 'laws.FnCopyNone': WHATEVER THE INPUT: true; the input reads as it did. -/
def fnCopyNoneSpec : ChangeSpec := { name := "fnCopyNone", fn := fun _ => fun
  | [d] => { results := [.lit (.bool true)], args := [d] }
  | _ => none }
def fnCopyNoneRow : OpenClaim := { program := "ytiidlkbfjhgbaaa", sum := "f85b068bfb7c8be620bdc4348442127d304e5e4807d930d46e37dc2ad7559fc7", func := "loop.example/mailhost/laws.FnCopyNone", spec := "fnCopyNone", apart := false }
def FnCopyNoneSaid : Prop := fnCopyNoneRow.holds Try.pinned (OpenSpec.ofChange fnCopyNoneSpec)

/-- ITS FALSE NEIGHBOUR: 'it returns false'. Refute it at one input. -/
def fnCopyNoneWrong : ChangeSpec := { name := "fnCopyNone", fn := fun _ => fun
  | [d] => { results := [.lit (.bool false)], args := [d] }
  | _ => none }
def FnCopyNoneWrongFalsely : Prop := fnCopyNoneRow.holds Try.pinned (OpenSpec.ofChange fnCopyNoneWrong)

/-- 'laws.FnUids': WHATEVER THE INPUT: true; the input reads as it did. -/
def fnUidsSpec : ChangeSpec := { name := "fnUids", fn := fun _ => fun
  | [d] => { results := [.lit (.bool true)], args := [d] }
  | _ => none }
def fnUidsRow : OpenClaim := { program := "ytiidlkbfjhgbaaa", sum := "f85b068bfb7c8be620bdc4348442127d304e5e4807d930d46e37dc2ad7559fc7", func := "loop.example/mailhost/laws.FnUids", spec := "fnUids", apart := false }
def FnUidsSaid : Prop := fnUidsRow.holds Try.pinned (OpenSpec.ofChange fnUidsSpec)

/-- ITS FALSE NEIGHBOUR: 'it returns false'. Refute it at one input. -/
def fnUidsWrong : ChangeSpec := { name := "fnUids", fn := fun _ => fun
  | [d] => { results := [.lit (.bool false)], args := [d] }
  | _ => none }
def FnUidsWrongFalsely : Prop := fnUidsRow.holds Try.pinned (OpenSpec.ofChange fnUidsWrong)

/-- 'laws.FnUidsAll': WHATEVER THE INPUT: true; the input reads as it did. -/
def fnUidsAllSpec : ChangeSpec := { name := "fnUidsAll", fn := fun _ => fun
  | [d] => { results := [.lit (.bool true)], args := [d] }
  | _ => none }
def fnUidsAllRow : OpenClaim := { program := "ytiidlkbfjhgbaaa", sum := "f85b068bfb7c8be620bdc4348442127d304e5e4807d930d46e37dc2ad7559fc7", func := "loop.example/mailhost/laws.FnUidsAll", spec := "fnUidsAll", apart := false }
def FnUidsAllSaid : Prop := fnUidsAllRow.holds Try.pinned (OpenSpec.ofChange fnUidsAllSpec)

/-- ITS FALSE NEIGHBOUR: 'it returns false'. Refute it at one input. -/
def fnUidsAllWrong : ChangeSpec := { name := "fnUidsAll", fn := fun _ => fun
  | [d] => { results := [.lit (.bool false)], args := [d] }
  | _ => none }
def FnUidsAllWrongFalsely : Prop := fnUidsAllRow.holds Try.pinned (OpenSpec.ofChange fnUidsAllWrong)

/-- 'laws.FnSize': WHATEVER THE INPUT: true; the input reads as it did. -/
def fnSizeSpec : ChangeSpec := { name := "fnSize", fn := fun _ => fun
  | [d] => { results := [.lit (.bool true)], args := [d] }
  | _ => none }
def fnSizeRow : OpenClaim := { program := "ytiidlkbfjhgbaaa", sum := "f85b068bfb7c8be620bdc4348442127d304e5e4807d930d46e37dc2ad7559fc7", func := "loop.example/mailhost/laws.FnSize", spec := "fnSize", apart := false }
def FnSizeSaid : Prop := fnSizeRow.holds Try.pinned (OpenSpec.ofChange fnSizeSpec)

/-- ITS FALSE NEIGHBOUR: 'it returns false'. Refute it at one input. -/
def fnSizeWrong : ChangeSpec := { name := "fnSize", fn := fun _ => fun
  | [d] => { results := [.lit (.bool false)], args := [d] }
  | _ => none }
def FnSizeWrongFalsely : Prop := fnSizeRow.holds Try.pinned (OpenSpec.ofChange fnSizeWrong)

/-- 'laws.FnSizeParts': WHATEVER THE INPUT: true; the input reads as it did. -/
def fnSizePartsSpec : ChangeSpec := { name := "fnSizeParts", fn := fun _ => fun
  | [d1, d2] => { results := [.lit (.bool true)], args := [d1, d2] }
  | _ => none }
def fnSizePartsRow : OpenClaim := { program := "ytiidlkbfjhgbaaa", sum := "f85b068bfb7c8be620bdc4348442127d304e5e4807d930d46e37dc2ad7559fc7", func := "loop.example/mailhost/laws.FnSizeParts", spec := "fnSizeParts", apart := false }
def FnSizePartsSaid : Prop := fnSizePartsRow.holds Try.pinned (OpenSpec.ofChange fnSizePartsSpec)

/-- ITS FALSE NEIGHBOUR: 'it returns false'. Refute it at one input. -/
def fnSizePartsWrong : ChangeSpec := { name := "fnSizeParts", fn := fun _ => fun
  | [d1, d2] => { results := [.lit (.bool false)], args := [d1, d2] }
  | _ => none }
def FnSizePartsWrongFalsely : Prop := fnSizePartsRow.holds Try.pinned (OpenSpec.ofChange fnSizePartsWrong)

/-- 'laws.FnExactBoxValid': WHATEVER THE INPUT: true; the input reads as it did. -/
def fnExactBoxValidSpec : ChangeSpec := { name := "fnExactBoxValid", fn := fun _ => fun
  | [d] => { results := [.lit (.bool true)], args := [d] }
  | _ => none }
def fnExactBoxValidRow : OpenClaim := { program := "ytiidlkbfjhgbaaa", sum := "f85b068bfb7c8be620bdc4348442127d304e5e4807d930d46e37dc2ad7559fc7", func := "loop.example/mailhost/laws.FnExactBoxValid", spec := "fnExactBoxValid", apart := false }
def FnExactBoxValidSaid : Prop := fnExactBoxValidRow.holds Try.pinned (OpenSpec.ofChange fnExactBoxValidSpec)

/-- ITS FALSE NEIGHBOUR: 'it returns false'. Refute it at one input. -/
def fnExactBoxValidWrong : ChangeSpec := { name := "fnExactBoxValid", fn := fun _ => fun
  | [d] => { results := [.lit (.bool false)], args := [d] }
  | _ => none }
def FnExactBoxValidWrongFalsely : Prop := fnExactBoxValidRow.holds Try.pinned (OpenSpec.ofChange fnExactBoxValidWrong)

/-- 'laws.FnExactBoxAppend': WHATEVER THE INPUT: true; the input reads as it did. -/
def fnExactBoxAppendSpec : ChangeSpec := { name := "fnExactBoxAppend", fn := fun _ => fun
  | [d1, d2, d3] => { results := [.lit (.bool true)], args := [d1, d2, d3] }
  | _ => none }
def fnExactBoxAppendRow : OpenClaim := { program := "ytiidlkbfjhgbaaa", sum := "f85b068bfb7c8be620bdc4348442127d304e5e4807d930d46e37dc2ad7559fc7", func := "loop.example/mailhost/laws.FnExactBoxAppend", spec := "fnExactBoxAppend", apart := false }
def FnExactBoxAppendSaid : Prop := fnExactBoxAppendRow.holds Try.pinned (OpenSpec.ofChange fnExactBoxAppendSpec)

/-- ITS FALSE NEIGHBOUR: 'it returns false'. Refute it at one input. -/
def fnExactBoxAppendWrong : ChangeSpec := { name := "fnExactBoxAppend", fn := fun _ => fun
  | [d1, d2, d3] => { results := [.lit (.bool false)], args := [d1, d2, d3] }
  | _ => none }
def FnExactBoxAppendWrongFalsely : Prop := fnExactBoxAppendRow.holds Try.pinned (OpenSpec.ofChange fnExactBoxAppendWrong)

/-- 'laws.FnExactBoxFlags': WHATEVER THE INPUT: true; the input reads as it did. -/
def fnExactBoxFlagsSpec : ChangeSpec := { name := "fnExactBoxFlags", fn := fun _ => fun
  | [d1, d2, d3, d4] => { results := [.lit (.bool true)], args := [d1, d2, d3, d4] }
  | _ => none }
def fnExactBoxFlagsRow : OpenClaim := { program := "ytiidlkbfjhgbaaa", sum := "f85b068bfb7c8be620bdc4348442127d304e5e4807d930d46e37dc2ad7559fc7", func := "loop.example/mailhost/laws.FnExactBoxFlags", spec := "fnExactBoxFlags", unfollowed := true, recurses := true, apart := false }
def FnExactBoxFlagsSaid : Prop := fnExactBoxFlagsRow.holds Try.pinned (OpenSpec.ofChange fnExactBoxFlagsSpec)

/-- ITS FALSE NEIGHBOUR: 'it returns false'. Refute it at one input. -/
def fnExactBoxFlagsWrong : ChangeSpec := { name := "fnExactBoxFlags", fn := fun _ => fun
  | [d1, d2, d3, d4] => { results := [.lit (.bool false)], args := [d1, d2, d3, d4] }
  | _ => none }
def FnExactBoxFlagsWrongFalsely : Prop := fnExactBoxFlagsRow.holds Try.pinned (OpenSpec.ofChange fnExactBoxFlagsWrong)

/-- 'laws.FnExactBoxExpunge': WHATEVER THE INPUT: true; the input reads as it did. -/
def fnExactBoxExpungeSpec : ChangeSpec := { name := "fnExactBoxExpunge", fn := fun _ => fun
  | [d] => { results := [.lit (.bool true)], args := [d] }
  | _ => none }
def fnExactBoxExpungeRow : OpenClaim := { program := "ytiidlkbfjhgbaaa", sum := "f85b068bfb7c8be620bdc4348442127d304e5e4807d930d46e37dc2ad7559fc7", func := "loop.example/mailhost/laws.FnExactBoxExpunge", spec := "fnExactBoxExpunge", apart := false }
def FnExactBoxExpungeSaid : Prop := fnExactBoxExpungeRow.holds Try.pinned (OpenSpec.ofChange fnExactBoxExpungeSpec)

/-- ITS FALSE NEIGHBOUR: 'it returns false'. Refute it at one input. -/
def fnExactBoxExpungeWrong : ChangeSpec := { name := "fnExactBoxExpunge", fn := fun _ => fun
  | [d] => { results := [.lit (.bool false)], args := [d] }
  | _ => none }
def FnExactBoxExpungeWrongFalsely : Prop := fnExactBoxExpungeRow.holds Try.pinned (OpenSpec.ofChange fnExactBoxExpungeWrong)

/-- 'laws.FnExactBoxCopy': WHATEVER THE INPUT: true; the input reads as it did. -/
def fnExactBoxCopySpec : ChangeSpec := { name := "fnExactBoxCopy", fn := fun _ => fun
  | [d1, d2, d3] => { results := [.lit (.bool true)], args := [d1, d2, d3] }
  | _ => none }
def fnExactBoxCopyRow : OpenClaim := { program := "ytiidlkbfjhgbaaa", sum := "f85b068bfb7c8be620bdc4348442127d304e5e4807d930d46e37dc2ad7559fc7", func := "loop.example/mailhost/laws.FnExactBoxCopy", spec := "fnExactBoxCopy", apart := false }
def FnExactBoxCopySaid : Prop := fnExactBoxCopyRow.holds Try.pinned (OpenSpec.ofChange fnExactBoxCopySpec)

/-- ITS FALSE NEIGHBOUR: 'it returns false'. Refute it at one input. -/
def fnExactBoxCopyWrong : ChangeSpec := { name := "fnExactBoxCopy", fn := fun _ => fun
  | [d1, d2, d3] => { results := [.lit (.bool false)], args := [d1, d2, d3] }
  | _ => none }
def FnExactBoxCopyWrongFalsely : Prop := fnExactBoxCopyRow.holds Try.pinned (OpenSpec.ofChange fnExactBoxCopyWrong)

/-- 'laws.FnExactBoxUids': WHATEVER THE INPUT: true; the input reads as it did. -/
def fnExactBoxUidsSpec : ChangeSpec := { name := "fnExactBoxUids", fn := fun _ => fun
  | [d1, d2] => { results := [.lit (.bool true)], args := [d1, d2] }
  | _ => none }
def fnExactBoxUidsRow : OpenClaim := { program := "ytiidlkbfjhgbaaa", sum := "f85b068bfb7c8be620bdc4348442127d304e5e4807d930d46e37dc2ad7559fc7", func := "loop.example/mailhost/laws.FnExactBoxUids", spec := "fnExactBoxUids", apart := false }
def FnExactBoxUidsSaid : Prop := fnExactBoxUidsRow.holds Try.pinned (OpenSpec.ofChange fnExactBoxUidsSpec)

/-- ITS FALSE NEIGHBOUR: 'it returns false'. Refute it at one input. -/
def fnExactBoxUidsWrong : ChangeSpec := { name := "fnExactBoxUids", fn := fun _ => fun
  | [d1, d2] => { results := [.lit (.bool false)], args := [d1, d2] }
  | _ => none }
def FnExactBoxUidsWrongFalsely : Prop := fnExactBoxUidsRow.holds Try.pinned (OpenSpec.ofChange fnExactBoxUidsWrong)

/-- 'laws.FnExactBoxSize': WHATEVER THE INPUT: true; the input reads as it did. -/
def fnExactBoxSizeSpec : ChangeSpec := { name := "fnExactBoxSize", fn := fun _ => fun
  | [d] => { results := [.lit (.bool true)], args := [d] }
  | _ => none }
def fnExactBoxSizeRow : OpenClaim := { program := "ytiidlkbfjhgbaaa", sum := "f85b068bfb7c8be620bdc4348442127d304e5e4807d930d46e37dc2ad7559fc7", func := "loop.example/mailhost/laws.FnExactBoxSize", spec := "fnExactBoxSize", apart := false }
def FnExactBoxSizeSaid : Prop := fnExactBoxSizeRow.holds Try.pinned (OpenSpec.ofChange fnExactBoxSizeSpec)

/-- ITS FALSE NEIGHBOUR: 'it returns false'. Refute it at one input. -/
def fnExactBoxSizeWrong : ChangeSpec := { name := "fnExactBoxSize", fn := fun _ => fun
  | [d] => { results := [.lit (.bool false)], args := [d] }
  | _ => none }
def FnExactBoxSizeWrongFalsely : Prop := fnExactBoxSizeRow.holds Try.pinned (OpenSpec.ofChange fnExactBoxSizeWrong)

/- THE SECOND FORM. 'bulk': how many values and letters a reading holds, each counted each time it is reached (what is shared counts as often as it is met; a slice's spare places count too). A statement '..UptoSaid' is the law's where the arguments, and the package variables that the reading takes, are together of bulk at most 1048576: NARROWER than '..Said'. Prove '..Said' where nothing that the law and all that it calls make is longer than what came in: it says more and counts as full. Else prove '..UptoSaid'. A law counts once. -/
mutual
def uptoBulk {H : Type} : DataW H → Nat
  | .lit (.string bytes) => bytes.length + 1
  | .lit _ => 1
  | .nil => 1
  | .ptr d => uptoBulk d + 1
  | .slice elems spare => uptoBulkAll elems + uptoBulkAll spare + 1
  | .agg parts => uptoBulkAll parts + 1
  | .iface _ d => uptoBulk d + 1
  | .map entries => uptoBulkEntries entries + 1
  | .held _ => 1
def uptoBulkAll {H : Type} : List (DataW H) → Nat
  | [] => 0
  | d :: r => uptoBulk d + uptoBulkAll r
def uptoBulkEntries {H : Type} : List (Lit × DataW H) → Nat
  | [] => 0
  | x :: r => uptoBulkEntry x + uptoBulkEntries r
def uptoBulkEntry {H : Type} : Lit × DataW H → Nat
  | (.string bytes, d) => bytes.length + uptoBulk d + 1
  | (_, d) => uptoBulk d + 1
 end
def uptoSmall : (H : Type) → List (DataW H) → Bool := fun _ ds => decide (uptoBulkAll ds ≤ 1048576)
def OpenSpec.upto (s : _root_.Go.ChangeSpec) : _root_.Go.OpenSpec := { _root_.Go.OpenSpec.ofChange s with cond := some uptoSmall }

/-- 'laws.FnAppend', WHERE WHAT IT READS IS OF BULK AT MOST 1048576: true; the input reads as it did. -/
def fnAppendUptoRow : OpenClaim := { program := "ytiidlkbfjhgbaaa", sum := "f85b068bfb7c8be620bdc4348442127d304e5e4807d930d46e37dc2ad7559fc7", func := "loop.example/mailhost/laws.FnAppend", spec := "fnAppend", apart := false, narrowed := true }
def FnAppendUptoSaid : Prop := fnAppendUptoRow.holds Try.pinned (OpenSpec.upto fnAppendSpec)

/-- 'laws.FnAppendOld', WHERE WHAT IT READS IS OF BULK AT MOST 1048576: true; the input reads as it did. -/
def fnAppendOldUptoRow : OpenClaim := { program := "ytiidlkbfjhgbaaa", sum := "f85b068bfb7c8be620bdc4348442127d304e5e4807d930d46e37dc2ad7559fc7", func := "loop.example/mailhost/laws.FnAppendOld", spec := "fnAppendOld", apart := false, narrowed := true }
def FnAppendOldUptoSaid : Prop := fnAppendOldUptoRow.holds Try.pinned (OpenSpec.upto fnAppendOldSpec)

/-- 'laws.FnAppendFull', WHERE WHAT IT READS IS OF BULK AT MOST 1048576: true; the input reads as it did. -/
def fnAppendFullUptoRow : OpenClaim := { program := "ytiidlkbfjhgbaaa", sum := "f85b068bfb7c8be620bdc4348442127d304e5e4807d930d46e37dc2ad7559fc7", func := "loop.example/mailhost/laws.FnAppendFull", spec := "fnAppendFull", apart := false, narrowed := true }
def FnAppendFullUptoSaid : Prop := fnAppendFullUptoRow.holds Try.pinned (OpenSpec.upto fnAppendFullSpec)

/-- 'laws.FnBoxPart', WHERE WHAT IT READS IS OF BULK AT MOST 1048576: true; the input reads as it did. -/
def fnBoxPartUptoRow : OpenClaim := { program := "ytiidlkbfjhgbaaa", sum := "f85b068bfb7c8be620bdc4348442127d304e5e4807d930d46e37dc2ad7559fc7", func := "loop.example/mailhost/laws.FnBoxPart", spec := "fnBoxPart", apart := false, narrowed := true }
def FnBoxPartUptoSaid : Prop := fnBoxPartUptoRow.holds Try.pinned (OpenSpec.upto fnBoxPartSpec)

/-- 'laws.FnBoxNext', WHERE WHAT IT READS IS OF BULK AT MOST 1048576: true; the input reads as it did. -/
def fnBoxNextUptoRow : OpenClaim := { program := "ytiidlkbfjhgbaaa", sum := "f85b068bfb7c8be620bdc4348442127d304e5e4807d930d46e37dc2ad7559fc7", func := "loop.example/mailhost/laws.FnBoxNext", spec := "fnBoxNext", apart := false, narrowed := true }
def FnBoxNextUptoSaid : Prop := fnBoxNextUptoRow.holds Try.pinned (OpenSpec.upto fnBoxNextSpec)

/-- 'laws.FnBoxOrder', WHERE WHAT IT READS IS OF BULK AT MOST 1048576: true; the input reads as it did. -/
def fnBoxOrderUptoRow : OpenClaim := { program := "ytiidlkbfjhgbaaa", sum := "f85b068bfb7c8be620bdc4348442127d304e5e4807d930d46e37dc2ad7559fc7", func := "loop.example/mailhost/laws.FnBoxOrder", spec := "fnBoxOrder", apart := false, narrowed := true }
def FnBoxOrderUptoSaid : Prop := fnBoxOrderUptoRow.holds Try.pinned (OpenSpec.upto fnBoxOrderSpec)

/-- 'laws.FnBoxFlags', WHERE WHAT IT READS IS OF BULK AT MOST 1048576: true; the input reads as it did. -/
def fnBoxFlagsUptoRow : OpenClaim := { program := "ytiidlkbfjhgbaaa", sum := "f85b068bfb7c8be620bdc4348442127d304e5e4807d930d46e37dc2ad7559fc7", func := "loop.example/mailhost/laws.FnBoxFlags", spec := "fnBoxFlags", unfollowed := true, recurses := true, apart := false, narrowed := true }
def FnBoxFlagsUptoSaid : Prop := fnBoxFlagsUptoRow.holds Try.pinned (OpenSpec.upto fnBoxFlagsSpec)

/-- 'laws.FnBoxFlagsTwice', WHERE WHAT IT READS IS OF BULK AT MOST 1048576: true; the input reads as it did. -/
def fnBoxFlagsTwiceUptoRow : OpenClaim := { program := "ytiidlkbfjhgbaaa", sum := "f85b068bfb7c8be620bdc4348442127d304e5e4807d930d46e37dc2ad7559fc7", func := "loop.example/mailhost/laws.FnBoxFlagsTwice", spec := "fnBoxFlagsTwice", unfollowed := true, recurses := true, apart := false, narrowed := true }
def FnBoxFlagsTwiceUptoSaid : Prop := fnBoxFlagsTwiceUptoRow.holds Try.pinned (OpenSpec.upto fnBoxFlagsTwiceSpec)

/-- 'laws.FnBoxFlagsNone', WHERE WHAT IT READS IS OF BULK AT MOST 1048576: true; the input reads as it did. -/
def fnBoxFlagsNoneUptoRow : OpenClaim := { program := "ytiidlkbfjhgbaaa", sum := "f85b068bfb7c8be620bdc4348442127d304e5e4807d930d46e37dc2ad7559fc7", func := "loop.example/mailhost/laws.FnBoxFlagsNone", spec := "fnBoxFlagsNone", unfollowed := true, recurses := true, apart := false, narrowed := true }
def FnBoxFlagsNoneUptoSaid : Prop := fnBoxFlagsNoneUptoRow.holds Try.pinned (OpenSpec.upto fnBoxFlagsNoneSpec)

/-- 'laws.FnExpunge', WHERE WHAT IT READS IS OF BULK AT MOST 1048576: true; the input reads as it did. -/
def fnExpungeUptoRow : OpenClaim := { program := "ytiidlkbfjhgbaaa", sum := "f85b068bfb7c8be620bdc4348442127d304e5e4807d930d46e37dc2ad7559fc7", func := "loop.example/mailhost/laws.FnExpunge", spec := "fnExpunge", apart := false, narrowed := true }
def FnExpungeUptoSaid : Prop := fnExpungeUptoRow.holds Try.pinned (OpenSpec.upto fnExpungeSpec)

/-- 'laws.FnExpungeNumbers', WHERE WHAT IT READS IS OF BULK AT MOST 1048576: true; the input reads as it did. -/
def fnExpungeNumbersUptoRow : OpenClaim := { program := "ytiidlkbfjhgbaaa", sum := "f85b068bfb7c8be620bdc4348442127d304e5e4807d930d46e37dc2ad7559fc7", func := "loop.example/mailhost/laws.FnExpungeNumbers", spec := "fnExpungeNumbers", apart := false, narrowed := true }
def FnExpungeNumbersUptoSaid : Prop := fnExpungeNumbersUptoRow.holds Try.pinned (OpenSpec.upto fnExpungeNumbersSpec)

/-- 'laws.FnExpungeTwice', WHERE WHAT IT READS IS OF BULK AT MOST 1048576: true; the input reads as it did. -/
def fnExpungeTwiceUptoRow : OpenClaim := { program := "ytiidlkbfjhgbaaa", sum := "f85b068bfb7c8be620bdc4348442127d304e5e4807d930d46e37dc2ad7559fc7", func := "loop.example/mailhost/laws.FnExpungeTwice", spec := "fnExpungeTwice", apart := false, narrowed := true }
def FnExpungeTwiceUptoSaid : Prop := fnExpungeTwiceUptoRow.holds Try.pinned (OpenSpec.upto fnExpungeTwiceSpec)

/-- 'laws.FnExpungeKept', WHERE WHAT IT READS IS OF BULK AT MOST 1048576: true; the input reads as it did. -/
def fnExpungeKeptUptoRow : OpenClaim := { program := "ytiidlkbfjhgbaaa", sum := "f85b068bfb7c8be620bdc4348442127d304e5e4807d930d46e37dc2ad7559fc7", func := "loop.example/mailhost/laws.FnExpungeKept", spec := "fnExpungeKept", unfollowed := true, recurses := true, apart := false, narrowed := true }
def FnExpungeKeptUptoSaid : Prop := fnExpungeKeptUptoRow.holds Try.pinned (OpenSpec.upto fnExpungeKeptSpec)

/-- 'laws.FnExpungeNext', WHERE WHAT IT READS IS OF BULK AT MOST 1048576: true; the input reads as it did. -/
def fnExpungeNextUptoRow : OpenClaim := { program := "ytiidlkbfjhgbaaa", sum := "f85b068bfb7c8be620bdc4348442127d304e5e4807d930d46e37dc2ad7559fc7", func := "loop.example/mailhost/laws.FnExpungeNext", spec := "fnExpungeNext", apart := false, narrowed := true }
def FnExpungeNextUptoSaid : Prop := fnExpungeNextUptoRow.holds Try.pinned (OpenSpec.upto fnExpungeNextSpec)

/-- 'laws.FnCopy', WHERE WHAT IT READS IS OF BULK AT MOST 1048576: true; the input reads as it did. -/
def fnCopyUptoRow : OpenClaim := { program := "ytiidlkbfjhgbaaa", sum := "f85b068bfb7c8be620bdc4348442127d304e5e4807d930d46e37dc2ad7559fc7", func := "loop.example/mailhost/laws.FnCopy", spec := "fnCopy", apart := false, narrowed := true }
def FnCopyUptoSaid : Prop := fnCopyUptoRow.holds Try.pinned (OpenSpec.upto fnCopySpec)

/-- 'laws.FnCopyFull', WHERE WHAT IT READS IS OF BULK AT MOST 1048576: true; the input reads as it did. -/
def fnCopyFullUptoRow : OpenClaim := { program := "ytiidlkbfjhgbaaa", sum := "f85b068bfb7c8be620bdc4348442127d304e5e4807d930d46e37dc2ad7559fc7", func := "loop.example/mailhost/laws.FnCopyFull", spec := "fnCopyFull", apart := false, narrowed := true }
def FnCopyFullUptoSaid : Prop := fnCopyFullUptoRow.holds Try.pinned (OpenSpec.upto fnCopyFullSpec)

/-- 'laws.FnCopyNone', WHERE WHAT IT READS IS OF BULK AT MOST 1048576: true; the input reads as it did. -/
def fnCopyNoneUptoRow : OpenClaim := { program := "ytiidlkbfjhgbaaa", sum := "f85b068bfb7c8be620bdc4348442127d304e5e4807d930d46e37dc2ad7559fc7", func := "loop.example/mailhost/laws.FnCopyNone", spec := "fnCopyNone", apart := false, narrowed := true }
def FnCopyNoneUptoSaid : Prop := fnCopyNoneUptoRow.holds Try.pinned (OpenSpec.upto fnCopyNoneSpec)

/-- 'laws.FnUids', WHERE WHAT IT READS IS OF BULK AT MOST 1048576: true; the input reads as it did. -/
def fnUidsUptoRow : OpenClaim := { program := "ytiidlkbfjhgbaaa", sum := "f85b068bfb7c8be620bdc4348442127d304e5e4807d930d46e37dc2ad7559fc7", func := "loop.example/mailhost/laws.FnUids", spec := "fnUids", apart := false, narrowed := true }
def FnUidsUptoSaid : Prop := fnUidsUptoRow.holds Try.pinned (OpenSpec.upto fnUidsSpec)

/-- 'laws.FnUidsAll', WHERE WHAT IT READS IS OF BULK AT MOST 1048576: true; the input reads as it did. -/
def fnUidsAllUptoRow : OpenClaim := { program := "ytiidlkbfjhgbaaa", sum := "f85b068bfb7c8be620bdc4348442127d304e5e4807d930d46e37dc2ad7559fc7", func := "loop.example/mailhost/laws.FnUidsAll", spec := "fnUidsAll", apart := false, narrowed := true }
def FnUidsAllUptoSaid : Prop := fnUidsAllUptoRow.holds Try.pinned (OpenSpec.upto fnUidsAllSpec)

/-- 'laws.FnSize', WHERE WHAT IT READS IS OF BULK AT MOST 1048576: true; the input reads as it did. -/
def fnSizeUptoRow : OpenClaim := { program := "ytiidlkbfjhgbaaa", sum := "f85b068bfb7c8be620bdc4348442127d304e5e4807d930d46e37dc2ad7559fc7", func := "loop.example/mailhost/laws.FnSize", spec := "fnSize", apart := false, narrowed := true }
def FnSizeUptoSaid : Prop := fnSizeUptoRow.holds Try.pinned (OpenSpec.upto fnSizeSpec)

/-- 'laws.FnSizeParts', WHERE WHAT IT READS IS OF BULK AT MOST 1048576: true; the input reads as it did. -/
def fnSizePartsUptoRow : OpenClaim := { program := "ytiidlkbfjhgbaaa", sum := "f85b068bfb7c8be620bdc4348442127d304e5e4807d930d46e37dc2ad7559fc7", func := "loop.example/mailhost/laws.FnSizeParts", spec := "fnSizeParts", apart := false, narrowed := true }
def FnSizePartsUptoSaid : Prop := fnSizePartsUptoRow.holds Try.pinned (OpenSpec.upto fnSizePartsSpec)

/-- 'laws.FnExactBoxValid', WHERE WHAT IT READS IS OF BULK AT MOST 1048576: true; the input reads as it did. -/
def fnExactBoxValidUptoRow : OpenClaim := { program := "ytiidlkbfjhgbaaa", sum := "f85b068bfb7c8be620bdc4348442127d304e5e4807d930d46e37dc2ad7559fc7", func := "loop.example/mailhost/laws.FnExactBoxValid", spec := "fnExactBoxValid", apart := false, narrowed := true }
def FnExactBoxValidUptoSaid : Prop := fnExactBoxValidUptoRow.holds Try.pinned (OpenSpec.upto fnExactBoxValidSpec)

/-- 'laws.FnExactBoxAppend', WHERE WHAT IT READS IS OF BULK AT MOST 1048576: true; the input reads as it did. -/
def fnExactBoxAppendUptoRow : OpenClaim := { program := "ytiidlkbfjhgbaaa", sum := "f85b068bfb7c8be620bdc4348442127d304e5e4807d930d46e37dc2ad7559fc7", func := "loop.example/mailhost/laws.FnExactBoxAppend", spec := "fnExactBoxAppend", apart := false, narrowed := true }
def FnExactBoxAppendUptoSaid : Prop := fnExactBoxAppendUptoRow.holds Try.pinned (OpenSpec.upto fnExactBoxAppendSpec)

/-- 'laws.FnExactBoxFlags', WHERE WHAT IT READS IS OF BULK AT MOST 1048576: true; the input reads as it did. -/
def fnExactBoxFlagsUptoRow : OpenClaim := { program := "ytiidlkbfjhgbaaa", sum := "f85b068bfb7c8be620bdc4348442127d304e5e4807d930d46e37dc2ad7559fc7", func := "loop.example/mailhost/laws.FnExactBoxFlags", spec := "fnExactBoxFlags", unfollowed := true, recurses := true, apart := false, narrowed := true }
def FnExactBoxFlagsUptoSaid : Prop := fnExactBoxFlagsUptoRow.holds Try.pinned (OpenSpec.upto fnExactBoxFlagsSpec)

/-- 'laws.FnExactBoxExpunge', WHERE WHAT IT READS IS OF BULK AT MOST 1048576: true; the input reads as it did. -/
def fnExactBoxExpungeUptoRow : OpenClaim := { program := "ytiidlkbfjhgbaaa", sum := "f85b068bfb7c8be620bdc4348442127d304e5e4807d930d46e37dc2ad7559fc7", func := "loop.example/mailhost/laws.FnExactBoxExpunge", spec := "fnExactBoxExpunge", apart := false, narrowed := true }
def FnExactBoxExpungeUptoSaid : Prop := fnExactBoxExpungeUptoRow.holds Try.pinned (OpenSpec.upto fnExactBoxExpungeSpec)

/-- 'laws.FnExactBoxCopy', WHERE WHAT IT READS IS OF BULK AT MOST 1048576: true; the input reads as it did. -/
def fnExactBoxCopyUptoRow : OpenClaim := { program := "ytiidlkbfjhgbaaa", sum := "f85b068bfb7c8be620bdc4348442127d304e5e4807d930d46e37dc2ad7559fc7", func := "loop.example/mailhost/laws.FnExactBoxCopy", spec := "fnExactBoxCopy", apart := false, narrowed := true }
def FnExactBoxCopyUptoSaid : Prop := fnExactBoxCopyUptoRow.holds Try.pinned (OpenSpec.upto fnExactBoxCopySpec)

/-- 'laws.FnExactBoxUids', WHERE WHAT IT READS IS OF BULK AT MOST 1048576: true; the input reads as it did. -/
def fnExactBoxUidsUptoRow : OpenClaim := { program := "ytiidlkbfjhgbaaa", sum := "f85b068bfb7c8be620bdc4348442127d304e5e4807d930d46e37dc2ad7559fc7", func := "loop.example/mailhost/laws.FnExactBoxUids", spec := "fnExactBoxUids", apart := false, narrowed := true }
def FnExactBoxUidsUptoSaid : Prop := fnExactBoxUidsUptoRow.holds Try.pinned (OpenSpec.upto fnExactBoxUidsSpec)

/-- 'laws.FnExactBoxSize', WHERE WHAT IT READS IS OF BULK AT MOST 1048576: true; the input reads as it did. -/
def fnExactBoxSizeUptoRow : OpenClaim := { program := "ytiidlkbfjhgbaaa", sum := "f85b068bfb7c8be620bdc4348442127d304e5e4807d930d46e37dc2ad7559fc7", func := "loop.example/mailhost/laws.FnExactBoxSize", spec := "fnExactBoxSize", apart := false, narrowed := true }
def FnExactBoxSizeUptoSaid : Prop := fnExactBoxSizeUptoRow.holds Try.pinned (OpenSpec.upto fnExactBoxSizeSpec)

end Rows
end Go.Proofs.Ytiidlkbfjhgbaaa
