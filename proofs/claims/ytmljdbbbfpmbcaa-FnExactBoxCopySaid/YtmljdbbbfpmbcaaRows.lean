/-
  No cell of these rows narrows 'for every input' (looked for: loops, veiled, ifaces, maps, wideKeys, modest, calm, conditions, laid).
  DERIVED. THE GIVEN ROWS OF THIS SEAT. 12 by the template 'for every input the law returns true; each argument reads behind the call as it read before'; 0 by the template 'total and deterministic' (their statements: YtmljdbbbfpmbcaaTotals.lean).
  GIVEN WITH THE SEED: the statements are not yours to turn. If you find one false, say at which input.
  Laid BY PROGRAM, IN A SANDBOX (cutbox-rows.mjs): the forced cells as the released guide's own fill.sh prints them over the translation 441c57eb2251916b… (all of the seat's roots in one cut). By AI agents, Wed Nov 11 2026. No macro, syntax, notation, axiom, sorry.
-/
import Derived.Test.YtmljdbbbfpmbcaaChecked
import GoSem.Claim
import GoSem.ClaimJoined
import GoSem.ClaimMapViews
import Derived.JoinedTies
import Derived.KernelRfl
namespace Go.Proofs.Ytmljdbbbfpmbcaa
/- THE CELL 'sum', in the pinned program and in every row, IS THE sha256 OF THE DUMP (.gsa) THAT YtmljdbbbfpmbcaaProg.lean LOADS. Nothing in Lean hashes anything: it is a label: what it is worth is what the hold of that sum in a sandbox is worth. -/
noncomputable def Try.pinned : Pinned := { name := "ytmljdbbbfpmbcaa", sum := "441c57eb2251916bde4d9ec98c3e2c7909057131520b22a252769acf106769be", checked := Try.checked }
namespace Rows
def none {H : Type} : Left H := { results := [], args := [] }

/-- 'laws.FnBoxPart': WHATEVER THE INPUT: true; the input reads as it did. -/
def fnBoxPartSpec : ChangeSpec := { name := "fnBoxPart", fn := fun _ => fun
  | [d1, d2] => { results := [.lit (.bool true)], args := [d1, d2] }
  | _ => none }
def fnBoxPartRow : OpenClaim := { program := "ytmljdbbbfpmbcaa", sum := "441c57eb2251916bde4d9ec98c3e2c7909057131520b22a252769acf106769be", func := "loop.example/mailhost/laws.FnBoxPart", spec := "fnBoxPart", apart := false }
def FnBoxPartSaid : Prop := fnBoxPartRow.holds Try.pinned (OpenSpec.ofChange fnBoxPartSpec)

/-- ITS FALSE NEIGHBOUR: 'it returns false'. Refute it at one input. -/
def fnBoxPartWrong : ChangeSpec := { name := "fnBoxPart", fn := fun _ => fun
  | [d1, d2] => { results := [.lit (.bool false)], args := [d1, d2] }
  | _ => none }
def FnBoxPartWrongFalsely : Prop := fnBoxPartRow.holds Try.pinned (OpenSpec.ofChange fnBoxPartWrong)

/-- 'laws.FnBoxOrder': WHATEVER THE INPUT: true; the input reads as it did. -/
def fnBoxOrderSpec : ChangeSpec := { name := "fnBoxOrder", fn := fun _ => fun
  | [d] => { results := [.lit (.bool true)], args := [d] }
  | _ => none }
def fnBoxOrderRow : OpenClaim := { program := "ytmljdbbbfpmbcaa", sum := "441c57eb2251916bde4d9ec98c3e2c7909057131520b22a252769acf106769be", func := "loop.example/mailhost/laws.FnBoxOrder", spec := "fnBoxOrder", apart := false }
def FnBoxOrderSaid : Prop := fnBoxOrderRow.holds Try.pinned (OpenSpec.ofChange fnBoxOrderSpec)

/-- ITS FALSE NEIGHBOUR: 'it returns false'. Refute it at one input. -/
def fnBoxOrderWrong : ChangeSpec := { name := "fnBoxOrder", fn := fun _ => fun
  | [d] => { results := [.lit (.bool false)], args := [d] }
  | _ => none }
def FnBoxOrderWrongFalsely : Prop := fnBoxOrderRow.holds Try.pinned (OpenSpec.ofChange fnBoxOrderWrong)

/-- 'laws.FnBoxFlagsNone': WHATEVER THE INPUT: true; the input reads as it did. -/
def fnBoxFlagsNoneSpec : ChangeSpec := { name := "fnBoxFlagsNone", fn := fun _ => fun
  | [d] => { results := [.lit (.bool true)], args := [d] }
  | _ => none }
def fnBoxFlagsNoneRow : OpenClaim := { program := "ytmljdbbbfpmbcaa", sum := "441c57eb2251916bde4d9ec98c3e2c7909057131520b22a252769acf106769be", func := "loop.example/mailhost/laws.FnBoxFlagsNone", spec := "fnBoxFlagsNone", unfollowed := true, recurses := true, apart := false }
def FnBoxFlagsNoneSaid : Prop := fnBoxFlagsNoneRow.holds Try.pinned (OpenSpec.ofChange fnBoxFlagsNoneSpec)

/-- ITS FALSE NEIGHBOUR: 'it returns false'. Refute it at one input. -/
def fnBoxFlagsNoneWrong : ChangeSpec := { name := "fnBoxFlagsNone", fn := fun _ => fun
  | [d] => { results := [.lit (.bool false)], args := [d] }
  | _ => none }
def FnBoxFlagsNoneWrongFalsely : Prop := fnBoxFlagsNoneRow.holds Try.pinned (OpenSpec.ofChange fnBoxFlagsNoneWrong)

/-- 'laws.FnExpungeNumbers': WHATEVER THE INPUT: true; the input reads as it did. -/
def fnExpungeNumbersSpec : ChangeSpec := { name := "fnExpungeNumbers", fn := fun _ => fun
  | [d] => { results := [.lit (.bool true)], args := [d] }
  | _ => none }
def fnExpungeNumbersRow : OpenClaim := { program := "ytmljdbbbfpmbcaa", sum := "441c57eb2251916bde4d9ec98c3e2c7909057131520b22a252769acf106769be", func := "loop.example/mailhost/laws.FnExpungeNumbers", spec := "fnExpungeNumbers", apart := false }
def FnExpungeNumbersSaid : Prop := fnExpungeNumbersRow.holds Try.pinned (OpenSpec.ofChange fnExpungeNumbersSpec)

/-- ITS FALSE NEIGHBOUR: 'it returns false'. Refute it at one input. -/
def fnExpungeNumbersWrong : ChangeSpec := { name := "fnExpungeNumbers", fn := fun _ => fun
  | [d] => { results := [.lit (.bool false)], args := [d] }
  | _ => none }
def FnExpungeNumbersWrongFalsely : Prop := fnExpungeNumbersRow.holds Try.pinned (OpenSpec.ofChange fnExpungeNumbersWrong)

/-- 'laws.FnSizeParts': WHATEVER THE INPUT: true; the input reads as it did. -/
def fnSizePartsSpec : ChangeSpec := { name := "fnSizeParts", fn := fun _ => fun
  | [d1, d2] => { results := [.lit (.bool true)], args := [d1, d2] }
  | _ => none }
def fnSizePartsRow : OpenClaim := { program := "ytmljdbbbfpmbcaa", sum := "441c57eb2251916bde4d9ec98c3e2c7909057131520b22a252769acf106769be", func := "loop.example/mailhost/laws.FnSizeParts", spec := "fnSizeParts", apart := false }
def FnSizePartsSaid : Prop := fnSizePartsRow.holds Try.pinned (OpenSpec.ofChange fnSizePartsSpec)

/-- ITS FALSE NEIGHBOUR: 'it returns false'. Refute it at one input. -/
def fnSizePartsWrong : ChangeSpec := { name := "fnSizeParts", fn := fun _ => fun
  | [d1, d2] => { results := [.lit (.bool false)], args := [d1, d2] }
  | _ => none }
def FnSizePartsWrongFalsely : Prop := fnSizePartsRow.holds Try.pinned (OpenSpec.ofChange fnSizePartsWrong)

/-- 'laws.FnExactBoxValid': WHATEVER THE INPUT: true; the input reads as it did. -/
def fnExactBoxValidSpec : ChangeSpec := { name := "fnExactBoxValid", fn := fun _ => fun
  | [d] => { results := [.lit (.bool true)], args := [d] }
  | _ => none }
def fnExactBoxValidRow : OpenClaim := { program := "ytmljdbbbfpmbcaa", sum := "441c57eb2251916bde4d9ec98c3e2c7909057131520b22a252769acf106769be", func := "loop.example/mailhost/laws.FnExactBoxValid", spec := "fnExactBoxValid", apart := false }
def FnExactBoxValidSaid : Prop := fnExactBoxValidRow.holds Try.pinned (OpenSpec.ofChange fnExactBoxValidSpec)

/-- ITS FALSE NEIGHBOUR: 'it returns false'. Refute it at one input. -/
def fnExactBoxValidWrong : ChangeSpec := { name := "fnExactBoxValid", fn := fun _ => fun
  | [d] => { results := [.lit (.bool false)], args := [d] }
  | _ => none }
def FnExactBoxValidWrongFalsely : Prop := fnExactBoxValidRow.holds Try.pinned (OpenSpec.ofChange fnExactBoxValidWrong)

/-- 'laws.FnExactBoxAppend': WHATEVER THE INPUT: true; the input reads as it did. -/
def fnExactBoxAppendSpec : ChangeSpec := { name := "fnExactBoxAppend", fn := fun _ => fun
  | [d1, d2, d3] => { results := [.lit (.bool true)], args := [d1, d2, d3] }
  | _ => none }
def fnExactBoxAppendRow : OpenClaim := { program := "ytmljdbbbfpmbcaa", sum := "441c57eb2251916bde4d9ec98c3e2c7909057131520b22a252769acf106769be", func := "loop.example/mailhost/laws.FnExactBoxAppend", spec := "fnExactBoxAppend", apart := false }
def FnExactBoxAppendSaid : Prop := fnExactBoxAppendRow.holds Try.pinned (OpenSpec.ofChange fnExactBoxAppendSpec)

/-- ITS FALSE NEIGHBOUR: 'it returns false'. Refute it at one input. -/
def fnExactBoxAppendWrong : ChangeSpec := { name := "fnExactBoxAppend", fn := fun _ => fun
  | [d1, d2, d3] => { results := [.lit (.bool false)], args := [d1, d2, d3] }
  | _ => none }
def FnExactBoxAppendWrongFalsely : Prop := fnExactBoxAppendRow.holds Try.pinned (OpenSpec.ofChange fnExactBoxAppendWrong)

/-- 'laws.FnExactBoxFlags': WHATEVER THE INPUT: true; the input reads as it did. -/
def fnExactBoxFlagsSpec : ChangeSpec := { name := "fnExactBoxFlags", fn := fun _ => fun
  | [d1, d2, d3, d4] => { results := [.lit (.bool true)], args := [d1, d2, d3, d4] }
  | _ => none }
def fnExactBoxFlagsRow : OpenClaim := { program := "ytmljdbbbfpmbcaa", sum := "441c57eb2251916bde4d9ec98c3e2c7909057131520b22a252769acf106769be", func := "loop.example/mailhost/laws.FnExactBoxFlags", spec := "fnExactBoxFlags", unfollowed := true, recurses := true, apart := false }
def FnExactBoxFlagsSaid : Prop := fnExactBoxFlagsRow.holds Try.pinned (OpenSpec.ofChange fnExactBoxFlagsSpec)

/-- ITS FALSE NEIGHBOUR: 'it returns false'. Refute it at one input. -/
def fnExactBoxFlagsWrong : ChangeSpec := { name := "fnExactBoxFlags", fn := fun _ => fun
  | [d1, d2, d3, d4] => { results := [.lit (.bool false)], args := [d1, d2, d3, d4] }
  | _ => none }
def FnExactBoxFlagsWrongFalsely : Prop := fnExactBoxFlagsRow.holds Try.pinned (OpenSpec.ofChange fnExactBoxFlagsWrong)

/-- 'laws.FnExactBoxExpunge': WHATEVER THE INPUT: true; the input reads as it did. -/
def fnExactBoxExpungeSpec : ChangeSpec := { name := "fnExactBoxExpunge", fn := fun _ => fun
  | [d] => { results := [.lit (.bool true)], args := [d] }
  | _ => none }
def fnExactBoxExpungeRow : OpenClaim := { program := "ytmljdbbbfpmbcaa", sum := "441c57eb2251916bde4d9ec98c3e2c7909057131520b22a252769acf106769be", func := "loop.example/mailhost/laws.FnExactBoxExpunge", spec := "fnExactBoxExpunge", apart := false }
def FnExactBoxExpungeSaid : Prop := fnExactBoxExpungeRow.holds Try.pinned (OpenSpec.ofChange fnExactBoxExpungeSpec)

/-- ITS FALSE NEIGHBOUR: 'it returns false'. Refute it at one input. -/
def fnExactBoxExpungeWrong : ChangeSpec := { name := "fnExactBoxExpunge", fn := fun _ => fun
  | [d] => { results := [.lit (.bool false)], args := [d] }
  | _ => none }
def FnExactBoxExpungeWrongFalsely : Prop := fnExactBoxExpungeRow.holds Try.pinned (OpenSpec.ofChange fnExactBoxExpungeWrong)

/-- 'laws.FnExactBoxCopy': WHATEVER THE INPUT: true; the input reads as it did. -/
def fnExactBoxCopySpec : ChangeSpec := { name := "fnExactBoxCopy", fn := fun _ => fun
  | [d1, d2, d3] => { results := [.lit (.bool true)], args := [d1, d2, d3] }
  | _ => none }
def fnExactBoxCopyRow : OpenClaim := { program := "ytmljdbbbfpmbcaa", sum := "441c57eb2251916bde4d9ec98c3e2c7909057131520b22a252769acf106769be", func := "loop.example/mailhost/laws.FnExactBoxCopy", spec := "fnExactBoxCopy", apart := false }
def FnExactBoxCopySaid : Prop := fnExactBoxCopyRow.holds Try.pinned (OpenSpec.ofChange fnExactBoxCopySpec)

/-- ITS FALSE NEIGHBOUR: 'it returns false'. Refute it at one input. -/
def fnExactBoxCopyWrong : ChangeSpec := { name := "fnExactBoxCopy", fn := fun _ => fun
  | [d1, d2, d3] => { results := [.lit (.bool false)], args := [d1, d2, d3] }
  | _ => none }
def FnExactBoxCopyWrongFalsely : Prop := fnExactBoxCopyRow.holds Try.pinned (OpenSpec.ofChange fnExactBoxCopyWrong)

/-- 'laws.FnExactBoxUids': WHATEVER THE INPUT: true; the input reads as it did. -/
def fnExactBoxUidsSpec : ChangeSpec := { name := "fnExactBoxUids", fn := fun _ => fun
  | [d1, d2] => { results := [.lit (.bool true)], args := [d1, d2] }
  | _ => none }
def fnExactBoxUidsRow : OpenClaim := { program := "ytmljdbbbfpmbcaa", sum := "441c57eb2251916bde4d9ec98c3e2c7909057131520b22a252769acf106769be", func := "loop.example/mailhost/laws.FnExactBoxUids", spec := "fnExactBoxUids", apart := false }
def FnExactBoxUidsSaid : Prop := fnExactBoxUidsRow.holds Try.pinned (OpenSpec.ofChange fnExactBoxUidsSpec)

/-- ITS FALSE NEIGHBOUR: 'it returns false'. Refute it at one input. -/
def fnExactBoxUidsWrong : ChangeSpec := { name := "fnExactBoxUids", fn := fun _ => fun
  | [d1, d2] => { results := [.lit (.bool false)], args := [d1, d2] }
  | _ => none }
def FnExactBoxUidsWrongFalsely : Prop := fnExactBoxUidsRow.holds Try.pinned (OpenSpec.ofChange fnExactBoxUidsWrong)

/-- 'laws.FnExactBoxSize': WHATEVER THE INPUT: true; the input reads as it did. -/
def fnExactBoxSizeSpec : ChangeSpec := { name := "fnExactBoxSize", fn := fun _ => fun
  | [d] => { results := [.lit (.bool true)], args := [d] }
  | _ => none }
def fnExactBoxSizeRow : OpenClaim := { program := "ytmljdbbbfpmbcaa", sum := "441c57eb2251916bde4d9ec98c3e2c7909057131520b22a252769acf106769be", func := "loop.example/mailhost/laws.FnExactBoxSize", spec := "fnExactBoxSize", apart := false }
def FnExactBoxSizeSaid : Prop := fnExactBoxSizeRow.holds Try.pinned (OpenSpec.ofChange fnExactBoxSizeSpec)

/-- ITS FALSE NEIGHBOUR: 'it returns false'. Refute it at one input. -/
def fnExactBoxSizeWrong : ChangeSpec := { name := "fnExactBoxSize", fn := fun _ => fun
  | [d] => { results := [.lit (.bool false)], args := [d] }
  | _ => none }
def FnExactBoxSizeWrongFalsely : Prop := fnExactBoxSizeRow.holds Try.pinned (OpenSpec.ofChange fnExactBoxSizeWrong)

/- THE SECOND FORM. 'bulk': how many values and letters a reading holds, each counted each time it is reached (what is shared counts as often as it is met; a slice's spare places count too). A statement '..UptoSaid' is the law's where the arguments, and the package variables that the reading takes, are together of bulk at most 1048576: NARROWER than '..Said'. Prove '..Said' where nothing that the law and all that it calls make is longer than what came in: it says more and counts as full. Else prove '..UptoSaid'. A law counts once. -/
mutual
def uptoBulk {H : Type} : DataW H → Nat
  | .lit (.string bytes) => bytes.length + 1
  | .lit _ => 1
  | .nil => 1
  | .ptr d => uptoBulk d + 1
  | .slice elems spare => uptoBulkAll elems + uptoBulkAll spare + 1
  | .agg parts => uptoBulkAll parts + 1
  | .iface _ d => uptoBulk d + 1
  | .map entries => uptoBulkEntries entries + 1
  | .held _ => 1
def uptoBulkAll {H : Type} : List (DataW H) → Nat
  | [] => 0
  | d :: r => uptoBulk d + uptoBulkAll r
def uptoBulkEntries {H : Type} : List (Lit × DataW H) → Nat
  | [] => 0
  | x :: r => uptoBulkEntry x + uptoBulkEntries r
def uptoBulkEntry {H : Type} : Lit × DataW H → Nat
  | (.string bytes, d) => bytes.length + uptoBulk d + 1
  | (_, d) => uptoBulk d + 1
 end
def uptoSmall : (H : Type) → List (DataW H) → Bool := fun _ ds => decide (uptoBulkAll ds ≤ 1048576)
def OpenSpec.upto (s : _root_.Go.ChangeSpec) : _root_.Go.OpenSpec := { _root_.Go.OpenSpec.ofChange s with cond := some uptoSmall }

/-- 'laws.FnBoxPart', WHERE WHAT IT READS IS OF BULK AT MOST 1048576: true; the input reads as it did. -/
def fnBoxPartUptoRow : OpenClaim := { program := "ytmljdbbbfpmbcaa", sum := "441c57eb2251916bde4d9ec98c3e2c7909057131520b22a252769acf106769be", func := "loop.example/mailhost/laws.FnBoxPart", spec := "fnBoxPart", apart := false, narrowed := true }
def FnBoxPartUptoSaid : Prop := fnBoxPartUptoRow.holds Try.pinned (OpenSpec.upto fnBoxPartSpec)

/-- 'laws.FnBoxOrder', WHERE WHAT IT READS IS OF BULK AT MOST 1048576: true; the input reads as it did. -/
def fnBoxOrderUptoRow : OpenClaim := { program := "ytmljdbbbfpmbcaa", sum := "441c57eb2251916bde4d9ec98c3e2c7909057131520b22a252769acf106769be", func := "loop.example/mailhost/laws.FnBoxOrder", spec := "fnBoxOrder", apart := false, narrowed := true }
def FnBoxOrderUptoSaid : Prop := fnBoxOrderUptoRow.holds Try.pinned (OpenSpec.upto fnBoxOrderSpec)

/-- 'laws.FnBoxFlagsNone', WHERE WHAT IT READS IS OF BULK AT MOST 1048576: true; the input reads as it did. -/
def fnBoxFlagsNoneUptoRow : OpenClaim := { program := "ytmljdbbbfpmbcaa", sum := "441c57eb2251916bde4d9ec98c3e2c7909057131520b22a252769acf106769be", func := "loop.example/mailhost/laws.FnBoxFlagsNone", spec := "fnBoxFlagsNone", unfollowed := true, recurses := true, apart := false, narrowed := true }
def FnBoxFlagsNoneUptoSaid : Prop := fnBoxFlagsNoneUptoRow.holds Try.pinned (OpenSpec.upto fnBoxFlagsNoneSpec)

/-- 'laws.FnExpungeNumbers', WHERE WHAT IT READS IS OF BULK AT MOST 1048576: true; the input reads as it did. -/
def fnExpungeNumbersUptoRow : OpenClaim := { program := "ytmljdbbbfpmbcaa", sum := "441c57eb2251916bde4d9ec98c3e2c7909057131520b22a252769acf106769be", func := "loop.example/mailhost/laws.FnExpungeNumbers", spec := "fnExpungeNumbers", apart := false, narrowed := true }
def FnExpungeNumbersUptoSaid : Prop := fnExpungeNumbersUptoRow.holds Try.pinned (OpenSpec.upto fnExpungeNumbersSpec)

/-- 'laws.FnSizeParts', WHERE WHAT IT READS IS OF BULK AT MOST 1048576: true; the input reads as it did. -/
def fnSizePartsUptoRow : OpenClaim := { program := "ytmljdbbbfpmbcaa", sum := "441c57eb2251916bde4d9ec98c3e2c7909057131520b22a252769acf106769be", func := "loop.example/mailhost/laws.FnSizeParts", spec := "fnSizeParts", apart := false, narrowed := true }
def FnSizePartsUptoSaid : Prop := fnSizePartsUptoRow.holds Try.pinned (OpenSpec.upto fnSizePartsSpec)

/-- 'laws.FnExactBoxValid', WHERE WHAT IT READS IS OF BULK AT MOST 1048576: true; the input reads as it did. -/
def fnExactBoxValidUptoRow : OpenClaim := { program := "ytmljdbbbfpmbcaa", sum := "441c57eb2251916bde4d9ec98c3e2c7909057131520b22a252769acf106769be", func := "loop.example/mailhost/laws.FnExactBoxValid", spec := "fnExactBoxValid", apart := false, narrowed := true }
def FnExactBoxValidUptoSaid : Prop := fnExactBoxValidUptoRow.holds Try.pinned (OpenSpec.upto fnExactBoxValidSpec)

/-- 'laws.FnExactBoxAppend', WHERE WHAT IT READS IS OF BULK AT MOST 1048576: true; the input reads as it did. -/
def fnExactBoxAppendUptoRow : OpenClaim := { program := "ytmljdbbbfpmbcaa", sum := "441c57eb2251916bde4d9ec98c3e2c7909057131520b22a252769acf106769be", func := "loop.example/mailhost/laws.FnExactBoxAppend", spec := "fnExactBoxAppend", apart := false, narrowed := true }
def FnExactBoxAppendUptoSaid : Prop := fnExactBoxAppendUptoRow.holds Try.pinned (OpenSpec.upto fnExactBoxAppendSpec)

/-- 'laws.FnExactBoxFlags', WHERE WHAT IT READS IS OF BULK AT MOST 1048576: true; the input reads as it did. -/
def fnExactBoxFlagsUptoRow : OpenClaim := { program := "ytmljdbbbfpmbcaa", sum := "441c57eb2251916bde4d9ec98c3e2c7909057131520b22a252769acf106769be", func := "loop.example/mailhost/laws.FnExactBoxFlags", spec := "fnExactBoxFlags", unfollowed := true, recurses := true, apart := false, narrowed := true }
def FnExactBoxFlagsUptoSaid : Prop := fnExactBoxFlagsUptoRow.holds Try.pinned (OpenSpec.upto fnExactBoxFlagsSpec)

/-- 'laws.FnExactBoxExpunge', WHERE WHAT IT READS IS OF BULK AT MOST 1048576: true; the input reads as it did. -/
def fnExactBoxExpungeUptoRow : OpenClaim := { program := "ytmljdbbbfpmbcaa", sum := "441c57eb2251916bde4d9ec98c3e2c7909057131520b22a252769acf106769be", func := "loop.example/mailhost/laws.FnExactBoxExpunge", spec := "fnExactBoxExpunge", apart := false, narrowed := true }
def FnExactBoxExpungeUptoSaid : Prop := fnExactBoxExpungeUptoRow.holds Try.pinned (OpenSpec.upto fnExactBoxExpungeSpec)

/-- 'laws.FnExactBoxCopy', WHERE WHAT IT READS IS OF BULK AT MOST 1048576: true; the input reads as it did. -/
def fnExactBoxCopyUptoRow : OpenClaim := { program := "ytmljdbbbfpmbcaa", sum := "441c57eb2251916bde4d9ec98c3e2c7909057131520b22a252769acf106769be", func := "loop.example/mailhost/laws.FnExactBoxCopy", spec := "fnExactBoxCopy", apart := false, narrowed := true }
def FnExactBoxCopyUptoSaid : Prop := fnExactBoxCopyUptoRow.holds Try.pinned (OpenSpec.upto fnExactBoxCopySpec)

/-- 'laws.FnExactBoxUids', WHERE WHAT IT READS IS OF BULK AT MOST 1048576: true; the input reads as it did. -/
def fnExactBoxUidsUptoRow : OpenClaim := { program := "ytmljdbbbfpmbcaa", sum := "441c57eb2251916bde4d9ec98c3e2c7909057131520b22a252769acf106769be", func := "loop.example/mailhost/laws.FnExactBoxUids", spec := "fnExactBoxUids", apart := false, narrowed := true }
def FnExactBoxUidsUptoSaid : Prop := fnExactBoxUidsUptoRow.holds Try.pinned (OpenSpec.upto fnExactBoxUidsSpec)

/-- 'laws.FnExactBoxSize', WHERE WHAT IT READS IS OF BULK AT MOST 1048576: true; the input reads as it did. -/
def fnExactBoxSizeUptoRow : OpenClaim := { program := "ytmljdbbbfpmbcaa", sum := "441c57eb2251916bde4d9ec98c3e2c7909057131520b22a252769acf106769be", func := "loop.example/mailhost/laws.FnExactBoxSize", spec := "fnExactBoxSize", apart := false, narrowed := true }
def FnExactBoxSizeUptoSaid : Prop := fnExactBoxSizeUptoRow.holds Try.pinned (OpenSpec.upto fnExactBoxSizeSpec)

end Rows
end Go.Proofs.Ytmljdbbbfpmbcaa
