/-
  NARROWER THAN 'FOR EVERY INPUT', by the rows' own cells (each row's printed sentence says how): FnFlags: laid · FnFlagsText: laid · FnFlagsParse: laid · FnFlagsTwice: laid · FnFlagsOrder: laid · FnChangeBad: laid · FnHaveSelf: laid · FnExactFlagsText: laid · FnExactFlagsParse: laid.
  DERIVED. THE GIVEN ROWS OF THIS SEAT. 9 by the template 'for every input the law returns true; each argument reads behind the call as it read before'; 0 by the template 'total and deterministic' (their statements: YtbcooiifpfdiaaaDoorTotals.lean).
  GIVEN WITH THE SEED: the statements are not yours to turn. If you find one false, say at which input.
  Laid BY PROGRAM, IN A SANDBOX (cutbox-rows.mjs): the forced cells as the released guide's own fill.sh prints them over the translation 91e5d6e5d17357d1… (all of the seat's roots in one cut). By AI agents, Wed Nov 11 2026. No macro, syntax, notation, axiom, sorry.
-/
import Derived.Test.YtbcooiifpfdiaaaDoorChecked
import GoSem.Claim
import GoSem.ClaimJoined
import GoSem.ClaimMapViews
import Derived.JoinedTies
import Derived.KernelRfl
namespace Go.Proofs.YtbcooiifpfdiaaaDoor
/- THE CELL 'sum', in the pinned program and in every row, IS THE sha256 OF THE DUMP (.gsa) THAT YtbcooiifpfdiaaaDoorProg.lean LOADS. Nothing in Lean hashes anything: it is a label: what it is worth is what the hold of that sum in a sandbox is worth. -/
noncomputable def Tryd.pinned : Pinned := { name := "ytbcooiifpfdiaaadoor", sum := "91e5d6e5d17357d1b11270c12de32f1c988d52cfcecbe22279cf53f59f55c7b4", checked := Tryd.checked }
namespace Rows
def none {H : Type} : Left H := { results := [], args := [] }

/- WHAT THE LISTED PACKAGE-LEVEL VARIABLES READ AS WHEN THE CALL BEGINS. Each datum BY PROGRAM (the guide's laid-datum.mjs) off the statement by which the dump's own 'gosem.cut.vars' lays the variable. In a bare row this is a premise. The card (YtbcooiifpfdiaaaDoorCards.lean) ties it to the program's text. -/
def laid_loop_example_mailhost_impl_flagNames {H : Type} : DataW H := .agg [.lit (.string [83, 101, 101, 110]), .lit (.string [65, 110, 115, 119, 101, 114, 101, 100]), .lit (.string [70, 108, 97, 103, 103, 101, 100]), .lit (.string [68, 101, 108, 101, 116, 101, 100]), .lit (.string [68, 114, 97, 102, 116])]

/-- 'laws.FnFlags': WHATEVER THE INPUT: true; the input reads as it did. -/
def fnFlagsSpec : ChangeSpec := { name := "fnFlags", vars := ["loop.example/mailhost/impl.flagNames"], fn := fun _ => fun
  | [d, g1] => { results := [.lit (.bool true)], args := [d], vars := [g1] }
  | _ => none }
def fnFlagsRow : OpenClaim := { program := "ytbcooiifpfdiaaadoor", sum := "91e5d6e5d17357d1b11270c12de32f1c988d52cfcecbe22279cf53f59f55c7b4", func := "loop.example/mailhost/laws.FnFlags", spec := "fnFlags", inPlace := ["internal/abi.NoEscape", "internal/bytealg.MakeNoZero"], named := ["loop.example/mailhost/impl.flagNames"], apart := false, laid := [("loop.example/mailhost/impl.flagNames", laid_loop_example_mailhost_impl_flagNames)] }
def FnFlagsSaid : Prop := fnFlagsRow.holds Tryd.pinned (OpenSpec.ofChange fnFlagsSpec)

/-- ITS FALSE NEIGHBOUR: 'it returns false'. Refute it at one input. -/
def fnFlagsWrong : ChangeSpec := { name := "fnFlags", vars := ["loop.example/mailhost/impl.flagNames"], fn := fun _ => fun
  | [d, g1] => { results := [.lit (.bool false)], args := [d], vars := [g1] }
  | _ => none }
def FnFlagsWrongFalsely : Prop := fnFlagsRow.holds Tryd.pinned (OpenSpec.ofChange fnFlagsWrong)

/-- 'laws.FnFlagsText': WHATEVER THE INPUT: true; the input reads as it did. -/
def fnFlagsTextSpec : ChangeSpec := { name := "fnFlagsText", vars := ["loop.example/mailhost/impl.flagNames"], fn := fun _ => fun
  | [d, g1] => { results := [.lit (.bool true)], args := [d], vars := [g1] }
  | _ => none }
def fnFlagsTextRow : OpenClaim := { program := "ytbcooiifpfdiaaadoor", sum := "91e5d6e5d17357d1b11270c12de32f1c988d52cfcecbe22279cf53f59f55c7b4", func := "loop.example/mailhost/laws.FnFlagsText", spec := "fnFlagsText", inPlace := ["internal/abi.NoEscape", "internal/bytealg.MakeNoZero"], named := ["loop.example/mailhost/impl.flagNames"], apart := false, laid := [("loop.example/mailhost/impl.flagNames", laid_loop_example_mailhost_impl_flagNames)] }
def FnFlagsTextSaid : Prop := fnFlagsTextRow.holds Tryd.pinned (OpenSpec.ofChange fnFlagsTextSpec)

/-- ITS FALSE NEIGHBOUR: 'it returns false'. Refute it at one input. -/
def fnFlagsTextWrong : ChangeSpec := { name := "fnFlagsText", vars := ["loop.example/mailhost/impl.flagNames"], fn := fun _ => fun
  | [d, g1] => { results := [.lit (.bool false)], args := [d], vars := [g1] }
  | _ => none }
def FnFlagsTextWrongFalsely : Prop := fnFlagsTextRow.holds Tryd.pinned (OpenSpec.ofChange fnFlagsTextWrong)

/-- 'laws.FnFlagsParse': WHATEVER THE INPUT: true; the input reads as it did. -/
def fnFlagsParseSpec : ChangeSpec := { name := "fnFlagsParse", vars := ["loop.example/mailhost/impl.flagNames"], fn := fun _ => fun
  | [d, g1] => { results := [.lit (.bool true)], args := [d], vars := [g1] }
  | _ => none }
def fnFlagsParseRow : OpenClaim := { program := "ytbcooiifpfdiaaadoor", sum := "91e5d6e5d17357d1b11270c12de32f1c988d52cfcecbe22279cf53f59f55c7b4", func := "loop.example/mailhost/laws.FnFlagsParse", spec := "fnFlagsParse", inPlace := ["internal/abi.NoEscape", "internal/bytealg.MakeNoZero"], named := ["loop.example/mailhost/impl.flagNames"], apart := false, laid := [("loop.example/mailhost/impl.flagNames", laid_loop_example_mailhost_impl_flagNames)] }
def FnFlagsParseSaid : Prop := fnFlagsParseRow.holds Tryd.pinned (OpenSpec.ofChange fnFlagsParseSpec)

/-- ITS FALSE NEIGHBOUR: 'it returns false'. Refute it at one input. -/
def fnFlagsParseWrong : ChangeSpec := { name := "fnFlagsParse", vars := ["loop.example/mailhost/impl.flagNames"], fn := fun _ => fun
  | [d, g1] => { results := [.lit (.bool false)], args := [d], vars := [g1] }
  | _ => none }
def FnFlagsParseWrongFalsely : Prop := fnFlagsParseRow.holds Tryd.pinned (OpenSpec.ofChange fnFlagsParseWrong)

/-- 'laws.FnFlagsTwice': WHATEVER THE INPUT: true; the input reads as it did. -/
def fnFlagsTwiceSpec : ChangeSpec := { name := "fnFlagsTwice", vars := ["loop.example/mailhost/impl.flagNames"], fn := fun _ => fun
  | [d, g1] => { results := [.lit (.bool true)], args := [d], vars := [g1] }
  | _ => none }
def fnFlagsTwiceRow : OpenClaim := { program := "ytbcooiifpfdiaaadoor", sum := "91e5d6e5d17357d1b11270c12de32f1c988d52cfcecbe22279cf53f59f55c7b4", func := "loop.example/mailhost/laws.FnFlagsTwice", spec := "fnFlagsTwice", named := ["loop.example/mailhost/impl.flagNames"], apart := false, laid := [("loop.example/mailhost/impl.flagNames", laid_loop_example_mailhost_impl_flagNames)] }
def FnFlagsTwiceSaid : Prop := fnFlagsTwiceRow.holds Tryd.pinned (OpenSpec.ofChange fnFlagsTwiceSpec)

/-- ITS FALSE NEIGHBOUR: 'it returns false'. Refute it at one input. -/
def fnFlagsTwiceWrong : ChangeSpec := { name := "fnFlagsTwice", vars := ["loop.example/mailhost/impl.flagNames"], fn := fun _ => fun
  | [d, g1] => { results := [.lit (.bool false)], args := [d], vars := [g1] }
  | _ => none }
def FnFlagsTwiceWrongFalsely : Prop := fnFlagsTwiceRow.holds Tryd.pinned (OpenSpec.ofChange fnFlagsTwiceWrong)

/-- 'laws.FnFlagsOrder': WHATEVER THE INPUT: true; the input reads as it did. -/
def fnFlagsOrderSpec : ChangeSpec := { name := "fnFlagsOrder", vars := ["loop.example/mailhost/impl.flagNames"], fn := fun _ => fun
  | [d, g1] => { results := [.lit (.bool true)], args := [d], vars := [g1] }
  | _ => none }
def fnFlagsOrderRow : OpenClaim := { program := "ytbcooiifpfdiaaadoor", sum := "91e5d6e5d17357d1b11270c12de32f1c988d52cfcecbe22279cf53f59f55c7b4", func := "loop.example/mailhost/laws.FnFlagsOrder", spec := "fnFlagsOrder", named := ["loop.example/mailhost/impl.flagNames"], apart := false, laid := [("loop.example/mailhost/impl.flagNames", laid_loop_example_mailhost_impl_flagNames)] }
def FnFlagsOrderSaid : Prop := fnFlagsOrderRow.holds Tryd.pinned (OpenSpec.ofChange fnFlagsOrderSpec)

/-- ITS FALSE NEIGHBOUR: 'it returns false'. Refute it at one input. -/
def fnFlagsOrderWrong : ChangeSpec := { name := "fnFlagsOrder", vars := ["loop.example/mailhost/impl.flagNames"], fn := fun _ => fun
  | [d, g1] => { results := [.lit (.bool false)], args := [d], vars := [g1] }
  | _ => none }
def FnFlagsOrderWrongFalsely : Prop := fnFlagsOrderRow.holds Tryd.pinned (OpenSpec.ofChange fnFlagsOrderWrong)

/-- 'laws.FnChangeBad': WHATEVER THE INPUT: true; the input reads as it did. -/
def fnChangeBadSpec : ChangeSpec := { name := "fnChangeBad", vars := ["loop.example/mailhost/impl.flagNames"], fn := fun _ => fun
  | [d, g1] => { results := [.lit (.bool true)], args := [d], vars := [g1] }
  | _ => none }
def fnChangeBadRow : OpenClaim := { program := "ytbcooiifpfdiaaadoor", sum := "91e5d6e5d17357d1b11270c12de32f1c988d52cfcecbe22279cf53f59f55c7b4", func := "loop.example/mailhost/laws.FnChangeBad", spec := "fnChangeBad", inPlace := ["internal/abi.NoEscape", "internal/bytealg.MakeNoZero"], unfollowed := true, recurses := true, named := ["loop.example/mailhost/impl.flagNames"], apart := false, laid := [("loop.example/mailhost/impl.flagNames", laid_loop_example_mailhost_impl_flagNames)] }
def FnChangeBadSaid : Prop := fnChangeBadRow.holds Tryd.pinned (OpenSpec.ofChange fnChangeBadSpec)

/-- ITS FALSE NEIGHBOUR: 'it returns false'. Refute it at one input. -/
def fnChangeBadWrong : ChangeSpec := { name := "fnChangeBad", vars := ["loop.example/mailhost/impl.flagNames"], fn := fun _ => fun
  | [d, g1] => { results := [.lit (.bool false)], args := [d], vars := [g1] }
  | _ => none }
def FnChangeBadWrongFalsely : Prop := fnChangeBadRow.holds Tryd.pinned (OpenSpec.ofChange fnChangeBadWrong)

/-- 'laws.FnHaveSelf': WHATEVER THE INPUT: true; the input reads as it did. -/
def fnHaveSelfSpec : ChangeSpec := { name := "fnHaveSelf", vars := ["loop.example/mailhost/impl.flagNames"], fn := fun _ => fun
  | [d, g1] => { results := [.lit (.bool true)], args := [d], vars := [g1] }
  | _ => none }
def fnHaveSelfRow : OpenClaim := { program := "ytbcooiifpfdiaaadoor", sum := "91e5d6e5d17357d1b11270c12de32f1c988d52cfcecbe22279cf53f59f55c7b4", func := "loop.example/mailhost/laws.FnHaveSelf", spec := "fnHaveSelf", inPlace := ["internal/abi.NoEscape", "internal/bytealg.MakeNoZero"], named := ["loop.example/mailhost/impl.flagNames"], apart := false, laid := [("loop.example/mailhost/impl.flagNames", laid_loop_example_mailhost_impl_flagNames)] }
def FnHaveSelfSaid : Prop := fnHaveSelfRow.holds Tryd.pinned (OpenSpec.ofChange fnHaveSelfSpec)

/-- ITS FALSE NEIGHBOUR: 'it returns false'. Refute it at one input. -/
def fnHaveSelfWrong : ChangeSpec := { name := "fnHaveSelf", vars := ["loop.example/mailhost/impl.flagNames"], fn := fun _ => fun
  | [d, g1] => { results := [.lit (.bool false)], args := [d], vars := [g1] }
  | _ => none }
def FnHaveSelfWrongFalsely : Prop := fnHaveSelfRow.holds Tryd.pinned (OpenSpec.ofChange fnHaveSelfWrong)

/-- 'laws.FnExactFlagsText': WHATEVER THE INPUT: true; the input reads as it did. -/
def fnExactFlagsTextSpec : ChangeSpec := { name := "fnExactFlagsText", vars := ["loop.example/mailhost/impl.flagNames"], fn := fun _ => fun
  | [d, g1] => { results := [.lit (.bool true)], args := [d], vars := [g1] }
  | _ => none }
def fnExactFlagsTextRow : OpenClaim := { program := "ytbcooiifpfdiaaadoor", sum := "91e5d6e5d17357d1b11270c12de32f1c988d52cfcecbe22279cf53f59f55c7b4", func := "loop.example/mailhost/laws.FnExactFlagsText", spec := "fnExactFlagsText", inPlace := ["internal/abi.NoEscape", "internal/bytealg.MakeNoZero"], named := ["loop.example/mailhost/impl.flagNames"], apart := false, laid := [("loop.example/mailhost/impl.flagNames", laid_loop_example_mailhost_impl_flagNames)] }
def FnExactFlagsTextSaid : Prop := fnExactFlagsTextRow.holds Tryd.pinned (OpenSpec.ofChange fnExactFlagsTextSpec)

/-- ITS FALSE NEIGHBOUR: 'it returns false'. Refute it at one input. -/
def fnExactFlagsTextWrong : ChangeSpec := { name := "fnExactFlagsText", vars := ["loop.example/mailhost/impl.flagNames"], fn := fun _ => fun
  | [d, g1] => { results := [.lit (.bool false)], args := [d], vars := [g1] }
  | _ => none }
def FnExactFlagsTextWrongFalsely : Prop := fnExactFlagsTextRow.holds Tryd.pinned (OpenSpec.ofChange fnExactFlagsTextWrong)

/-- 'laws.FnExactFlagsParse': WHATEVER THE INPUT: true; the input reads as it did. -/
def fnExactFlagsParseSpec : ChangeSpec := { name := "fnExactFlagsParse", vars := ["loop.example/mailhost/impl.flagNames"], fn := fun _ => fun
  | [d, g1] => { results := [.lit (.bool true)], args := [d], vars := [g1] }
  | _ => none }
def fnExactFlagsParseRow : OpenClaim := { program := "ytbcooiifpfdiaaadoor", sum := "91e5d6e5d17357d1b11270c12de32f1c988d52cfcecbe22279cf53f59f55c7b4", func := "loop.example/mailhost/laws.FnExactFlagsParse", spec := "fnExactFlagsParse", named := ["loop.example/mailhost/impl.flagNames"], apart := false, laid := [("loop.example/mailhost/impl.flagNames", laid_loop_example_mailhost_impl_flagNames)] }
def FnExactFlagsParseSaid : Prop := fnExactFlagsParseRow.holds Tryd.pinned (OpenSpec.ofChange fnExactFlagsParseSpec)

/-- ITS FALSE NEIGHBOUR: 'it returns false'. Refute it at one input. -/
def fnExactFlagsParseWrong : ChangeSpec := { name := "fnExactFlagsParse", vars := ["loop.example/mailhost/impl.flagNames"], fn := fun _ => fun
  | [d, g1] => { results := [.lit (.bool false)], args := [d], vars := [g1] }
  | _ => none }
def FnExactFlagsParseWrongFalsely : Prop := fnExactFlagsParseRow.holds Tryd.pinned (OpenSpec.ofChange fnExactFlagsParseWrong)

/- THE SECOND FORM. 'bulk': how many values and letters a reading holds, each counted each time it is reached (what is shared counts as often as it is met; a slice's spare places count too). A statement '..UptoSaid' is the law's where the arguments, and the package variables that the reading takes, are together of bulk at most 1048576: NARROWER than '..Said'. Prove '..Said' where nothing that the law and all that it calls make is longer than what came in: it says more and counts as full. Else prove '..UptoSaid'. A law counts once. -/
mutual
def uptoBulk {H : Type} : DataW H → Nat
  | .lit (.string bytes) => bytes.length + 1
  | .lit _ => 1
  | .nil => 1
  | .ptr d => uptoBulk d + 1
  | .slice elems spare => uptoBulkAll elems + uptoBulkAll spare + 1
  | .agg parts => uptoBulkAll parts + 1
  | .iface _ d => uptoBulk d + 1
  | .map entries => uptoBulkEntries entries + 1
  | .held _ => 1
def uptoBulkAll {H : Type} : List (DataW H) → Nat
  | [] => 0
  | d :: r => uptoBulk d + uptoBulkAll r
def uptoBulkEntries {H : Type} : List (Lit × DataW H) → Nat
  | [] => 0
  | x :: r => uptoBulkEntry x + uptoBulkEntries r
def uptoBulkEntry {H : Type} : Lit × DataW H → Nat
  | (.string bytes, d) => bytes.length + uptoBulk d + 1
  | (_, d) => uptoBulk d + 1
 end
def uptoSmall : (H : Type) → List (DataW H) → Bool := fun _ ds => decide (uptoBulkAll ds ≤ 1048576)
def OpenSpec.upto (s : _root_.Go.ChangeSpec) : _root_.Go.OpenSpec := { _root_.Go.OpenSpec.ofChange s with cond := some uptoSmall }

/-- 'laws.FnFlags', WHERE WHAT IT READS IS OF BULK AT MOST 1048576: true; the input reads as it did. -/
def fnFlagsUptoRow : OpenClaim := { program := "ytbcooiifpfdiaaadoor", sum := "91e5d6e5d17357d1b11270c12de32f1c988d52cfcecbe22279cf53f59f55c7b4", func := "loop.example/mailhost/laws.FnFlags", spec := "fnFlags", inPlace := ["internal/abi.NoEscape", "internal/bytealg.MakeNoZero"], named := ["loop.example/mailhost/impl.flagNames"], apart := false, laid := [("loop.example/mailhost/impl.flagNames", laid_loop_example_mailhost_impl_flagNames)], narrowed := true }
def FnFlagsUptoSaid : Prop := fnFlagsUptoRow.holds Tryd.pinned (OpenSpec.upto fnFlagsSpec)

/-- 'laws.FnFlagsText', WHERE WHAT IT READS IS OF BULK AT MOST 1048576: true; the input reads as it did. -/
def fnFlagsTextUptoRow : OpenClaim := { program := "ytbcooiifpfdiaaadoor", sum := "91e5d6e5d17357d1b11270c12de32f1c988d52cfcecbe22279cf53f59f55c7b4", func := "loop.example/mailhost/laws.FnFlagsText", spec := "fnFlagsText", inPlace := ["internal/abi.NoEscape", "internal/bytealg.MakeNoZero"], named := ["loop.example/mailhost/impl.flagNames"], apart := false, laid := [("loop.example/mailhost/impl.flagNames", laid_loop_example_mailhost_impl_flagNames)], narrowed := true }
def FnFlagsTextUptoSaid : Prop := fnFlagsTextUptoRow.holds Tryd.pinned (OpenSpec.upto fnFlagsTextSpec)

/-- 'laws.FnFlagsParse', WHERE WHAT IT READS IS OF BULK AT MOST 1048576: true; the input reads as it did. -/
def fnFlagsParseUptoRow : OpenClaim := { program := "ytbcooiifpfdiaaadoor", sum := "91e5d6e5d17357d1b11270c12de32f1c988d52cfcecbe22279cf53f59f55c7b4", func := "loop.example/mailhost/laws.FnFlagsParse", spec := "fnFlagsParse", inPlace := ["internal/abi.NoEscape", "internal/bytealg.MakeNoZero"], named := ["loop.example/mailhost/impl.flagNames"], apart := false, laid := [("loop.example/mailhost/impl.flagNames", laid_loop_example_mailhost_impl_flagNames)], narrowed := true }
def FnFlagsParseUptoSaid : Prop := fnFlagsParseUptoRow.holds Tryd.pinned (OpenSpec.upto fnFlagsParseSpec)

/-- 'laws.FnFlagsTwice', WHERE WHAT IT READS IS OF BULK AT MOST 1048576: true; the input reads as it did. -/
def fnFlagsTwiceUptoRow : OpenClaim := { program := "ytbcooiifpfdiaaadoor", sum := "91e5d6e5d17357d1b11270c12de32f1c988d52cfcecbe22279cf53f59f55c7b4", func := "loop.example/mailhost/laws.FnFlagsTwice", spec := "fnFlagsTwice", named := ["loop.example/mailhost/impl.flagNames"], apart := false, laid := [("loop.example/mailhost/impl.flagNames", laid_loop_example_mailhost_impl_flagNames)], narrowed := true }
def FnFlagsTwiceUptoSaid : Prop := fnFlagsTwiceUptoRow.holds Tryd.pinned (OpenSpec.upto fnFlagsTwiceSpec)

/-- 'laws.FnFlagsOrder', WHERE WHAT IT READS IS OF BULK AT MOST 1048576: true; the input reads as it did. -/
def fnFlagsOrderUptoRow : OpenClaim := { program := "ytbcooiifpfdiaaadoor", sum := "91e5d6e5d17357d1b11270c12de32f1c988d52cfcecbe22279cf53f59f55c7b4", func := "loop.example/mailhost/laws.FnFlagsOrder", spec := "fnFlagsOrder", named := ["loop.example/mailhost/impl.flagNames"], apart := false, laid := [("loop.example/mailhost/impl.flagNames", laid_loop_example_mailhost_impl_flagNames)], narrowed := true }
def FnFlagsOrderUptoSaid : Prop := fnFlagsOrderUptoRow.holds Tryd.pinned (OpenSpec.upto fnFlagsOrderSpec)

/-- 'laws.FnChangeBad', WHERE WHAT IT READS IS OF BULK AT MOST 1048576: true; the input reads as it did. -/
def fnChangeBadUptoRow : OpenClaim := { program := "ytbcooiifpfdiaaadoor", sum := "91e5d6e5d17357d1b11270c12de32f1c988d52cfcecbe22279cf53f59f55c7b4", func := "loop.example/mailhost/laws.FnChangeBad", spec := "fnChangeBad", inPlace := ["internal/abi.NoEscape", "internal/bytealg.MakeNoZero"], unfollowed := true, recurses := true, named := ["loop.example/mailhost/impl.flagNames"], apart := false, laid := [("loop.example/mailhost/impl.flagNames", laid_loop_example_mailhost_impl_flagNames)], narrowed := true }
def FnChangeBadUptoSaid : Prop := fnChangeBadUptoRow.holds Tryd.pinned (OpenSpec.upto fnChangeBadSpec)

/-- 'laws.FnHaveSelf', WHERE WHAT IT READS IS OF BULK AT MOST 1048576: true; the input reads as it did. -/
def fnHaveSelfUptoRow : OpenClaim := { program := "ytbcooiifpfdiaaadoor", sum := "91e5d6e5d17357d1b11270c12de32f1c988d52cfcecbe22279cf53f59f55c7b4", func := "loop.example/mailhost/laws.FnHaveSelf", spec := "fnHaveSelf", inPlace := ["internal/abi.NoEscape", "internal/bytealg.MakeNoZero"], named := ["loop.example/mailhost/impl.flagNames"], apart := false, laid := [("loop.example/mailhost/impl.flagNames", laid_loop_example_mailhost_impl_flagNames)], narrowed := true }
def FnHaveSelfUptoSaid : Prop := fnHaveSelfUptoRow.holds Tryd.pinned (OpenSpec.upto fnHaveSelfSpec)

/-- 'laws.FnExactFlagsText', WHERE WHAT IT READS IS OF BULK AT MOST 1048576: true; the input reads as it did. -/
def fnExactFlagsTextUptoRow : OpenClaim := { program := "ytbcooiifpfdiaaadoor", sum := "91e5d6e5d17357d1b11270c12de32f1c988d52cfcecbe22279cf53f59f55c7b4", func := "loop.example/mailhost/laws.FnExactFlagsText", spec := "fnExactFlagsText", inPlace := ["internal/abi.NoEscape", "internal/bytealg.MakeNoZero"], named := ["loop.example/mailhost/impl.flagNames"], apart := false, laid := [("loop.example/mailhost/impl.flagNames", laid_loop_example_mailhost_impl_flagNames)], narrowed := true }
def FnExactFlagsTextUptoSaid : Prop := fnExactFlagsTextUptoRow.holds Tryd.pinned (OpenSpec.upto fnExactFlagsTextSpec)

/-- 'laws.FnExactFlagsParse', WHERE WHAT IT READS IS OF BULK AT MOST 1048576: true; the input reads as it did. -/
def fnExactFlagsParseUptoRow : OpenClaim := { program := "ytbcooiifpfdiaaadoor", sum := "91e5d6e5d17357d1b11270c12de32f1c988d52cfcecbe22279cf53f59f55c7b4", func := "loop.example/mailhost/laws.FnExactFlagsParse", spec := "fnExactFlagsParse", named := ["loop.example/mailhost/impl.flagNames"], apart := false, laid := [("loop.example/mailhost/impl.flagNames", laid_loop_example_mailhost_impl_flagNames)], narrowed := true }
def FnExactFlagsParseUptoSaid : Prop := fnExactFlagsParseUptoRow.holds Tryd.pinned (OpenSpec.upto fnExactFlagsParseSpec)

end Rows
end Go.Proofs.YtbcooiifpfdiaaaDoor
