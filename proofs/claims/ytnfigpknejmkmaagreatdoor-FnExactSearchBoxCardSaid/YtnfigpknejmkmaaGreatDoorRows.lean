/-
  NARROWER THAN 'FOR EVERY INPUT', by the rows' own cells (each row's printed sentence says how): FnKeyParse: laid · FnKeyBlank: laid · FnExactKeyParse: laid · FnExactSearchBox: loops, laid.
  DERIVED. THE GIVEN ROWS OF THIS SEAT. 4 by the template 'for every input the law returns true; each argument reads behind the call as it read before'; 0 by the template 'total and deterministic' (their statements: YtnfigpknejmkmaaGreatDoorTotals.lean).
  GIVEN WITH THE SEED: the statements are not yours to turn. If you find one false, say at which input.
  Laid BY PROGRAM, IN A SANDBOX (cutbox-rows.mjs): the forced cells as the released guide's own fill.sh prints them over the translation cc7a03ce1122da28… (all of the seat's roots in one cut). By AI agents, Wed Nov 11 2026. No macro, syntax, notation, axiom, sorry.
-/
import Derived.Test.YtnfigpknejmkmaaGreatDoorChecked
import GoSem.PinnedTables
import GoSem.Claim
import GoSem.ClaimJoined
import GoSem.ClaimMapViews
import Derived.JoinedTies
import Derived.KernelRfl
namespace Go.Proofs.YtnfigpknejmkmaaGreatDoor
/- THE CELL 'sum', in the pinned program and in every row, IS THE sha256 OF THE DUMP (.gsa) THAT YtnfigpknejmkmaaGreatDoorProg.lean LOADS. Nothing in Lean hashes anything: it is a label: what it is worth is what the hold of that sum in a sandbox is worth. -/
noncomputable def Tryz.pinned : Pinned := { name := "ytnfigpknejmkmaagreatdoor", sum := "cc7a03ce1122da28cbd22b336cf993ac547750018b40577eedc2afb6589b5038", checked := Tryz.checked }
namespace Rows
def none {H : Type} : Left H := { results := [], args := [] }

/- WHAT THE LISTED PACKAGE-LEVEL VARIABLES READ AS WHEN THE CALL BEGINS. Each datum BY PROGRAM (the guide's laid-datum.mjs) off the statement by which the dump's own 'gosem.cut.vars' lays the variable. In a bare row this is a premise. The card (YtnfigpknejmkmaaGreatDoorCards.lean) ties it to the program's text. -/
def laid_unicode_utf8_acceptRanges {H : Type} : DataW H := .agg [.agg [.lit (.int .u8 128), .lit (.int .u8 191)], .agg [.lit (.int .u8 160), .lit (.int .u8 191)], .agg [.lit (.int .u8 128), .lit (.int .u8 159)], .agg [.lit (.int .u8 144), .lit (.int .u8 191)], .agg [.lit (.int .u8 128), .lit (.int .u8 143)], .agg [.lit (.int .u8 0), .lit (.int .u8 0)], .agg [.lit (.int .u8 0), .lit (.int .u8 0)], .agg [.lit (.int .u8 0), .lit (.int .u8 0)], .agg [.lit (.int .u8 0), .lit (.int .u8 0)], .agg [.lit (.int .u8 0), .lit (.int .u8 0)], .agg [.lit (.int .u8 0), .lit (.int .u8 0)], .agg [.lit (.int .u8 0), .lit (.int .u8 0)], .agg [.lit (.int .u8 0), .lit (.int .u8 0)], .agg [.lit (.int .u8 0), .lit (.int .u8 0)], .agg [.lit (.int .u8 0), .lit (.int .u8 0)], .agg [.lit (.int .u8 0), .lit (.int .u8 0)]]
def laid_loop_example_mailhost_impl_keyShapes {H : Type} : DataW H := .agg [.agg [.lit (.bool false), .lit (.bool false), .lit (.bool false), .lit (.int .i64 0)], .agg [.lit (.bool true), .lit (.bool false), .lit (.bool false), .lit (.int .i64 0)], .agg [.lit (.bool false), .lit (.bool true), .lit (.bool false), .lit (.int .i64 0)], .agg [.lit (.bool false), .lit (.bool false), .lit (.bool true), .lit (.int .i64 0)], .agg [.lit (.bool false), .lit (.bool false), .lit (.bool true), .lit (.int .i64 0)], .agg [.lit (.bool false), .lit (.bool false), .lit (.bool false), .lit (.int .i64 1)], .agg [.lit (.bool false), .lit (.bool false), .lit (.bool false), .lit (.int .i64 2)], .agg [.lit (.bool false), .lit (.bool false), .lit (.bool false), .lit (.int .i64 2)]]
def laid_loop_example_mailhost_impl_flagNames {H : Type} : DataW H := .agg [.lit (.string [83, 101, 101, 110]), .lit (.string [65, 110, 115, 119, 101, 114, 101, 100]), .lit (.string [70, 108, 97, 103, 103, 101, 100]), .lit (.string [68, 101, 108, 101, 116, 101, 100]), .lit (.string [68, 114, 97, 102, 116])]
/-- One of Go's own tables, pinned by name: the form's constant. -/
def laid_unicode_CaseRanges : DataW Unit := Go.Pinned.caseRanges
/-- One of Go's own tables, pinned by name: the form's constant. -/
def laid_unicode_utf8_first : DataW Unit := Go.Pinned.utf8First

/-- 'laws.FnKeyParse': WHATEVER THE INPUT: true; the input reads as it did. -/
def fnKeyParseSpec : ChangeSpec := { name := "fnKeyParse", vars := ["loop.example/mailhost/impl.keyShapes", "loop.example/mailhost/impl.flagNames"], fn := fun _ => fun
  | [d, g1, g2] => { results := [.lit (.bool true)], args := [d], vars := [g1, g2] }
  | _ => none }
def fnKeyParseRow : OpenClaim := { program := "ytnfigpknejmkmaagreatdoor", sum := "cc7a03ce1122da28cbd22b336cf993ac547750018b40577eedc2afb6589b5038", func := "loop.example/mailhost/laws.FnKeyParse", spec := "fnKeyParse", inPlace := ["internal/abi.NoEscape", "internal/bytealg.MakeNoZero"], unfollowed := true, recurses := true, named := ["loop.example/mailhost/impl.keyShapes", "loop.example/mailhost/impl.flagNames", "unicode/utf8.first", "unicode/utf8.acceptRanges", "unicode.CaseRanges"], apart := false, laid := [("unicode/utf8.acceptRanges", laid_unicode_utf8_acceptRanges), ("loop.example/mailhost/impl.keyShapes", laid_loop_example_mailhost_impl_keyShapes), ("loop.example/mailhost/impl.flagNames", laid_loop_example_mailhost_impl_flagNames), ("unicode.CaseRanges", laid_unicode_CaseRanges), ("unicode/utf8.first", laid_unicode_utf8_first)] }
def FnKeyParseSaid : Prop := fnKeyParseRow.holds Tryz.pinned (OpenSpec.ofChange fnKeyParseSpec)

/-- ITS FALSE NEIGHBOUR: 'it returns false'. Refute it at one input. -/
def fnKeyParseWrong : ChangeSpec := { name := "fnKeyParse", vars := ["loop.example/mailhost/impl.keyShapes", "loop.example/mailhost/impl.flagNames"], fn := fun _ => fun
  | [d, g1, g2] => { results := [.lit (.bool false)], args := [d], vars := [g1, g2] }
  | _ => none }
def FnKeyParseWrongFalsely : Prop := fnKeyParseRow.holds Tryz.pinned (OpenSpec.ofChange fnKeyParseWrong)

/-- 'laws.FnKeyBlank': WHATEVER THE INPUT: true; the input reads as it did. -/
def fnKeyBlankSpec : ChangeSpec := { name := "fnKeyBlank", vars := ["loop.example/mailhost/impl.keyShapes", "loop.example/mailhost/impl.flagNames"], fn := fun _ => fun
  | [d, g1, g2] => { results := [.lit (.bool true)], args := [d], vars := [g1, g2] }
  | _ => none }
def fnKeyBlankRow : OpenClaim := { program := "ytnfigpknejmkmaagreatdoor", sum := "cc7a03ce1122da28cbd22b336cf993ac547750018b40577eedc2afb6589b5038", func := "loop.example/mailhost/laws.FnKeyBlank", spec := "fnKeyBlank", inPlace := ["internal/abi.NoEscape", "internal/bytealg.MakeNoZero"], unfollowed := true, recurses := true, named := ["loop.example/mailhost/impl.keyShapes", "loop.example/mailhost/impl.flagNames", "unicode/utf8.first", "unicode/utf8.acceptRanges", "unicode.CaseRanges"], apart := false, laid := [("unicode/utf8.acceptRanges", laid_unicode_utf8_acceptRanges), ("loop.example/mailhost/impl.keyShapes", laid_loop_example_mailhost_impl_keyShapes), ("loop.example/mailhost/impl.flagNames", laid_loop_example_mailhost_impl_flagNames), ("unicode.CaseRanges", laid_unicode_CaseRanges), ("unicode/utf8.first", laid_unicode_utf8_first)] }
def FnKeyBlankSaid : Prop := fnKeyBlankRow.holds Tryz.pinned (OpenSpec.ofChange fnKeyBlankSpec)

/-- ITS FALSE NEIGHBOUR: 'it returns false'. Refute it at one input. -/
def fnKeyBlankWrong : ChangeSpec := { name := "fnKeyBlank", vars := ["loop.example/mailhost/impl.keyShapes", "loop.example/mailhost/impl.flagNames"], fn := fun _ => fun
  | [d, g1, g2] => { results := [.lit (.bool false)], args := [d], vars := [g1, g2] }
  | _ => none }
def FnKeyBlankWrongFalsely : Prop := fnKeyBlankRow.holds Tryz.pinned (OpenSpec.ofChange fnKeyBlankWrong)

/-- 'laws.FnExactKeyParse': WHATEVER THE INPUT: true; the input reads as it did. -/
def fnExactKeyParseSpec : ChangeSpec := { name := "fnExactKeyParse", vars := ["loop.example/mailhost/impl.keyShapes", "loop.example/mailhost/impl.flagNames"], fn := fun _ => fun
  | [d, g1, g2] => { results := [.lit (.bool true)], args := [d], vars := [g1, g2] }
  | _ => none }
def fnExactKeyParseRow : OpenClaim := { program := "ytnfigpknejmkmaagreatdoor", sum := "cc7a03ce1122da28cbd22b336cf993ac547750018b40577eedc2afb6589b5038", func := "loop.example/mailhost/laws.FnExactKeyParse", spec := "fnExactKeyParse", inPlace := ["internal/abi.NoEscape", "internal/bytealg.MakeNoZero"], unfollowed := true, recurses := true, named := ["loop.example/mailhost/impl.keyShapes", "loop.example/mailhost/impl.flagNames", "unicode/utf8.first", "unicode/utf8.acceptRanges", "unicode.CaseRanges"], apart := false, laid := [("unicode/utf8.acceptRanges", laid_unicode_utf8_acceptRanges), ("loop.example/mailhost/impl.keyShapes", laid_loop_example_mailhost_impl_keyShapes), ("loop.example/mailhost/impl.flagNames", laid_loop_example_mailhost_impl_flagNames), ("unicode.CaseRanges", laid_unicode_CaseRanges), ("unicode/utf8.first", laid_unicode_utf8_first)] }
def FnExactKeyParseSaid : Prop := fnExactKeyParseRow.holds Tryz.pinned (OpenSpec.ofChange fnExactKeyParseSpec)

/-- ITS FALSE NEIGHBOUR: 'it returns false'. Refute it at one input. -/
def fnExactKeyParseWrong : ChangeSpec := { name := "fnExactKeyParse", vars := ["loop.example/mailhost/impl.keyShapes", "loop.example/mailhost/impl.flagNames"], fn := fun _ => fun
  | [d, g1, g2] => { results := [.lit (.bool false)], args := [d], vars := [g1, g2] }
  | _ => none }
def FnExactKeyParseWrongFalsely : Prop := fnExactKeyParseRow.holds Tryz.pinned (OpenSpec.ofChange fnExactKeyParseWrong)

/-- 'laws.FnExactSearchBox': WHATEVER THE INPUT: true; the input reads as it did. -/
def fnExactSearchBoxSpec : ChangeSpec := { name := "fnExactSearchBox", vars := ["loop.example/mailhost/impl.keyShapes", "loop.example/mailhost/impl.flagNames"], fn := fun _ => fun
  | [d1, d2, g1, g2] => { results := [.lit (.bool true)], args := [d1, d2], vars := [g1, g2] }
  | _ => none }
def fnExactSearchBoxRow : OpenClaim := { program := "ytnfigpknejmkmaagreatdoor", sum := "cc7a03ce1122da28cbd22b336cf993ac547750018b40577eedc2afb6589b5038", func := "loop.example/mailhost/laws.FnExactSearchBox", spec := "fnExactSearchBox", inPlace := ["internal/abi.NoEscape", "internal/bytealg.MakeNoZero", "internal/bytealg.IndexByteString", "internal/bytealg.IndexString"], unfollowed := true, recurses := true, named := ["loop.example/mailhost/impl.keyShapes", "loop.example/mailhost/impl.flagNames", "unicode/utf8.first", "unicode/utf8.acceptRanges", "unicode.CaseRanges", "internal/bytealg.MaxLen"], loops := true, apart := false, laid := [("unicode/utf8.acceptRanges", laid_unicode_utf8_acceptRanges), ("loop.example/mailhost/impl.keyShapes", laid_loop_example_mailhost_impl_keyShapes), ("loop.example/mailhost/impl.flagNames", laid_loop_example_mailhost_impl_flagNames), ("unicode.CaseRanges", laid_unicode_CaseRanges), ("unicode/utf8.first", laid_unicode_utf8_first)] }
def FnExactSearchBoxSaid : Prop := fnExactSearchBoxRow.holds Tryz.pinned (OpenSpec.ofChange fnExactSearchBoxSpec)

/-- ITS FALSE NEIGHBOUR: 'it returns false'. Refute it at one input. -/
def fnExactSearchBoxWrong : ChangeSpec := { name := "fnExactSearchBox", vars := ["loop.example/mailhost/impl.keyShapes", "loop.example/mailhost/impl.flagNames"], fn := fun _ => fun
  | [d1, d2, g1, g2] => { results := [.lit (.bool false)], args := [d1, d2], vars := [g1, g2] }
  | _ => none }
def FnExactSearchBoxWrongFalsely : Prop := fnExactSearchBoxRow.holds Tryz.pinned (OpenSpec.ofChange fnExactSearchBoxWrong)

/- THE SECOND FORM. 'bulk': how many values and letters a reading holds, each counted each time it is reached (what is shared counts as often as it is met; a slice's spare places count too). A statement '..UptoSaid' is the law's where the arguments, and the package variables that the reading takes, are together of bulk at most 1048576: NARROWER than '..Said'. Prove '..Said' where nothing that the law and all that it calls make is longer than what came in: it says more and counts as full. Else prove '..UptoSaid'. A law counts once. -/
mutual
def uptoBulk {H : Type} : DataW H → Nat
  | .lit (.string bytes) => bytes.length + 1
  | .lit _ => 1
  | .nil => 1
  | .ptr d => uptoBulk d + 1
  | .slice elems spare => uptoBulkAll elems + uptoBulkAll spare + 1
  | .agg parts => uptoBulkAll parts + 1
  | .iface _ d => uptoBulk d + 1
  | .map entries => uptoBulkEntries entries + 1
  | .held _ => 1
def uptoBulkAll {H : Type} : List (DataW H) → Nat
  | [] => 0
  | d :: r => uptoBulk d + uptoBulkAll r
def uptoBulkEntries {H : Type} : List (Lit × DataW H) → Nat
  | [] => 0
  | x :: r => uptoBulkEntry x + uptoBulkEntries r
def uptoBulkEntry {H : Type} : Lit × DataW H → Nat
  | (.string bytes, d) => bytes.length + uptoBulk d + 1
  | (_, d) => uptoBulk d + 1
 end
def uptoSmall : (H : Type) → List (DataW H) → Bool := fun _ ds => decide (uptoBulkAll ds ≤ 1048576)
def OpenSpec.upto (s : _root_.Go.ChangeSpec) : _root_.Go.OpenSpec := { _root_.Go.OpenSpec.ofChange s with cond := some uptoSmall }

/-- 'laws.FnKeyParse', WHERE WHAT IT READS IS OF BULK AT MOST 1048576: true; the input reads as it did. -/
def fnKeyParseUptoRow : OpenClaim := { program := "ytnfigpknejmkmaagreatdoor", sum := "cc7a03ce1122da28cbd22b336cf993ac547750018b40577eedc2afb6589b5038", func := "loop.example/mailhost/laws.FnKeyParse", spec := "fnKeyParse", inPlace := ["internal/abi.NoEscape", "internal/bytealg.MakeNoZero"], unfollowed := true, recurses := true, named := ["loop.example/mailhost/impl.keyShapes", "loop.example/mailhost/impl.flagNames", "unicode/utf8.first", "unicode/utf8.acceptRanges", "unicode.CaseRanges"], apart := false, laid := [("unicode/utf8.acceptRanges", laid_unicode_utf8_acceptRanges), ("loop.example/mailhost/impl.keyShapes", laid_loop_example_mailhost_impl_keyShapes), ("loop.example/mailhost/impl.flagNames", laid_loop_example_mailhost_impl_flagNames), ("unicode.CaseRanges", laid_unicode_CaseRanges), ("unicode/utf8.first", laid_unicode_utf8_first)], narrowed := true }
def FnKeyParseUptoSaid : Prop := fnKeyParseUptoRow.holds Tryz.pinned (OpenSpec.upto fnKeyParseSpec)

/-- 'laws.FnKeyBlank', WHERE WHAT IT READS IS OF BULK AT MOST 1048576: true; the input reads as it did. -/
def fnKeyBlankUptoRow : OpenClaim := { program := "ytnfigpknejmkmaagreatdoor", sum := "cc7a03ce1122da28cbd22b336cf993ac547750018b40577eedc2afb6589b5038", func := "loop.example/mailhost/laws.FnKeyBlank", spec := "fnKeyBlank", inPlace := ["internal/abi.NoEscape", "internal/bytealg.MakeNoZero"], unfollowed := true, recurses := true, named := ["loop.example/mailhost/impl.keyShapes", "loop.example/mailhost/impl.flagNames", "unicode/utf8.first", "unicode/utf8.acceptRanges", "unicode.CaseRanges"], apart := false, laid := [("unicode/utf8.acceptRanges", laid_unicode_utf8_acceptRanges), ("loop.example/mailhost/impl.keyShapes", laid_loop_example_mailhost_impl_keyShapes), ("loop.example/mailhost/impl.flagNames", laid_loop_example_mailhost_impl_flagNames), ("unicode.CaseRanges", laid_unicode_CaseRanges), ("unicode/utf8.first", laid_unicode_utf8_first)], narrowed := true }
def FnKeyBlankUptoSaid : Prop := fnKeyBlankUptoRow.holds Tryz.pinned (OpenSpec.upto fnKeyBlankSpec)

/-- 'laws.FnExactKeyParse', WHERE WHAT IT READS IS OF BULK AT MOST 1048576: true; the input reads as it did. -/
def fnExactKeyParseUptoRow : OpenClaim := { program := "ytnfigpknejmkmaagreatdoor", sum := "cc7a03ce1122da28cbd22b336cf993ac547750018b40577eedc2afb6589b5038", func := "loop.example/mailhost/laws.FnExactKeyParse", spec := "fnExactKeyParse", inPlace := ["internal/abi.NoEscape", "internal/bytealg.MakeNoZero"], unfollowed := true, recurses := true, named := ["loop.example/mailhost/impl.keyShapes", "loop.example/mailhost/impl.flagNames", "unicode/utf8.first", "unicode/utf8.acceptRanges", "unicode.CaseRanges"], apart := false, laid := [("unicode/utf8.acceptRanges", laid_unicode_utf8_acceptRanges), ("loop.example/mailhost/impl.keyShapes", laid_loop_example_mailhost_impl_keyShapes), ("loop.example/mailhost/impl.flagNames", laid_loop_example_mailhost_impl_flagNames), ("unicode.CaseRanges", laid_unicode_CaseRanges), ("unicode/utf8.first", laid_unicode_utf8_first)], narrowed := true }
def FnExactKeyParseUptoSaid : Prop := fnExactKeyParseUptoRow.holds Tryz.pinned (OpenSpec.upto fnExactKeyParseSpec)

/-- 'laws.FnExactSearchBox', WHERE WHAT IT READS IS OF BULK AT MOST 1048576: true; the input reads as it did. -/
def fnExactSearchBoxUptoRow : OpenClaim := { program := "ytnfigpknejmkmaagreatdoor", sum := "cc7a03ce1122da28cbd22b336cf993ac547750018b40577eedc2afb6589b5038", func := "loop.example/mailhost/laws.FnExactSearchBox", spec := "fnExactSearchBox", inPlace := ["internal/abi.NoEscape", "internal/bytealg.MakeNoZero", "internal/bytealg.IndexByteString", "internal/bytealg.IndexString"], unfollowed := true, recurses := true, named := ["loop.example/mailhost/impl.keyShapes", "loop.example/mailhost/impl.flagNames", "unicode/utf8.first", "unicode/utf8.acceptRanges", "unicode.CaseRanges", "internal/bytealg.MaxLen"], loops := true, apart := false, laid := [("unicode/utf8.acceptRanges", laid_unicode_utf8_acceptRanges), ("loop.example/mailhost/impl.keyShapes", laid_loop_example_mailhost_impl_keyShapes), ("loop.example/mailhost/impl.flagNames", laid_loop_example_mailhost_impl_flagNames), ("unicode.CaseRanges", laid_unicode_CaseRanges), ("unicode/utf8.first", laid_unicode_utf8_first)], narrowed := true }
def FnExactSearchBoxUptoSaid : Prop := fnExactSearchBoxUptoRow.holds Tryz.pinned (OpenSpec.upto fnExactSearchBoxSpec)

end Rows
end Go.Proofs.YtnfigpknejmkmaaGreatDoor
