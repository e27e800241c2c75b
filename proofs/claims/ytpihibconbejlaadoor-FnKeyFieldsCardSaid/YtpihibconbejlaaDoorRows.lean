/-
  NARROWER THAN 'FOR EVERY INPUT', by the rows' own cells (each row's printed sentence says how): FnKeyFormat: laid · FnKeyNodes: laid · FnKeyFields: laid · FnKeyParts: laid · FnSearch: laid · FnSearchNot: laid · FnSearchAnd: laid · FnSearchOr: laid · FnSearchOrder: laid · FnSearchMorgan: laid · FnSearchFlag: laid · FnSearchPlace: laid · FnSearchUid: laid · FnSearchText: laid · FnExactKeyValid: loops, laid · FnExactKeyFormat: loops, laid.
  DERIVED. THE GIVEN ROWS OF THIS SEAT. 16 by the template 'for every input the law returns true; each argument reads behind the call as it read before'; 0 by the template 'total and deterministic' (their statements: YtpihibconbejlaaDoorTotals.lean).
  GIVEN WITH THE SEED: the statements are not yours to turn. If you find one false, say at which input.
  Laid BY PROGRAM, IN A SANDBOX (cutbox-rows.mjs): the forced cells as the released guide's own fill.sh prints them over the translation d91ae24ff252e21f… (all of the seat's roots in one cut). By AI agents, Wed Nov 11 2026. No macro, syntax, notation, axiom, sorry.
-/
import Derived.Test.YtpihibconbejlaaDoorChecked
import GoSem.PinnedTables
import GoSem.Claim
import GoSem.ClaimJoined
import GoSem.ClaimMapViews
import Derived.JoinedTies
import Derived.KernelRfl
namespace Go.Proofs.YtpihibconbejlaaDoor
/- THE CELL 'sum', in the pinned program and in every row, IS THE sha256 OF THE DUMP (.gsa) THAT YtpihibconbejlaaDoorProg.lean LOADS. Nothing in Lean hashes anything: it is a label: what it is worth is what the hold of that sum in a sandbox is worth. -/
noncomputable def Tryd.pinned : Pinned := { name := "ytpihibconbejlaadoor", sum := "d91ae24ff252e21f937bce78dccf6fbf0054e129be19b40783e9abf6e57e5c4c", checked := Tryd.checked }
namespace Rows
def none {H : Type} : Left H := { results := [], args := [] }

/- WHAT THE LISTED PACKAGE-LEVEL VARIABLES READ AS WHEN THE CALL BEGINS. Each datum BY PROGRAM (the guide's laid-datum.mjs) off the statement by which the dump's own 'gosem.cut.vars' lays the variable. In a bare row this is a premise. The card (YtpihibconbejlaaDoorCards.lean) ties it to the program's text. -/
def laid_unicode_utf8_acceptRanges {H : Type} : DataW H := .agg [.agg [.lit (.int .u8 128), .lit (.int .u8 191)], .agg [.lit (.int .u8 160), .lit (.int .u8 191)], .agg [.lit (.int .u8 128), .lit (.int .u8 159)], .agg [.lit (.int .u8 144), .lit (.int .u8 191)], .agg [.lit (.int .u8 128), .lit (.int .u8 143)], .agg [.lit (.int .u8 0), .lit (.int .u8 0)], .agg [.lit (.int .u8 0), .lit (.int .u8 0)], .agg [.lit (.int .u8 0), .lit (.int .u8 0)], .agg [.lit (.int .u8 0), .lit (.int .u8 0)], .agg [.lit (.int .u8 0), .lit (.int .u8 0)], .agg [.lit (.int .u8 0), .lit (.int .u8 0)], .agg [.lit (.int .u8 0), .lit (.int .u8 0)], .agg [.lit (.int .u8 0), .lit (.int .u8 0)], .agg [.lit (.int .u8 0), .lit (.int .u8 0)], .agg [.lit (.int .u8 0), .lit (.int .u8 0)], .agg [.lit (.int .u8 0), .lit (.int .u8 0)]]
def laid_loop_example_mailhost_impl_keyShapes {H : Type} : DataW H := .agg [.agg [.lit (.bool false), .lit (.bool false), .lit (.bool false), .lit (.int .i64 0)], .agg [.lit (.bool true), .lit (.bool false), .lit (.bool false), .lit (.int .i64 0)], .agg [.lit (.bool false), .lit (.bool true), .lit (.bool false), .lit (.int .i64 0)], .agg [.lit (.bool false), .lit (.bool false), .lit (.bool true), .lit (.int .i64 0)], .agg [.lit (.bool false), .lit (.bool false), .lit (.bool true), .lit (.int .i64 0)], .agg [.lit (.bool false), .lit (.bool false), .lit (.bool false), .lit (.int .i64 1)], .agg [.lit (.bool false), .lit (.bool false), .lit (.bool false), .lit (.int .i64 2)], .agg [.lit (.bool false), .lit (.bool false), .lit (.bool false), .lit (.int .i64 2)]]
def laid_loop_example_mailhost_impl_flagNames {H : Type} : DataW H := .agg [.lit (.string [83, 101, 101, 110]), .lit (.string [65, 110, 115, 119, 101, 114, 101, 100]), .lit (.string [70, 108, 97, 103, 103, 101, 100]), .lit (.string [68, 101, 108, 101, 116, 101, 100]), .lit (.string [68, 114, 97, 102, 116])]
/-- One of Go's own tables, pinned by name: the form's constant. -/
def laid_unicode_CaseRanges : DataW Unit := Go.Pinned.caseRanges
/-- One of Go's own tables, pinned by name: the form's constant. -/
def laid_unicode_utf8_first : DataW Unit := Go.Pinned.utf8First

/-- 'laws.FnKeyFormat': WHATEVER THE INPUT: true; the input reads as it did. -/
def fnKeyFormatSpec : ChangeSpec := { name := "fnKeyFormat", vars := ["loop.example/mailhost/impl.keyShapes", "loop.example/mailhost/impl.flagNames"], fn := fun _ => fun
  | [d, g1, g2] => { results := [.lit (.bool true)], args := [d], vars := [g1, g2] }
  | _ => none }
def fnKeyFormatRow : OpenClaim := { program := "ytpihibconbejlaadoor", sum := "d91ae24ff252e21f937bce78dccf6fbf0054e129be19b40783e9abf6e57e5c4c", func := "loop.example/mailhost/laws.FnKeyFormat", spec := "fnKeyFormat", inPlace := ["internal/abi.NoEscape", "internal/bytealg.MakeNoZero"], unfollowed := true, recurses := true, named := ["loop.example/mailhost/impl.keyShapes", "loop.example/mailhost/impl.flagNames", "unicode/utf8.first", "unicode/utf8.acceptRanges", "unicode.CaseRanges"], apart := false, laid := [("unicode/utf8.acceptRanges", laid_unicode_utf8_acceptRanges), ("loop.example/mailhost/impl.keyShapes", laid_loop_example_mailhost_impl_keyShapes), ("loop.example/mailhost/impl.flagNames", laid_loop_example_mailhost_impl_flagNames), ("unicode.CaseRanges", laid_unicode_CaseRanges), ("unicode/utf8.first", laid_unicode_utf8_first)] }
def FnKeyFormatSaid : Prop := fnKeyFormatRow.holds Tryd.pinned (OpenSpec.ofChange fnKeyFormatSpec)

/-- ITS FALSE NEIGHBOUR: 'it returns false'. Refute it at one input. -/
def fnKeyFormatWrong : ChangeSpec := { name := "fnKeyFormat", vars := ["loop.example/mailhost/impl.keyShapes", "loop.example/mailhost/impl.flagNames"], fn := fun _ => fun
  | [d, g1, g2] => { results := [.lit (.bool false)], args := [d], vars := [g1, g2] }
  | _ => none }
def FnKeyFormatWrongFalsely : Prop := fnKeyFormatRow.holds Tryd.pinned (OpenSpec.ofChange fnKeyFormatWrong)

/-- 'laws.FnKeyNodes': WHATEVER THE INPUT: true; the input reads as it did. -/
def fnKeyNodesSpec : ChangeSpec := { name := "fnKeyNodes", vars := ["loop.example/mailhost/impl.keyShapes", "loop.example/mailhost/impl.flagNames"], fn := fun _ => fun
  | [d, g1, g2] => { results := [.lit (.bool true)], args := [d], vars := [g1, g2] }
  | _ => none }
def fnKeyNodesRow : OpenClaim := { program := "ytpihibconbejlaadoor", sum := "d91ae24ff252e21f937bce78dccf6fbf0054e129be19b40783e9abf6e57e5c4c", func := "loop.example/mailhost/laws.FnKeyNodes", spec := "fnKeyNodes", inPlace := ["internal/abi.NoEscape", "internal/bytealg.MakeNoZero"], unfollowed := true, recurses := true, named := ["loop.example/mailhost/impl.keyShapes", "loop.example/mailhost/impl.flagNames", "unicode/utf8.first", "unicode/utf8.acceptRanges", "unicode.CaseRanges"], apart := false, laid := [("unicode/utf8.acceptRanges", laid_unicode_utf8_acceptRanges), ("loop.example/mailhost/impl.keyShapes", laid_loop_example_mailhost_impl_keyShapes), ("loop.example/mailhost/impl.flagNames", laid_loop_example_mailhost_impl_flagNames), ("unicode.CaseRanges", laid_unicode_CaseRanges), ("unicode/utf8.first", laid_unicode_utf8_first)] }
def FnKeyNodesSaid : Prop := fnKeyNodesRow.holds Tryd.pinned (OpenSpec.ofChange fnKeyNodesSpec)

/-- ITS FALSE NEIGHBOUR: 'it returns false'. Refute it at one input. -/
def fnKeyNodesWrong : ChangeSpec := { name := "fnKeyNodes", vars := ["loop.example/mailhost/impl.keyShapes", "loop.example/mailhost/impl.flagNames"], fn := fun _ => fun
  | [d, g1, g2] => { results := [.lit (.bool false)], args := [d], vars := [g1, g2] }
  | _ => none }
def FnKeyNodesWrongFalsely : Prop := fnKeyNodesRow.holds Tryd.pinned (OpenSpec.ofChange fnKeyNodesWrong)

/-- 'laws.FnKeyFields': WHATEVER THE INPUT: true; the input reads as it did. -/
def fnKeyFieldsSpec : ChangeSpec := { name := "fnKeyFields", vars := ["loop.example/mailhost/impl.keyShapes", "loop.example/mailhost/impl.flagNames"], fn := fun _ => fun
  | [d, g1, g2] => { results := [.lit (.bool true)], args := [d], vars := [g1, g2] }
  | _ => none }
def fnKeyFieldsRow : OpenClaim := { program := "ytpihibconbejlaadoor", sum := "d91ae24ff252e21f937bce78dccf6fbf0054e129be19b40783e9abf6e57e5c4c", func := "loop.example/mailhost/laws.FnKeyFields", spec := "fnKeyFields", inPlace := ["internal/abi.NoEscape", "internal/bytealg.MakeNoZero"], unfollowed := true, recurses := true, named := ["loop.example/mailhost/impl.keyShapes", "loop.example/mailhost/impl.flagNames", "unicode/utf8.first", "unicode/utf8.acceptRanges", "unicode.CaseRanges"], apart := false, laid := [("unicode/utf8.acceptRanges", laid_unicode_utf8_acceptRanges), ("loop.example/mailhost/impl.keyShapes", laid_loop_example_mailhost_impl_keyShapes), ("loop.example/mailhost/impl.flagNames", laid_loop_example_mailhost_impl_flagNames), ("unicode.CaseRanges", laid_unicode_CaseRanges), ("unicode/utf8.first", laid_unicode_utf8_first)] }
def FnKeyFieldsSaid : Prop := fnKeyFieldsRow.holds Tryd.pinned (OpenSpec.ofChange fnKeyFieldsSpec)

/-- ITS FALSE NEIGHBOUR: 'it returns false'. Refute it at one input. -/
def fnKeyFieldsWrong : ChangeSpec := { name := "fnKeyFields", vars := ["loop.example/mailhost/impl.keyShapes", "loop.example/mailhost/impl.flagNames"], fn := fun _ => fun
  | [d, g1, g2] => { results := [.lit (.bool false)], args := [d], vars := [g1, g2] }
  | _ => none }
def FnKeyFieldsWrongFalsely : Prop := fnKeyFieldsRow.holds Tryd.pinned (OpenSpec.ofChange fnKeyFieldsWrong)

/-- 'laws.FnKeyParts': WHATEVER THE INPUT: true; the input reads as it did. -/
def fnKeyPartsSpec : ChangeSpec := { name := "fnKeyParts", vars := ["loop.example/mailhost/impl.keyShapes", "loop.example/mailhost/impl.flagNames"], fn := fun _ => fun
  | [d, g1, g2] => { results := [.lit (.bool true)], args := [d], vars := [g1, g2] }
  | _ => none }
def fnKeyPartsRow : OpenClaim := { program := "ytpihibconbejlaadoor", sum := "d91ae24ff252e21f937bce78dccf6fbf0054e129be19b40783e9abf6e57e5c4c", func := "loop.example/mailhost/laws.FnKeyParts", spec := "fnKeyParts", inPlace := ["internal/abi.NoEscape", "internal/bytealg.MakeNoZero"], unfollowed := true, recurses := true, named := ["loop.example/mailhost/impl.keyShapes", "loop.example/mailhost/impl.flagNames", "unicode/utf8.first", "unicode/utf8.acceptRanges", "unicode.CaseRanges"], apart := false, laid := [("unicode/utf8.acceptRanges", laid_unicode_utf8_acceptRanges), ("loop.example/mailhost/impl.keyShapes", laid_loop_example_mailhost_impl_keyShapes), ("loop.example/mailhost/impl.flagNames", laid_loop_example_mailhost_impl_flagNames), ("unicode.CaseRanges", laid_unicode_CaseRanges), ("unicode/utf8.first", laid_unicode_utf8_first)] }
def FnKeyPartsSaid : Prop := fnKeyPartsRow.holds Tryd.pinned (OpenSpec.ofChange fnKeyPartsSpec)

/-- ITS FALSE NEIGHBOUR: 'it returns false'. Refute it at one input. -/
def fnKeyPartsWrong : ChangeSpec := { name := "fnKeyParts", vars := ["loop.example/mailhost/impl.keyShapes", "loop.example/mailhost/impl.flagNames"], fn := fun _ => fun
  | [d, g1, g2] => { results := [.lit (.bool false)], args := [d], vars := [g1, g2] }
  | _ => none }
def FnKeyPartsWrongFalsely : Prop := fnKeyPartsRow.holds Tryd.pinned (OpenSpec.ofChange fnKeyPartsWrong)

/-- 'laws.FnSearch': WHATEVER THE INPUT: true; the input reads as it did. -/
def fnSearchSpec : ChangeSpec := { name := "fnSearch", vars := ["loop.example/mailhost/impl.keyShapes", "loop.example/mailhost/impl.flagNames"], fn := fun _ => fun
  | [d, g1, g2] => { results := [.lit (.bool true)], args := [d], vars := [g1, g2] }
  | _ => none }
def fnSearchRow : OpenClaim := { program := "ytpihibconbejlaadoor", sum := "d91ae24ff252e21f937bce78dccf6fbf0054e129be19b40783e9abf6e57e5c4c", func := "loop.example/mailhost/laws.FnSearch", spec := "fnSearch", inPlace := ["internal/abi.NoEscape", "internal/bytealg.MakeNoZero", "internal/bytealg.IndexByteString", "internal/bytealg.IndexString"], unfollowed := true, recurses := true, named := ["loop.example/mailhost/impl.keyShapes", "loop.example/mailhost/impl.flagNames", "unicode/utf8.first", "unicode/utf8.acceptRanges", "unicode.CaseRanges", "internal/bytealg.MaxLen"], apart := false, laid := [("unicode/utf8.acceptRanges", laid_unicode_utf8_acceptRanges), ("loop.example/mailhost/impl.keyShapes", laid_loop_example_mailhost_impl_keyShapes), ("loop.example/mailhost/impl.flagNames", laid_loop_example_mailhost_impl_flagNames), ("unicode.CaseRanges", laid_unicode_CaseRanges), ("unicode/utf8.first", laid_unicode_utf8_first)] }
def FnSearchSaid : Prop := fnSearchRow.holds Tryd.pinned (OpenSpec.ofChange fnSearchSpec)

/-- ITS FALSE NEIGHBOUR: 'it returns false'. Refute it at one input. -/
def fnSearchWrong : ChangeSpec := { name := "fnSearch", vars := ["loop.example/mailhost/impl.keyShapes", "loop.example/mailhost/impl.flagNames"], fn := fun _ => fun
  | [d, g1, g2] => { results := [.lit (.bool false)], args := [d], vars := [g1, g2] }
  | _ => none }
def FnSearchWrongFalsely : Prop := fnSearchRow.holds Tryd.pinned (OpenSpec.ofChange fnSearchWrong)

/-- 'laws.FnSearchNot': WHATEVER THE INPUT: true; the input reads as it did. -/
def fnSearchNotSpec : ChangeSpec := { name := "fnSearchNot", vars := ["loop.example/mailhost/impl.keyShapes", "loop.example/mailhost/impl.flagNames"], fn := fun _ => fun
  | [d, g1, g2] => { results := [.lit (.bool true)], args := [d], vars := [g1, g2] }
  | _ => none }
def fnSearchNotRow : OpenClaim := { program := "ytpihibconbejlaadoor", sum := "d91ae24ff252e21f937bce78dccf6fbf0054e129be19b40783e9abf6e57e5c4c", func := "loop.example/mailhost/laws.FnSearchNot", spec := "fnSearchNot", inPlace := ["internal/abi.NoEscape", "internal/bytealg.MakeNoZero", "internal/bytealg.IndexByteString", "internal/bytealg.IndexString"], unfollowed := true, recurses := true, named := ["loop.example/mailhost/impl.keyShapes", "loop.example/mailhost/impl.flagNames", "unicode/utf8.first", "unicode/utf8.acceptRanges", "unicode.CaseRanges", "internal/bytealg.MaxLen"], apart := false, laid := [("unicode/utf8.acceptRanges", laid_unicode_utf8_acceptRanges), ("loop.example/mailhost/impl.keyShapes", laid_loop_example_mailhost_impl_keyShapes), ("loop.example/mailhost/impl.flagNames", laid_loop_example_mailhost_impl_flagNames), ("unicode.CaseRanges", laid_unicode_CaseRanges), ("unicode/utf8.first", laid_unicode_utf8_first)] }
def FnSearchNotSaid : Prop := fnSearchNotRow.holds Tryd.pinned (OpenSpec.ofChange fnSearchNotSpec)

/-- ITS FALSE NEIGHBOUR: 'it returns false'. Refute it at one input. -/
def fnSearchNotWrong : ChangeSpec := { name := "fnSearchNot", vars := ["loop.example/mailhost/impl.keyShapes", "loop.example/mailhost/impl.flagNames"], fn := fun _ => fun
  | [d, g1, g2] => { results := [.lit (.bool false)], args := [d], vars := [g1, g2] }
  | _ => none }
def FnSearchNotWrongFalsely : Prop := fnSearchNotRow.holds Tryd.pinned (OpenSpec.ofChange fnSearchNotWrong)

/-- 'laws.FnSearchAnd': WHATEVER THE INPUT: true; the input reads as it did. -/
def fnSearchAndSpec : ChangeSpec := { name := "fnSearchAnd", vars := ["loop.example/mailhost/impl.keyShapes", "loop.example/mailhost/impl.flagNames"], fn := fun _ => fun
  | [d, g1, g2] => { results := [.lit (.bool true)], args := [d], vars := [g1, g2] }
  | _ => none }
def fnSearchAndRow : OpenClaim := { program := "ytpihibconbejlaadoor", sum := "d91ae24ff252e21f937bce78dccf6fbf0054e129be19b40783e9abf6e57e5c4c", func := "loop.example/mailhost/laws.FnSearchAnd", spec := "fnSearchAnd", inPlace := ["internal/abi.NoEscape", "internal/bytealg.MakeNoZero", "internal/bytealg.IndexByteString", "internal/bytealg.IndexString"], unfollowed := true, recurses := true, named := ["loop.example/mailhost/impl.keyShapes", "loop.example/mailhost/impl.flagNames", "unicode/utf8.first", "unicode/utf8.acceptRanges", "unicode.CaseRanges", "internal/bytealg.MaxLen"], apart := false, laid := [("unicode/utf8.acceptRanges", laid_unicode_utf8_acceptRanges), ("loop.example/mailhost/impl.keyShapes", laid_loop_example_mailhost_impl_keyShapes), ("loop.example/mailhost/impl.flagNames", laid_loop_example_mailhost_impl_flagNames), ("unicode.CaseRanges", laid_unicode_CaseRanges), ("unicode/utf8.first", laid_unicode_utf8_first)] }
def FnSearchAndSaid : Prop := fnSearchAndRow.holds Tryd.pinned (OpenSpec.ofChange fnSearchAndSpec)

/-- ITS FALSE NEIGHBOUR: 'it returns false'. Refute it at one input. -/
def fnSearchAndWrong : ChangeSpec := { name := "fnSearchAnd", vars := ["loop.example/mailhost/impl.keyShapes", "loop.example/mailhost/impl.flagNames"], fn := fun _ => fun
  | [d, g1, g2] => { results := [.lit (.bool false)], args := [d], vars := [g1, g2] }
  | _ => none }
def FnSearchAndWrongFalsely : Prop := fnSearchAndRow.holds Tryd.pinned (OpenSpec.ofChange fnSearchAndWrong)

/-- 'laws.FnSearchOr': WHATEVER THE INPUT: true; the input reads as it did. -/
def fnSearchOrSpec : ChangeSpec := { name := "fnSearchOr", vars := ["loop.example/mailhost/impl.keyShapes", "loop.example/mailhost/impl.flagNames"], fn := fun _ => fun
  | [d, g1, g2] => { results := [.lit (.bool true)], args := [d], vars := [g1, g2] }
  | _ => none }
def fnSearchOrRow : OpenClaim := { program := "ytpihibconbejlaadoor", sum := "d91ae24ff252e21f937bce78dccf6fbf0054e129be19b40783e9abf6e57e5c4c", func := "loop.example/mailhost/laws.FnSearchOr", spec := "fnSearchOr", inPlace := ["internal/abi.NoEscape", "internal/bytealg.MakeNoZero", "internal/bytealg.IndexByteString", "internal/bytealg.IndexString"], unfollowed := true, recurses := true, named := ["loop.example/mailhost/impl.keyShapes", "loop.example/mailhost/impl.flagNames", "unicode/utf8.first", "unicode/utf8.acceptRanges", "unicode.CaseRanges", "internal/bytealg.MaxLen"], apart := false, laid := [("unicode/utf8.acceptRanges", laid_unicode_utf8_acceptRanges), ("loop.example/mailhost/impl.keyShapes", laid_loop_example_mailhost_impl_keyShapes), ("loop.example/mailhost/impl.flagNames", laid_loop_example_mailhost_impl_flagNames), ("unicode.CaseRanges", laid_unicode_CaseRanges), ("unicode/utf8.first", laid_unicode_utf8_first)] }
def FnSearchOrSaid : Prop := fnSearchOrRow.holds Tryd.pinned (OpenSpec.ofChange fnSearchOrSpec)

/-- ITS FALSE NEIGHBOUR: 'it returns false'. Refute it at one input. -/
def fnSearchOrWrong : ChangeSpec := { name := "fnSearchOr", vars := ["loop.example/mailhost/impl.keyShapes", "loop.example/mailhost/impl.flagNames"], fn := fun _ => fun
  | [d, g1, g2] => { results := [.lit (.bool false)], args := [d], vars := [g1, g2] }
  | _ => none }
def FnSearchOrWrongFalsely : Prop := fnSearchOrRow.holds Tryd.pinned (OpenSpec.ofChange fnSearchOrWrong)

/-- 'laws.FnSearchOrder': WHATEVER THE INPUT: true; the input reads as it did. -/
def fnSearchOrderSpec : ChangeSpec := { name := "fnSearchOrder", vars := ["loop.example/mailhost/impl.keyShapes", "loop.example/mailhost/impl.flagNames"], fn := fun _ => fun
  | [d, g1, g2] => { results := [.lit (.bool true)], args := [d], vars := [g1, g2] }
  | _ => none }
def fnSearchOrderRow : OpenClaim := { program := "ytpihibconbejlaadoor", sum := "d91ae24ff252e21f937bce78dccf6fbf0054e129be19b40783e9abf6e57e5c4c", func := "loop.example/mailhost/laws.FnSearchOrder", spec := "fnSearchOrder", inPlace := ["internal/abi.NoEscape", "internal/bytealg.MakeNoZero", "internal/bytealg.IndexByteString", "internal/bytealg.IndexString"], unfollowed := true, recurses := true, named := ["loop.example/mailhost/impl.keyShapes", "loop.example/mailhost/impl.flagNames", "unicode/utf8.first", "unicode/utf8.acceptRanges", "unicode.CaseRanges", "internal/bytealg.MaxLen"], apart := false, laid := [("unicode/utf8.acceptRanges", laid_unicode_utf8_acceptRanges), ("loop.example/mailhost/impl.keyShapes", laid_loop_example_mailhost_impl_keyShapes), ("loop.example/mailhost/impl.flagNames", laid_loop_example_mailhost_impl_flagNames), ("unicode.CaseRanges", laid_unicode_CaseRanges), ("unicode/utf8.first", laid_unicode_utf8_first)] }
def FnSearchOrderSaid : Prop := fnSearchOrderRow.holds Tryd.pinned (OpenSpec.ofChange fnSearchOrderSpec)

/-- ITS FALSE NEIGHBOUR: 'it returns false'. Refute it at one input. -/
def fnSearchOrderWrong : ChangeSpec := { name := "fnSearchOrder", vars := ["loop.example/mailhost/impl.keyShapes", "loop.example/mailhost/impl.flagNames"], fn := fun _ => fun
  | [d, g1, g2] => { results := [.lit (.bool false)], args := [d], vars := [g1, g2] }
  | _ => none }
def FnSearchOrderWrongFalsely : Prop := fnSearchOrderRow.holds Tryd.pinned (OpenSpec.ofChange fnSearchOrderWrong)

/-- 'laws.FnSearchMorgan': WHATEVER THE INPUT: true; the input reads as it did. -/
def fnSearchMorganSpec : ChangeSpec := { name := "fnSearchMorgan", vars := ["loop.example/mailhost/impl.keyShapes", "loop.example/mailhost/impl.flagNames"], fn := fun _ => fun
  | [d, g1, g2] => { results := [.lit (.bool true)], args := [d], vars := [g1, g2] }
  | _ => none }
def fnSearchMorganRow : OpenClaim := { program := "ytpihibconbejlaadoor", sum := "d91ae24ff252e21f937bce78dccf6fbf0054e129be19b40783e9abf6e57e5c4c", func := "loop.example/mailhost/laws.FnSearchMorgan", spec := "fnSearchMorgan", inPlace := ["internal/abi.NoEscape", "internal/bytealg.MakeNoZero", "internal/bytealg.IndexByteString", "internal/bytealg.IndexString"], unfollowed := true, recurses := true, named := ["loop.example/mailhost/impl.keyShapes", "loop.example/mailhost/impl.flagNames", "unicode/utf8.first", "unicode/utf8.acceptRanges", "unicode.CaseRanges", "internal/bytealg.MaxLen"], apart := false, laid := [("unicode/utf8.acceptRanges", laid_unicode_utf8_acceptRanges), ("loop.example/mailhost/impl.keyShapes", laid_loop_example_mailhost_impl_keyShapes), ("loop.example/mailhost/impl.flagNames", laid_loop_example_mailhost_impl_flagNames), ("unicode.CaseRanges", laid_unicode_CaseRanges), ("unicode/utf8.first", laid_unicode_utf8_first)] }
def FnSearchMorganSaid : Prop := fnSearchMorganRow.holds Tryd.pinned (OpenSpec.ofChange fnSearchMorganSpec)

/-- ITS FALSE NEIGHBOUR: 'it returns false'. Refute it at one input. -/
def fnSearchMorganWrong : ChangeSpec := { name := "fnSearchMorgan", vars := ["loop.example/mailhost/impl.keyShapes", "loop.example/mailhost/impl.flagNames"], fn := fun _ => fun
  | [d, g1, g2] => { results := [.lit (.bool false)], args := [d], vars := [g1, g2] }
  | _ => none }
def FnSearchMorganWrongFalsely : Prop := fnSearchMorganRow.holds Tryd.pinned (OpenSpec.ofChange fnSearchMorganWrong)

/-- 'laws.FnSearchFlag': WHATEVER THE INPUT: true; the input reads as it did. -/
def fnSearchFlagSpec : ChangeSpec := { name := "fnSearchFlag", vars := ["loop.example/mailhost/impl.keyShapes", "loop.example/mailhost/impl.flagNames"], fn := fun _ => fun
  | [d, g1, g2] => { results := [.lit (.bool true)], args := [d], vars := [g1, g2] }
  | _ => none }
def fnSearchFlagRow : OpenClaim := { program := "ytpihibconbejlaadoor", sum := "d91ae24ff252e21f937bce78dccf6fbf0054e129be19b40783e9abf6e57e5c4c", func := "loop.example/mailhost/laws.FnSearchFlag", spec := "fnSearchFlag", inPlace := ["internal/abi.NoEscape", "internal/bytealg.MakeNoZero", "internal/bytealg.IndexByteString", "internal/bytealg.IndexString"], unfollowed := true, recurses := true, named := ["loop.example/mailhost/impl.keyShapes", "loop.example/mailhost/impl.flagNames", "unicode/utf8.first", "unicode/utf8.acceptRanges", "unicode.CaseRanges", "internal/bytealg.MaxLen"], apart := false, laid := [("unicode/utf8.acceptRanges", laid_unicode_utf8_acceptRanges), ("loop.example/mailhost/impl.keyShapes", laid_loop_example_mailhost_impl_keyShapes), ("loop.example/mailhost/impl.flagNames", laid_loop_example_mailhost_impl_flagNames), ("unicode.CaseRanges", laid_unicode_CaseRanges), ("unicode/utf8.first", laid_unicode_utf8_first)] }
def FnSearchFlagSaid : Prop := fnSearchFlagRow.holds Tryd.pinned (OpenSpec.ofChange fnSearchFlagSpec)

/-- ITS FALSE NEIGHBOUR: 'it returns false'. Refute it at one input. -/
def fnSearchFlagWrong : ChangeSpec := { name := "fnSearchFlag", vars := ["loop.example/mailhost/impl.keyShapes", "loop.example/mailhost/impl.flagNames"], fn := fun _ => fun
  | [d, g1, g2] => { results := [.lit (.bool false)], args := [d], vars := [g1, g2] }
  | _ => none }
def FnSearchFlagWrongFalsely : Prop := fnSearchFlagRow.holds Tryd.pinned (OpenSpec.ofChange fnSearchFlagWrong)

/-- 'laws.FnSearchPlace': WHATEVER THE INPUT: true; the input reads as it did. -/
def fnSearchPlaceSpec : ChangeSpec := { name := "fnSearchPlace", vars := ["loop.example/mailhost/impl.keyShapes", "loop.example/mailhost/impl.flagNames"], fn := fun _ => fun
  | [d1, d2, g1, g2] => { results := [.lit (.bool true)], args := [d1, d2], vars := [g1, g2] }
  | _ => none }
def fnSearchPlaceRow : OpenClaim := { program := "ytpihibconbejlaadoor", sum := "d91ae24ff252e21f937bce78dccf6fbf0054e129be19b40783e9abf6e57e5c4c", func := "loop.example/mailhost/laws.FnSearchPlace", spec := "fnSearchPlace", inPlace := ["internal/abi.NoEscape", "internal/bytealg.MakeNoZero", "internal/bytealg.IndexByteString", "internal/bytealg.IndexString"], unfollowed := true, recurses := true, named := ["loop.example/mailhost/impl.keyShapes", "loop.example/mailhost/impl.flagNames", "unicode/utf8.first", "unicode/utf8.acceptRanges", "unicode.CaseRanges", "internal/bytealg.MaxLen"], apart := false, laid := [("unicode/utf8.acceptRanges", laid_unicode_utf8_acceptRanges), ("loop.example/mailhost/impl.keyShapes", laid_loop_example_mailhost_impl_keyShapes), ("loop.example/mailhost/impl.flagNames", laid_loop_example_mailhost_impl_flagNames), ("unicode.CaseRanges", laid_unicode_CaseRanges), ("unicode/utf8.first", laid_unicode_utf8_first)] }
def FnSearchPlaceSaid : Prop := fnSearchPlaceRow.holds Tryd.pinned (OpenSpec.ofChange fnSearchPlaceSpec)

/-- ITS FALSE NEIGHBOUR: 'it returns false'. Refute it at one input. -/
def fnSearchPlaceWrong : ChangeSpec := { name := "fnSearchPlace", vars := ["loop.example/mailhost/impl.keyShapes", "loop.example/mailhost/impl.flagNames"], fn := fun _ => fun
  | [d1, d2, g1, g2] => { results := [.lit (.bool false)], args := [d1, d2], vars := [g1, g2] }
  | _ => none }
def FnSearchPlaceWrongFalsely : Prop := fnSearchPlaceRow.holds Tryd.pinned (OpenSpec.ofChange fnSearchPlaceWrong)

/-- 'laws.FnSearchUid': WHATEVER THE INPUT: true; the input reads as it did. -/
def fnSearchUidSpec : ChangeSpec := { name := "fnSearchUid", vars := ["loop.example/mailhost/impl.keyShapes", "loop.example/mailhost/impl.flagNames"], fn := fun _ => fun
  | [d1, d2, g1, g2] => { results := [.lit (.bool true)], args := [d1, d2], vars := [g1, g2] }
  | _ => none }
def fnSearchUidRow : OpenClaim := { program := "ytpihibconbejlaadoor", sum := "d91ae24ff252e21f937bce78dccf6fbf0054e129be19b40783e9abf6e57e5c4c", func := "loop.example/mailhost/laws.FnSearchUid", spec := "fnSearchUid", inPlace := ["internal/abi.NoEscape", "internal/bytealg.MakeNoZero", "internal/bytealg.IndexByteString", "internal/bytealg.IndexString"], unfollowed := true, recurses := true, named := ["loop.example/mailhost/impl.keyShapes", "loop.example/mailhost/impl.flagNames", "unicode/utf8.first", "unicode/utf8.acceptRanges", "unicode.CaseRanges", "internal/bytealg.MaxLen"], apart := false, laid := [("unicode/utf8.acceptRanges", laid_unicode_utf8_acceptRanges), ("loop.example/mailhost/impl.keyShapes", laid_loop_example_mailhost_impl_keyShapes), ("loop.example/mailhost/impl.flagNames", laid_loop_example_mailhost_impl_flagNames), ("unicode.CaseRanges", laid_unicode_CaseRanges), ("unicode/utf8.first", laid_unicode_utf8_first)] }
def FnSearchUidSaid : Prop := fnSearchUidRow.holds Tryd.pinned (OpenSpec.ofChange fnSearchUidSpec)

/-- ITS FALSE NEIGHBOUR: 'it returns false'. Refute it at one input. -/
def fnSearchUidWrong : ChangeSpec := { name := "fnSearchUid", vars := ["loop.example/mailhost/impl.keyShapes", "loop.example/mailhost/impl.flagNames"], fn := fun _ => fun
  | [d1, d2, g1, g2] => { results := [.lit (.bool false)], args := [d1, d2], vars := [g1, g2] }
  | _ => none }
def FnSearchUidWrongFalsely : Prop := fnSearchUidRow.holds Tryd.pinned (OpenSpec.ofChange fnSearchUidWrong)

/-- 'laws.FnSearchText': WHATEVER THE INPUT: true; the input reads as it did. -/
def fnSearchTextSpec : ChangeSpec := { name := "fnSearchText", vars := ["loop.example/mailhost/impl.keyShapes", "loop.example/mailhost/impl.flagNames"], fn := fun _ => fun
  | [d, g1, g2] => { results := [.lit (.bool true)], args := [d], vars := [g1, g2] }
  | _ => none }
def fnSearchTextRow : OpenClaim := { program := "ytpihibconbejlaadoor", sum := "d91ae24ff252e21f937bce78dccf6fbf0054e129be19b40783e9abf6e57e5c4c", func := "loop.example/mailhost/laws.FnSearchText", spec := "fnSearchText", inPlace := ["internal/abi.NoEscape", "internal/bytealg.MakeNoZero", "internal/bytealg.IndexByteString", "internal/bytealg.IndexString"], unfollowed := true, recurses := true, named := ["loop.example/mailhost/impl.keyShapes", "loop.example/mailhost/impl.flagNames", "unicode/utf8.first", "unicode/utf8.acceptRanges", "unicode.CaseRanges", "internal/bytealg.MaxLen"], apart := false, laid := [("unicode/utf8.acceptRanges", laid_unicode_utf8_acceptRanges), ("loop.example/mailhost/impl.keyShapes", laid_loop_example_mailhost_impl_keyShapes), ("loop.example/mailhost/impl.flagNames", laid_loop_example_mailhost_impl_flagNames), ("unicode.CaseRanges", laid_unicode_CaseRanges), ("unicode/utf8.first", laid_unicode_utf8_first)] }
def FnSearchTextSaid : Prop := fnSearchTextRow.holds Tryd.pinned (OpenSpec.ofChange fnSearchTextSpec)

/-- ITS FALSE NEIGHBOUR: 'it returns false'. Refute it at one input. -/
def fnSearchTextWrong : ChangeSpec := { name := "fnSearchText", vars := ["loop.example/mailhost/impl.keyShapes", "loop.example/mailhost/impl.flagNames"], fn := fun _ => fun
  | [d, g1, g2] => { results := [.lit (.bool false)], args := [d], vars := [g1, g2] }
  | _ => none }
def FnSearchTextWrongFalsely : Prop := fnSearchTextRow.holds Tryd.pinned (OpenSpec.ofChange fnSearchTextWrong)

/-- 'laws.FnExactKeyValid': WHATEVER THE INPUT: true; the input reads as it did. -/
def fnExactKeyValidSpec : ChangeSpec := { name := "fnExactKeyValid", vars := ["loop.example/mailhost/impl.keyShapes", "loop.example/mailhost/impl.flagNames"], fn := fun _ => fun
  | [d, g1, g2] => { results := [.lit (.bool true)], args := [d], vars := [g1, g2] }
  | _ => none }
def fnExactKeyValidRow : OpenClaim := { program := "ytpihibconbejlaadoor", sum := "d91ae24ff252e21f937bce78dccf6fbf0054e129be19b40783e9abf6e57e5c4c", func := "loop.example/mailhost/laws.FnExactKeyValid", spec := "fnExactKeyValid", inPlace := ["internal/abi.NoEscape", "internal/bytealg.MakeNoZero"], unfollowed := true, recurses := true, named := ["loop.example/mailhost/impl.keyShapes", "loop.example/mailhost/impl.flagNames", "unicode/utf8.first", "unicode/utf8.acceptRanges", "unicode.CaseRanges"], loops := true, apart := false, laid := [("unicode/utf8.acceptRanges", laid_unicode_utf8_acceptRanges), ("loop.example/mailhost/impl.keyShapes", laid_loop_example_mailhost_impl_keyShapes), ("loop.example/mailhost/impl.flagNames", laid_loop_example_mailhost_impl_flagNames), ("unicode.CaseRanges", laid_unicode_CaseRanges), ("unicode/utf8.first", laid_unicode_utf8_first)] }
def FnExactKeyValidSaid : Prop := fnExactKeyValidRow.holds Tryd.pinned (OpenSpec.ofChange fnExactKeyValidSpec)

/-- ITS FALSE NEIGHBOUR: 'it returns false'. Refute it at one input. -/
def fnExactKeyValidWrong : ChangeSpec := { name := "fnExactKeyValid", vars := ["loop.example/mailhost/impl.keyShapes", "loop.example/mailhost/impl.flagNames"], fn := fun _ => fun
  | [d, g1, g2] => { results := [.lit (.bool false)], args := [d], vars := [g1, g2] }
  | _ => none }
def FnExactKeyValidWrongFalsely : Prop := fnExactKeyValidRow.holds Tryd.pinned (OpenSpec.ofChange fnExactKeyValidWrong)

/-- 'laws.FnExactKeyFormat': WHATEVER THE INPUT: true; the input reads as it did. -/
def fnExactKeyFormatSpec : ChangeSpec := { name := "fnExactKeyFormat", vars := ["loop.example/mailhost/impl.keyShapes", "loop.example/mailhost/impl.flagNames"], fn := fun _ => fun
  | [d, g1, g2] => { results := [.lit (.bool true)], args := [d], vars := [g1, g2] }
  | _ => none }
def fnExactKeyFormatRow : OpenClaim := { program := "ytpihibconbejlaadoor", sum := "d91ae24ff252e21f937bce78dccf6fbf0054e129be19b40783e9abf6e57e5c4c", func := "loop.example/mailhost/laws.FnExactKeyFormat", spec := "fnExactKeyFormat", inPlace := ["internal/abi.NoEscape", "internal/bytealg.MakeNoZero"], unfollowed := true, recurses := true, named := ["loop.example/mailhost/impl.keyShapes", "loop.example/mailhost/impl.flagNames", "unicode/utf8.first", "unicode/utf8.acceptRanges", "unicode.CaseRanges"], loops := true, apart := false, laid := [("unicode/utf8.acceptRanges", laid_unicode_utf8_acceptRanges), ("loop.example/mailhost/impl.keyShapes", laid_loop_example_mailhost_impl_keyShapes), ("loop.example/mailhost/impl.flagNames", laid_loop_example_mailhost_impl_flagNames), ("unicode.CaseRanges", laid_unicode_CaseRanges), ("unicode/utf8.first", laid_unicode_utf8_first)] }
def FnExactKeyFormatSaid : Prop := fnExactKeyFormatRow.holds Tryd.pinned (OpenSpec.ofChange fnExactKeyFormatSpec)

/-- ITS FALSE NEIGHBOUR: 'it returns false'. Refute it at one input. -/
def fnExactKeyFormatWrong : ChangeSpec := { name := "fnExactKeyFormat", vars := ["loop.example/mailhost/impl.keyShapes", "loop.example/mailhost/impl.flagNames"], fn := fun _ => fun
  | [d, g1, g2] => { results := [.lit (.bool false)], args := [d], vars := [g1, g2] }
  | _ => none }
def FnExactKeyFormatWrongFalsely : Prop := fnExactKeyFormatRow.holds Tryd.pinned (OpenSpec.ofChange fnExactKeyFormatWrong)

/- THE SECOND FORM. 'bulk': how many values and letters a reading holds, each counted each time it is reached (what is shared counts as often as it is met; a slice's spare places count too). A statement '..UptoSaid' is the law's where the arguments, and the package variables that the reading takes, are together of bulk at most 1048576: NARROWER than '..Said'. Prove '..Said' where nothing that the law and all that it calls make is longer than what came in: it says more and counts as full. Else prove '..UptoSaid'. A law counts once. -/
mutual
def uptoBulk {H : Type} : DataW H → Nat
  | .lit (.string bytes) => bytes.length + 1
  | .lit _ => 1
  | .nil => 1
  | .ptr d => uptoBulk d + 1
  | .slice elems spare => uptoBulkAll elems + uptoBulkAll spare + 1
  | .agg parts => uptoBulkAll parts + 1
  | .iface _ d => uptoBulk d + 1
  | .map entries => uptoBulkEntries entries + 1
  | .held _ => 1
def uptoBulkAll {H : Type} : List (DataW H) → Nat
  | [] => 0
  | d :: r => uptoBulk d + uptoBulkAll r
def uptoBulkEntries {H : Type} : List (Lit × DataW H) → Nat
  | [] => 0
  | x :: r => uptoBulkEntry x + uptoBulkEntries r
def uptoBulkEntry {H : Type} : Lit × DataW H → Nat
  | (.string bytes, d) => bytes.length + uptoBulk d + 1
  | (_, d) => uptoBulk d + 1
 end
def uptoSmall : (H : Type) → List (DataW H) → Bool := fun _ ds => decide (uptoBulkAll ds ≤ 1048576)
def OpenSpec.upto (s : _root_.Go.ChangeSpec) : _root_.Go.OpenSpec := { _root_.Go.OpenSpec.ofChange s with cond := some uptoSmall }

/-- 'laws.FnKeyFormat', WHERE WHAT IT READS IS OF BULK AT MOST 1048576: true; the input reads as it did. -/
def fnKeyFormatUptoRow : OpenClaim := { program := "ytpihibconbejlaadoor", sum := "d91ae24ff252e21f937bce78dccf6fbf0054e129be19b40783e9abf6e57e5c4c", func := "loop.example/mailhost/laws.FnKeyFormat", spec := "fnKeyFormat", inPlace := ["internal/abi.NoEscape", "internal/bytealg.MakeNoZero"], unfollowed := true, recurses := true, named := ["loop.example/mailhost/impl.keyShapes", "loop.example/mailhost/impl.flagNames", "unicode/utf8.first", "unicode/utf8.acceptRanges", "unicode.CaseRanges"], apart := false, laid := [("unicode/utf8.acceptRanges", laid_unicode_utf8_acceptRanges), ("loop.example/mailhost/impl.keyShapes", laid_loop_example_mailhost_impl_keyShapes), ("loop.example/mailhost/impl.flagNames", laid_loop_example_mailhost_impl_flagNames), ("unicode.CaseRanges", laid_unicode_CaseRanges), ("unicode/utf8.first", laid_unicode_utf8_first)], narrowed := true }
def FnKeyFormatUptoSaid : Prop := fnKeyFormatUptoRow.holds Tryd.pinned (OpenSpec.upto fnKeyFormatSpec)

/-- 'laws.FnKeyNodes', WHERE WHAT IT READS IS OF BULK AT MOST 1048576: true; the input reads as it did. -/
def fnKeyNodesUptoRow : OpenClaim := { program := "ytpihibconbejlaadoor", sum := "d91ae24ff252e21f937bce78dccf6fbf0054e129be19b40783e9abf6e57e5c4c", func := "loop.example/mailhost/laws.FnKeyNodes", spec := "fnKeyNodes", inPlace := ["internal/abi.NoEscape", "internal/bytealg.MakeNoZero"], unfollowed := true, recurses := true, named := ["loop.example/mailhost/impl.keyShapes", "loop.example/mailhost/impl.flagNames", "unicode/utf8.first", "unicode/utf8.acceptRanges", "unicode.CaseRanges"], apart := false, laid := [("unicode/utf8.acceptRanges", laid_unicode_utf8_acceptRanges), ("loop.example/mailhost/impl.keyShapes", laid_loop_example_mailhost_impl_keyShapes), ("loop.example/mailhost/impl.flagNames", laid_loop_example_mailhost_impl_flagNames), ("unicode.CaseRanges", laid_unicode_CaseRanges), ("unicode/utf8.first", laid_unicode_utf8_first)], narrowed := true }
def FnKeyNodesUptoSaid : Prop := fnKeyNodesUptoRow.holds Tryd.pinned (OpenSpec.upto fnKeyNodesSpec)

/-- 'laws.FnKeyFields', WHERE WHAT IT READS IS OF BULK AT MOST 1048576: true; the input reads as it did. -/
def fnKeyFieldsUptoRow : OpenClaim := { program := "ytpihibconbejlaadoor", sum := "d91ae24ff252e21f937bce78dccf6fbf0054e129be19b40783e9abf6e57e5c4c", func := "loop.example/mailhost/laws.FnKeyFields", spec := "fnKeyFields", inPlace := ["internal/abi.NoEscape", "internal/bytealg.MakeNoZero"], unfollowed := true, recurses := true, named := ["loop.example/mailhost/impl.keyShapes", "loop.example/mailhost/impl.flagNames", "unicode/utf8.first", "unicode/utf8.acceptRanges", "unicode.CaseRanges"], apart := false, laid := [("unicode/utf8.acceptRanges", laid_unicode_utf8_acceptRanges), ("loop.example/mailhost/impl.keyShapes", laid_loop_example_mailhost_impl_keyShapes), ("loop.example/mailhost/impl.flagNames", laid_loop_example_mailhost_impl_flagNames), ("unicode.CaseRanges", laid_unicode_CaseRanges), ("unicode/utf8.first", laid_unicode_utf8_first)], narrowed := true }
def FnKeyFieldsUptoSaid : Prop := fnKeyFieldsUptoRow.holds Tryd.pinned (OpenSpec.upto fnKeyFieldsSpec)

/-- 'laws.FnKeyParts', WHERE WHAT IT READS IS OF BULK AT MOST 1048576: true; the input reads as it did. -/
def fnKeyPartsUptoRow : OpenClaim := { program := "ytpihibconbejlaadoor", sum := "d91ae24ff252e21f937bce78dccf6fbf0054e129be19b40783e9abf6e57e5c4c", func := "loop.example/mailhost/laws.FnKeyParts", spec := "fnKeyParts", inPlace := ["internal/abi.NoEscape", "internal/bytealg.MakeNoZero"], unfollowed := true, recurses := true, named := ["loop.example/mailhost/impl.keyShapes", "loop.example/mailhost/impl.flagNames", "unicode/utf8.first", "unicode/utf8.acceptRanges", "unicode.CaseRanges"], apart := false, laid := [("unicode/utf8.acceptRanges", laid_unicode_utf8_acceptRanges), ("loop.example/mailhost/impl.keyShapes", laid_loop_example_mailhost_impl_keyShapes), ("loop.example/mailhost/impl.flagNames", laid_loop_example_mailhost_impl_flagNames), ("unicode.CaseRanges", laid_unicode_CaseRanges), ("unicode/utf8.first", laid_unicode_utf8_first)], narrowed := true }
def FnKeyPartsUptoSaid : Prop := fnKeyPartsUptoRow.holds Tryd.pinned (OpenSpec.upto fnKeyPartsSpec)

/-- 'laws.FnSearch', WHERE WHAT IT READS IS OF BULK AT MOST 1048576: true; the input reads as it did. -/
def fnSearchUptoRow : OpenClaim := { program := "ytpihibconbejlaadoor", sum := "d91ae24ff252e21f937bce78dccf6fbf0054e129be19b40783e9abf6e57e5c4c", func := "loop.example/mailhost/laws.FnSearch", spec := "fnSearch", inPlace := ["internal/abi.NoEscape", "internal/bytealg.MakeNoZero", "internal/bytealg.IndexByteString", "internal/bytealg.IndexString"], unfollowed := true, recurses := true, named := ["loop.example/mailhost/impl.keyShapes", "loop.example/mailhost/impl.flagNames", "unicode/utf8.first", "unicode/utf8.acceptRanges", "unicode.CaseRanges", "internal/bytealg.MaxLen"], apart := false, laid := [("unicode/utf8.acceptRanges", laid_unicode_utf8_acceptRanges), ("loop.example/mailhost/impl.keyShapes", laid_loop_example_mailhost_impl_keyShapes), ("loop.example/mailhost/impl.flagNames", laid_loop_example_mailhost_impl_flagNames), ("unicode.CaseRanges", laid_unicode_CaseRanges), ("unicode/utf8.first", laid_unicode_utf8_first)], narrowed := true }
def FnSearchUptoSaid : Prop := fnSearchUptoRow.holds Tryd.pinned (OpenSpec.upto fnSearchSpec)

/-- 'laws.FnSearchNot', WHERE WHAT IT READS IS OF BULK AT MOST 1048576: true; the input reads as it did. -/
def fnSearchNotUptoRow : OpenClaim := { program := "ytpihibconbejlaadoor", sum := "d91ae24ff252e21f937bce78dccf6fbf0054e129be19b40783e9abf6e57e5c4c", func := "loop.example/mailhost/laws.FnSearchNot", spec := "fnSearchNot", inPlace := ["internal/abi.NoEscape", "internal/bytealg.MakeNoZero", "internal/bytealg.IndexByteString", "internal/bytealg.IndexString"], unfollowed := true, recurses := true, named := ["loop.example/mailhost/impl.keyShapes", "loop.example/mailhost/impl.flagNames", "unicode/utf8.first", "unicode/utf8.acceptRanges", "unicode.CaseRanges", "internal/bytealg.MaxLen"], apart := false, laid := [("unicode/utf8.acceptRanges", laid_unicode_utf8_acceptRanges), ("loop.example/mailhost/impl.keyShapes", laid_loop_example_mailhost_impl_keyShapes), ("loop.example/mailhost/impl.flagNames", laid_loop_example_mailhost_impl_flagNames), ("unicode.CaseRanges", laid_unicode_CaseRanges), ("unicode/utf8.first", laid_unicode_utf8_first)], narrowed := true }
def FnSearchNotUptoSaid : Prop := fnSearchNotUptoRow.holds Tryd.pinned (OpenSpec.upto fnSearchNotSpec)

/-- 'laws.FnSearchAnd', WHERE WHAT IT READS IS OF BULK AT MOST 1048576: true; the input reads as it did. -/
def fnSearchAndUptoRow : OpenClaim := { program := "ytpihibconbejlaadoor", sum := "d91ae24ff252e21f937bce78dccf6fbf0054e129be19b40783e9abf6e57e5c4c", func := "loop.example/mailhost/laws.FnSearchAnd", spec := "fnSearchAnd", inPlace := ["internal/abi.NoEscape", "internal/bytealg.MakeNoZero", "internal/bytealg.IndexByteString", "internal/bytealg.IndexString"], unfollowed := true, recurses := true, named := ["loop.example/mailhost/impl.keyShapes", "loop.example/mailhost/impl.flagNames", "unicode/utf8.first", "unicode/utf8.acceptRanges", "unicode.CaseRanges", "internal/bytealg.MaxLen"], apart := false, laid := [("unicode/utf8.acceptRanges", laid_unicode_utf8_acceptRanges), ("loop.example/mailhost/impl.keyShapes", laid_loop_example_mailhost_impl_keyShapes), ("loop.example/mailhost/impl.flagNames", laid_loop_example_mailhost_impl_flagNames), ("unicode.CaseRanges", laid_unicode_CaseRanges), ("unicode/utf8.first", laid_unicode_utf8_first)], narrowed := true }
def FnSearchAndUptoSaid : Prop := fnSearchAndUptoRow.holds Tryd.pinned (OpenSpec.upto fnSearchAndSpec)

/-- 'laws.FnSearchOr', WHERE WHAT IT READS IS OF BULK AT MOST 1048576: true; the input reads as it did. -/
def fnSearchOrUptoRow : OpenClaim := { program := "ytpihibconbejlaadoor", sum := "d91ae24ff252e21f937bce78dccf6fbf0054e129be19b40783e9abf6e57e5c4c", func := "loop.example/mailhost/laws.FnSearchOr", spec := "fnSearchOr", inPlace := ["internal/abi.NoEscape", "internal/bytealg.MakeNoZero", "internal/bytealg.IndexByteString", "internal/bytealg.IndexString"], unfollowed := true, recurses := true, named := ["loop.example/mailhost/impl.keyShapes", "loop.example/mailhost/impl.flagNames", "unicode/utf8.first", "unicode/utf8.acceptRanges", "unicode.CaseRanges", "internal/bytealg.MaxLen"], apart := false, laid := [("unicode/utf8.acceptRanges", laid_unicode_utf8_acceptRanges), ("loop.example/mailhost/impl.keyShapes", laid_loop_example_mailhost_impl_keyShapes), ("loop.example/mailhost/impl.flagNames", laid_loop_example_mailhost_impl_flagNames), ("unicode.CaseRanges", laid_unicode_CaseRanges), ("unicode/utf8.first", laid_unicode_utf8_first)], narrowed := true }
def FnSearchOrUptoSaid : Prop := fnSearchOrUptoRow.holds Tryd.pinned (OpenSpec.upto fnSearchOrSpec)

/-- 'laws.FnSearchOrder', WHERE WHAT IT READS IS OF BULK AT MOST 1048576: true; the input reads as it did. -/
def fnSearchOrderUptoRow : OpenClaim := { program := "ytpihibconbejlaadoor", sum := "d91ae24ff252e21f937bce78dccf6fbf0054e129be19b40783e9abf6e57e5c4c", func := "loop.example/mailhost/laws.FnSearchOrder", spec := "fnSearchOrder", inPlace := ["internal/abi.NoEscape", "internal/bytealg.MakeNoZero", "internal/bytealg.IndexByteString", "internal/bytealg.IndexString"], unfollowed := true, recurses := true, named := ["loop.example/mailhost/impl.keyShapes", "loop.example/mailhost/impl.flagNames", "unicode/utf8.first", "unicode/utf8.acceptRanges", "unicode.CaseRanges", "internal/bytealg.MaxLen"], apart := false, laid := [("unicode/utf8.acceptRanges", laid_unicode_utf8_acceptRanges), ("loop.example/mailhost/impl.keyShapes", laid_loop_example_mailhost_impl_keyShapes), ("loop.example/mailhost/impl.flagNames", laid_loop_example_mailhost_impl_flagNames), ("unicode.CaseRanges", laid_unicode_CaseRanges), ("unicode/utf8.first", laid_unicode_utf8_first)], narrowed := true }
def FnSearchOrderUptoSaid : Prop := fnSearchOrderUptoRow.holds Tryd.pinned (OpenSpec.upto fnSearchOrderSpec)

/-- 'laws.FnSearchMorgan', WHERE WHAT IT READS IS OF BULK AT MOST 1048576: true; the input reads as it did. -/
def fnSearchMorganUptoRow : OpenClaim := { program := "ytpihibconbejlaadoor", sum := "d91ae24ff252e21f937bce78dccf6fbf0054e129be19b40783e9abf6e57e5c4c", func := "loop.example/mailhost/laws.FnSearchMorgan", spec := "fnSearchMorgan", inPlace := ["internal/abi.NoEscape", "internal/bytealg.MakeNoZero", "internal/bytealg.IndexByteString", "internal/bytealg.IndexString"], unfollowed := true, recurses := true, named := ["loop.example/mailhost/impl.keyShapes", "loop.example/mailhost/impl.flagNames", "unicode/utf8.first", "unicode/utf8.acceptRanges", "unicode.CaseRanges", "internal/bytealg.MaxLen"], apart := false, laid := [("unicode/utf8.acceptRanges", laid_unicode_utf8_acceptRanges), ("loop.example/mailhost/impl.keyShapes", laid_loop_example_mailhost_impl_keyShapes), ("loop.example/mailhost/impl.flagNames", laid_loop_example_mailhost_impl_flagNames), ("unicode.CaseRanges", laid_unicode_CaseRanges), ("unicode/utf8.first", laid_unicode_utf8_first)], narrowed := true }
def FnSearchMorganUptoSaid : Prop := fnSearchMorganUptoRow.holds Tryd.pinned (OpenSpec.upto fnSearchMorganSpec)

/-- 'laws.FnSearchFlag', WHERE WHAT IT READS IS OF BULK AT MOST 1048576: true; the input reads as it did. -/
def fnSearchFlagUptoRow : OpenClaim := { program := "ytpihibconbejlaadoor", sum := "d91ae24ff252e21f937bce78dccf6fbf0054e129be19b40783e9abf6e57e5c4c", func := "loop.example/mailhost/laws.FnSearchFlag", spec := "fnSearchFlag", inPlace := ["internal/abi.NoEscape", "internal/bytealg.MakeNoZero", "internal/bytealg.IndexByteString", "internal/bytealg.IndexString"], unfollowed := true, recurses := true, named := ["loop.example/mailhost/impl.keyShapes", "loop.example/mailhost/impl.flagNames", "unicode/utf8.first", "unicode/utf8.acceptRanges", "unicode.CaseRanges", "internal/bytealg.MaxLen"], apart := false, laid := [("unicode/utf8.acceptRanges", laid_unicode_utf8_acceptRanges), ("loop.example/mailhost/impl.keyShapes", laid_loop_example_mailhost_impl_keyShapes), ("loop.example/mailhost/impl.flagNames", laid_loop_example_mailhost_impl_flagNames), ("unicode.CaseRanges", laid_unicode_CaseRanges), ("unicode/utf8.first", laid_unicode_utf8_first)], narrowed := true }
def FnSearchFlagUptoSaid : Prop := fnSearchFlagUptoRow.holds Tryd.pinned (OpenSpec.upto fnSearchFlagSpec)

/-- 'laws.FnSearchPlace', WHERE WHAT IT READS IS OF BULK AT MOST 1048576: true; the input reads as it did. -/
def fnSearchPlaceUptoRow : OpenClaim := { program := "ytpihibconbejlaadoor", sum := "d91ae24ff252e21f937bce78dccf6fbf0054e129be19b40783e9abf6e57e5c4c", func := "loop.example/mailhost/laws.FnSearchPlace", spec := "fnSearchPlace", inPlace := ["internal/abi.NoEscape", "internal/bytealg.MakeNoZero", "internal/bytealg.IndexByteString", "internal/bytealg.IndexString"], unfollowed := true, recurses := true, named := ["loop.example/mailhost/impl.keyShapes", "loop.example/mailhost/impl.flagNames", "unicode/utf8.first", "unicode/utf8.acceptRanges", "unicode.CaseRanges", "internal/bytealg.MaxLen"], apart := false, laid := [("unicode/utf8.acceptRanges", laid_unicode_utf8_acceptRanges), ("loop.example/mailhost/impl.keyShapes", laid_loop_example_mailhost_impl_keyShapes), ("loop.example/mailhost/impl.flagNames", laid_loop_example_mailhost_impl_flagNames), ("unicode.CaseRanges", laid_unicode_CaseRanges), ("unicode/utf8.first", laid_unicode_utf8_first)], narrowed := true }
def FnSearchPlaceUptoSaid : Prop := fnSearchPlaceUptoRow.holds Tryd.pinned (OpenSpec.upto fnSearchPlaceSpec)

/-- 'laws.FnSearchUid', WHERE WHAT IT READS IS OF BULK AT MOST 1048576: true; the input reads as it did. -/
def fnSearchUidUptoRow : OpenClaim := { program := "ytpihibconbejlaadoor", sum := "d91ae24ff252e21f937bce78dccf6fbf0054e129be19b40783e9abf6e57e5c4c", func := "loop.example/mailhost/laws.FnSearchUid", spec := "fnSearchUid", inPlace := ["internal/abi.NoEscape", "internal/bytealg.MakeNoZero", "internal/bytealg.IndexByteString", "internal/bytealg.IndexString"], unfollowed := true, recurses := true, named := ["loop.example/mailhost/impl.keyShapes", "loop.example/mailhost/impl.flagNames", "unicode/utf8.first", "unicode/utf8.acceptRanges", "unicode.CaseRanges", "internal/bytealg.MaxLen"], apart := false, laid := [("unicode/utf8.acceptRanges", laid_unicode_utf8_acceptRanges), ("loop.example/mailhost/impl.keyShapes", laid_loop_example_mailhost_impl_keyShapes), ("loop.example/mailhost/impl.flagNames", laid_loop_example_mailhost_impl_flagNames), ("unicode.CaseRanges", laid_unicode_CaseRanges), ("unicode/utf8.first", laid_unicode_utf8_first)], narrowed := true }
def FnSearchUidUptoSaid : Prop := fnSearchUidUptoRow.holds Tryd.pinned (OpenSpec.upto fnSearchUidSpec)

/-- 'laws.FnSearchText', WHERE WHAT IT READS IS OF BULK AT MOST 1048576: true; the input reads as it did. -/
def fnSearchTextUptoRow : OpenClaim := { program := "ytpihibconbejlaadoor", sum := "d91ae24ff252e21f937bce78dccf6fbf0054e129be19b40783e9abf6e57e5c4c", func := "loop.example/mailhost/laws.FnSearchText", spec := "fnSearchText", inPlace := ["internal/abi.NoEscape", "internal/bytealg.MakeNoZero", "internal/bytealg.IndexByteString", "internal/bytealg.IndexString"], unfollowed := true, recurses := true, named := ["loop.example/mailhost/impl.keyShapes", "loop.example/mailhost/impl.flagNames", "unicode/utf8.first", "unicode/utf8.acceptRanges", "unicode.CaseRanges", "internal/bytealg.MaxLen"], apart := false, laid := [("unicode/utf8.acceptRanges", laid_unicode_utf8_acceptRanges), ("loop.example/mailhost/impl.keyShapes", laid_loop_example_mailhost_impl_keyShapes), ("loop.example/mailhost/impl.flagNames", laid_loop_example_mailhost_impl_flagNames), ("unicode.CaseRanges", laid_unicode_CaseRanges), ("unicode/utf8.first", laid_unicode_utf8_first)], narrowed := true }
def FnSearchTextUptoSaid : Prop := fnSearchTextUptoRow.holds Tryd.pinned (OpenSpec.upto fnSearchTextSpec)

/-- 'laws.FnExactKeyValid', WHERE WHAT IT READS IS OF BULK AT MOST 1048576: true; the input reads as it did. -/
def fnExactKeyValidUptoRow : OpenClaim := { program := "ytpihibconbejlaadoor", sum := "d91ae24ff252e21f937bce78dccf6fbf0054e129be19b40783e9abf6e57e5c4c", func := "loop.example/mailhost/laws.FnExactKeyValid", spec := "fnExactKeyValid", inPlace := ["internal/abi.NoEscape", "internal/bytealg.MakeNoZero"], unfollowed := true, recurses := true, named := ["loop.example/mailhost/impl.keyShapes", "loop.example/mailhost/impl.flagNames", "unicode/utf8.first", "unicode/utf8.acceptRanges", "unicode.CaseRanges"], loops := true, apart := false, laid := [("unicode/utf8.acceptRanges", laid_unicode_utf8_acceptRanges), ("loop.example/mailhost/impl.keyShapes", laid_loop_example_mailhost_impl_keyShapes), ("loop.example/mailhost/impl.flagNames", laid_loop_example_mailhost_impl_flagNames), ("unicode.CaseRanges", laid_unicode_CaseRanges), ("unicode/utf8.first", laid_unicode_utf8_first)], narrowed := true }
def FnExactKeyValidUptoSaid : Prop := fnExactKeyValidUptoRow.holds Tryd.pinned (OpenSpec.upto fnExactKeyValidSpec)

/-- 'laws.FnExactKeyFormat', WHERE WHAT IT READS IS OF BULK AT MOST 1048576: true; the input reads as it did. -/
def fnExactKeyFormatUptoRow : OpenClaim := { program := "ytpihibconbejlaadoor", sum := "d91ae24ff252e21f937bce78dccf6fbf0054e129be19b40783e9abf6e57e5c4c", func := "loop.example/mailhost/laws.FnExactKeyFormat", spec := "fnExactKeyFormat", inPlace := ["internal/abi.NoEscape", "internal/bytealg.MakeNoZero"], unfollowed := true, recurses := true, named := ["loop.example/mailhost/impl.keyShapes", "loop.example/mailhost/impl.flagNames", "unicode/utf8.first", "unicode/utf8.acceptRanges", "unicode.CaseRanges"], loops := true, apart := false, laid := [("unicode/utf8.acceptRanges", laid_unicode_utf8_acceptRanges), ("loop.example/mailhost/impl.keyShapes", laid_loop_example_mailhost_impl_keyShapes), ("loop.example/mailhost/impl.flagNames", laid_loop_example_mailhost_impl_flagNames), ("unicode.CaseRanges", laid_unicode_CaseRanges), ("unicode/utf8.first", laid_unicode_utf8_first)], narrowed := true }
def FnExactKeyFormatUptoSaid : Prop := fnExactKeyFormatUptoRow.holds Tryd.pinned (OpenSpec.upto fnExactKeyFormatSpec)

end Rows
end Go.Proofs.YtpihibconbejlaaDoor
