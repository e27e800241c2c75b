/-
  No cell of these rows narrows 'for every input' (looked for: loops, veiled, ifaces, maps, wideKeys, modest, calm, conditions, laid).
  DERIVED. THE GIVEN ROWS OF THIS SEAT. 18 by the template 'for every input the law returns true; each argument reads behind the call as it read before'; 0 by the template 'total and deterministic' (their statements: YtnnmnphmbjfopaaTotals.lean).
  GIVEN WITH THE SEED: the statements are not yours to turn. If you find one false, say at which input.
  Laid BY PROGRAM, IN A SANDBOX (cutbox-rows.mjs): the forced cells as the released guide's own fill.sh prints them over the translation 2c4796f205104734… (all of the seat's roots in one cut). By AI agents, Wed Nov 11 2026. No macro, syntax, notation, axiom, sorry.
-/
import Derived.Test.YtnnmnphmbjfopaaChecked
import GoSem.Claim
import GoSem.ClaimJoined
import GoSem.ClaimMapViews
import Derived.JoinedTies
import Derived.KernelRfl
namespace Go.Proofs.Ytnnmnphmbjfopaa
/- THE CELL 'sum', in the pinned program and in every row, IS THE sha256 OF THE DUMP (.gsa) THAT YtnnmnphmbjfopaaProg.lean LOADS. Nothing in Lean hashes anything: it is a label: what it is worth is what the hold of that sum in a sandbox is worth. -/
noncomputable def Try.pinned : Pinned := { name := "ytnnmnphmbjfopaa", sum := "2c4796f20510473413560ab3f39f82356d94dc5ef6c4cf629aee8b4aab745879", checked := Try.checked }
namespace Rows
def none {H : Type} : Left H := { results := [], args := [] }

/-- 'laws.FnRights': WHATEVER THE INPUT: true; the input reads as it did. -/
def fnRightsSpec : ChangeSpec := { name := "fnRights", fn := fun _ => fun
  | [d] => { results := [.lit (.bool true)], args := [d] }
  | _ => none }
def fnRightsRow : OpenClaim := { program := "ytnnmnphmbjfopaa", sum := "2c4796f20510473413560ab3f39f82356d94dc5ef6c4cf629aee8b4aab745879", func := "loop.example/mailhost/laws.FnRights", spec := "fnRights", inPlace := ["internal/bytealg.IndexByteString"], apart := false }
def FnRightsSaid : Prop := fnRightsRow.holds Try.pinned (OpenSpec.ofChange fnRightsSpec)

/-- ITS FALSE NEIGHBOUR: 'it returns false'. Refute it at one input. -/
def fnRightsWrong : ChangeSpec := { name := "fnRights", fn := fun _ => fun
  | [d] => { results := [.lit (.bool false)], args := [d] }
  | _ => none }
def FnRightsWrongFalsely : Prop := fnRightsRow.holds Try.pinned (OpenSpec.ofChange fnRightsWrong)

/-- 'laws.FnRightsText': WHATEVER THE INPUT: true; the input reads as it did. -/
def fnRightsTextSpec : ChangeSpec := { name := "fnRightsText", fn := fun _ => fun
  | [d] => { results := [.lit (.bool true)], args := [d] }
  | _ => none }
def fnRightsTextRow : OpenClaim := { program := "ytnnmnphmbjfopaa", sum := "2c4796f20510473413560ab3f39f82356d94dc5ef6c4cf629aee8b4aab745879", func := "loop.example/mailhost/laws.FnRightsText", spec := "fnRightsText", apart := false }
def FnRightsTextSaid : Prop := fnRightsTextRow.holds Try.pinned (OpenSpec.ofChange fnRightsTextSpec)

/-- ITS FALSE NEIGHBOUR: 'it returns false'. Refute it at one input. -/
def fnRightsTextWrong : ChangeSpec := { name := "fnRightsText", fn := fun _ => fun
  | [d] => { results := [.lit (.bool false)], args := [d] }
  | _ => none }
def FnRightsTextWrongFalsely : Prop := fnRightsTextRow.holds Try.pinned (OpenSpec.ofChange fnRightsTextWrong)

/-- 'laws.FnRightsParse': WHATEVER THE INPUT: true; the input reads as it did. -/
def fnRightsParseSpec : ChangeSpec := { name := "fnRightsParse", fn := fun _ => fun
  | [d] => { results := [.lit (.bool true)], args := [d] }
  | _ => none }
def fnRightsParseRow : OpenClaim := { program := "ytnnmnphmbjfopaa", sum := "2c4796f20510473413560ab3f39f82356d94dc5ef6c4cf629aee8b4aab745879", func := "loop.example/mailhost/laws.FnRightsParse", spec := "fnRightsParse", inPlace := ["internal/bytealg.IndexByteString"], apart := false }
def FnRightsParseSaid : Prop := fnRightsParseRow.holds Try.pinned (OpenSpec.ofChange fnRightsParseSpec)

/-- ITS FALSE NEIGHBOUR: 'it returns false'. Refute it at one input. -/
def fnRightsParseWrong : ChangeSpec := { name := "fnRightsParse", fn := fun _ => fun
  | [d] => { results := [.lit (.bool false)], args := [d] }
  | _ => none }
def FnRightsParseWrongFalsely : Prop := fnRightsParseRow.holds Try.pinned (OpenSpec.ofChange fnRightsParseWrong)

/-- 'laws.FnRightsTwice': WHATEVER THE INPUT: true; the input reads as it did. -/
def fnRightsTwiceSpec : ChangeSpec := { name := "fnRightsTwice", fn := fun _ => fun
  | [d] => { results := [.lit (.bool true)], args := [d] }
  | _ => none }
def fnRightsTwiceRow : OpenClaim := { program := "ytnnmnphmbjfopaa", sum := "2c4796f20510473413560ab3f39f82356d94dc5ef6c4cf629aee8b4aab745879", func := "loop.example/mailhost/laws.FnRightsTwice", spec := "fnRightsTwice", inPlace := ["internal/bytealg.IndexByteString"], apart := false }
def FnRightsTwiceSaid : Prop := fnRightsTwiceRow.holds Try.pinned (OpenSpec.ofChange fnRightsTwiceSpec)

/-- ITS FALSE NEIGHBOUR: 'it returns false'. Refute it at one input. -/
def fnRightsTwiceWrong : ChangeSpec := { name := "fnRightsTwice", fn := fun _ => fun
  | [d] => { results := [.lit (.bool false)], args := [d] }
  | _ => none }
def FnRightsTwiceWrongFalsely : Prop := fnRightsTwiceRow.holds Try.pinned (OpenSpec.ofChange fnRightsTwiceWrong)

/-- 'laws.FnAclPart': WHATEVER THE INPUT: true; the input reads as it did. -/
def fnAclPartSpec : ChangeSpec := { name := "fnAclPart", fn := fun _ => fun
  | [d1, d2] => { results := [.lit (.bool true)], args := [d1, d2] }
  | _ => none }
def fnAclPartRow : OpenClaim := { program := "ytnnmnphmbjfopaa", sum := "2c4796f20510473413560ab3f39f82356d94dc5ef6c4cf629aee8b4aab745879", func := "loop.example/mailhost/laws.FnAclPart", spec := "fnAclPart", apart := false }
def FnAclPartSaid : Prop := fnAclPartRow.holds Try.pinned (OpenSpec.ofChange fnAclPartSpec)

/-- ITS FALSE NEIGHBOUR: 'it returns false'. Refute it at one input. -/
def fnAclPartWrong : ChangeSpec := { name := "fnAclPart", fn := fun _ => fun
  | [d1, d2] => { results := [.lit (.bool false)], args := [d1, d2] }
  | _ => none }
def FnAclPartWrongFalsely : Prop := fnAclPartRow.holds Try.pinned (OpenSpec.ofChange fnAclPartWrong)

/-- 'laws.FnAclSet': WHATEVER THE INPUT: true; the input reads as it did. -/
def fnAclSetSpec : ChangeSpec := { name := "fnAclSet", fn := fun _ => fun
  | [d] => { results := [.lit (.bool true)], args := [d] }
  | _ => none }
def fnAclSetRow : OpenClaim := { program := "ytnnmnphmbjfopaa", sum := "2c4796f20510473413560ab3f39f82356d94dc5ef6c4cf629aee8b4aab745879", func := "loop.example/mailhost/laws.FnAclSet", spec := "fnAclSet", unfollowed := true, recurses := true, apart := false }
def FnAclSetSaid : Prop := fnAclSetRow.holds Try.pinned (OpenSpec.ofChange fnAclSetSpec)

/-- ITS FALSE NEIGHBOUR: 'it returns false'. Refute it at one input. -/
def fnAclSetWrong : ChangeSpec := { name := "fnAclSet", fn := fun _ => fun
  | [d] => { results := [.lit (.bool false)], args := [d] }
  | _ => none }
def FnAclSetWrongFalsely : Prop := fnAclSetRow.holds Try.pinned (OpenSpec.ofChange fnAclSetWrong)

/-- 'laws.FnAclSetOthers': WHATEVER THE INPUT: true; the input reads as it did. -/
def fnAclSetOthersSpec : ChangeSpec := { name := "fnAclSetOthers", fn := fun _ => fun
  | [d] => { results := [.lit (.bool true)], args := [d] }
  | _ => none }
def fnAclSetOthersRow : OpenClaim := { program := "ytnnmnphmbjfopaa", sum := "2c4796f20510473413560ab3f39f82356d94dc5ef6c4cf629aee8b4aab745879", func := "loop.example/mailhost/laws.FnAclSetOthers", spec := "fnAclSetOthers", unfollowed := true, recurses := true, apart := false }
def FnAclSetOthersSaid : Prop := fnAclSetOthersRow.holds Try.pinned (OpenSpec.ofChange fnAclSetOthersSpec)

/-- ITS FALSE NEIGHBOUR: 'it returns false'. Refute it at one input. -/
def fnAclSetOthersWrong : ChangeSpec := { name := "fnAclSetOthers", fn := fun _ => fun
  | [d] => { results := [.lit (.bool false)], args := [d] }
  | _ => none }
def FnAclSetOthersWrongFalsely : Prop := fnAclSetOthersRow.holds Try.pinned (OpenSpec.ofChange fnAclSetOthersWrong)

/-- 'laws.FnAclSetTwice': WHATEVER THE INPUT: true; the input reads as it did. -/
def fnAclSetTwiceSpec : ChangeSpec := { name := "fnAclSetTwice", fn := fun _ => fun
  | [d] => { results := [.lit (.bool true)], args := [d] }
  | _ => none }
def fnAclSetTwiceRow : OpenClaim := { program := "ytnnmnphmbjfopaa", sum := "2c4796f20510473413560ab3f39f82356d94dc5ef6c4cf629aee8b4aab745879", func := "loop.example/mailhost/laws.FnAclSetTwice", spec := "fnAclSetTwice", unfollowed := true, recurses := true, apart := false }
def FnAclSetTwiceSaid : Prop := fnAclSetTwiceRow.holds Try.pinned (OpenSpec.ofChange fnAclSetTwiceSpec)

/-- ITS FALSE NEIGHBOUR: 'it returns false'. Refute it at one input. -/
def fnAclSetTwiceWrong : ChangeSpec := { name := "fnAclSetTwice", fn := fun _ => fun
  | [d] => { results := [.lit (.bool false)], args := [d] }
  | _ => none }
def FnAclSetTwiceWrongFalsely : Prop := fnAclSetTwiceRow.holds Try.pinned (OpenSpec.ofChange fnAclSetTwiceWrong)

/-- 'laws.FnAclSetBack': WHATEVER THE INPUT: true; the input reads as it did. -/
def fnAclSetBackSpec : ChangeSpec := { name := "fnAclSetBack", fn := fun _ => fun
  | [d] => { results := [.lit (.bool true)], args := [d] }
  | _ => none }
def fnAclSetBackRow : OpenClaim := { program := "ytnnmnphmbjfopaa", sum := "2c4796f20510473413560ab3f39f82356d94dc5ef6c4cf629aee8b4aab745879", func := "loop.example/mailhost/laws.FnAclSetBack", spec := "fnAclSetBack", unfollowed := true, recurses := true, apart := false }
def FnAclSetBackSaid : Prop := fnAclSetBackRow.holds Try.pinned (OpenSpec.ofChange fnAclSetBackSpec)

/-- ITS FALSE NEIGHBOUR: 'it returns false'. Refute it at one input. -/
def fnAclSetBackWrong : ChangeSpec := { name := "fnAclSetBack", fn := fun _ => fun
  | [d] => { results := [.lit (.bool false)], args := [d] }
  | _ => none }
def FnAclSetBackWrongFalsely : Prop := fnAclSetBackRow.holds Try.pinned (OpenSpec.ofChange fnAclSetBackWrong)

/-- 'laws.FnAclFull': WHATEVER THE INPUT: true; the input reads as it did. -/
def fnAclFullSpec : ChangeSpec := { name := "fnAclFull", fn := fun _ => fun
  | [d] => { results := [.lit (.bool true)], args := [d] }
  | _ => none }
def fnAclFullRow : OpenClaim := { program := "ytnnmnphmbjfopaa", sum := "2c4796f20510473413560ab3f39f82356d94dc5ef6c4cf629aee8b4aab745879", func := "loop.example/mailhost/laws.FnAclFull", spec := "fnAclFull", unfollowed := true, recurses := true, apart := false }
def FnAclFullSaid : Prop := fnAclFullRow.holds Try.pinned (OpenSpec.ofChange fnAclFullSpec)

/-- ITS FALSE NEIGHBOUR: 'it returns false'. Refute it at one input. -/
def fnAclFullWrong : ChangeSpec := { name := "fnAclFull", fn := fun _ => fun
  | [d] => { results := [.lit (.bool false)], args := [d] }
  | _ => none }
def FnAclFullWrongFalsely : Prop := fnAclFullRow.holds Try.pinned (OpenSpec.ofChange fnAclFullWrong)

/-- 'laws.FnAclOwner': WHATEVER THE INPUT: true; the input reads as it did. -/
def fnAclOwnerSpec : ChangeSpec := { name := "fnAclOwner", fn := fun _ => fun
  | [d] => { results := [.lit (.bool true)], args := [d] }
  | _ => none }
def fnAclOwnerRow : OpenClaim := { program := "ytnnmnphmbjfopaa", sum := "2c4796f20510473413560ab3f39f82356d94dc5ef6c4cf629aee8b4aab745879", func := "loop.example/mailhost/laws.FnAclOwner", spec := "fnAclOwner", apart := false }
def FnAclOwnerSaid : Prop := fnAclOwnerRow.holds Try.pinned (OpenSpec.ofChange fnAclOwnerSpec)

/-- ITS FALSE NEIGHBOUR: 'it returns false'. Refute it at one input. -/
def fnAclOwnerWrong : ChangeSpec := { name := "fnAclOwner", fn := fun _ => fun
  | [d] => { results := [.lit (.bool false)], args := [d] }
  | _ => none }
def FnAclOwnerWrongFalsely : Prop := fnAclOwnerRow.holds Try.pinned (OpenSpec.ofChange fnAclOwnerWrong)

/-- 'laws.FnAclAnyone': WHATEVER THE INPUT: true; the input reads as it did. -/
def fnAclAnyoneSpec : ChangeSpec := { name := "fnAclAnyone", fn := fun _ => fun
  | [d] => { results := [.lit (.bool true)], args := [d] }
  | _ => none }
def fnAclAnyoneRow : OpenClaim := { program := "ytnnmnphmbjfopaa", sum := "2c4796f20510473413560ab3f39f82356d94dc5ef6c4cf629aee8b4aab745879", func := "loop.example/mailhost/laws.FnAclAnyone", spec := "fnAclAnyone", apart := false }
def FnAclAnyoneSaid : Prop := fnAclAnyoneRow.holds Try.pinned (OpenSpec.ofChange fnAclAnyoneSpec)

/-- ITS FALSE NEIGHBOUR: 'it returns false'. Refute it at one input. -/
def fnAclAnyoneWrong : ChangeSpec := { name := "fnAclAnyone", fn := fun _ => fun
  | [d] => { results := [.lit (.bool false)], args := [d] }
  | _ => none }
def FnAclAnyoneWrongFalsely : Prop := fnAclAnyoneRow.holds Try.pinned (OpenSpec.ofChange fnAclAnyoneWrong)

/-- 'laws.FnAclNone': WHATEVER THE INPUT: true; the input reads as it did. -/
def fnAclNoneSpec : ChangeSpec := { name := "fnAclNone", fn := fun _ => fun
  | [d] => { results := [.lit (.bool true)], args := [d] }
  | _ => none }
def fnAclNoneRow : OpenClaim := { program := "ytnnmnphmbjfopaa", sum := "2c4796f20510473413560ab3f39f82356d94dc5ef6c4cf629aee8b4aab745879", func := "loop.example/mailhost/laws.FnAclNone", spec := "fnAclNone", apart := false }
def FnAclNoneSaid : Prop := fnAclNoneRow.holds Try.pinned (OpenSpec.ofChange fnAclNoneSpec)

/-- ITS FALSE NEIGHBOUR: 'it returns false'. Refute it at one input. -/
def fnAclNoneWrong : ChangeSpec := { name := "fnAclNone", fn := fun _ => fun
  | [d] => { results := [.lit (.bool false)], args := [d] }
  | _ => none }
def FnAclNoneWrongFalsely : Prop := fnAclNoneRow.holds Try.pinned (OpenSpec.ofChange fnAclNoneWrong)

/-- 'laws.FnExactRightsText': WHATEVER THE INPUT: true; the input reads as it did. -/
def fnExactRightsTextSpec : ChangeSpec := { name := "fnExactRightsText", fn := fun _ => fun
  | [d] => { results := [.lit (.bool true)], args := [d] }
  | _ => none }
def fnExactRightsTextRow : OpenClaim := { program := "ytnnmnphmbjfopaa", sum := "2c4796f20510473413560ab3f39f82356d94dc5ef6c4cf629aee8b4aab745879", func := "loop.example/mailhost/laws.FnExactRightsText", spec := "fnExactRightsText", apart := false }
def FnExactRightsTextSaid : Prop := fnExactRightsTextRow.holds Try.pinned (OpenSpec.ofChange fnExactRightsTextSpec)

/-- ITS FALSE NEIGHBOUR: 'it returns false'. Refute it at one input. -/
def fnExactRightsTextWrong : ChangeSpec := { name := "fnExactRightsText", fn := fun _ => fun
  | [d] => { results := [.lit (.bool false)], args := [d] }
  | _ => none }
def FnExactRightsTextWrongFalsely : Prop := fnExactRightsTextRow.holds Try.pinned (OpenSpec.ofChange fnExactRightsTextWrong)

/-- 'laws.FnExactRightsParse': WHATEVER THE INPUT: true; the input reads as it did. -/
def fnExactRightsParseSpec : ChangeSpec := { name := "fnExactRightsParse", fn := fun _ => fun
  | [d] => { results := [.lit (.bool true)], args := [d] }
  | _ => none }
def fnExactRightsParseRow : OpenClaim := { program := "ytnnmnphmbjfopaa", sum := "2c4796f20510473413560ab3f39f82356d94dc5ef6c4cf629aee8b4aab745879", func := "loop.example/mailhost/laws.FnExactRightsParse", spec := "fnExactRightsParse", inPlace := ["internal/bytealg.IndexByteString"], apart := false }
def FnExactRightsParseSaid : Prop := fnExactRightsParseRow.holds Try.pinned (OpenSpec.ofChange fnExactRightsParseSpec)

/-- ITS FALSE NEIGHBOUR: 'it returns false'. Refute it at one input. -/
def fnExactRightsParseWrong : ChangeSpec := { name := "fnExactRightsParse", fn := fun _ => fun
  | [d] => { results := [.lit (.bool false)], args := [d] }
  | _ => none }
def FnExactRightsParseWrongFalsely : Prop := fnExactRightsParseRow.holds Try.pinned (OpenSpec.ofChange fnExactRightsParseWrong)

/-- 'laws.FnExactAclValid': WHATEVER THE INPUT: true; the input reads as it did. -/
def fnExactAclValidSpec : ChangeSpec := { name := "fnExactAclValid", fn := fun _ => fun
  | [d] => { results := [.lit (.bool true)], args := [d] }
  | _ => none }
def fnExactAclValidRow : OpenClaim := { program := "ytnnmnphmbjfopaa", sum := "2c4796f20510473413560ab3f39f82356d94dc5ef6c4cf629aee8b4aab745879", func := "loop.example/mailhost/laws.FnExactAclValid", spec := "fnExactAclValid", apart := false }
def FnExactAclValidSaid : Prop := fnExactAclValidRow.holds Try.pinned (OpenSpec.ofChange fnExactAclValidSpec)

/-- ITS FALSE NEIGHBOUR: 'it returns false'. Refute it at one input. -/
def fnExactAclValidWrong : ChangeSpec := { name := "fnExactAclValid", fn := fun _ => fun
  | [d] => { results := [.lit (.bool false)], args := [d] }
  | _ => none }
def FnExactAclValidWrongFalsely : Prop := fnExactAclValidRow.holds Try.pinned (OpenSpec.ofChange fnExactAclValidWrong)

/-- 'laws.FnExactAclSet': WHATEVER THE INPUT: true; the input reads as it did. -/
def fnExactAclSetSpec : ChangeSpec := { name := "fnExactAclSet", fn := fun _ => fun
  | [d1, d2, d3] => { results := [.lit (.bool true)], args := [d1, d2, d3] }
  | _ => none }
def fnExactAclSetRow : OpenClaim := { program := "ytnnmnphmbjfopaa", sum := "2c4796f20510473413560ab3f39f82356d94dc5ef6c4cf629aee8b4aab745879", func := "loop.example/mailhost/laws.FnExactAclSet", spec := "fnExactAclSet", unfollowed := true, recurses := true, apart := false }
def FnExactAclSetSaid : Prop := fnExactAclSetRow.holds Try.pinned (OpenSpec.ofChange fnExactAclSetSpec)

/-- ITS FALSE NEIGHBOUR: 'it returns false'. Refute it at one input. -/
def fnExactAclSetWrong : ChangeSpec := { name := "fnExactAclSet", fn := fun _ => fun
  | [d1, d2, d3] => { results := [.lit (.bool false)], args := [d1, d2, d3] }
  | _ => none }
def FnExactAclSetWrongFalsely : Prop := fnExactAclSetRow.holds Try.pinned (OpenSpec.ofChange fnExactAclSetWrong)

/-- 'laws.FnExactAclRights': WHATEVER THE INPUT: true; the input reads as it did. -/
def fnExactAclRightsSpec : ChangeSpec := { name := "fnExactAclRights", fn := fun _ => fun
  | [d1, d2, d3] => { results := [.lit (.bool true)], args := [d1, d2, d3] }
  | _ => none }
def fnExactAclRightsRow : OpenClaim := { program := "ytnnmnphmbjfopaa", sum := "2c4796f20510473413560ab3f39f82356d94dc5ef6c4cf629aee8b4aab745879", func := "loop.example/mailhost/laws.FnExactAclRights", spec := "fnExactAclRights", apart := false }
def FnExactAclRightsSaid : Prop := fnExactAclRightsRow.holds Try.pinned (OpenSpec.ofChange fnExactAclRightsSpec)

/-- ITS FALSE NEIGHBOUR: 'it returns false'. Refute it at one input. -/
def fnExactAclRightsWrong : ChangeSpec := { name := "fnExactAclRights", fn := fun _ => fun
  | [d1, d2, d3] => { results := [.lit (.bool false)], args := [d1, d2, d3] }
  | _ => none }
def FnExactAclRightsWrongFalsely : Prop := fnExactAclRightsRow.holds Try.pinned (OpenSpec.ofChange fnExactAclRightsWrong)

/- THE SECOND FORM. 'bulk': how many values and letters a reading holds, each counted each time it is reached (what is shared counts as often as it is met; a slice's spare places count too). A statement '..UptoSaid' is the law's where the arguments, and the package variables that the reading takes, are together of bulk at most 1048576: NARROWER than '..Said'. Prove '..Said' where nothing that the law and all that it calls make is longer than what came in: it says more and counts as full. Else prove '..UptoSaid'. A law counts once. -/
mutual
def uptoBulk {H : Type} : DataW H → Nat
  | .lit (.string bytes) => bytes.length + 1
  | .lit _ => 1
  | .nil => 1
  | .ptr d => uptoBulk d + 1
  | .slice elems spare => uptoBulkAll elems + uptoBulkAll spare + 1
  | .agg parts => uptoBulkAll parts + 1
  | .iface _ d => uptoBulk d + 1
  | .map entries => uptoBulkEntries entries + 1
  | .held _ => 1
def uptoBulkAll {H : Type} : List (DataW H) → Nat
  | [] => 0
  | d :: r => uptoBulk d + uptoBulkAll r
def uptoBulkEntries {H : Type} : List (Lit × DataW H) → Nat
  | [] => 0
  | x :: r => uptoBulkEntry x + uptoBulkEntries r
def uptoBulkEntry {H : Type} : Lit × DataW H → Nat
  | (.string bytes, d) => bytes.length + uptoBulk d + 1
  | (_, d) => uptoBulk d + 1
 end
def uptoSmall : (H : Type) → List (DataW H) → Bool := fun _ ds => decide (uptoBulkAll ds ≤ 1048576)
def OpenSpec.upto (s : _root_.Go.ChangeSpec) : _root_.Go.OpenSpec := { _root_.Go.OpenSpec.ofChange s with cond := some uptoSmall }

/-- 'laws.FnRights', WHERE WHAT IT READS IS OF BULK AT MOST 1048576: true; the input reads as it did. -/
def fnRightsUptoRow : OpenClaim := { program := "ytnnmnphmbjfopaa", sum := "2c4796f20510473413560ab3f39f82356d94dc5ef6c4cf629aee8b4aab745879", func := "loop.example/mailhost/laws.FnRights", spec := "fnRights", inPlace := ["internal/bytealg.IndexByteString"], apart := false, narrowed := true }
def FnRightsUptoSaid : Prop := fnRightsUptoRow.holds Try.pinned (OpenSpec.upto fnRightsSpec)

/-- 'laws.FnRightsText', WHERE WHAT IT READS IS OF BULK AT MOST 1048576: true; the input reads as it did. -/
def fnRightsTextUptoRow : OpenClaim := { program := "ytnnmnphmbjfopaa", sum := "2c4796f20510473413560ab3f39f82356d94dc5ef6c4cf629aee8b4aab745879", func := "loop.example/mailhost/laws.FnRightsText", spec := "fnRightsText", apart := false, narrowed := true }
def FnRightsTextUptoSaid : Prop := fnRightsTextUptoRow.holds Try.pinned (OpenSpec.upto fnRightsTextSpec)

/-- 'laws.FnRightsParse', WHERE WHAT IT READS IS OF BULK AT MOST 1048576: true; the input reads as it did. -/
def fnRightsParseUptoRow : OpenClaim := { program := "ytnnmnphmbjfopaa", sum := "2c4796f20510473413560ab3f39f82356d94dc5ef6c4cf629aee8b4aab745879", func := "loop.example/mailhost/laws.FnRightsParse", spec := "fnRightsParse", inPlace := ["internal/bytealg.IndexByteString"], apart := false, narrowed := true }
def FnRightsParseUptoSaid : Prop := fnRightsParseUptoRow.holds Try.pinned (OpenSpec.upto fnRightsParseSpec)

/-- 'laws.FnRightsTwice', WHERE WHAT IT READS IS OF BULK AT MOST 1048576: true; the input reads as it did. -/
def fnRightsTwiceUptoRow : OpenClaim := { program := "ytnnmnphmbjfopaa", sum := "2c4796f20510473413560ab3f39f82356d94dc5ef6c4cf629aee8b4aab745879", func := "loop.example/mailhost/laws.FnRightsTwice", spec := "fnRightsTwice", inPlace := ["internal/bytealg.IndexByteString"], apart := false, narrowed := true }
def FnRightsTwiceUptoSaid : Prop := fnRightsTwiceUptoRow.holds Try.pinned (OpenSpec.upto fnRightsTwiceSpec)

/-- 'laws.FnAclPart', WHERE WHAT IT READS IS OF BULK AT MOST 1048576: true; the input reads as it did. -/
def fnAclPartUptoRow : OpenClaim := { program := "ytnnmnphmbjfopaa", sum := "2c4796f20510473413560ab3f39f82356d94dc5ef6c4cf629aee8b4aab745879", func := "loop.example/mailhost/laws.FnAclPart", spec := "fnAclPart", apart := false, narrowed := true }
def FnAclPartUptoSaid : Prop := fnAclPartUptoRow.holds Try.pinned (OpenSpec.upto fnAclPartSpec)

/-- 'laws.FnAclSet', WHERE WHAT IT READS IS OF BULK AT MOST 1048576: true; the input reads as it did. -/
def fnAclSetUptoRow : OpenClaim := { program := "ytnnmnphmbjfopaa", sum := "2c4796f20510473413560ab3f39f82356d94dc5ef6c4cf629aee8b4aab745879", func := "loop.example/mailhost/laws.FnAclSet", spec := "fnAclSet", unfollowed := true, recurses := true, apart := false, narrowed := true }
def FnAclSetUptoSaid : Prop := fnAclSetUptoRow.holds Try.pinned (OpenSpec.upto fnAclSetSpec)

/-- 'laws.FnAclSetOthers', WHERE WHAT IT READS IS OF BULK AT MOST 1048576: true; the input reads as it did. -/
def fnAclSetOthersUptoRow : OpenClaim := { program := "ytnnmnphmbjfopaa", sum := "2c4796f20510473413560ab3f39f82356d94dc5ef6c4cf629aee8b4aab745879", func := "loop.example/mailhost/laws.FnAclSetOthers", spec := "fnAclSetOthers", unfollowed := true, recurses := true, apart := false, narrowed := true }
def FnAclSetOthersUptoSaid : Prop := fnAclSetOthersUptoRow.holds Try.pinned (OpenSpec.upto fnAclSetOthersSpec)

/-- 'laws.FnAclSetTwice', WHERE WHAT IT READS IS OF BULK AT MOST 1048576: true; the input reads as it did. -/
def fnAclSetTwiceUptoRow : OpenClaim := { program := "ytnnmnphmbjfopaa", sum := "2c4796f20510473413560ab3f39f82356d94dc5ef6c4cf629aee8b4aab745879", func := "loop.example/mailhost/laws.FnAclSetTwice", spec := "fnAclSetTwice", unfollowed := true, recurses := true, apart := false, narrowed := true }
def FnAclSetTwiceUptoSaid : Prop := fnAclSetTwiceUptoRow.holds Try.pinned (OpenSpec.upto fnAclSetTwiceSpec)

/-- 'laws.FnAclSetBack', WHERE WHAT IT READS IS OF BULK AT MOST 1048576: true; the input reads as it did. -/
def fnAclSetBackUptoRow : OpenClaim := { program := "ytnnmnphmbjfopaa", sum := "2c4796f20510473413560ab3f39f82356d94dc5ef6c4cf629aee8b4aab745879", func := "loop.example/mailhost/laws.FnAclSetBack", spec := "fnAclSetBack", unfollowed := true, recurses := true, apart := false, narrowed := true }
def FnAclSetBackUptoSaid : Prop := fnAclSetBackUptoRow.holds Try.pinned (OpenSpec.upto fnAclSetBackSpec)

/-- 'laws.FnAclFull', WHERE WHAT IT READS IS OF BULK AT MOST 1048576: true; the input reads as it did. -/
def fnAclFullUptoRow : OpenClaim := { program := "ytnnmnphmbjfopaa", sum := "2c4796f20510473413560ab3f39f82356d94dc5ef6c4cf629aee8b4aab745879", func := "loop.example/mailhost/laws.FnAclFull", spec := "fnAclFull", unfollowed := true, recurses := true, apart := false, narrowed := true }
def FnAclFullUptoSaid : Prop := fnAclFullUptoRow.holds Try.pinned (OpenSpec.upto fnAclFullSpec)

/-- 'laws.FnAclOwner', WHERE WHAT IT READS IS OF BULK AT MOST 1048576: true; the input reads as it did. -/
def fnAclOwnerUptoRow : OpenClaim := { program := "ytnnmnphmbjfopaa", sum := "2c4796f20510473413560ab3f39f82356d94dc5ef6c4cf629aee8b4aab745879", func := "loop.example/mailhost/laws.FnAclOwner", spec := "fnAclOwner", apart := false, narrowed := true }
def FnAclOwnerUptoSaid : Prop := fnAclOwnerUptoRow.holds Try.pinned (OpenSpec.upto fnAclOwnerSpec)

/-- 'laws.FnAclAnyone', WHERE WHAT IT READS IS OF BULK AT MOST 1048576: true; the input reads as it did. -/
def fnAclAnyoneUptoRow : OpenClaim := { program := "ytnnmnphmbjfopaa", sum := "2c4796f20510473413560ab3f39f82356d94dc5ef6c4cf629aee8b4aab745879", func := "loop.example/mailhost/laws.FnAclAnyone", spec := "fnAclAnyone", apart := false, narrowed := true }
def FnAclAnyoneUptoSaid : Prop := fnAclAnyoneUptoRow.holds Try.pinned (OpenSpec.upto fnAclAnyoneSpec)

/-- 'laws.FnAclNone', WHERE WHAT IT READS IS OF BULK AT MOST 1048576: true; the input reads as it did. -/
def fnAclNoneUptoRow : OpenClaim := { program := "ytnnmnphmbjfopaa", sum := "2c4796f20510473413560ab3f39f82356d94dc5ef6c4cf629aee8b4aab745879", func := "loop.example/mailhost/laws.FnAclNone", spec := "fnAclNone", apart := false, narrowed := true }
def FnAclNoneUptoSaid : Prop := fnAclNoneUptoRow.holds Try.pinned (OpenSpec.upto fnAclNoneSpec)

/-- 'laws.FnExactRightsText', WHERE WHAT IT READS IS OF BULK AT MOST 1048576: true; the input reads as it did. -/
def fnExactRightsTextUptoRow : OpenClaim := { program := "ytnnmnphmbjfopaa", sum := "2c4796f20510473413560ab3f39f82356d94dc5ef6c4cf629aee8b4aab745879", func := "loop.example/mailhost/laws.FnExactRightsText", spec := "fnExactRightsText", apart := false, narrowed := true }
def FnExactRightsTextUptoSaid : Prop := fnExactRightsTextUptoRow.holds Try.pinned (OpenSpec.upto fnExactRightsTextSpec)

/-- 'laws.FnExactRightsParse', WHERE WHAT IT READS IS OF BULK AT MOST 1048576: true; the input reads as it did. -/
def fnExactRightsParseUptoRow : OpenClaim := { program := "ytnnmnphmbjfopaa", sum := "2c4796f20510473413560ab3f39f82356d94dc5ef6c4cf629aee8b4aab745879", func := "loop.example/mailhost/laws.FnExactRightsParse", spec := "fnExactRightsParse", inPlace := ["internal/bytealg.IndexByteString"], apart := false, narrowed := true }
def FnExactRightsParseUptoSaid : Prop := fnExactRightsParseUptoRow.holds Try.pinned (OpenSpec.upto fnExactRightsParseSpec)

/-- 'laws.FnExactAclValid', WHERE WHAT IT READS IS OF BULK AT MOST 1048576: true; the input reads as it did. -/
def fnExactAclValidUptoRow : OpenClaim := { program := "ytnnmnphmbjfopaa", sum := "2c4796f20510473413560ab3f39f82356d94dc5ef6c4cf629aee8b4aab745879", func := "loop.example/mailhost/laws.FnExactAclValid", spec := "fnExactAclValid", apart := false, narrowed := true }
def FnExactAclValidUptoSaid : Prop := fnExactAclValidUptoRow.holds Try.pinned (OpenSpec.upto fnExactAclValidSpec)

/-- 'laws.FnExactAclSet', WHERE WHAT IT READS IS OF BULK AT MOST 1048576: true; the input reads as it did. -/
def fnExactAclSetUptoRow : OpenClaim := { program := "ytnnmnphmbjfopaa", sum := "2c4796f20510473413560ab3f39f82356d94dc5ef6c4cf629aee8b4aab745879", func := "loop.example/mailhost/laws.FnExactAclSet", spec := "fnExactAclSet", unfollowed := true, recurses := true, apart := false, narrowed := true }
def FnExactAclSetUptoSaid : Prop := fnExactAclSetUptoRow.holds Try.pinned (OpenSpec.upto fnExactAclSetSpec)

/-- 'laws.FnExactAclRights', WHERE WHAT IT READS IS OF BULK AT MOST 1048576: true; the input reads as it did. -/
def fnExactAclRightsUptoRow : OpenClaim := { program := "ytnnmnphmbjfopaa", sum := "2c4796f20510473413560ab3f39f82356d94dc5ef6c4cf629aee8b4aab745879", func := "loop.example/mailhost/laws.FnExactAclRights", spec := "fnExactAclRights", apart := false, narrowed := true }
def FnExactAclRightsUptoSaid : Prop := fnExactAclRightsUptoRow.holds Try.pinned (OpenSpec.upto fnExactAclRightsSpec)

end Rows
end Go.Proofs.Ytnnmnphmbjfopaa
