/-
  No cell of these rows narrows 'for every input' (looked for: loops, veiled, ifaces, maps, wideKeys, modest, calm, conditions, laid).
  DERIVED. THE GIVEN ROWS OF THIS SEAT. 8 by the template 'for every input the law returns true; each argument reads behind the call as it read before'; 0 by the template 'total and deterministic' (their statements: YtbcooiifpfdiaaaTotals.lean).
  GIVEN WITH THE SEED: the statements are not yours to turn. If you find one false, say at which input.
  Laid BY PROGRAM, IN A SANDBOX (cutbox-rows.mjs): the forced cells as the released guide's own fill.sh prints them over the translation a2e245b95fd432e1… (all of the seat's roots in one cut). By AI agents, Wed Nov 11 2026. No macro, syntax, notation, axiom, sorry.
-/
import Derived.Test.YtbcooiifpfdiaaaChecked
import GoSem.Claim
import GoSem.ClaimJoined
import GoSem.ClaimMapViews
import Derived.JoinedTies
import Derived.KernelRfl
namespace Go.Proofs.Ytbcooiifpfdiaaa
/- THE CELL 'sum', in the pinned program and in every row, IS THE sha256 OF THE DUMP (.gsa) THAT YtbcooiifpfdiaaaProg.lean LOADS. Nothing in Lean hashes anything: it is a label: what it is worth is what the hold of that sum in a sandbox is worth. -/
noncomputable def Try.pinned : Pinned := { name := "ytbcooiifpfdiaaa", sum := "a2e245b95fd432e16af94084b23a8a6132c50f15574bd827d18dee1e4e9f1c67", checked := Try.checked }
namespace Rows
def none {H : Type} : Left H := { results := [], args := [] }

/-- 'laws.FnChangeSet': WHATEVER THE INPUT: true; the input reads as it did. -/
def fnChangeSetSpec : ChangeSpec := { name := "fnChangeSet", fn := fun _ => fun
  | [d] => { results := [.lit (.bool true)], args := [d] }
  | _ => none }
def fnChangeSetRow : OpenClaim := { program := "ytbcooiifpfdiaaa", sum := "a2e245b95fd432e16af94084b23a8a6132c50f15574bd827d18dee1e4e9f1c67", func := "loop.example/mailhost/laws.FnChangeSet", spec := "fnChangeSet", unfollowed := true, recurses := true, apart := false }
def FnChangeSetSaid : Prop := fnChangeSetRow.holds Try.pinned (OpenSpec.ofChange fnChangeSetSpec)

/-- ITS FALSE NEIGHBOUR: 'it returns false'. Refute it at one input. -/
def fnChangeSetWrong : ChangeSpec := { name := "fnChangeSet", fn := fun _ => fun
  | [d] => { results := [.lit (.bool false)], args := [d] }
  | _ => none }
def FnChangeSetWrongFalsely : Prop := fnChangeSetRow.holds Try.pinned (OpenSpec.ofChange fnChangeSetWrong)

/-- 'laws.FnChangeRemove': WHATEVER THE INPUT: true; the input reads as it did. -/
def fnChangeRemoveSpec : ChangeSpec := { name := "fnChangeRemove", fn := fun _ => fun
  | [d] => { results := [.lit (.bool true)], args := [d] }
  | _ => none }
def fnChangeRemoveRow : OpenClaim := { program := "ytbcooiifpfdiaaa", sum := "a2e245b95fd432e16af94084b23a8a6132c50f15574bd827d18dee1e4e9f1c67", func := "loop.example/mailhost/laws.FnChangeRemove", spec := "fnChangeRemove", unfollowed := true, recurses := true, apart := false }
def FnChangeRemoveSaid : Prop := fnChangeRemoveRow.holds Try.pinned (OpenSpec.ofChange fnChangeRemoveSpec)

/-- ITS FALSE NEIGHBOUR: 'it returns false'. Refute it at one input. -/
def fnChangeRemoveWrong : ChangeSpec := { name := "fnChangeRemove", fn := fun _ => fun
  | [d] => { results := [.lit (.bool false)], args := [d] }
  | _ => none }
def FnChangeRemoveWrongFalsely : Prop := fnChangeRemoveRow.holds Try.pinned (OpenSpec.ofChange fnChangeRemoveWrong)

/-- 'laws.FnChangePut': WHATEVER THE INPUT: true; the input reads as it did. -/
def fnChangePutSpec : ChangeSpec := { name := "fnChangePut", fn := fun _ => fun
  | [d] => { results := [.lit (.bool true)], args := [d] }
  | _ => none }
def fnChangePutRow : OpenClaim := { program := "ytbcooiifpfdiaaa", sum := "a2e245b95fd432e16af94084b23a8a6132c50f15574bd827d18dee1e4e9f1c67", func := "loop.example/mailhost/laws.FnChangePut", spec := "fnChangePut", unfollowed := true, recurses := true, apart := false }
def FnChangePutSaid : Prop := fnChangePutRow.holds Try.pinned (OpenSpec.ofChange fnChangePutSpec)

/-- ITS FALSE NEIGHBOUR: 'it returns false'. Refute it at one input. -/
def fnChangePutWrong : ChangeSpec := { name := "fnChangePut", fn := fun _ => fun
  | [d] => { results := [.lit (.bool false)], args := [d] }
  | _ => none }
def FnChangePutWrongFalsely : Prop := fnChangePutRow.holds Try.pinned (OpenSpec.ofChange fnChangePutWrong)

/-- 'laws.FnChangeTwice': WHATEVER THE INPUT: true; the input reads as it did. -/
def fnChangeTwiceSpec : ChangeSpec := { name := "fnChangeTwice", fn := fun _ => fun
  | [d] => { results := [.lit (.bool true)], args := [d] }
  | _ => none }
def fnChangeTwiceRow : OpenClaim := { program := "ytbcooiifpfdiaaa", sum := "a2e245b95fd432e16af94084b23a8a6132c50f15574bd827d18dee1e4e9f1c67", func := "loop.example/mailhost/laws.FnChangeTwice", spec := "fnChangeTwice", unfollowed := true, recurses := true, apart := false }
def FnChangeTwiceSaid : Prop := fnChangeTwiceRow.holds Try.pinned (OpenSpec.ofChange fnChangeTwiceSpec)

/-- ITS FALSE NEIGHBOUR: 'it returns false'. Refute it at one input. -/
def fnChangeTwiceWrong : ChangeSpec := { name := "fnChangeTwice", fn := fun _ => fun
  | [d] => { results := [.lit (.bool false)], args := [d] }
  | _ => none }
def FnChangeTwiceWrongFalsely : Prop := fnChangeTwiceRow.holds Try.pinned (OpenSpec.ofChange fnChangeTwiceWrong)

/-- 'laws.FnChangeOrder': WHATEVER THE INPUT: true; the input reads as it did. -/
def fnChangeOrderSpec : ChangeSpec := { name := "fnChangeOrder", fn := fun _ => fun
  | [d] => { results := [.lit (.bool true)], args := [d] }
  | _ => none }
def fnChangeOrderRow : OpenClaim := { program := "ytbcooiifpfdiaaa", sum := "a2e245b95fd432e16af94084b23a8a6132c50f15574bd827d18dee1e4e9f1c67", func := "loop.example/mailhost/laws.FnChangeOrder", spec := "fnChangeOrder", unfollowed := true, recurses := true, apart := false }
def FnChangeOrderSaid : Prop := fnChangeOrderRow.holds Try.pinned (OpenSpec.ofChange fnChangeOrderSpec)

/-- ITS FALSE NEIGHBOUR: 'it returns false'. Refute it at one input. -/
def fnChangeOrderWrong : ChangeSpec := { name := "fnChangeOrder", fn := fun _ => fun
  | [d] => { results := [.lit (.bool false)], args := [d] }
  | _ => none }
def FnChangeOrderWrongFalsely : Prop := fnChangeOrderRow.holds Try.pinned (OpenSpec.ofChange fnChangeOrderWrong)

/-- 'laws.FnHave': WHATEVER THE INPUT: true; the input reads as it did. -/
def fnHaveSpec : ChangeSpec := { name := "fnHave", fn := fun _ => fun
  | [d] => { results := [.lit (.bool true)], args := [d] }
  | _ => none }
def fnHaveRow : OpenClaim := { program := "ytbcooiifpfdiaaa", sum := "a2e245b95fd432e16af94084b23a8a6132c50f15574bd827d18dee1e4e9f1c67", func := "loop.example/mailhost/laws.FnHave", spec := "fnHave", unfollowed := true, recurses := true, apart := false }
def FnHaveSaid : Prop := fnHaveRow.holds Try.pinned (OpenSpec.ofChange fnHaveSpec)

/-- ITS FALSE NEIGHBOUR: 'it returns false'. Refute it at one input. -/
def fnHaveWrong : ChangeSpec := { name := "fnHave", fn := fun _ => fun
  | [d] => { results := [.lit (.bool false)], args := [d] }
  | _ => none }
def FnHaveWrongFalsely : Prop := fnHaveRow.holds Try.pinned (OpenSpec.ofChange fnHaveWrong)

/-- 'laws.FnExactFlagsChange': WHATEVER THE INPUT: true; the input reads as it did. -/
def fnExactFlagsChangeSpec : ChangeSpec := { name := "fnExactFlagsChange", fn := fun _ => fun
  | [d1, d2, d3] => { results := [.lit (.bool true)], args := [d1, d2, d3] }
  | _ => none }
def fnExactFlagsChangeRow : OpenClaim := { program := "ytbcooiifpfdiaaa", sum := "a2e245b95fd432e16af94084b23a8a6132c50f15574bd827d18dee1e4e9f1c67", func := "loop.example/mailhost/laws.FnExactFlagsChange", spec := "fnExactFlagsChange", unfollowed := true, recurses := true, apart := false }
def FnExactFlagsChangeSaid : Prop := fnExactFlagsChangeRow.holds Try.pinned (OpenSpec.ofChange fnExactFlagsChangeSpec)

/-- ITS FALSE NEIGHBOUR: 'it returns false'. Refute it at one input. -/
def fnExactFlagsChangeWrong : ChangeSpec := { name := "fnExactFlagsChange", fn := fun _ => fun
  | [d1, d2, d3] => { results := [.lit (.bool false)], args := [d1, d2, d3] }
  | _ => none }
def FnExactFlagsChangeWrongFalsely : Prop := fnExactFlagsChangeRow.holds Try.pinned (OpenSpec.ofChange fnExactFlagsChangeWrong)

/-- 'laws.FnExactFlagsHave': WHATEVER THE INPUT: true; the input reads as it did. -/
def fnExactFlagsHaveSpec : ChangeSpec := { name := "fnExactFlagsHave", fn := fun _ => fun
  | [d1, d2] => { results := [.lit (.bool true)], args := [d1, d2] }
  | _ => none }
def fnExactFlagsHaveRow : OpenClaim := { program := "ytbcooiifpfdiaaa", sum := "a2e245b95fd432e16af94084b23a8a6132c50f15574bd827d18dee1e4e9f1c67", func := "loop.example/mailhost/laws.FnExactFlagsHave", spec := "fnExactFlagsHave", apart := false }
def FnExactFlagsHaveSaid : Prop := fnExactFlagsHaveRow.holds Try.pinned (OpenSpec.ofChange fnExactFlagsHaveSpec)

/-- ITS FALSE NEIGHBOUR: 'it returns false'. Refute it at one input. -/
def fnExactFlagsHaveWrong : ChangeSpec := { name := "fnExactFlagsHave", fn := fun _ => fun
  | [d1, d2] => { results := [.lit (.bool false)], args := [d1, d2] }
  | _ => none }
def FnExactFlagsHaveWrongFalsely : Prop := fnExactFlagsHaveRow.holds Try.pinned (OpenSpec.ofChange fnExactFlagsHaveWrong)

/- THE SECOND FORM. 'bulk': how many values and letters a reading holds, each counted each time it is reached (what is shared counts as often as it is met; a slice's spare places count too). A statement '..UptoSaid' is the law's where the arguments, and the package variables that the reading takes, are together of bulk at most 1048576: NARROWER than '..Said'. Prove '..Said' where nothing that the law and all that it calls make is longer than what came in: it says more and counts as full. Else prove '..UptoSaid'. A law counts once. -/
mutual
def uptoBulk {H : Type} : DataW H → Nat
  | .lit (.string bytes) => bytes.length + 1
  | .lit _ => 1
  | .nil => 1
  | .ptr d => uptoBulk d + 1
  | .slice elems spare => uptoBulkAll elems + uptoBulkAll spare + 1
  | .agg parts => uptoBulkAll parts + 1
  | .iface _ d => uptoBulk d + 1
  | .map entries => uptoBulkEntries entries + 1
  | .held _ => 1
def uptoBulkAll {H : Type} : List (DataW H) → Nat
  | [] => 0
  | d :: r => uptoBulk d + uptoBulkAll r
def uptoBulkEntries {H : Type} : List (Lit × DataW H) → Nat
  | [] => 0
  | x :: r => uptoBulkEntry x + uptoBulkEntries r
def uptoBulkEntry {H : Type} : Lit × DataW H → Nat
  | (.string bytes, d) => bytes.length + uptoBulk d + 1
  | (_, d) => uptoBulk d + 1
 end
def uptoSmall : (H : Type) → List (DataW H) → Bool := fun _ ds => decide (uptoBulkAll ds ≤ 1048576)
def OpenSpec.upto (s : _root_.Go.ChangeSpec) : _root_.Go.OpenSpec := { _root_.Go.OpenSpec.ofChange s with cond := some uptoSmall }

/-- 'laws.FnChangeSet', WHERE WHAT IT READS IS OF BULK AT MOST 1048576: true; the input reads as it did. -/
def fnChangeSetUptoRow : OpenClaim := { program := "ytbcooiifpfdiaaa", sum := "a2e245b95fd432e16af94084b23a8a6132c50f15574bd827d18dee1e4e9f1c67", func := "loop.example/mailhost/laws.FnChangeSet", spec := "fnChangeSet", unfollowed := true, recurses := true, apart := false, narrowed := true }
def FnChangeSetUptoSaid : Prop := fnChangeSetUptoRow.holds Try.pinned (OpenSpec.upto fnChangeSetSpec)

/-- 'laws.FnChangeRemove', WHERE WHAT IT READS IS OF BULK AT MOST 1048576: true; the input reads as it did. -/
def fnChangeRemoveUptoRow : OpenClaim := { program := "ytbcooiifpfdiaaa", sum := "a2e245b95fd432e16af94084b23a8a6132c50f15574bd827d18dee1e4e9f1c67", func := "loop.example/mailhost/laws.FnChangeRemove", spec := "fnChangeRemove", unfollowed := true, recurses := true, apart := false, narrowed := true }
def FnChangeRemoveUptoSaid : Prop := fnChangeRemoveUptoRow.holds Try.pinned (OpenSpec.upto fnChangeRemoveSpec)

/-- 'laws.FnChangePut', WHERE WHAT IT READS IS OF BULK AT MOST 1048576: true; the input reads as it did. -/
def fnChangePutUptoRow : OpenClaim := { program := "ytbcooiifpfdiaaa", sum := "a2e245b95fd432e16af94084b23a8a6132c50f15574bd827d18dee1e4e9f1c67", func := "loop.example/mailhost/laws.FnChangePut", spec := "fnChangePut", unfollowed := true, recurses := true, apart := false, narrowed := true }
def FnChangePutUptoSaid : Prop := fnChangePutUptoRow.holds Try.pinned (OpenSpec.upto fnChangePutSpec)

/-- 'laws.FnChangeTwice', WHERE WHAT IT READS IS OF BULK AT MOST 1048576: true; the input reads as it did. -/
def fnChangeTwiceUptoRow : OpenClaim := { program := "ytbcooiifpfdiaaa", sum := "a2e245b95fd432e16af94084b23a8a6132c50f15574bd827d18dee1e4e9f1c67", func := "loop.example/mailhost/laws.FnChangeTwice", spec := "fnChangeTwice", unfollowed := true, recurses := true, apart := false, narrowed := true }
def FnChangeTwiceUptoSaid : Prop := fnChangeTwiceUptoRow.holds Try.pinned (OpenSpec.upto fnChangeTwiceSpec)

/-- 'laws.FnChangeOrder', WHERE WHAT IT READS IS OF BULK AT MOST 1048576: true; the input reads as it did. -/
def fnChangeOrderUptoRow : OpenClaim := { program := "ytbcooiifpfdiaaa", sum := "a2e245b95fd432e16af94084b23a8a6132c50f15574bd827d18dee1e4e9f1c67", func := "loop.example/mailhost/laws.FnChangeOrder", spec := "fnChangeOrder", unfollowed := true, recurses := true, apart := false, narrowed := true }
def FnChangeOrderUptoSaid : Prop := fnChangeOrderUptoRow.holds Try.pinned (OpenSpec.upto fnChangeOrderSpec)

/-- 'laws.FnHave', WHERE WHAT IT READS IS OF BULK AT MOST 1048576: true; the input reads as it did. -/
def fnHaveUptoRow : OpenClaim := { program := "ytbcooiifpfdiaaa", sum := "a2e245b95fd432e16af94084b23a8a6132c50f15574bd827d18dee1e4e9f1c67", func := "loop.example/mailhost/laws.FnHave", spec := "fnHave", unfollowed := true, recurses := true, apart := false, narrowed := true }
def FnHaveUptoSaid : Prop := fnHaveUptoRow.holds Try.pinned (OpenSpec.upto fnHaveSpec)

/-- 'laws.FnExactFlagsChange', WHERE WHAT IT READS IS OF BULK AT MOST 1048576: true; the input reads as it did. -/
def fnExactFlagsChangeUptoRow : OpenClaim := { program := "ytbcooiifpfdiaaa", sum := "a2e245b95fd432e16af94084b23a8a6132c50f15574bd827d18dee1e4e9f1c67", func := "loop.example/mailhost/laws.FnExactFlagsChange", spec := "fnExactFlagsChange", unfollowed := true, recurses := true, apart := false, narrowed := true }
def FnExactFlagsChangeUptoSaid : Prop := fnExactFlagsChangeUptoRow.holds Try.pinned (OpenSpec.upto fnExactFlagsChangeSpec)

/-- 'laws.FnExactFlagsHave', WHERE WHAT IT READS IS OF BULK AT MOST 1048576: true; the input reads as it did. -/
def fnExactFlagsHaveUptoRow : OpenClaim := { program := "ytbcooiifpfdiaaa", sum := "a2e245b95fd432e16af94084b23a8a6132c50f15574bd827d18dee1e4e9f1c67", func := "loop.example/mailhost/laws.FnExactFlagsHave", spec := "fnExactFlagsHave", apart := false, narrowed := true }
def FnExactFlagsHaveUptoSaid : Prop := fnExactFlagsHaveUptoRow.holds Try.pinned (OpenSpec.upto fnExactFlagsHaveSpec)

end Rows
end Go.Proofs.Ytbcooiifpfdiaaa
