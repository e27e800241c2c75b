/-
  No cell of these rows narrows 'for every input' (looked for: loops, veiled, ifaces, maps, wideKeys, modest, calm, conditions, laid).
  DERIVED. THE GIVEN ROWS OF THIS SEAT. 6 by the template 'for every input the law returns true; each argument reads behind the call as it read before'; 0 by the template 'total and deterministic' (their statements: YtichajalinkcdaaTotals.lean).
  GIVEN WITH THE SEED: the statements are not yours to turn. If you find one false, say at which input.
  Laid BY PROGRAM, IN A SANDBOX (cutbox-rows.mjs): the forced cells as the released guide's own fill.sh prints them over the translation a3ccce5f3bf0bbb4… (all of the seat's roots in one cut). By AI agents, Wed Nov 11 2026. No macro, syntax, notation, axiom, sorry.
-/
import Derived.Test.YtichajalinkcdaaChecked
import GoSem.Claim
import GoSem.ClaimJoined
import GoSem.ClaimMapViews
import Derived.JoinedTies
import Derived.KernelRfl
namespace Go.Proofs.Ytichajalinkcdaa
/- THE CELL 'sum', in the pinned program and in every row, IS THE sha256 OF THE DUMP (.gsa) THAT YtichajalinkcdaaProg.lean LOADS. Nothing in Lean hashes anything: it is a label: what it is worth is what the hold of that sum in a sandbox is worth. -/
noncomputable def Try.pinned : Pinned := { name := "ytichajalinkcdaa", sum := "a3ccce5f3bf0bbb4eae2bacfe21fa31a875244ca8b8a72895eb88b67a834dfe2", checked := Try.checked }
namespace Rows
def none {H : Type} : Left H := { results := [], args := [] }

/-- 'laws.FnLetter': WHATEVER THE INPUT: true; the input reads as it did. -/
def fnLetterSpec : ChangeSpec := { name := "fnLetter", fn := fun _ => fun
  | [d] => { results := [.lit (.bool true)], args := [d] }
  | _ => none }
def fnLetterRow : OpenClaim := { program := "ytichajalinkcdaa", sum := "a3ccce5f3bf0bbb4eae2bacfe21fa31a875244ca8b8a72895eb88b67a834dfe2", func := "loop.example/mailhost/laws.FnLetter", spec := "fnLetter", apart := false }
def FnLetterSaid : Prop := fnLetterRow.holds Try.pinned (OpenSpec.ofChange fnLetterSpec)

/-- ITS FALSE NEIGHBOUR: 'it returns false'. Refute it at one input. -/
def fnLetterWrong : ChangeSpec := { name := "fnLetter", fn := fun _ => fun
  | [d] => { results := [.lit (.bool false)], args := [d] }
  | _ => none }
def FnLetterWrongFalsely : Prop := fnLetterRow.holds Try.pinned (OpenSpec.ofChange fnLetterWrong)

/-- 'laws.FnLetterStage': WHATEVER THE INPUT: true; the input reads as it did. -/
def fnLetterStageSpec : ChangeSpec := { name := "fnLetterStage", fn := fun _ => fun
  | [d] => { results := [.lit (.bool true)], args := [d] }
  | _ => none }
def fnLetterStageRow : OpenClaim := { program := "ytichajalinkcdaa", sum := "a3ccce5f3bf0bbb4eae2bacfe21fa31a875244ca8b8a72895eb88b67a834dfe2", func := "loop.example/mailhost/laws.FnLetterStage", spec := "fnLetterStage", apart := false }
def FnLetterStageSaid : Prop := fnLetterStageRow.holds Try.pinned (OpenSpec.ofChange fnLetterStageSpec)

/-- ITS FALSE NEIGHBOUR: 'it returns false'. Refute it at one input. -/
def fnLetterStageWrong : ChangeSpec := { name := "fnLetterStage", fn := fun _ => fun
  | [d] => { results := [.lit (.bool false)], args := [d] }
  | _ => none }
def FnLetterStageWrongFalsely : Prop := fnLetterStageRow.holds Try.pinned (OpenSpec.ofChange fnLetterStageWrong)

/-- 'laws.FnLetterPart': WHATEVER THE INPUT: true; the input reads as it did. -/
def fnLetterPartSpec : ChangeSpec := { name := "fnLetterPart", fn := fun _ => fun
  | [d1, d2] => { results := [.lit (.bool true)], args := [d1, d2] }
  | _ => none }
def fnLetterPartRow : OpenClaim := { program := "ytichajalinkcdaa", sum := "a3ccce5f3bf0bbb4eae2bacfe21fa31a875244ca8b8a72895eb88b67a834dfe2", func := "loop.example/mailhost/laws.FnLetterPart", spec := "fnLetterPart", apart := false }
def FnLetterPartSaid : Prop := fnLetterPartRow.holds Try.pinned (OpenSpec.ofChange fnLetterPartSpec)

/-- ITS FALSE NEIGHBOUR: 'it returns false'. Refute it at one input. -/
def fnLetterPartWrong : ChangeSpec := { name := "fnLetterPart", fn := fun _ => fun
  | [d1, d2] => { results := [.lit (.bool false)], args := [d1, d2] }
  | _ => none }
def FnLetterPartWrongFalsely : Prop := fnLetterPartRow.holds Try.pinned (OpenSpec.ofChange fnLetterPartWrong)

/-- 'laws.FnExactLetterValid': WHATEVER THE INPUT: true; the input reads as it did. -/
def fnExactLetterValidSpec : ChangeSpec := { name := "fnExactLetterValid", fn := fun _ => fun
  | [d] => { results := [.lit (.bool true)], args := [d] }
  | _ => none }
def fnExactLetterValidRow : OpenClaim := { program := "ytichajalinkcdaa", sum := "a3ccce5f3bf0bbb4eae2bacfe21fa31a875244ca8b8a72895eb88b67a834dfe2", func := "loop.example/mailhost/laws.FnExactLetterValid", spec := "fnExactLetterValid", apart := false }
def FnExactLetterValidSaid : Prop := fnExactLetterValidRow.holds Try.pinned (OpenSpec.ofChange fnExactLetterValidSpec)

/-- ITS FALSE NEIGHBOUR: 'it returns false'. Refute it at one input. -/
def fnExactLetterValidWrong : ChangeSpec := { name := "fnExactLetterValid", fn := fun _ => fun
  | [d] => { results := [.lit (.bool false)], args := [d] }
  | _ => none }
def FnExactLetterValidWrongFalsely : Prop := fnExactLetterValidRow.holds Try.pinned (OpenSpec.ofChange fnExactLetterValidWrong)

/-- 'laws.FnExactSubmissionValid': WHATEVER THE INPUT: true; the input reads as it did. -/
def fnExactSubmissionValidSpec : ChangeSpec := { name := "fnExactSubmissionValid", fn := fun _ => fun
  | [d] => { results := [.lit (.bool true)], args := [d] }
  | _ => none }
def fnExactSubmissionValidRow : OpenClaim := { program := "ytichajalinkcdaa", sum := "a3ccce5f3bf0bbb4eae2bacfe21fa31a875244ca8b8a72895eb88b67a834dfe2", func := "loop.example/mailhost/laws.FnExactSubmissionValid", spec := "fnExactSubmissionValid", apart := false }
def FnExactSubmissionValidSaid : Prop := fnExactSubmissionValidRow.holds Try.pinned (OpenSpec.ofChange fnExactSubmissionValidSpec)

/-- ITS FALSE NEIGHBOUR: 'it returns false'. Refute it at one input. -/
def fnExactSubmissionValidWrong : ChangeSpec := { name := "fnExactSubmissionValid", fn := fun _ => fun
  | [d] => { results := [.lit (.bool false)], args := [d] }
  | _ => none }
def FnExactSubmissionValidWrongFalsely : Prop := fnExactSubmissionValidRow.holds Try.pinned (OpenSpec.ofChange fnExactSubmissionValidWrong)

/-- 'laws.FnExactSubmissionLetter': WHATEVER THE INPUT: true; the input reads as it did. -/
def fnExactSubmissionLetterSpec : ChangeSpec := { name := "fnExactSubmissionLetter", fn := fun _ => fun
  | [d] => { results := [.lit (.bool true)], args := [d] }
  | _ => none }
def fnExactSubmissionLetterRow : OpenClaim := { program := "ytichajalinkcdaa", sum := "a3ccce5f3bf0bbb4eae2bacfe21fa31a875244ca8b8a72895eb88b67a834dfe2", func := "loop.example/mailhost/laws.FnExactSubmissionLetter", spec := "fnExactSubmissionLetter", apart := false }
def FnExactSubmissionLetterSaid : Prop := fnExactSubmissionLetterRow.holds Try.pinned (OpenSpec.ofChange fnExactSubmissionLetterSpec)

/-- ITS FALSE NEIGHBOUR: 'it returns false'. Refute it at one input. -/
def fnExactSubmissionLetterWrong : ChangeSpec := { name := "fnExactSubmissionLetter", fn := fun _ => fun
  | [d] => { results := [.lit (.bool false)], args := [d] }
  | _ => none }
def FnExactSubmissionLetterWrongFalsely : Prop := fnExactSubmissionLetterRow.holds Try.pinned (OpenSpec.ofChange fnExactSubmissionLetterWrong)

/- THE SECOND FORM. 'bulk': how many values and letters a reading holds, each counted each time it is reached (what is shared counts as often as it is met; a slice's spare places count too). A statement '..UptoSaid' is the law's where the arguments, and the package variables that the reading takes, are together of bulk at most 1048576: NARROWER than '..Said'. Prove '..Said' where nothing that the law and all that it calls make is longer than what came in: it says more and counts as full. Else prove '..UptoSaid'. A law counts once. -/
mutual
def uptoBulk {H : Type} : DataW H → Nat
  | .lit (.string bytes) => bytes.length + 1
  | .lit _ => 1
  | .nil => 1
  | .ptr d => uptoBulk d + 1
  | .slice elems spare => uptoBulkAll elems + uptoBulkAll spare + 1
  | .agg parts => uptoBulkAll parts + 1
  | .iface _ d => uptoBulk d + 1
  | .map entries => uptoBulkEntries entries + 1
  | .held _ => 1
def uptoBulkAll {H : Type} : List (DataW H) → Nat
  | [] => 0
  | d :: r => uptoBulk d + uptoBulkAll r
def uptoBulkEntries {H : Type} : List (Lit × DataW H) → Nat
  | [] => 0
  | x :: r => uptoBulkEntry x + uptoBulkEntries r
def uptoBulkEntry {H : Type} : Lit × DataW H → Nat
  | (.string bytes, d) => bytes.length + uptoBulk d + 1
  | (_, d) => uptoBulk d + 1
 end
def uptoSmall : (H : Type) → List (DataW H) → Bool := fun _ ds => decide (uptoBulkAll ds ≤ 1048576)
def OpenSpec.upto (s : _root_.Go.ChangeSpec) : _root_.Go.OpenSpec := { _root_.Go.OpenSpec.ofChange s with cond := some uptoSmall }

/-- 'laws.FnLetter', WHERE WHAT IT READS IS OF BULK AT MOST 1048576: true; the input reads as it did. -/
def fnLetterUptoRow : OpenClaim := { program := "ytichajalinkcdaa", sum := "a3ccce5f3bf0bbb4eae2bacfe21fa31a875244ca8b8a72895eb88b67a834dfe2", func := "loop.example/mailhost/laws.FnLetter", spec := "fnLetter", apart := false, narrowed := true }
def FnLetterUptoSaid : Prop := fnLetterUptoRow.holds Try.pinned (OpenSpec.upto fnLetterSpec)

/-- 'laws.FnLetterStage', WHERE WHAT IT READS IS OF BULK AT MOST 1048576: true; the input reads as it did. -/
def fnLetterStageUptoRow : OpenClaim := { program := "ytichajalinkcdaa", sum := "a3ccce5f3bf0bbb4eae2bacfe21fa31a875244ca8b8a72895eb88b67a834dfe2", func := "loop.example/mailhost/laws.FnLetterStage", spec := "fnLetterStage", apart := false, narrowed := true }
def FnLetterStageUptoSaid : Prop := fnLetterStageUptoRow.holds Try.pinned (OpenSpec.upto fnLetterStageSpec)

/-- 'laws.FnLetterPart', WHERE WHAT IT READS IS OF BULK AT MOST 1048576: true; the input reads as it did. -/
def fnLetterPartUptoRow : OpenClaim := { program := "ytichajalinkcdaa", sum := "a3ccce5f3bf0bbb4eae2bacfe21fa31a875244ca8b8a72895eb88b67a834dfe2", func := "loop.example/mailhost/laws.FnLetterPart", spec := "fnLetterPart", apart := false, narrowed := true }
def FnLetterPartUptoSaid : Prop := fnLetterPartUptoRow.holds Try.pinned (OpenSpec.upto fnLetterPartSpec)

/-- 'laws.FnExactLetterValid', WHERE WHAT IT READS IS OF BULK AT MOST 1048576: true; the input reads as it did. -/
def fnExactLetterValidUptoRow : OpenClaim := { program := "ytichajalinkcdaa", sum := "a3ccce5f3bf0bbb4eae2bacfe21fa31a875244ca8b8a72895eb88b67a834dfe2", func := "loop.example/mailhost/laws.FnExactLetterValid", spec := "fnExactLetterValid", apart := false, narrowed := true }
def FnExactLetterValidUptoSaid : Prop := fnExactLetterValidUptoRow.holds Try.pinned (OpenSpec.upto fnExactLetterValidSpec)

/-- 'laws.FnExactSubmissionValid', WHERE WHAT IT READS IS OF BULK AT MOST 1048576: true; the input reads as it did. -/
def fnExactSubmissionValidUptoRow : OpenClaim := { program := "ytichajalinkcdaa", sum := "a3ccce5f3bf0bbb4eae2bacfe21fa31a875244ca8b8a72895eb88b67a834dfe2", func := "loop.example/mailhost/laws.FnExactSubmissionValid", spec := "fnExactSubmissionValid", apart := false, narrowed := true }
def FnExactSubmissionValidUptoSaid : Prop := fnExactSubmissionValidUptoRow.holds Try.pinned (OpenSpec.upto fnExactSubmissionValidSpec)

/-- 'laws.FnExactSubmissionLetter', WHERE WHAT IT READS IS OF BULK AT MOST 1048576: true; the input reads as it did. -/
def fnExactSubmissionLetterUptoRow : OpenClaim := { program := "ytichajalinkcdaa", sum := "a3ccce5f3bf0bbb4eae2bacfe21fa31a875244ca8b8a72895eb88b67a834dfe2", func := "loop.example/mailhost/laws.FnExactSubmissionLetter", spec := "fnExactSubmissionLetter", apart := false, narrowed := true }
def FnExactSubmissionLetterUptoSaid : Prop := fnExactSubmissionLetterUptoRow.holds Try.pinned (OpenSpec.upto fnExactSubmissionLetterSpec)

end Rows
end Go.Proofs.Ytichajalinkcdaa
