/-
  No cell of these rows narrows 'for every input' (looked for: loops, veiled, ifaces, maps, wideKeys, modest, calm, conditions, laid).
  DERIVED. THE GIVEN ROWS OF THIS SEAT. 14 by the template 'for every input the law returns true; each argument reads behind the call as it read before'; 0 by the template 'total and deterministic' (their statements: YtinbdibenbplnaaTotals.lean).
  GIVEN WITH THE SEED: the statements are not yours to turn. If you find one false, say at which input.
  Laid BY PROGRAM, IN A SANDBOX (cutbox-rows.mjs): the forced cells as the released guide's own fill.sh prints them over the translation 790a8ece3801e467… (all of the seat's roots in one cut). By AI agents, Wed Nov 11 2026. No macro, syntax, notation, axiom, sorry.
-/
import Derived.Test.YtinbdibenbplnaaChecked
import GoSem.Claim
import GoSem.ClaimJoined
import GoSem.ClaimMapViews
import Derived.JoinedTies
import Derived.KernelRfl
namespace Go.Proofs.Ytinbdibenbplnaa
/- THE CELL 'sum', in the pinned program and in every row, IS THE sha256 OF THE DUMP (.gsa) THAT YtinbdibenbplnaaProg.lean LOADS. Nothing in Lean hashes anything: it is a label: what it is worth is what the hold of that sum in a sandbox is worth. -/
noncomputable def Try.pinned : Pinned := { name := "ytinbdibenbplnaa", sum := "790a8ece3801e467d2ea2a964b66e9a774c470cbdd79e60a95cfd949bca3e314", checked := Try.checked }
namespace Rows
def none {H : Type} : Left H := { results := [], args := [] }

/-- 'laws.FnLetterPart': WHATEVER THE INPUT: true; the input reads as it did. -/
def fnLetterPartSpec : ChangeSpec := { name := "fnLetterPart", fn := fun _ => fun
  | [d1, d2] => { results := [.lit (.bool true)], args := [d1, d2] }
  | _ => none }
def fnLetterPartRow : OpenClaim := { program := "ytinbdibenbplnaa", sum := "790a8ece3801e467d2ea2a964b66e9a774c470cbdd79e60a95cfd949bca3e314", func := "loop.example/mailhost/laws.FnLetterPart", spec := "fnLetterPart", apart := false }
def FnLetterPartSaid : Prop := fnLetterPartRow.holds Try.pinned (OpenSpec.ofChange fnLetterPartSpec)

/-- ITS FALSE NEIGHBOUR: 'it returns false'. Refute it at one input. -/
def fnLetterPartWrong : ChangeSpec := { name := "fnLetterPart", fn := fun _ => fun
  | [d1, d2] => { results := [.lit (.bool false)], args := [d1, d2] }
  | _ => none }
def FnLetterPartWrongFalsely : Prop := fnLetterPartRow.holds Try.pinned (OpenSpec.ofChange fnLetterPartWrong)

/-- 'laws.FnQueueAdd': WHATEVER THE INPUT: true; the input reads as it did. -/
def fnQueueAddSpec : ChangeSpec := { name := "fnQueueAdd", fn := fun _ => fun
  | [d] => { results := [.lit (.bool true)], args := [d] }
  | _ => none }
def fnQueueAddRow : OpenClaim := { program := "ytinbdibenbplnaa", sum := "790a8ece3801e467d2ea2a964b66e9a774c470cbdd79e60a95cfd949bca3e314", func := "loop.example/mailhost/laws.FnQueueAdd", spec := "fnQueueAdd", unfollowed := true, recurses := true, apart := false }
def FnQueueAddSaid : Prop := fnQueueAddRow.holds Try.pinned (OpenSpec.ofChange fnQueueAddSpec)

/-- ITS FALSE NEIGHBOUR: 'it returns false'. Refute it at one input. -/
def fnQueueAddWrong : ChangeSpec := { name := "fnQueueAdd", fn := fun _ => fun
  | [d] => { results := [.lit (.bool false)], args := [d] }
  | _ => none }
def FnQueueAddWrongFalsely : Prop := fnQueueAddRow.holds Try.pinned (OpenSpec.ofChange fnQueueAddWrong)

/-- 'laws.FnQueueAddOld': WHATEVER THE INPUT: true; the input reads as it did. -/
def fnQueueAddOldSpec : ChangeSpec := { name := "fnQueueAddOld", fn := fun _ => fun
  | [d] => { results := [.lit (.bool true)], args := [d] }
  | _ => none }
def fnQueueAddOldRow : OpenClaim := { program := "ytinbdibenbplnaa", sum := "790a8ece3801e467d2ea2a964b66e9a774c470cbdd79e60a95cfd949bca3e314", func := "loop.example/mailhost/laws.FnQueueAddOld", spec := "fnQueueAddOld", unfollowed := true, recurses := true, apart := false }
def FnQueueAddOldSaid : Prop := fnQueueAddOldRow.holds Try.pinned (OpenSpec.ofChange fnQueueAddOldSpec)

/-- ITS FALSE NEIGHBOUR: 'it returns false'. Refute it at one input. -/
def fnQueueAddOldWrong : ChangeSpec := { name := "fnQueueAddOld", fn := fun _ => fun
  | [d] => { results := [.lit (.bool false)], args := [d] }
  | _ => none }
def FnQueueAddOldWrongFalsely : Prop := fnQueueAddOldRow.holds Try.pinned (OpenSpec.ofChange fnQueueAddOldWrong)

/-- 'laws.FnQueueAddLeft': WHATEVER THE INPUT: true; the input reads as it did. -/
def fnQueueAddLeftSpec : ChangeSpec := { name := "fnQueueAddLeft", fn := fun _ => fun
  | [d] => { results := [.lit (.bool true)], args := [d] }
  | _ => none }
def fnQueueAddLeftRow : OpenClaim := { program := "ytinbdibenbplnaa", sum := "790a8ece3801e467d2ea2a964b66e9a774c470cbdd79e60a95cfd949bca3e314", func := "loop.example/mailhost/laws.FnQueueAddLeft", spec := "fnQueueAddLeft", unfollowed := true, recurses := true, apart := false }
def FnQueueAddLeftSaid : Prop := fnQueueAddLeftRow.holds Try.pinned (OpenSpec.ofChange fnQueueAddLeftSpec)

/-- ITS FALSE NEIGHBOUR: 'it returns false'. Refute it at one input. -/
def fnQueueAddLeftWrong : ChangeSpec := { name := "fnQueueAddLeft", fn := fun _ => fun
  | [d] => { results := [.lit (.bool false)], args := [d] }
  | _ => none }
def FnQueueAddLeftWrongFalsely : Prop := fnQueueAddLeftRow.holds Try.pinned (OpenSpec.ofChange fnQueueAddLeftWrong)

/-- 'laws.FnQueueFull': WHATEVER THE INPUT: true; the input reads as it did. -/
def fnQueueFullSpec : ChangeSpec := { name := "fnQueueFull", fn := fun _ => fun
  | [d] => { results := [.lit (.bool true)], args := [d] }
  | _ => none }
def fnQueueFullRow : OpenClaim := { program := "ytinbdibenbplnaa", sum := "790a8ece3801e467d2ea2a964b66e9a774c470cbdd79e60a95cfd949bca3e314", func := "loop.example/mailhost/laws.FnQueueFull", spec := "fnQueueFull", unfollowed := true, recurses := true, apart := false }
def FnQueueFullSaid : Prop := fnQueueFullRow.holds Try.pinned (OpenSpec.ofChange fnQueueFullSpec)

/-- ITS FALSE NEIGHBOUR: 'it returns false'. Refute it at one input. -/
def fnQueueFullWrong : ChangeSpec := { name := "fnQueueFull", fn := fun _ => fun
  | [d] => { results := [.lit (.bool false)], args := [d] }
  | _ => none }
def FnQueueFullWrongFalsely : Prop := fnQueueFullRow.holds Try.pinned (OpenSpec.ofChange fnQueueFullWrong)

/-- 'laws.FnTake': WHATEVER THE INPUT: true; the input reads as it did. -/
def fnTakeSpec : ChangeSpec := { name := "fnTake", fn := fun _ => fun
  | [d] => { results := [.lit (.bool true)], args := [d] }
  | _ => none }
def fnTakeRow : OpenClaim := { program := "ytinbdibenbplnaa", sum := "790a8ece3801e467d2ea2a964b66e9a774c470cbdd79e60a95cfd949bca3e314", func := "loop.example/mailhost/laws.FnTake", spec := "fnTake", unfollowed := true, recurses := true, apart := false }
def FnTakeSaid : Prop := fnTakeRow.holds Try.pinned (OpenSpec.ofChange fnTakeSpec)

/-- ITS FALSE NEIGHBOUR: 'it returns false'. Refute it at one input. -/
def fnTakeWrong : ChangeSpec := { name := "fnTake", fn := fun _ => fun
  | [d] => { results := [.lit (.bool false)], args := [d] }
  | _ => none }
def FnTakeWrongFalsely : Prop := fnTakeRow.holds Try.pinned (OpenSpec.ofChange fnTakeWrong)

/-- 'laws.FnTakeText': WHATEVER THE INPUT: true; the input reads as it did. -/
def fnTakeTextSpec : ChangeSpec := { name := "fnTakeText", fn := fun _ => fun
  | [d] => { results := [.lit (.bool true)], args := [d] }
  | _ => none }
def fnTakeTextRow : OpenClaim := { program := "ytinbdibenbplnaa", sum := "790a8ece3801e467d2ea2a964b66e9a774c470cbdd79e60a95cfd949bca3e314", func := "loop.example/mailhost/laws.FnTakeText", spec := "fnTakeText", unfollowed := true, recurses := true, apart := false }
def FnTakeTextSaid : Prop := fnTakeTextRow.holds Try.pinned (OpenSpec.ofChange fnTakeTextSpec)

/-- ITS FALSE NEIGHBOUR: 'it returns false'. Refute it at one input. -/
def fnTakeTextWrong : ChangeSpec := { name := "fnTakeText", fn := fun _ => fun
  | [d] => { results := [.lit (.bool false)], args := [d] }
  | _ => none }
def FnTakeTextWrongFalsely : Prop := fnTakeTextRow.holds Try.pinned (OpenSpec.ofChange fnTakeTextWrong)

/-- 'laws.FnTakeOthers': WHATEVER THE INPUT: true; the input reads as it did. -/
def fnTakeOthersSpec : ChangeSpec := { name := "fnTakeOthers", fn := fun _ => fun
  | [d] => { results := [.lit (.bool true)], args := [d] }
  | _ => none }
def fnTakeOthersRow : OpenClaim := { program := "ytinbdibenbplnaa", sum := "790a8ece3801e467d2ea2a964b66e9a774c470cbdd79e60a95cfd949bca3e314", func := "loop.example/mailhost/laws.FnTakeOthers", spec := "fnTakeOthers", unfollowed := true, recurses := true, apart := false }
def FnTakeOthersSaid : Prop := fnTakeOthersRow.holds Try.pinned (OpenSpec.ofChange fnTakeOthersSpec)

/-- ITS FALSE NEIGHBOUR: 'it returns false'. Refute it at one input. -/
def fnTakeOthersWrong : ChangeSpec := { name := "fnTakeOthers", fn := fun _ => fun
  | [d] => { results := [.lit (.bool false)], args := [d] }
  | _ => none }
def FnTakeOthersWrongFalsely : Prop := fnTakeOthersRow.holds Try.pinned (OpenSpec.ofChange fnTakeOthersWrong)

/-- 'laws.FnTakeNone': WHATEVER THE INPUT: true; the input reads as it did. -/
def fnTakeNoneSpec : ChangeSpec := { name := "fnTakeNone", fn := fun _ => fun
  | [d] => { results := [.lit (.bool true)], args := [d] }
  | _ => none }
def fnTakeNoneRow : OpenClaim := { program := "ytinbdibenbplnaa", sum := "790a8ece3801e467d2ea2a964b66e9a774c470cbdd79e60a95cfd949bca3e314", func := "loop.example/mailhost/laws.FnTakeNone", spec := "fnTakeNone", unfollowed := true, recurses := true, apart := false }
def FnTakeNoneSaid : Prop := fnTakeNoneRow.holds Try.pinned (OpenSpec.ofChange fnTakeNoneSpec)

/-- ITS FALSE NEIGHBOUR: 'it returns false'. Refute it at one input. -/
def fnTakeNoneWrong : ChangeSpec := { name := "fnTakeNone", fn := fun _ => fun
  | [d] => { results := [.lit (.bool false)], args := [d] }
  | _ => none }
def FnTakeNoneWrongFalsely : Prop := fnTakeNoneRow.holds Try.pinned (OpenSpec.ofChange fnTakeNoneWrong)

/-- 'laws.FnTakeAll': WHATEVER THE INPUT: true; the input reads as it did. -/
def fnTakeAllSpec : ChangeSpec := { name := "fnTakeAll", fn := fun _ => fun
  | [d] => { results := [.lit (.bool true)], args := [d] }
  | _ => none }
def fnTakeAllRow : OpenClaim := { program := "ytinbdibenbplnaa", sum := "790a8ece3801e467d2ea2a964b66e9a774c470cbdd79e60a95cfd949bca3e314", func := "loop.example/mailhost/laws.FnTakeAll", spec := "fnTakeAll", unfollowed := true, recurses := true, apart := false }
def FnTakeAllSaid : Prop := fnTakeAllRow.holds Try.pinned (OpenSpec.ofChange fnTakeAllSpec)

/-- ITS FALSE NEIGHBOUR: 'it returns false'. Refute it at one input. -/
def fnTakeAllWrong : ChangeSpec := { name := "fnTakeAll", fn := fun _ => fun
  | [d] => { results := [.lit (.bool false)], args := [d] }
  | _ => none }
def FnTakeAllWrongFalsely : Prop := fnTakeAllRow.holds Try.pinned (OpenSpec.ofChange fnTakeAllWrong)

/-- 'laws.FnLeft': WHATEVER THE INPUT: true; the input reads as it did. -/
def fnLeftSpec : ChangeSpec := { name := "fnLeft", fn := fun _ => fun
  | [d] => { results := [.lit (.bool true)], args := [d] }
  | _ => none }
def fnLeftRow : OpenClaim := { program := "ytinbdibenbplnaa", sum := "790a8ece3801e467d2ea2a964b66e9a774c470cbdd79e60a95cfd949bca3e314", func := "loop.example/mailhost/laws.FnLeft", spec := "fnLeft", apart := false }
def FnLeftSaid : Prop := fnLeftRow.holds Try.pinned (OpenSpec.ofChange fnLeftSpec)

/-- ITS FALSE NEIGHBOUR: 'it returns false'. Refute it at one input. -/
def fnLeftWrong : ChangeSpec := { name := "fnLeft", fn := fun _ => fun
  | [d] => { results := [.lit (.bool false)], args := [d] }
  | _ => none }
def FnLeftWrongFalsely : Prop := fnLeftRow.holds Try.pinned (OpenSpec.ofChange fnLeftWrong)

/-- 'laws.FnQueuePart': WHATEVER THE INPUT: true; the input reads as it did. -/
def fnQueuePartSpec : ChangeSpec := { name := "fnQueuePart", fn := fun _ => fun
  | [d1, d2] => { results := [.lit (.bool true)], args := [d1, d2] }
  | _ => none }
def fnQueuePartRow : OpenClaim := { program := "ytinbdibenbplnaa", sum := "790a8ece3801e467d2ea2a964b66e9a774c470cbdd79e60a95cfd949bca3e314", func := "loop.example/mailhost/laws.FnQueuePart", spec := "fnQueuePart", apart := false }
def FnQueuePartSaid : Prop := fnQueuePartRow.holds Try.pinned (OpenSpec.ofChange fnQueuePartSpec)

/-- ITS FALSE NEIGHBOUR: 'it returns false'. Refute it at one input. -/
def fnQueuePartWrong : ChangeSpec := { name := "fnQueuePart", fn := fun _ => fun
  | [d1, d2] => { results := [.lit (.bool false)], args := [d1, d2] }
  | _ => none }
def FnQueuePartWrongFalsely : Prop := fnQueuePartRow.holds Try.pinned (OpenSpec.ofChange fnQueuePartWrong)

/-- 'laws.FnExactQueueAdd': WHATEVER THE INPUT: true; the input reads as it did. -/
def fnExactQueueAddSpec : ChangeSpec := { name := "fnExactQueueAdd", fn := fun _ => fun
  | [d1, d2] => { results := [.lit (.bool true)], args := [d1, d2] }
  | _ => none }
def fnExactQueueAddRow : OpenClaim := { program := "ytinbdibenbplnaa", sum := "790a8ece3801e467d2ea2a964b66e9a774c470cbdd79e60a95cfd949bca3e314", func := "loop.example/mailhost/laws.FnExactQueueAdd", spec := "fnExactQueueAdd", unfollowed := true, recurses := true, apart := false }
def FnExactQueueAddSaid : Prop := fnExactQueueAddRow.holds Try.pinned (OpenSpec.ofChange fnExactQueueAddSpec)

/-- ITS FALSE NEIGHBOUR: 'it returns false'. Refute it at one input. -/
def fnExactQueueAddWrong : ChangeSpec := { name := "fnExactQueueAdd", fn := fun _ => fun
  | [d1, d2] => { results := [.lit (.bool false)], args := [d1, d2] }
  | _ => none }
def FnExactQueueAddWrongFalsely : Prop := fnExactQueueAddRow.holds Try.pinned (OpenSpec.ofChange fnExactQueueAddWrong)

/-- 'laws.FnExactQueueTake': WHATEVER THE INPUT: true; the input reads as it did. -/
def fnExactQueueTakeSpec : ChangeSpec := { name := "fnExactQueueTake", fn := fun _ => fun
  | [d1, d2, d3] => { results := [.lit (.bool true)], args := [d1, d2, d3] }
  | _ => none }
def fnExactQueueTakeRow : OpenClaim := { program := "ytinbdibenbplnaa", sum := "790a8ece3801e467d2ea2a964b66e9a774c470cbdd79e60a95cfd949bca3e314", func := "loop.example/mailhost/laws.FnExactQueueTake", spec := "fnExactQueueTake", unfollowed := true, recurses := true, apart := false }
def FnExactQueueTakeSaid : Prop := fnExactQueueTakeRow.holds Try.pinned (OpenSpec.ofChange fnExactQueueTakeSpec)

/-- ITS FALSE NEIGHBOUR: 'it returns false'. Refute it at one input. -/
def fnExactQueueTakeWrong : ChangeSpec := { name := "fnExactQueueTake", fn := fun _ => fun
  | [d1, d2, d3] => { results := [.lit (.bool false)], args := [d1, d2, d3] }
  | _ => none }
def FnExactQueueTakeWrongFalsely : Prop := fnExactQueueTakeRow.holds Try.pinned (OpenSpec.ofChange fnExactQueueTakeWrong)

/- THE SECOND FORM. 'bulk': how many values and letters a reading holds, each counted each time it is reached (what is shared counts as often as it is met; a slice's spare places count too). A statement '..UptoSaid' is the law's where the arguments, and the package variables that the reading takes, are together of bulk at most 1048576: NARROWER than '..Said'. Prove '..Said' where nothing that the law and all that it calls make is longer than what came in: it says more and counts as full. Else prove '..UptoSaid'. A law counts once. -/
mutual
def uptoBulk {H : Type} : DataW H → Nat
  | .lit (.string bytes) => bytes.length + 1
  | .lit _ => 1
  | .nil => 1
  | .ptr d => uptoBulk d + 1
  | .slice elems spare => uptoBulkAll elems + uptoBulkAll spare + 1
  | .agg parts => uptoBulkAll parts + 1
  | .iface _ d => uptoBulk d + 1
  | .map entries => uptoBulkEntries entries + 1
  | .held _ => 1
def uptoBulkAll {H : Type} : List (DataW H) → Nat
  | [] => 0
  | d :: r => uptoBulk d + uptoBulkAll r
def uptoBulkEntries {H : Type} : List (Lit × DataW H) → Nat
  | [] => 0
  | x :: r => uptoBulkEntry x + uptoBulkEntries r
def uptoBulkEntry {H : Type} : Lit × DataW H → Nat
  | (.string bytes, d) => bytes.length + uptoBulk d + 1
  | (_, d) => uptoBulk d + 1
 end
def uptoSmall : (H : Type) → List (DataW H) → Bool := fun _ ds => decide (uptoBulkAll ds ≤ 1048576)
def OpenSpec.upto (s : _root_.Go.ChangeSpec) : _root_.Go.OpenSpec := { _root_.Go.OpenSpec.ofChange s with cond := some uptoSmall }

/-- 'laws.FnLetterPart', WHERE WHAT IT READS IS OF BULK AT MOST 1048576: true; the input reads as it did. -/
def fnLetterPartUptoRow : OpenClaim := { program := "ytinbdibenbplnaa", sum := "790a8ece3801e467d2ea2a964b66e9a774c470cbdd79e60a95cfd949bca3e314", func := "loop.example/mailhost/laws.FnLetterPart", spec := "fnLetterPart", apart := false, narrowed := true }
def FnLetterPartUptoSaid : Prop := fnLetterPartUptoRow.holds Try.pinned (OpenSpec.upto fnLetterPartSpec)

/-- 'laws.FnQueueAdd', WHERE WHAT IT READS IS OF BULK AT MOST 1048576: true; the input reads as it did. -/
def fnQueueAddUptoRow : OpenClaim := { program := "ytinbdibenbplnaa", sum := "790a8ece3801e467d2ea2a964b66e9a774c470cbdd79e60a95cfd949bca3e314", func := "loop.example/mailhost/laws.FnQueueAdd", spec := "fnQueueAdd", unfollowed := true, recurses := true, apart := false, narrowed := true }
def FnQueueAddUptoSaid : Prop := fnQueueAddUptoRow.holds Try.pinned (OpenSpec.upto fnQueueAddSpec)

/-- 'laws.FnQueueAddOld', WHERE WHAT IT READS IS OF BULK AT MOST 1048576: true; the input reads as it did. -/
def fnQueueAddOldUptoRow : OpenClaim := { program := "ytinbdibenbplnaa", sum := "790a8ece3801e467d2ea2a964b66e9a774c470cbdd79e60a95cfd949bca3e314", func := "loop.example/mailhost/laws.FnQueueAddOld", spec := "fnQueueAddOld", unfollowed := true, recurses := true, apart := false, narrowed := true }
def FnQueueAddOldUptoSaid : Prop := fnQueueAddOldUptoRow.holds Try.pinned (OpenSpec.upto fnQueueAddOldSpec)

/-- 'laws.FnQueueAddLeft', WHERE WHAT IT READS IS OF BULK AT MOST 1048576: true; the input reads as it did. -/
def fnQueueAddLeftUptoRow : OpenClaim := { program := "ytinbdibenbplnaa", sum := "790a8ece3801e467d2ea2a964b66e9a774c470cbdd79e60a95cfd949bca3e314", func := "loop.example/mailhost/laws.FnQueueAddLeft", spec := "fnQueueAddLeft", unfollowed := true, recurses := true, apart := false, narrowed := true }
def FnQueueAddLeftUptoSaid : Prop := fnQueueAddLeftUptoRow.holds Try.pinned (OpenSpec.upto fnQueueAddLeftSpec)

/-- 'laws.FnQueueFull', WHERE WHAT IT READS IS OF BULK AT MOST 1048576: true; the input reads as it did. -/
def fnQueueFullUptoRow : OpenClaim := { program := "ytinbdibenbplnaa", sum := "790a8ece3801e467d2ea2a964b66e9a774c470cbdd79e60a95cfd949bca3e314", func := "loop.example/mailhost/laws.FnQueueFull", spec := "fnQueueFull", unfollowed := true, recurses := true, apart := false, narrowed := true }
def FnQueueFullUptoSaid : Prop := fnQueueFullUptoRow.holds Try.pinned (OpenSpec.upto fnQueueFullSpec)

/-- 'laws.FnTake', WHERE WHAT IT READS IS OF BULK AT MOST 1048576: true; the input reads as it did. -/
def fnTakeUptoRow : OpenClaim := { program := "ytinbdibenbplnaa", sum := "790a8ece3801e467d2ea2a964b66e9a774c470cbdd79e60a95cfd949bca3e314", func := "loop.example/mailhost/laws.FnTake", spec := "fnTake", unfollowed := true, recurses := true, apart := false, narrowed := true }
def FnTakeUptoSaid : Prop := fnTakeUptoRow.holds Try.pinned (OpenSpec.upto fnTakeSpec)

/-- 'laws.FnTakeText', WHERE WHAT IT READS IS OF BULK AT MOST 1048576: true; the input reads as it did. -/
def fnTakeTextUptoRow : OpenClaim := { program := "ytinbdibenbplnaa", sum := "790a8ece3801e467d2ea2a964b66e9a774c470cbdd79e60a95cfd949bca3e314", func := "loop.example/mailhost/laws.FnTakeText", spec := "fnTakeText", unfollowed := true, recurses := true, apart := false, narrowed := true }
def FnTakeTextUptoSaid : Prop := fnTakeTextUptoRow.holds Try.pinned (OpenSpec.upto fnTakeTextSpec)

/-- 'laws.FnTakeOthers', WHERE WHAT IT READS IS OF BULK AT MOST 1048576: true; the input reads as it did. -/
def fnTakeOthersUptoRow : OpenClaim := { program := "ytinbdibenbplnaa", sum := "790a8ece3801e467d2ea2a964b66e9a774c470cbdd79e60a95cfd949bca3e314", func := "loop.example/mailhost/laws.FnTakeOthers", spec := "fnTakeOthers", unfollowed := true, recurses := true, apart := false, narrowed := true }
def FnTakeOthersUptoSaid : Prop := fnTakeOthersUptoRow.holds Try.pinned (OpenSpec.upto fnTakeOthersSpec)

/-- 'laws.FnTakeNone', WHERE WHAT IT READS IS OF BULK AT MOST 1048576: true; the input reads as it did. -/
def fnTakeNoneUptoRow : OpenClaim := { program := "ytinbdibenbplnaa", sum := "790a8ece3801e467d2ea2a964b66e9a774c470cbdd79e60a95cfd949bca3e314", func := "loop.example/mailhost/laws.FnTakeNone", spec := "fnTakeNone", unfollowed := true, recurses := true, apart := false, narrowed := true }
def FnTakeNoneUptoSaid : Prop := fnTakeNoneUptoRow.holds Try.pinned (OpenSpec.upto fnTakeNoneSpec)

/-- 'laws.FnTakeAll', WHERE WHAT IT READS IS OF BULK AT MOST 1048576: true; the input reads as it did. -/
def fnTakeAllUptoRow : OpenClaim := { program := "ytinbdibenbplnaa", sum := "790a8ece3801e467d2ea2a964b66e9a774c470cbdd79e60a95cfd949bca3e314", func := "loop.example/mailhost/laws.FnTakeAll", spec := "fnTakeAll", unfollowed := true, recurses := true, apart := false, narrowed := true }
def FnTakeAllUptoSaid : Prop := fnTakeAllUptoRow.holds Try.pinned (OpenSpec.upto fnTakeAllSpec)

/-- 'laws.FnLeft', WHERE WHAT IT READS IS OF BULK AT MOST 1048576: true; the input reads as it did. -/
def fnLeftUptoRow : OpenClaim := { program := "ytinbdibenbplnaa", sum := "790a8ece3801e467d2ea2a964b66e9a774c470cbdd79e60a95cfd949bca3e314", func := "loop.example/mailhost/laws.FnLeft", spec := "fnLeft", apart := false, narrowed := true }
def FnLeftUptoSaid : Prop := fnLeftUptoRow.holds Try.pinned (OpenSpec.upto fnLeftSpec)

/-- 'laws.FnQueuePart', WHERE WHAT IT READS IS OF BULK AT MOST 1048576: true; the input reads as it did. -/
def fnQueuePartUptoRow : OpenClaim := { program := "ytinbdibenbplnaa", sum := "790a8ece3801e467d2ea2a964b66e9a774c470cbdd79e60a95cfd949bca3e314", func := "loop.example/mailhost/laws.FnQueuePart", spec := "fnQueuePart", apart := false, narrowed := true }
def FnQueuePartUptoSaid : Prop := fnQueuePartUptoRow.holds Try.pinned (OpenSpec.upto fnQueuePartSpec)

/-- 'laws.FnExactQueueAdd', WHERE WHAT IT READS IS OF BULK AT MOST 1048576: true; the input reads as it did. -/
def fnExactQueueAddUptoRow : OpenClaim := { program := "ytinbdibenbplnaa", sum := "790a8ece3801e467d2ea2a964b66e9a774c470cbdd79e60a95cfd949bca3e314", func := "loop.example/mailhost/laws.FnExactQueueAdd", spec := "fnExactQueueAdd", unfollowed := true, recurses := true, apart := false, narrowed := true }
def FnExactQueueAddUptoSaid : Prop := fnExactQueueAddUptoRow.holds Try.pinned (OpenSpec.upto fnExactQueueAddSpec)

/-- 'laws.FnExactQueueTake', WHERE WHAT IT READS IS OF BULK AT MOST 1048576: true; the input reads as it did. -/
def fnExactQueueTakeUptoRow : OpenClaim := { program := "ytinbdibenbplnaa", sum := "790a8ece3801e467d2ea2a964b66e9a774c470cbdd79e60a95cfd949bca3e314", func := "loop.example/mailhost/laws.FnExactQueueTake", spec := "fnExactQueueTake", unfollowed := true, recurses := true, apart := false, narrowed := true }
def FnExactQueueTakeUptoSaid : Prop := fnExactQueueTakeUptoRow.holds Try.pinned (OpenSpec.upto fnExactQueueTakeSpec)

end Rows
end Go.Proofs.Ytinbdibenbplnaa
