/-
  No cell of these rows narrows 'for every input' (looked for: loops, veiled, ifaces, maps, wideKeys, modest, calm, conditions, laid).
  DERIVED. THE GIVEN ROWS OF THIS SEAT. 12 by the template 'for every input the law returns true; each argument reads behind the call as it read before'; 0 by the template 'total and deterministic' (their statements: YtmangdkaklnpdaaTotals.lean).
  GIVEN WITH THE SEED: the statements are not yours to turn. If you find one false, say at which input.
  Laid BY PROGRAM, IN A SANDBOX (cutbox-rows.mjs): the forced cells as the released guide's own fill.sh prints them over the translation 48ffecd70820dda3… (all of the seat's roots in one cut). By AI agents, Wed Nov 11 2026. No macro, syntax, notation, axiom, sorry.
-/
import Derived.Test.YtmangdkaklnpdaaChecked
import GoSem.Claim
import GoSem.ClaimJoined
import GoSem.ClaimMapViews
import Derived.JoinedTies
import Derived.KernelRfl
namespace Go.Proofs.Ytmangdkaklnpdaa
/- THE CELL 'sum', in the pinned program and in every row, IS THE sha256 OF THE DUMP (.gsa) THAT YtmangdkaklnpdaaProg.lean LOADS. Nothing in Lean hashes anything: it is a label: what it is worth is what the hold of that sum in a sandbox is worth. -/
noncomputable def Try.pinned : Pinned := { name := "ytmangdkaklnpdaa", sum := "48ffecd70820dda37c9dc5b9501ace9694c0b6e111b82aabfda60e8070d4dd9f", checked := Try.checked }
namespace Rows
def none {H : Type} : Left H := { results := [], args := [] }

/-- 'laws.FnFind': WHATEVER THE INPUT: true; the input reads as it did. -/
def fnFindSpec : ChangeSpec := { name := "fnFind", fn := fun _ => fun
  | [d] => { results := [.lit (.bool true)], args := [d] }
  | _ => none }
def fnFindRow : OpenClaim := { program := "ytmangdkaklnpdaa", sum := "48ffecd70820dda37c9dc5b9501ace9694c0b6e111b82aabfda60e8070d4dd9f", func := "loop.example/mailhost/laws.FnFind", spec := "fnFind", unfollowed := true, recurses := true, apart := false }
def FnFindSaid : Prop := fnFindRow.holds Try.pinned (OpenSpec.ofChange fnFindSpec)

/-- ITS FALSE NEIGHBOUR: 'it returns false'. Refute it at one input. -/
def fnFindWrong : ChangeSpec := { name := "fnFind", fn := fun _ => fun
  | [d] => { results := [.lit (.bool false)], args := [d] }
  | _ => none }
def FnFindWrongFalsely : Prop := fnFindRow.holds Try.pinned (OpenSpec.ofChange fnFindWrong)

/-- 'laws.FnFindAll': WHATEVER THE INPUT: true; the input reads as it did. -/
def fnFindAllSpec : ChangeSpec := { name := "fnFindAll", fn := fun _ => fun
  | [d] => { results := [.lit (.bool true)], args := [d] }
  | _ => none }
def fnFindAllRow : OpenClaim := { program := "ytmangdkaklnpdaa", sum := "48ffecd70820dda37c9dc5b9501ace9694c0b6e111b82aabfda60e8070d4dd9f", func := "loop.example/mailhost/laws.FnFindAll", spec := "fnFindAll", unfollowed := true, recurses := true, apart := false }
def FnFindAllSaid : Prop := fnFindAllRow.holds Try.pinned (OpenSpec.ofChange fnFindAllSpec)

/-- ITS FALSE NEIGHBOUR: 'it returns false'. Refute it at one input. -/
def fnFindAllWrong : ChangeSpec := { name := "fnFindAll", fn := fun _ => fun
  | [d] => { results := [.lit (.bool false)], args := [d] }
  | _ => none }
def FnFindAllWrongFalsely : Prop := fnFindAllRow.holds Try.pinned (OpenSpec.ofChange fnFindAllWrong)

/-- 'laws.FnUsersPart': WHATEVER THE INPUT: true; the input reads as it did. -/
def fnUsersPartSpec : ChangeSpec := { name := "fnUsersPart", fn := fun _ => fun
  | [d1, d2] => { results := [.lit (.bool true)], args := [d1, d2] }
  | _ => none }
def fnUsersPartRow : OpenClaim := { program := "ytmangdkaklnpdaa", sum := "48ffecd70820dda37c9dc5b9501ace9694c0b6e111b82aabfda60e8070d4dd9f", func := "loop.example/mailhost/laws.FnUsersPart", spec := "fnUsersPart", apart := false }
def FnUsersPartSaid : Prop := fnUsersPartRow.holds Try.pinned (OpenSpec.ofChange fnUsersPartSpec)

/-- ITS FALSE NEIGHBOUR: 'it returns false'. Refute it at one input. -/
def fnUsersPartWrong : ChangeSpec := { name := "fnUsersPart", fn := fun _ => fun
  | [d1, d2] => { results := [.lit (.bool false)], args := [d1, d2] }
  | _ => none }
def FnUsersPartWrongFalsely : Prop := fnUsersPartRow.holds Try.pinned (OpenSpec.ofChange fnUsersPartWrong)

/-- 'laws.FnUsersAnyone': WHATEVER THE INPUT: true; the input reads as it did. -/
def fnUsersAnyoneSpec : ChangeSpec := { name := "fnUsersAnyone", fn := fun _ => fun
  | [d] => { results := [.lit (.bool true)], args := [d] }
  | _ => none }
def fnUsersAnyoneRow : OpenClaim := { program := "ytmangdkaklnpdaa", sum := "48ffecd70820dda37c9dc5b9501ace9694c0b6e111b82aabfda60e8070d4dd9f", func := "loop.example/mailhost/laws.FnUsersAnyone", spec := "fnUsersAnyone", apart := false }
def FnUsersAnyoneSaid : Prop := fnUsersAnyoneRow.holds Try.pinned (OpenSpec.ofChange fnUsersAnyoneSpec)

/-- ITS FALSE NEIGHBOUR: 'it returns false'. Refute it at one input. -/
def fnUsersAnyoneWrong : ChangeSpec := { name := "fnUsersAnyone", fn := fun _ => fun
  | [d] => { results := [.lit (.bool false)], args := [d] }
  | _ => none }
def FnUsersAnyoneWrongFalsely : Prop := fnUsersAnyoneRow.holds Try.pinned (OpenSpec.ofChange fnUsersAnyoneWrong)

/-- 'laws.FnProve': WHATEVER THE INPUT: true; the input reads as it did. -/
def fnProveSpec : ChangeSpec := { name := "fnProve", fn := fun _ => fun
  | [d] => { results := [.lit (.bool true)], args := [d] }
  | _ => none }
def fnProveRow : OpenClaim := { program := "ytmangdkaklnpdaa", sum := "48ffecd70820dda37c9dc5b9501ace9694c0b6e111b82aabfda60e8070d4dd9f", func := "loop.example/mailhost/laws.FnProve", spec := "fnProve", unfollowed := true, recurses := true, apart := false }
def FnProveSaid : Prop := fnProveRow.holds Try.pinned (OpenSpec.ofChange fnProveSpec)

/-- ITS FALSE NEIGHBOUR: 'it returns false'. Refute it at one input. -/
def fnProveWrong : ChangeSpec := { name := "fnProve", fn := fun _ => fun
  | [d] => { results := [.lit (.bool false)], args := [d] }
  | _ => none }
def FnProveWrongFalsely : Prop := fnProveRow.holds Try.pinned (OpenSpec.ofChange fnProveWrong)

/-- 'laws.FnProveOther': WHATEVER THE INPUT: true; the input reads as it did. -/
def fnProveOtherSpec : ChangeSpec := { name := "fnProveOther", fn := fun _ => fun
  | [d] => { results := [.lit (.bool true)], args := [d] }
  | _ => none }
def fnProveOtherRow : OpenClaim := { program := "ytmangdkaklnpdaa", sum := "48ffecd70820dda37c9dc5b9501ace9694c0b6e111b82aabfda60e8070d4dd9f", func := "loop.example/mailhost/laws.FnProveOther", spec := "fnProveOther", unfollowed := true, recurses := true, apart := false }
def FnProveOtherSaid : Prop := fnProveOtherRow.holds Try.pinned (OpenSpec.ofChange fnProveOtherSpec)

/-- ITS FALSE NEIGHBOUR: 'it returns false'. Refute it at one input. -/
def fnProveOtherWrong : ChangeSpec := { name := "fnProveOther", fn := fun _ => fun
  | [d] => { results := [.lit (.bool false)], args := [d] }
  | _ => none }
def FnProveOtherWrongFalsely : Prop := fnProveOtherRow.holds Try.pinned (OpenSpec.ofChange fnProveOtherWrong)

/-- 'laws.FnPlain': WHATEVER THE INPUT: true; the input reads as it did. -/
def fnPlainSpec : ChangeSpec := { name := "fnPlain", fn := fun _ => fun
  | [d] => { results := [.lit (.bool true)], args := [d] }
  | _ => none }
def fnPlainRow : OpenClaim := { program := "ytmangdkaklnpdaa", sum := "48ffecd70820dda37c9dc5b9501ace9694c0b6e111b82aabfda60e8070d4dd9f", func := "loop.example/mailhost/laws.FnPlain", spec := "fnPlain", inPlace := ["internal/abi.NoEscape", "internal/bytealg.IndexByteString"], unfollowed := true, recurses := true, apart := false }
def FnPlainSaid : Prop := fnPlainRow.holds Try.pinned (OpenSpec.ofChange fnPlainSpec)

/-- ITS FALSE NEIGHBOUR: 'it returns false'. Refute it at one input. -/
def fnPlainWrong : ChangeSpec := { name := "fnPlain", fn := fun _ => fun
  | [d] => { results := [.lit (.bool false)], args := [d] }
  | _ => none }
def FnPlainWrongFalsely : Prop := fnPlainRow.holds Try.pinned (OpenSpec.ofChange fnPlainWrong)

/-- 'laws.FnPlainUser': WHATEVER THE INPUT: true; the input reads as it did. -/
def fnPlainUserSpec : ChangeSpec := { name := "fnPlainUser", fn := fun _ => fun
  | [d] => { results := [.lit (.bool true)], args := [d] }
  | _ => none }
def fnPlainUserRow : OpenClaim := { program := "ytmangdkaklnpdaa", sum := "48ffecd70820dda37c9dc5b9501ace9694c0b6e111b82aabfda60e8070d4dd9f", func := "loop.example/mailhost/laws.FnPlainUser", spec := "fnPlainUser", inPlace := ["internal/bytealg.IndexByteString", "internal/abi.NoEscape"], unfollowed := true, recurses := true, apart := false }
def FnPlainUserSaid : Prop := fnPlainUserRow.holds Try.pinned (OpenSpec.ofChange fnPlainUserSpec)

/-- ITS FALSE NEIGHBOUR: 'it returns false'. Refute it at one input. -/
def fnPlainUserWrong : ChangeSpec := { name := "fnPlainUser", fn := fun _ => fun
  | [d] => { results := [.lit (.bool false)], args := [d] }
  | _ => none }
def FnPlainUserWrongFalsely : Prop := fnPlainUserRow.holds Try.pinned (OpenSpec.ofChange fnPlainUserWrong)

/-- 'laws.FnExactUsersValid': WHATEVER THE INPUT: true; the input reads as it did. -/
def fnExactUsersValidSpec : ChangeSpec := { name := "fnExactUsersValid", fn := fun _ => fun
  | [d] => { results := [.lit (.bool true)], args := [d] }
  | _ => none }
def fnExactUsersValidRow : OpenClaim := { program := "ytmangdkaklnpdaa", sum := "48ffecd70820dda37c9dc5b9501ace9694c0b6e111b82aabfda60e8070d4dd9f", func := "loop.example/mailhost/laws.FnExactUsersValid", spec := "fnExactUsersValid", apart := false }
def FnExactUsersValidSaid : Prop := fnExactUsersValidRow.holds Try.pinned (OpenSpec.ofChange fnExactUsersValidSpec)

/-- ITS FALSE NEIGHBOUR: 'it returns false'. Refute it at one input. -/
def fnExactUsersValidWrong : ChangeSpec := { name := "fnExactUsersValid", fn := fun _ => fun
  | [d] => { results := [.lit (.bool false)], args := [d] }
  | _ => none }
def FnExactUsersValidWrongFalsely : Prop := fnExactUsersValidRow.holds Try.pinned (OpenSpec.ofChange fnExactUsersValidWrong)

/-- 'laws.FnExactUsersFind': WHATEVER THE INPUT: true; the input reads as it did. -/
def fnExactUsersFindSpec : ChangeSpec := { name := "fnExactUsersFind", fn := fun _ => fun
  | [d1, d2] => { results := [.lit (.bool true)], args := [d1, d2] }
  | _ => none }
def fnExactUsersFindRow : OpenClaim := { program := "ytmangdkaklnpdaa", sum := "48ffecd70820dda37c9dc5b9501ace9694c0b6e111b82aabfda60e8070d4dd9f", func := "loop.example/mailhost/laws.FnExactUsersFind", spec := "fnExactUsersFind", unfollowed := true, recurses := true, apart := false }
def FnExactUsersFindSaid : Prop := fnExactUsersFindRow.holds Try.pinned (OpenSpec.ofChange fnExactUsersFindSpec)

/-- ITS FALSE NEIGHBOUR: 'it returns false'. Refute it at one input. -/
def fnExactUsersFindWrong : ChangeSpec := { name := "fnExactUsersFind", fn := fun _ => fun
  | [d1, d2] => { results := [.lit (.bool false)], args := [d1, d2] }
  | _ => none }
def FnExactUsersFindWrongFalsely : Prop := fnExactUsersFindRow.holds Try.pinned (OpenSpec.ofChange fnExactUsersFindWrong)

/-- 'laws.FnExactUsersProve': WHATEVER THE INPUT: true; the input reads as it did. -/
def fnExactUsersProveSpec : ChangeSpec := { name := "fnExactUsersProve", fn := fun _ => fun
  | [d1, d2, d3] => { results := [.lit (.bool true)], args := [d1, d2, d3] }
  | _ => none }
def fnExactUsersProveRow : OpenClaim := { program := "ytmangdkaklnpdaa", sum := "48ffecd70820dda37c9dc5b9501ace9694c0b6e111b82aabfda60e8070d4dd9f", func := "loop.example/mailhost/laws.FnExactUsersProve", spec := "fnExactUsersProve", unfollowed := true, recurses := true, apart := false }
def FnExactUsersProveSaid : Prop := fnExactUsersProveRow.holds Try.pinned (OpenSpec.ofChange fnExactUsersProveSpec)

/-- ITS FALSE NEIGHBOUR: 'it returns false'. Refute it at one input. -/
def fnExactUsersProveWrong : ChangeSpec := { name := "fnExactUsersProve", fn := fun _ => fun
  | [d1, d2, d3] => { results := [.lit (.bool false)], args := [d1, d2, d3] }
  | _ => none }
def FnExactUsersProveWrongFalsely : Prop := fnExactUsersProveRow.holds Try.pinned (OpenSpec.ofChange fnExactUsersProveWrong)

/-- 'laws.FnExactUsersPlain': WHATEVER THE INPUT: true; the input reads as it did. -/
def fnExactUsersPlainSpec : ChangeSpec := { name := "fnExactUsersPlain", fn := fun _ => fun
  | [d1, d2] => { results := [.lit (.bool true)], args := [d1, d2] }
  | _ => none }
def fnExactUsersPlainRow : OpenClaim := { program := "ytmangdkaklnpdaa", sum := "48ffecd70820dda37c9dc5b9501ace9694c0b6e111b82aabfda60e8070d4dd9f", func := "loop.example/mailhost/laws.FnExactUsersPlain", spec := "fnExactUsersPlain", inPlace := ["internal/bytealg.IndexByteString", "internal/abi.NoEscape"], unfollowed := true, recurses := true, apart := false }
def FnExactUsersPlainSaid : Prop := fnExactUsersPlainRow.holds Try.pinned (OpenSpec.ofChange fnExactUsersPlainSpec)

/-- ITS FALSE NEIGHBOUR: 'it returns false'. Refute it at one input. -/
def fnExactUsersPlainWrong : ChangeSpec := { name := "fnExactUsersPlain", fn := fun _ => fun
  | [d1, d2] => { results := [.lit (.bool false)], args := [d1, d2] }
  | _ => none }
def FnExactUsersPlainWrongFalsely : Prop := fnExactUsersPlainRow.holds Try.pinned (OpenSpec.ofChange fnExactUsersPlainWrong)

/- THE SECOND FORM. 'bulk': how many values and letters a reading holds, each counted each time it is reached (what is shared counts as often as it is met; a slice's spare places count too). A statement '..UptoSaid' is the law's where the arguments, and the package variables that the reading takes, are together of bulk at most 1048576: NARROWER than '..Said'. Prove '..Said' where nothing that the law and all that it calls make is longer than what came in: it says more and counts as full. Else prove '..UptoSaid'. A law counts once. -/
mutual
def uptoBulk {H : Type} : DataW H → Nat
  | .lit (.string bytes) => bytes.length + 1
  | .lit _ => 1
  | .nil => 1
  | .ptr d => uptoBulk d + 1
  | .slice elems spare => uptoBulkAll elems + uptoBulkAll spare + 1
  | .agg parts => uptoBulkAll parts + 1
  | .iface _ d => uptoBulk d + 1
  | .map entries => uptoBulkEntries entries + 1
  | .held _ => 1
def uptoBulkAll {H : Type} : List (DataW H) → Nat
  | [] => 0
  | d :: r => uptoBulk d + uptoBulkAll r
def uptoBulkEntries {H : Type} : List (Lit × DataW H) → Nat
  | [] => 0
  | x :: r => uptoBulkEntry x + uptoBulkEntries r
def uptoBulkEntry {H : Type} : Lit × DataW H → Nat
  | (.string bytes, d) => bytes.length + uptoBulk d + 1
  | (_, d) => uptoBulk d + 1
 end
def uptoSmall : (H : Type) → List (DataW H) → Bool := fun _ ds => decide (uptoBulkAll ds ≤ 1048576)
def OpenSpec.upto (s : _root_.Go.ChangeSpec) : _root_.Go.OpenSpec := { _root_.Go.OpenSpec.ofChange s with cond := some uptoSmall }

/-- 'laws.FnFind', WHERE WHAT IT READS IS OF BULK AT MOST 1048576: true; the input reads as it did. -/
def fnFindUptoRow : OpenClaim := { program := "ytmangdkaklnpdaa", sum := "48ffecd70820dda37c9dc5b9501ace9694c0b6e111b82aabfda60e8070d4dd9f", func := "loop.example/mailhost/laws.FnFind", spec := "fnFind", unfollowed := true, recurses := true, apart := false, narrowed := true }
def FnFindUptoSaid : Prop := fnFindUptoRow.holds Try.pinned (OpenSpec.upto fnFindSpec)

/-- 'laws.FnFindAll', WHERE WHAT IT READS IS OF BULK AT MOST 1048576: true; the input reads as it did. -/
def fnFindAllUptoRow : OpenClaim := { program := "ytmangdkaklnpdaa", sum := "48ffecd70820dda37c9dc5b9501ace9694c0b6e111b82aabfda60e8070d4dd9f", func := "loop.example/mailhost/laws.FnFindAll", spec := "fnFindAll", unfollowed := true, recurses := true, apart := false, narrowed := true }
def FnFindAllUptoSaid : Prop := fnFindAllUptoRow.holds Try.pinned (OpenSpec.upto fnFindAllSpec)

/-- 'laws.FnUsersPart', WHERE WHAT IT READS IS OF BULK AT MOST 1048576: true; the input reads as it did. -/
def fnUsersPartUptoRow : OpenClaim := { program := "ytmangdkaklnpdaa", sum := "48ffecd70820dda37c9dc5b9501ace9694c0b6e111b82aabfda60e8070d4dd9f", func := "loop.example/mailhost/laws.FnUsersPart", spec := "fnUsersPart", apart := false, narrowed := true }
def FnUsersPartUptoSaid : Prop := fnUsersPartUptoRow.holds Try.pinned (OpenSpec.upto fnUsersPartSpec)

/-- 'laws.FnUsersAnyone', WHERE WHAT IT READS IS OF BULK AT MOST 1048576: true; the input reads as it did. -/
def fnUsersAnyoneUptoRow : OpenClaim := { program := "ytmangdkaklnpdaa", sum := "48ffecd70820dda37c9dc5b9501ace9694c0b6e111b82aabfda60e8070d4dd9f", func := "loop.example/mailhost/laws.FnUsersAnyone", spec := "fnUsersAnyone", apart := false, narrowed := true }
def FnUsersAnyoneUptoSaid : Prop := fnUsersAnyoneUptoRow.holds Try.pinned (OpenSpec.upto fnUsersAnyoneSpec)

/-- 'laws.FnProve', WHERE WHAT IT READS IS OF BULK AT MOST 1048576: true; the input reads as it did. -/
def fnProveUptoRow : OpenClaim := { program := "ytmangdkaklnpdaa", sum := "48ffecd70820dda37c9dc5b9501ace9694c0b6e111b82aabfda60e8070d4dd9f", func := "loop.example/mailhost/laws.FnProve", spec := "fnProve", unfollowed := true, recurses := true, apart := false, narrowed := true }
def FnProveUptoSaid : Prop := fnProveUptoRow.holds Try.pinned (OpenSpec.upto fnProveSpec)

/-- 'laws.FnProveOther', WHERE WHAT IT READS IS OF BULK AT MOST 1048576: true; the input reads as it did. -/
def fnProveOtherUptoRow : OpenClaim := { program := "ytmangdkaklnpdaa", sum := "48ffecd70820dda37c9dc5b9501ace9694c0b6e111b82aabfda60e8070d4dd9f", func := "loop.example/mailhost/laws.FnProveOther", spec := "fnProveOther", unfollowed := true, recurses := true, apart := false, narrowed := true }
def FnProveOtherUptoSaid : Prop := fnProveOtherUptoRow.holds Try.pinned (OpenSpec.upto fnProveOtherSpec)

/-- 'laws.FnPlain', WHERE WHAT IT READS IS OF BULK AT MOST 1048576: true; the input reads as it did. -/
def fnPlainUptoRow : OpenClaim := { program := "ytmangdkaklnpdaa", sum := "48ffecd70820dda37c9dc5b9501ace9694c0b6e111b82aabfda60e8070d4dd9f", func := "loop.example/mailhost/laws.FnPlain", spec := "fnPlain", inPlace := ["internal/abi.NoEscape", "internal/bytealg.IndexByteString"], unfollowed := true, recurses := true, apart := false, narrowed := true }
def FnPlainUptoSaid : Prop := fnPlainUptoRow.holds Try.pinned (OpenSpec.upto fnPlainSpec)

/-- 'laws.FnPlainUser', WHERE WHAT IT READS IS OF BULK AT MOST 1048576: true; the input reads as it did. -/
def fnPlainUserUptoRow : OpenClaim := { program := "ytmangdkaklnpdaa", sum := "48ffecd70820dda37c9dc5b9501ace9694c0b6e111b82aabfda60e8070d4dd9f", func := "loop.example/mailhost/laws.FnPlainUser", spec := "fnPlainUser", inPlace := ["internal/bytealg.IndexByteString", "internal/abi.NoEscape"], unfollowed := true, recurses := true, apart := false, narrowed := true }
def FnPlainUserUptoSaid : Prop := fnPlainUserUptoRow.holds Try.pinned (OpenSpec.upto fnPlainUserSpec)

/-- 'laws.FnExactUsersValid', WHERE WHAT IT READS IS OF BULK AT MOST 1048576: true; the input reads as it did. -/
def fnExactUsersValidUptoRow : OpenClaim := { program := "ytmangdkaklnpdaa", sum := "48ffecd70820dda37c9dc5b9501ace9694c0b6e111b82aabfda60e8070d4dd9f", func := "loop.example/mailhost/laws.FnExactUsersValid", spec := "fnExactUsersValid", apart := false, narrowed := true }
def FnExactUsersValidUptoSaid : Prop := fnExactUsersValidUptoRow.holds Try.pinned (OpenSpec.upto fnExactUsersValidSpec)

/-- 'laws.FnExactUsersFind', WHERE WHAT IT READS IS OF BULK AT MOST 1048576: true; the input reads as it did. -/
def fnExactUsersFindUptoRow : OpenClaim := { program := "ytmangdkaklnpdaa", sum := "48ffecd70820dda37c9dc5b9501ace9694c0b6e111b82aabfda60e8070d4dd9f", func := "loop.example/mailhost/laws.FnExactUsersFind", spec := "fnExactUsersFind", unfollowed := true, recurses := true, apart := false, narrowed := true }
def FnExactUsersFindUptoSaid : Prop := fnExactUsersFindUptoRow.holds Try.pinned (OpenSpec.upto fnExactUsersFindSpec)

/-- 'laws.FnExactUsersProve', WHERE WHAT IT READS IS OF BULK AT MOST 1048576: true; the input reads as it did. -/
def fnExactUsersProveUptoRow : OpenClaim := { program := "ytmangdkaklnpdaa", sum := "48ffecd70820dda37c9dc5b9501ace9694c0b6e111b82aabfda60e8070d4dd9f", func := "loop.example/mailhost/laws.FnExactUsersProve", spec := "fnExactUsersProve", unfollowed := true, recurses := true, apart := false, narrowed := true }
def FnExactUsersProveUptoSaid : Prop := fnExactUsersProveUptoRow.holds Try.pinned (OpenSpec.upto fnExactUsersProveSpec)

/-- 'laws.FnExactUsersPlain', WHERE WHAT IT READS IS OF BULK AT MOST 1048576: true; the input reads as it did. -/
def fnExactUsersPlainUptoRow : OpenClaim := { program := "ytmangdkaklnpdaa", sum := "48ffecd70820dda37c9dc5b9501ace9694c0b6e111b82aabfda60e8070d4dd9f", func := "loop.example/mailhost/laws.FnExactUsersPlain", spec := "fnExactUsersPlain", inPlace := ["internal/bytealg.IndexByteString", "internal/abi.NoEscape"], unfollowed := true, recurses := true, apart := false, narrowed := true }
def FnExactUsersPlainUptoSaid : Prop := fnExactUsersPlainUptoRow.holds Try.pinned (OpenSpec.upto fnExactUsersPlainSpec)

end Rows
end Go.Proofs.Ytmangdkaklnpdaa
