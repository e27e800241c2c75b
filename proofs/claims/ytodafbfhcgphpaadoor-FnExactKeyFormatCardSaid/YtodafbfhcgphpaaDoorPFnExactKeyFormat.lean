/- At every input the law FnExactKeyFormat of the code returns true and leaves its arguments as they were. Conditions: those of the given row, and none of its own. -/
import Derived.Test.YtodafbfhcgphpaaDoorRows
import Derived.Test.YtodafbfhcgphpaaDoorCards
import Derived.Test.YtodafbfhcgphpaaDoorTie
import Derived.Test.YtodafbfhcgphpaaDoorKmm
import Derived.Test.YtodafbfhcgphpaaDoorKxFnExactKeyFormat
import Derived.Test.YtodafbfhcgphpaaDoorHeadl
import Derived.Test.YtodafbfhcgphpaaDoorKdo
import Derived.OpenVars
import Derived.WalkKit
import Derived.Handed
import Derived.LaidLaws
import Derived.LaidMore
import Derived.ChangeVars
import Derived.SevenTiedAt
import Derived.ProofKit
import Derived.OpenShut
import Derived.ShutString
import Derived.Lay
import Derived.ChangeOld
import Derived.Below
import Derived.Lib.SmallJoins
namespace Go.Proofs.YtodafbfhcgphpaaDoor.fnExactKeyFormat
open Go.ChangeShapes Go.WideShapes Go.ChangeAt Go.RowKit Go.Joins
open Go.ChangeMaps (open_string shut_string)
set_option linter.unusedVariables false

theorem own : ownKnob Tryd.prog.godebug = none := by kernel_rfl
theorem laidOut : laidOutB Tryd.prog = true := by kernel_rfl

set_option maxRecDepth 100000 in
theorem lifted (os : Os) (started : os.Started) (H : Type) (enc : TypeId × Value → H) :
    ReturnsInHanded {} Tryd.checked os 5 .any (fun w args => (Rows.fnExactKeyFormatSpec.pre enc Tryd.prog Tryd.f5 Rows.fnExactKeyFormatRow.domain false w args ∧ laidMetH Tryd.prog Rows.fnExactKeyFormatRow.laid w) ∧ sizedMet enc Tryd.prog Tryd.f5 (OpenSpec.ofChange Rows.fnExactKeyFormatSpec) false w args)
      (Rows.fnExactKeyFormatSpec.post enc Tryd.prog Tryd.f5 false true false false) := by
  refine returnsInHanded_of_calls (C := Tryd.checked) own started (by kernel_rfl)
    (ChangeSpec.witness_shaped (enc := enc) (C := Tryd.checked) (os := os) (X := fun w _ => laidMetH Tryd.prog Rows.fnExactKeyFormatRow.laid w) false (World.laidAll Tryd.prog os Rows.fnExactKeyFormatRow.laid) #[.agg #[.int .i64 0, .int .i64 0, .string ByteArray.empty, .slice none 0 0, .slice none 0 0]] 8 (World.laidAll_os _ _ _)
      (World.shaped_of_ZipB (by kernel_rfl) (by kernel_rfl)) (by kernel_rfl) (by kernel_rfl) (by kernel_rfl)
      (by rw [MakeChecks.laidMetH_plain _ _ _ (by kernel_rfl)]; exact laidMet_laidAll _ (by kernel_rfl) (by kernel_rfl))) ?_
  intro wz tape inp _ hshape _ hok hpre _
  obtain ⟨_, _, _, fn, hfn, _, _, _, _, hval0⟩ := hok
  obtain rfl : fn = Tryd.f5 := Option.some.inj (hfn.symm.trans Tryd.func5)
  obtain ⟨⟨⟨ds, gs, before, hW0, hcnd⟩, hlaid0⟩, hz⟩ := hpre
  have hW := DataW.Whole.of_heap (w' := wz.forCall tape inp) (by rfl) hW0
  have hlaid : laidMetH Tryd.prog Rows.fnExactKeyFormatRow.laid (wz.forCall tape inp) := hlaid0.of_heap (by rfl)
  suffices hc : Calls Tryd.prog 5 inp.args (wz.forCall tape inp) fun e W' => ∃ v, e = .returned v ∧ Rows.fnExactKeyFormatSpec.post enc Tryd.prog Tryd.f5 false true false false (wz.forCall tape inp) inp.args v W' from
    hc.mono fun e W' ⟨v, he, hp⟩ => by
      subst he
      exact ChangeSpec.post_blind hp
  clear hW0 hlaid0 hz hshape
  obtain ⟨W, hWW⟩ : ∃ W, wz.forCall tape inp = W := ⟨_, rfl⟩
  obtain ⟨args, hAA⟩ : ∃ args, inp.args = args := ⟨_, rfl⟩
  rw [hWW] at hval0 hW hlaid ⊢
  rw [hAA] at hval0 hW ⊢
  clear hWW hAA
  obtain ⟨hshp, hlst⟩ := laid_tables hlaid
  have hval : ∀ (j : Nat) t v, Tryd.f5.params[j]? = some t → args[j]? = some v → Value.okWide Tryd.prog W .any _ t v := hval0
  have hW' := hW
  obtain ⟨p, q, hA0, hV, rfl, hfz, hnd⟩ := hW
  have hA : DataW.TrodAll enc Tryd.prog W 0 (fun _ => true) true Tryd.f5.params.toList args.toList ds p := hA0
  rw [Tryd.params5] at hA hval
  obtain ⟨v0, vs0, d0, ds0, p0, q0, hargs, rfl, rfl, h0, r0⟩ := trodAll_cons hA
  obtain ⟨rfl, rfl, rfl⟩ := trodAll_nil r0
  obtain rfl : args = #[v0] := by cases args; simp_all
  obtain ⟨gv, gk, rfl⟩ := two_vars hV
  have k0 := h0
  have lt0 : ∀ x ∈ p0, x.block < W.heap.size := by obtain ⟨m, hm⟩ := k0; exact DataW.trod_lt m _ _ _ hm
  obtain ⟨cs0, rfl, hsz0⟩ := okWide_struct Tryd.underlying36 (hval 0 36 v0 rfl rfl)
  have w0 : ∃ kt, KZ W kt (.agg cs0) := by
    obtain ⟨fuel, hf⟩ := h0
    obtain ⟨kt, hkt⟩ := open_keyz fuel hf
    exact ⟨kt, by simpa [Value.cells] using hkt⟩
  clear hA0 hval0
  refine (law_FnExactKeyFormat (.agg cs0) W w0 hshp hlst).mono fun e W' ⟨he, bel⟩ => ?_
  subst he
  exact ⟨_, rfl, _, _, _, [], _, _, hW', trodAll_mk1 (shut_bool Tryd.underlying4 _), (trodAll_cons_mk (Below.trod laidOut (by kernel_rfl) (of_decide_eq_true (by kernel_rfl)) k0 bel lt0) trodAll_mk0), bel.trodVars laidOut (by kernel_rfl) hV, bel.frame _, fun h => by cases h⟩

theorem closedFacts : joinedFacts Tryd.prog 5 Tryd.f5 Rows.fnExactKeyFormatSpec Rows.fnExactKeyFormatRow = true := by
  unfold joinedFacts
  rw [enter_eq, lifts_eq, make_eq]
  kernel_rfl
theorem over : Rows.fnExactKeyFormatRow.holds Tryd.pinned (OpenSpec.ofChange Rows.fnExactKeyFormatSpec) :=
  OpenClaim.holds_of_wide 5 Tryd.f5 rfl rfl rfl rfl rfl rfl rfl ⟨rfl, rfl, rfl, rfl, rfl⟩ rfl rfl rfl rfl rfl (by kernel_rfl) Tryd.func5 closedFacts
    (of_decide_eq_true (by kernel_rfl)) (by unfold Func.isWrapper; first | (rw [if_pos (by decide +kernel)]; kernel_rfl) | (rw [if_neg (by decide +kernel)]; exact ⟨rfl, rfl⟩))
    (fun os started H enc _ => lifted os started H enc)

theorem card : Rows.FnExactKeyFormatCardSaid :=
  Claim7.holds_tied_plain_at .later [] [.data, .data, .data, .pinned, .pinned] true Rows.fnExactKeyFormatCard.stood.harness false
    over (fun _ h => by cases h) c_wf_FnExactKeyFormat (fun _ h => by cases h) fnExactKeyFormat_row_tie rfl ⟨rfl, rfl⟩ c_main_FnExactKeyFormat rfl
    (fun f fn hf hfn => by
      obtain rfl : f = 5 := Option.some.inj ((show Tryd.prog.funcNamed Rows.fnExactKeyFormatRow.func = some 5 by kernel_rfl).symm.trans hf) |>.symm
      obtain rfl : fn = Tryd.f5 := (Option.some.inj (Tryd.func5.symm.trans hfn)).symm
      exact ⟨c_looks_FnExactKeyFormat, fun j t ht => by
        rw [Tryd.params5] at ht
        have hm : t ∈ [36] := by
          have h2 := Array.mem_of_getElem? ht
          simpa using h2
        simp only [List.mem_cons, List.not_mem_nil, or_false] at hm
        rcases hm with rfl
        · exact (show Tryd.prog.wantsStandIn 36 = false by kernel_rfl)⟩)
    c_goes_FnExactKeyFormat

theorem proved : Rows.FnExactKeyFormatCardSaid := card
end Go.Proofs.YtodafbfhcgphpaaDoor.fnExactKeyFormat
