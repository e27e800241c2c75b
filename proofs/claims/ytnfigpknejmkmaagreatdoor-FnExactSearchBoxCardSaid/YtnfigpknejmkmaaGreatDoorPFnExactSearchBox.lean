/- At every input the law FnExactSearchBox of the code returns true and leaves its arguments as they were. Conditions: those of the given row, and none of its own. -/
import Derived.Test.YtnfigpknejmkmaaGreatDoorRows
import Derived.Test.YtnfigpknejmkmaaGreatDoorCards
import Derived.Test.YtnfigpknejmkmaaGreatDoorTie
import Derived.Test.YtnfigpknejmkmaaGreatDoorKpc
import Derived.Test.YtnfigpknejmkmaaGreatDoorKxFnExactSearchBox
import Derived.Test.YtnfigpknejmkmaaGreatDoorHeadl
import Derived.Test.YtnfigpknejmkmaaGreatDoorKdo
import Derived.OpenVars
import Derived.WalkKit
import Derived.Handed
import Derived.LaidLaws
import Derived.LaidMore
import Derived.ChangeVars
import Derived.SevenTiedAt
import Derived.ProofKit
import Derived.OpenShut
import Derived.ShutString
import Derived.Lay
import Derived.ChangeOld
import Derived.Below
import Derived.Lib.SmallJoins
namespace Go.Proofs.YtnfigpknejmkmaaGreatDoor.fnExactSearchBox
open Go.ChangeShapes Go.WideShapes Go.ChangeAt Go.RowKit Go.Joins
open Go.ChangeMaps (open_string shut_string)
set_option linter.unusedVariables false

theorem own : ownKnob Tryz.prog.godebug = none := by kernel_rfl
theorem laidOut : laidOutB Tryz.prog = true := by kernel_rfl
theorem cellsX : Tryz.prog.cellsOf 37 = 2 := by kernel_rfl

set_option maxRecDepth 100000 in
theorem lifted (os : Os) (started : os.Started) (H : Type) (enc : TypeId × Value → H) :
    ReturnsInHanded {} Tryz.checked os 6 .any (fun w args => (Rows.fnExactSearchBoxSpec.pre enc Tryz.prog Tryz.f6 Rows.fnExactSearchBoxRow.domain false w args ∧ laidMetH Tryz.prog Rows.fnExactSearchBoxRow.laid w) ∧ sizedMet enc Tryz.prog Tryz.f6 (OpenSpec.ofChange Rows.fnExactSearchBoxSpec) false w args)
      (Rows.fnExactSearchBoxSpec.post enc Tryz.prog Tryz.f6 false true false false) := by
  refine returnsInHanded_of_calls (C := Tryz.checked) own started (by kernel_rfl)
    (ChangeSpec.witness_shaped (enc := enc) (C := Tryz.checked) (os := os) (X := fun w _ => laidMetH Tryz.prog Rows.fnExactSearchBoxRow.laid w) false (World.laidAll Tryz.prog os Rows.fnExactSearchBoxRow.laid) #[.agg #[.int .i64 0, .slice none 0 0], .agg #[.int .i64 0, .int .i64 0, .string ByteArray.empty, .slice none 0 0, .slice none 0 0]] 8 (World.laidAll_os _ _ _)
      (World.shaped_of_ZipB (by kernel_rfl) (by kernel_rfl)) (by kernel_rfl) (by kernel_rfl) (by kernel_rfl)
      (by rw [MakeChecks.laidMetH_plain _ _ _ (by kernel_rfl)]; exact laidMet_laidAll _ (by kernel_rfl) (by kernel_rfl))) ?_
  intro wz tape inp _ hshape _ hok hpre _
  obtain ⟨_, _, _, fn, hfn, _, _, _, _, hval0⟩ := hok
  obtain rfl : fn = Tryz.f6 := Option.some.inj (hfn.symm.trans Tryz.func6)
  obtain ⟨⟨⟨ds, gs, before, hW0, hcnd⟩, hlaid0⟩, hz⟩ := hpre
  have hW := DataW.Whole.of_heap (w' := wz.forCall tape inp) (by rfl) hW0
  have hlaid : laidMetH Tryz.prog Rows.fnExactSearchBoxRow.laid (wz.forCall tape inp) := hlaid0.of_heap (by rfl)
  have hmx : MxL (wz.forCall tape inp) := mxl_of hshape
  suffices hc : Calls Tryz.prog 6 inp.args (wz.forCall tape inp) fun e W' => ∃ v, e = .returned v ∧ Rows.fnExactSearchBoxSpec.post enc Tryz.prog Tryz.f6 false true false false (wz.forCall tape inp) inp.args v W' from
    hc.mono fun e W' ⟨v, he, hp⟩ => by
      subst he
      exact ChangeSpec.post_blind hp
  clear hW0 hlaid0 hz hshape
  obtain ⟨W, hWW⟩ : ∃ W, wz.forCall tape inp = W := ⟨_, rfl⟩
  obtain ⟨args, hAA⟩ : ∃ args, inp.args = args := ⟨_, rfl⟩
  rw [hWW] at hval0 hW hlaid hmx ⊢
  rw [hAA] at hval0 hW ⊢
  clear hWW hAA
  obtain ⟨hshp, hlst⟩ := laid_tables hlaid
  have hval : ∀ (j : Nat) t v, Tryz.f6.params[j]? = some t → args[j]? = some v → Value.okWide Tryz.prog W .any _ t v := hval0
  have hW' := hW
  obtain ⟨p, q, hA0, hV, rfl, hfz, hnd⟩ := hW
  have hA : DataW.TrodAll enc Tryz.prog W 0 (fun _ => true) true Tryz.f6.params.toList args.toList ds p := hA0
  rw [Tryz.params6] at hA hval
  obtain ⟨v0, vs0, d0, ds0, p0, q0, hargs, rfl, rfl, h0, r0⟩ := trodAll_cons hA
  obtain ⟨v1, vs1, d1, ds1, p1, q1, rfl, rfl, rfl, h1, r1⟩ := trodAll_cons r0
  obtain ⟨rfl, rfl, rfl⟩ := trodAll_nil r1
  obtain rfl : args = #[v0, v1] := by cases args; simp_all
  obtain ⟨gv, gk, rfl⟩ := two_vars hV
  have k0 := h0
  have lt0 : ∀ x ∈ p0, x.block < W.heap.size := by obtain ⟨m, hm⟩ := k0; exact DataW.trod_lt m _ _ _ hm
  have k1 := h1
  have lt1 : ∀ x ∈ p1, x.block < W.heap.size := by obtain ⟨m, hm⟩ := k1; exact DataW.trod_lt m _ _ _ hm
  obtain ⟨c0, e0, y0, z0, m0, rfl, hd0, hp0, hy0, hz0⟩ := open_agg2 Tryz.underlying37 (by kernel_rfl) cellsX (hval 0 37 v0 rfl rfl) h0
  obtain ⟨u0, eu0, _, wu0⟩ := DataW.trod_int Tryz.underlying3 hy0
  obtain ⟨a0, len0, cap0, ex0, w0⟩ := open_mails hz0
  simp only [List.cons.injEq, and_true] at eu0 ex0
  subst eu0
  subst ex0
  obtain ⟨cs1, rfl, hsz1⟩ := okWide_struct Tryz.underlying41 (hval 1 41 v1 rfl rfl)
  have w1 : ∃ kt, KZ W kt (.agg cs1) := by
    obtain ⟨fuel, hf⟩ := h1
    obtain ⟨kt, hkt⟩ := open_keyz fuel hf
    exact ⟨kt, by simpa [Value.cells] using hkt⟩
  clear hA0 hval0
  refine (law_FnExactSearchBox u0 a0 len0 cap0 (.agg cs1) W w0 w1 hshp hlst hmx).mono fun e W' ⟨he, bel⟩ => ?_
  subst he
  exact ⟨_, rfl, _, _, _, [], _, _, hW', trodAll_mk1 (shut_bool Tryz.underlying4 _), (trodAll_cons_mk (Below.trod laidOut (by kernel_rfl) (of_decide_eq_true (by kernel_rfl)) k0 bel lt0) (trodAll_cons_mk (Below.trod laidOut (by kernel_rfl) (of_decide_eq_true (by kernel_rfl)) k1 bel lt1) trodAll_mk0)), bel.trodVars laidOut (by kernel_rfl) hV, bel.frame _, fun h => by cases h⟩

theorem closedFacts : joinedFacts Tryz.prog 6 Tryz.f6 Rows.fnExactSearchBoxSpec Rows.fnExactSearchBoxRow = true := by
  unfold joinedFacts
  rw [enter_eq, lifts_eq, make_eq]
  kernel_rfl
theorem over : Rows.fnExactSearchBoxRow.holds Tryz.pinned (OpenSpec.ofChange Rows.fnExactSearchBoxSpec) :=
  OpenClaim.holds_of_wide 6 Tryz.f6 rfl rfl rfl rfl rfl rfl rfl ⟨rfl, rfl, rfl, rfl, rfl⟩ rfl rfl rfl rfl rfl (by kernel_rfl) Tryz.func6 closedFacts
    (of_decide_eq_true (by kernel_rfl)) (by unfold Func.isWrapper; first | (rw [if_pos (by decide +kernel)]; kernel_rfl) | (rw [if_neg (by decide +kernel)]; exact ⟨rfl, rfl⟩))
    (fun os started H enc _ => lifted os started H enc)

theorem card : Rows.FnExactSearchBoxCardSaid :=
  Claim7.holds_tied_plain_at .later [] [.data, .data, .data, .pinned, .pinned] true Rows.fnExactSearchBoxCard.stood.harness true
    over (fun _ h => by cases h) c_wf_FnExactSearchBox (fun _ h => by cases h) fnExactSearchBox_row_tie rfl ⟨rfl, rfl⟩ c_main_FnExactSearchBox rfl
    (fun f fn hf hfn => by
      obtain rfl : f = 6 := Option.some.inj ((show Tryz.prog.funcNamed Rows.fnExactSearchBoxRow.func = some 6 by kernel_rfl).symm.trans hf) |>.symm
      obtain rfl : fn = Tryz.f6 := (Option.some.inj (Tryz.func6.symm.trans hfn)).symm
      exact ⟨c_looks_FnExactSearchBox, fun j t ht => by
        rw [Tryz.params6] at ht
        have hm : t ∈ [37, 41] := by
          have h2 := Array.mem_of_getElem? ht
          simpa using h2
        simp only [List.mem_cons, List.not_mem_nil, or_false] at hm
        rcases hm with rfl | rfl
        · exact (show Tryz.prog.wantsStandIn 37 = false by kernel_rfl)
        · exact (show Tryz.prog.wantsStandIn 41 = false by kernel_rfl)⟩)
    c_goes_FnExactSearchBox

theorem proved : Rows.FnExactSearchBoxCardSaid := card
end Go.Proofs.YtnfigpknejmkmaaGreatDoor.fnExactSearchBox
