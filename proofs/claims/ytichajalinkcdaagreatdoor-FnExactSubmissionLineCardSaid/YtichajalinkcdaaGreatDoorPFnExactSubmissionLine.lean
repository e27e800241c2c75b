/- At every input the law FnExactSubmissionLine of the code returns true and leaves its arguments as they were. Conditions: those of the given row, and none of its own. -/
import Derived.Test.YtichajalinkcdaaGreatDoorRows
import Derived.Test.YtichajalinkcdaaGreatDoorCards
import Derived.Test.YtichajalinkcdaaGreatDoorTie
import Derived.Test.YtichajalinkcdaaGreatDoorWu
import Derived.Test.YtichajalinkcdaaGreatDoorZxFnExactSubmissionLine
import Derived.Test.YtichajalinkcdaaGreatDoorQk
import Derived.Test.YtichajalinkcdaaGreatDoorZue
import Derived.OpenVars
import Derived.WalkKit
import Derived.Handed
import Derived.LaidLaws
import Derived.LaidMore
import Derived.ChangeVars
import Derived.SevenTiedAt
import Derived.ProofKit
import Derived.OpenShut
import Derived.ShutString
import Derived.Lay
import Derived.ChangeOld
import Derived.Below
import Derived.Lib.SmallJoins
namespace Go.Proofs.YtichajalinkcdaaGreatDoor.fnExactSubmissionLine
open Go.ChangeShapes Go.WideShapes Go.ChangeAt Go.RowKit Go.Joins
open Go.ChangeMaps (open_string shut_string)
set_option linter.unusedVariables false

theorem own : ownKnob Tryz.prog.godebug = none := by kernel_rfl
theorem cellsV : Tryz.prog.cellsOf 40 = 4 := by kernel_rfl
theorem laidOut : laidOutB Tryz.prog = true := by kernel_rfl

set_option maxRecDepth 100000 in
theorem lifted (os : Os) (started : os.Started) (H : Type) (enc : TypeId × Value → H) :
    ReturnsInHanded {} Tryz.checked os 20 .any (fun w args => (Rows.fnExactSubmissionLineSpec.pre enc Tryz.prog Tryz.f20 Rows.fnExactSubmissionLineRow.domain false w args ∧ laidMetH Tryz.prog Rows.fnExactSubmissionLineRow.laid w) ∧ sizedMet enc Tryz.prog Tryz.f20 (OpenSpec.ofChange Rows.fnExactSubmissionLineSpec) false w args)
      (Rows.fnExactSubmissionLineSpec.post enc Tryz.prog Tryz.f20 false true false false) := by
  refine returnsInHanded_of_calls (C := Tryz.checked) own started (by kernel_rfl)
    (ChangeSpec.witness_shaped (enc := enc) (C := Tryz.checked) (os := os) (X := fun w _ => laidMetH Tryz.prog Rows.fnExactSubmissionLineRow.laid w) false (World.laidAll Tryz.prog os Rows.fnExactSubmissionLineRow.laid) #[.agg #[.int .i64 0, .string ByteArray.empty, .slice none 0 0, .string ByteArray.empty], .slice none 0 0, .string ByteArray.empty, .string ByteArray.empty] 8 (World.laidAll_os _ _ _)
      (World.shaped_of_ZipB (by kernel_rfl) (by kernel_rfl)) (by kernel_rfl) (by kernel_rfl) (by kernel_rfl)
      (by rw [MakeChecks.laidMetH_plain _ _ _ (by kernel_rfl)]; exact laidMet_laidAll _ (by kernel_rfl) (by kernel_rfl))) ?_
  intro wz tape inp _ hshape _ hok hpre _
  obtain ⟨_, _, _, fn, hfn, _, _, _, _, hval0⟩ := hok
  obtain rfl : fn = Tryz.f20 := Option.some.inj (hfn.symm.trans Tryz.func20)
  obtain ⟨⟨⟨ds, gs, before, hW0, hcnd⟩, hlaid0⟩, hz⟩ := hpre
  have hW := DataW.Whole.of_heap (w' := wz.forCall tape inp) (by rfl) hW0
  have hlaid : laidMetH Tryz.prog Rows.fnExactSubmissionLineRow.laid (wz.forCall tape inp) := hlaid0.of_heap (by rfl)
  have hmx : MxS (wz.forCall tape inp) := mxs_of hshape
  suffices hc : Calls Tryz.prog 20 inp.args (wz.forCall tape inp) fun e W' => ∃ v, e = .returned v ∧ Rows.fnExactSubmissionLineSpec.post enc Tryz.prog Tryz.f20 false true false false (wz.forCall tape inp) inp.args v W' from
    hc.mono fun e W' ⟨v, he, hp⟩ => by
      subst he
      exact ChangeSpec.post_blind hp
  clear hW0 hlaid0 hz hshape
  obtain ⟨W, hWW⟩ : ∃ W, wz.forCall tape inp = W := ⟨_, rfl⟩
  obtain ⟨args, hAA⟩ : ∃ args, inp.args = args := ⟨_, rfl⟩
  rw [hWW] at hval0 hW hlaid hmx ⊢
  rw [hAA] at hval0 hW ⊢
  clear hWW hAA
  have hval : ∀ (j : Nat) t v, Tryz.f20.params[j]? = some t → args[j]? = some v → Value.okWide Tryz.prog W .any _ t v := hval0
  have hW' := hW
  obtain ⟨p, q, hA0, hV, rfl, hfz, hnd⟩ := hW
  have hA : DataW.TrodAll enc Tryz.prog W 0 (fun _ => true) true Tryz.f20.params.toList args.toList ds p := hA0
  rw [Tryz.params20] at hA hval
  obtain ⟨v0, vs0, d0, ds0, p0, q0, hargs, rfl, rfl, h0, r0⟩ := trodAll_cons hA
  obtain ⟨v1, vs1, d1, ds1, p1, q1, rfl, rfl, rfl, h1, r1⟩ := trodAll_cons r0
  obtain ⟨v2, vs2, d2, ds2, p2, q2, rfl, rfl, rfl, h2, r2⟩ := trodAll_cons r1
  obtain ⟨v3, vs3, d3, ds3, p3, q3, rfl, rfl, rfl, h3, r3⟩ := trodAll_cons r2
  obtain ⟨rfl, rfl, rfl⟩ := trodAll_nil r3
  obtain rfl : args = #[v0, v1, v2, v3] := by cases args; simp_all
  obtain ⟨rfl, rfl⟩ := trodVars_none hV
  have k0 := h0
  have lt0 : ∀ x ∈ p0, x.block < W.heap.size := by obtain ⟨m, hm⟩ := k0; exact DataW.trod_lt m _ _ _ hm
  obtain ⟨ce0, c0, e0, g0, ye0, y0, z0, x0, m0, rfl, hd0, hp0, hye0, hy0, hz0, hx0⟩ := open_agg4 Tryz.underlying40 (by kernel_rfl) cellsV (hval 0 40 v0 rfl rfl) h0
  obtain ⟨st0, est0, _, _⟩ := DataW.trod_int Tryz.underlying3 hye0
  obtain ⟨us0, eus0, _, wus0⟩ := DataW.trod_string Tryz.underlying9 hy0
  obtain ⟨a0, len0, cap0, ex0, w0⟩ := open_strs hz0
  obtain ⟨tx0, etx0, _, wtx0⟩ := DataW.trod_string Tryz.underlying9 hx0
  simp only [List.cons.injEq, and_true] at est0 eus0 ex0 etx0
  subst est0
  subst eus0
  subst ex0
  subst etx0
  have k1 := h1
  have lt1 : ∀ x ∈ p1, x.block < W.heap.size := by obtain ⟨m, hm⟩ := k1; exact DataW.trod_lt m _ _ _ hm
  obtain ⟨a1, len1, cap1, rfl⟩ := okWide_slice Tryz.underlying41 (hval 1 41 v1 rfl rfl)
  have w1 : UsArg W a1 len1 cap1 := by
    obtain ⟨fuel, hf⟩ := h1
    obtain ⟨A, l, c, hcs, hw⟩ := open_users hf
    simp [Value.cells] at hcs
    obtain ⟨rfl, rfl, rfl⟩ := hcs
    exact hw
  have k2 := h2
  have lt2 : ∀ x ∈ p2, x.block < W.heap.size := by obtain ⟨m, hm⟩ := k2; exact DataW.trod_lt m _ _ _ hm
  obtain ⟨a2, rfl, rfl, rfl, w2⟩ := open_string Tryz.underlying9 (hval 2 9 v2 rfl rfl) h2
  have k3 := h3
  have lt3 : ∀ x ∈ p3, x.block < W.heap.size := by obtain ⟨m, hm⟩ := k3; exact DataW.trod_lt m _ _ _ hm
  obtain ⟨a3, rfl, rfl, rfl, w3⟩ := open_string Tryz.underlying9 (hval 3 9 v3 rfl rfl) h3
  clear hA0 hval0
  refine (law_FnExactSubmissionLine st0 us0 a0 len0 cap0 tx0 a1 len1 cap1 a2 a3 W wus0 w0 wtx0 w1 w2 w3 hmx).mono fun e W' ⟨he, bel⟩ => ?_
  subst he
  exact ⟨_, rfl, _, _, _, [], _, [], hW', trodAll_mk1 (shut_bool Tryz.underlying4 _), (trodAll_cons_mk (Below.trod laidOut (by kernel_rfl) (of_decide_eq_true (by kernel_rfl)) k0 bel lt0) (trodAll_cons_mk (Below.trod laidOut (by kernel_rfl) (of_decide_eq_true (by kernel_rfl)) k1 bel lt1) (trodAll_cons_mk (Below.trod laidOut (by kernel_rfl) (of_decide_eq_true (by kernel_rfl)) k2 bel lt2) (trodAll_cons_mk (Below.trod laidOut (by kernel_rfl) (of_decide_eq_true (by kernel_rfl)) k3 bel lt3) trodAll_mk0)))), rfl, bel.frame _, fun h => by cases h⟩

theorem closedFacts : joinedFacts Tryz.prog 20 Tryz.f20 Rows.fnExactSubmissionLineSpec Rows.fnExactSubmissionLineRow = true := by
  unfold joinedFacts
  rw [enter_eq, lifts_eq, make_eq]
  kernel_rfl
theorem over : Rows.fnExactSubmissionLineRow.holds Tryz.pinned (OpenSpec.ofChange Rows.fnExactSubmissionLineSpec) :=
  OpenClaim.holds_of_wide 20 Tryz.f20 rfl rfl rfl rfl rfl rfl rfl ⟨rfl, rfl, rfl, rfl, rfl⟩ rfl rfl rfl rfl rfl (by kernel_rfl) Tryz.func20 closedFacts
    (of_decide_eq_true (by kernel_rfl)) (by unfold Func.isWrapper; first | (rw [if_pos (by decide +kernel)]; kernel_rfl) | (rw [if_neg (by decide +kernel)]; exact ⟨rfl, rfl⟩))
    (fun os started H enc _ => lifted os started H enc)

theorem card : Rows.FnExactSubmissionLineCardSaid :=
  Claim7.holds_tied_plain_at .later [] [.data, .pinned] true Rows.fnExactSubmissionLineCard.stood.harness false
    over (fun _ h => by cases h) c_wf_FnExactSubmissionLine (fun _ h => by cases h) fnExactSubmissionLine_row_tie rfl ⟨rfl, rfl⟩ c_main rfl
    (fun f fn hf hfn => by
      obtain rfl : f = 20 := Option.some.inj ((show Tryz.prog.funcNamed Rows.fnExactSubmissionLineRow.func = some 20 by kernel_rfl).symm.trans hf) |>.symm
      obtain rfl : fn = Tryz.f20 := (Option.some.inj (Tryz.func20.symm.trans hfn)).symm
      exact ⟨c_looks, fun j t ht => by
        rw [Tryz.params20] at ht
        have hm : t ∈ [40, 41, 9, 9] := by
          have h2 := Array.mem_of_getElem? ht
          simpa using h2
        simp only [List.mem_cons, List.not_mem_nil, or_false] at hm
        rcases hm with rfl | rfl | rfl | rfl
        · exact (show Tryz.prog.wantsStandIn 40 = false by kernel_rfl)
        · exact (show Tryz.prog.wantsStandIn 41 = false by kernel_rfl)
        · exact (show Tryz.prog.wantsStandIn 9 = false by kernel_rfl)
        · exact (show Tryz.prog.wantsStandIn 9 = false by kernel_rfl)⟩)
    c_goes_FnExactSubmissionLine

theorem proved : Rows.FnExactSubmissionLineCardSaid := card
end Go.Proofs.YtichajalinkcdaaGreatDoor.fnExactSubmissionLine
