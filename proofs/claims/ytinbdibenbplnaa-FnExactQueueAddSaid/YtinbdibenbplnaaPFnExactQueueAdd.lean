/- At every input the law FnExactQueueAdd of the code returns true and leaves its arguments as they were. Conditions: those of the given row, and none of its own. -/
import Derived.Test.YtinbdibenbplnaaRows
import Derived.Test.YtinbdibenbplnaaQi
import Derived.Test.YtinbdibenbplnaaIqc
import Derived.WalkKit
import Derived.ProofKit
import Derived.OpenShut
import Derived.ShutString
import Derived.ChangeOld
import Derived.Below
import Derived.Lib.SmallJoins
namespace Go.Proofs.Ytinbdibenbplnaa.fnExactQueueAdd
open Go.ChangeShapes Go.WideShapes Go.ChangeAt Go.RowKit Go.Joins
open Go.ChangeMaps (open_string shut_string)
set_option linter.unusedVariables false

theorem own : ownKnob Try.prog.godebug = none := by kernel_rfl
theorem laidOut : laidOutB Try.prog = true := by kernel_rfl
theorem cellsQ : Try.prog.cellsOf 54 = 2 := by kernel_rfl
theorem cellsL : Try.prog.cellsOf 55 = 3 := by kernel_rfl

set_option maxRecDepth 100000 in
theorem lifted (os : Os) (started : os.Started) (H : Type) (enc : TypeId × Value → H) :
    ReturnsInHanded {} Try.checked os 15 .any (Rows.fnExactQueueAddSpec.pre6 enc Try.prog Try.f15 Rows.fnExactQueueAddRow.domain false) (Rows.fnExactQueueAddSpec.post enc Try.prog Try.f15 false true false false) := by
  refine returnsInHanded_of_change (C := Try.checked) own started (by kernel_rfl) Try.func15
    (ChangeSpec.witness6 (enc := enc) (C := Try.checked) false ⟨#[], #[.agg #[.int .i64 0, .slice none 0 0], .agg #[.string ByteArray.empty, .slice none 0 0, .string ByteArray.empty]], []⟩ 8 (by kernel_rfl) (by kernel_rfl) (by kernel_rfl) (by kernel_rfl)) ?_
  intro W base args ds gs before hval0 hW hcnd _
  have hval : ∀ (j : Nat) t v, Try.f15.params[j]? = some t → args[j]? = some v → Value.okWide Try.prog W .any base t v := hval0
  have hW' := hW
  obtain ⟨p, q, hA0, hV, rfl, hfz, hnd⟩ := hW
  have hA : DataW.TrodAll enc Try.prog W 0 (fun _ => true) true Try.f15.params.toList args.toList ds p := hA0
  rw [Try.params15] at hA hval
  obtain ⟨v0, vs0, d0, ds0, p0, q0, hargs, rfl, rfl, h0, r0⟩ := trodAll_cons hA
  obtain ⟨v1, vs1, d1, ds1, p1, q1, rfl, rfl, rfl, h1, r1⟩ := trodAll_cons r0
  obtain ⟨rfl, rfl, rfl⟩ := trodAll_nil r1
  obtain rfl : args = #[v0, v1] := by cases args; simp_all
  obtain ⟨rfl, rfl⟩ := trodVars_none hV
  have k0 := h0
  have lt0 : ∀ x ∈ p0, x.block < W.heap.size := by obtain ⟨m, hm⟩ := k0; exact DataW.trod_lt m _ _ _ hm
  obtain ⟨c0, e0, y0, z0, m0, rfl, hd0, hp0, hy0, hz0⟩ := open_agg2 Try.underlying54 (by kernel_rfl) cellsQ (hval 0 54 v0 rfl rfl) h0
  obtain ⟨u0, eu0, _, wu0⟩ := DataW.trod_int Try.underlying3 hy0
  obtain ⟨a0, len0, cap0, ex0, w0⟩ := open_items hz0
  simp only [List.cons.injEq, and_true] at eu0 ex0
  subst eu0
  subst ex0
  have k1 := h1
  have lt1 : ∀ x ∈ p1, x.block < W.heap.size := by obtain ⟨m, hm⟩ := k1; exact DataW.trod_lt m _ _ _ hm
  obtain ⟨c1, e1, g1, y1, z1, x1, m1, rfl, hd1, hp1, hy1, hz1, hx1⟩ := open_agg3 Try.underlying55 (by kernel_rfl) cellsL (hval 1 55 v1 rfl rfl) h1
  obtain ⟨us1, eus1, _, wus1⟩ := DataW.trod_string Try.underlying9 hy1
  obtain ⟨a1, len1, cap1, ex1, w1⟩ := open_strs hz1
  obtain ⟨tx1, etx1, _, wtx1⟩ := DataW.trod_string Try.underlying9 hx1
  simp only [List.cons.injEq, and_true] at eus1 ex1 etx1
  subst eus1
  subst ex1
  subst etx1
  clear hA0 hval0
  refine (law_FnExactQueueAdd u0 a0 len0 cap0 us1 a1 len1 cap1 tx1 W w0 wus1 w1 wtx1).mono fun e W' ⟨he, bel⟩ => ?_
  subst he
  exact ⟨_, rfl, _, _, _, [], _, [], hW', trodAll_mk1 (shut_bool Try.underlying4 _), (trodAll_cons_mk (Below.trod laidOut (by kernel_rfl) (of_decide_eq_true (by kernel_rfl)) k0 bel lt0) (trodAll_cons_mk (Below.trod laidOut (by kernel_rfl) (of_decide_eq_true (by kernel_rfl)) k1 bel lt1) trodAll_mk0)), rfl, bel.frame _, fun h => by cases h⟩

theorem closedFacts : joinedFacts Try.prog 15 Try.f15 Rows.fnExactQueueAddSpec Rows.fnExactQueueAddRow = true := by
  unfold joinedFacts
  rw [enter_eq, lifts_eq, make_eq]
  kernel_rfl
theorem over : Rows.fnExactQueueAddRow.holds Try.pinned (OpenSpec.ofChange Rows.fnExactQueueAddSpec) :=
  OpenClaim.holds_of_wide 15 Try.f15 rfl rfl rfl rfl rfl rfl rfl ⟨rfl, rfl, rfl, rfl, rfl⟩ rfl rfl rfl rfl rfl (by kernel_rfl) Try.func15 closedFacts
    (of_decide_eq_true (by kernel_rfl)) (by unfold Func.isWrapper; first | (rw [if_pos (by decide +kernel)]; kernel_rfl) | (rw [if_neg (by decide +kernel)]; exact ⟨rfl, rfl⟩))
    (fun os started H enc _ => lifted os started H enc)

theorem proved : Rows.FnExactQueueAddSaid := over
end Go.Proofs.Ytinbdibenbplnaa.fnExactQueueAdd
