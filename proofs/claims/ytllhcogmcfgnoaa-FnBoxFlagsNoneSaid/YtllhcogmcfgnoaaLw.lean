/-
  The walks of the laws FnBoxFlagsNone. Condition: the code can be read.
-/
import Derived.Test.YtllhcogmcfgnoaaLu
import Derived.Test.YtllhcogmcfgnoaaTim
import Derived.BigQuiet
import Derived.Deep.RegionHeld3
import Derived.Outline
import Derived.Deep.RegionWith
import Derived.Deep.DeepCutAuto
namespace Go.Proofs.Ytllhcogmcfgnoaa
open Go.RowKit
set_option linter.unusedVariables false

/-- A slice of numbers of the call's own, in a world that keeps the early blocks. -/
def ApN (S : Nat) (w0 w : World) (v : Value) (L : List Int) : Prop := Below S w0 w ∧ ROwn intR w S v L
theorem ApN.lit {S : Nat} {w0 w : World} (h : Below S w0 w) (N : Nat) (hS : S ≤ w.heap.size) (hN : w.heap.size = N) : ApN S w0 (w.alloc (.cells #[] 3)) (.slice (some ⟨N, 0, none⟩) 0 0) [] := ⟨h.alloc hS _, ROwn.lit w N hS hN⟩
theorem ApN.alloc {S : Nat} {w0 w : World} {v : Value} {L : List Int} (h : ApN S w0 w v L) (hS : S ≤ w.heap.size) (o : Obj) : ApN S w0 (w.alloc o) v L := ⟨h.1.alloc hS o, h.2.alloc o⟩
theorem ApN.b {S : Nat} {w0 w : World} {v : Value} {L : List Int} (h : ApN S w0 w v L) : Below S w0 w := h.1
theorem ApN.o {S : Nat} {w0 w : World} {v : Value} {L : List Int} (h : ApN S w0 w v L) : ROwn intR w S v L := h.2
theorem one_num {w : World} {g : Nat} {x : Int} (h : Whole w g 3 #[.int .i64 x]) : IIn w (some ⟨g, 0, none⟩) 1 1 [x] := by
  refine ⟨rfl, by omega, ?_, (fun e => by cases e), (fun q e => by cases e; rfl)⟩
  intro i y hy
  match i, hy with
  | 0, hy =>
    cases hy
    refine ⟨g, 0, rfl, h.lt, fun j u hu => ?_⟩
    match j, hu with
    | 0, hu => cases hu; exact h.cell 0
    | j + 1, hu => simp [intR] at hu
  | i + 1, hy => simp at hy
theorem step_app_num {ops : Array Oper} {o : Oper} {a : Act} {K : Act → World → Prop} {Q : Exit → Act → World → Prop} {E : Prop} {w : World} (hg : o.guard = none) (s x : Operand)
    (ho : o.op = .call { callee := .builtin .append, args := #[s, x], argTypes := #[26, 26] }) {S : Nat} {w0 : World}
    (v : Value) (L M : List Int) (n : Nat) (hA : ApN S w0 w v L) (hw0 : w0.heap.size = S) (hn : L.length = n) (hs : a.eval s = v) (A : Option Addr) (m c : Nat) (hx : a.eval x = .slice A m c) (hM : IIn w A m c M) (hl : n + m ≤ 1000) (N : Nat) (hN : n + m = N)
    (h : ∀ A' c' w', ApN S w0 w' (.slice A' N c') (L ++ M) → w.grownBy w' v.ownBlock → w.heap.size ≤ w'.heap.size → K (a.put o.dst (.slice A' N c')) w') :
    if Region.wanted o (yielded ops a.tmps) = true then Oper.wp Try.prog o a w K Q else E := by
  obtain ⟨j0, hj, hp0, hp1, hp2⟩ := info_parts Try.infoNum
  have hS : S ≤ w.heap.size := hw0 ▸ hA.1.size
  refine step_append_rows hg s x 26 ho intR S j0 _ 8 Try.underlying26 hj hp0 hp1 hp2 rfl (by decide) v L M n hn hs hA.2 A m c hx hM.1 hM.2.2.1 hM.2.2.2.1 hM.2.2.2.2 (by unfold maxLen; omega) (by omega) hS ?_
  intro v' w' hown hgr _
  obtain ⟨A', N', c', rfl⟩ := hown.val
  have hN' : N' = N := by have := hown.len.1; rw [List.length_append, hn, hM.1] at this; omega
  subst hN'
  exact h A' c' w' ⟨hA.1.grown hgr hS (fun z hz => (World.ownsRow.lt hA.2 z hz).1), hown⟩ hgr hgr.size
theorem kp_wholeN {w : World} {D : Nat} {t : TypeId} {cs : Array Value} (h : Whole w D t cs) : Kp w fun w' => True ∧ Whole w' D t cs ∧ True := fun w2 h2 => ⟨trivial, h.below h2 h.lt, trivial⟩
theorem name_worldN {B : Nat} {a w : World} (h : Below B a w) : ∃ w2, w2 = w := ⟨w, rfl⟩
theorem fl_pre {n n2 : Int} {L L2 : List ML} {P : List Int} {h f : Int} (hr : bxFl n L P h f = (n2, L2, true)) : bxFl n L [] h f = (n, L, true) ∧ bxFl n L (P ++ [(L.length : Int) + 1]) h f = (0, [], false) ∧ ∃ n9 L9, bxFl n L (P ++ P) h f = (n9, L9, decide (P.length = 0)) ∧ L9.length ≤ L.length := by
  obtain ⟨h1, h2, h3, h4, -, -⟩ := bxFl_out hr
  refine ⟨?_, ?_, ?_⟩
  · rw [bxFl_of h1 (by rfl) h3 h4, flM_nil]
  · unfold bxFl
    rw [plc_past]
    simp
  · unfold bxFl
    rw [plc_twice]
    by_cases hp : P.length = 0
    · rw [decide_eq_true hp, h1, h3, h4]
      exact ⟨_, _, rfl, by rw [flM_len]; exact Nat.le_refl _⟩
    · rw [decide_eq_false hp]
      exact ⟨0, [], by simp, by simp⟩

section
variable {P : Program} {ops : Array Oper} {Q : Exit → Act → World → Prop} {md : Region.Mode} {C : World → Prop} {m : Nat}
/-- One of three comes up. -/
theorem wpLate_three {i k l : Nat} {o p q : Oper} {n : Nat} {listed : Array Bool} {a : Act} {w : World} (hr : Region.ready md ops listed = [i, k, l]) (ho : ops[i]? = some o) (hp : ops[k]? = some p) (hq : ops[l]? = some q)
    (h : ∀ K : Act → World → Prop, Shut (∀ a w, (i ≠ m → C w) → wpLate P md ops Q C m n (listed.setIfInBounds i true) a w → K a w) → if Region.wanted o (yielded ops a.tmps) = true then Oper.wp P o a w K Q else K (a.put o.dst undef) w)
    (h2 : ∀ K : Act → World → Prop, Shut (∀ a w, (k ≠ m → C w) → wpLate P md ops Q C m n (listed.setIfInBounds k true) a w → K a w) → if Region.wanted p (yielded ops a.tmps) = true then Oper.wp P p a w K Q else K (a.put p.dst undef) w)
    (h3 : ∀ K : Act → World → Prop, Shut (∀ a w, (l ≠ m → C w) → wpLate P md ops Q C m n (listed.setIfInBounds l true) a w → K a w) → if Region.wanted q (yielded ops a.tmps) = true then Oper.wp P q a w K Q else K (a.put q.dst undef) w) : wpLate P md ops Q C m (n + 1) listed a w := by
  refine ⟨fun h0 => (by rw [hr] at h0; cases h0), fun j hj => ?_⟩
  rw [hr] at hj
  simp only [List.mem_cons, List.not_mem_nil, or_false] at hj
  rcases hj with rfl | rfl | rfl
  · exact wpLate_step ho h
  · exact wpLate_step hp h2
  · exact wpLate_step hq h3
end
theorem step_app_sl {α : Type} {P : Program} {ops : Array Oper} {o : Oper} {a : Act} {K : Act → World → Prop} {Q : Exit → Act → World → Prop} {E : Prop} {w : World} (hg : o.guard = none) (s x : Operand) (t : TypeId)
    (ho : o.op = .call { callee := .builtin .append, args := #[s, x], argTypes := #[t, t] })
    (R : RowT α) (base : Nat) (i : TypeInfo) (z : Value) (bytes : Nat) (ht : P.underlying t = some (.slice R.t)) (hi : P.info? R.t = some i) (hz : i.zero = some z)
    (hsize : i.size = R.sz) (hby : i.bytes = bytes) (hzs : z.cells.size = R.sz) (hsz : 0 < R.sz)
    (v : Value) (L M : List α) (n : Nat) (hn : L.length = n) (hs : a.eval s = v) (hown : ROwn R w base v L)
    (A : Option Addr) (m c : Nat) (hx : a.eval x = .slice A m c) (hm : M.length = m) (hat : RAt R w A M) (hA : A = none → c = 0) (hsp : ∀ q, A = some q → q.spot = none)
    (h63 : n + m ≤ maxLen) (hbytes : (n + m) * bytes ≤ 140737488355328) (hbase : base ≤ w.heap.size)
    (h : ∀ A' N' c' w', ROwn R w' base (.slice A' N' c') (L ++ M) → w.grownBy w' v.ownBlock → K (a.put o.dst (.slice A' N' c')) w') :
    if Region.wanted o (yielded ops a.tmps) = true then Oper.wp P o a w K Q else E := by
  refine step_append_rows hg s x t ho R base i z bytes ht hi hz hsize hby hzs hsz v L M n hn hs hown A m c hx hm hat hA hsp h63 hbytes hbase ?_
  intro v' w' h1 h2 _
  obtain ⟨A', N', c', rfl⟩ := h1.val
  exact h A' N' c' w' h1 h2
set_option maxRecDepth 20000 in
set_option maxHeartbeats 20000000 in
theorem law_FnBoxFlagsNone (A : Option Addr) (len cap : Nat) (w : World) (h : Coded w A len cap) : Calls Try.prog 3 #[.slice A len cap] w (Holds1 w) := by
  have HC := Lib.hid h
  clear h
  by_cases hl : len ≤ 1048576
  · have hl' : (len : Int) ≤ 1048576 := by omega
    go_enter Try.func3, Try.ntmps3
    go_wp2_with fail
    refine (draw_bflags A len cap _ HC.out).mono ?_
    rintro e w1 ⟨n, A1, N1, cap1, L, AP, NP, capP, P, h, f, rfl, hN1, hNP, hn1, hn2, hown, hownI, hb⟩
    obtain ⟨⟨n2, L2, ok⟩, hr⟩ : ∃ r, bxFl n L P h f = r := ⟨_, rfl⟩
    have hL2 : L2.length ≤ 14 := by have h1 := bxFl_len hr; have h2 := hown.len.1; omega
    have HR := Lib.hid hr
    have HNL := Lib.hid hown.len.1
    have HNP := Lib.hid hownI.len.1
    clear hr
    obtain ⟨D1, hD1⟩ : ∃ D, w1.heap.size = D := ⟨_, rfl⟩
    have K1 := Lib.hid ((((((kp_start w).move hb).and (MIn.of hown (by omega)).keep).and (IIn.of hownI (by omega)).keep).alloc (.cells #[.int .i64 n, .slice A1 N1 cap1] 25)).and (kp_one w1 25 #[.int .i64 n, .slice A1 N1 cap1] hD1))
    clear hb hown hownI
    have zD10 := K1.out.here.2.2.1.cell 0
    have zD11 := K1.out.here.2.2.1.cell 1
    simp at zD10 zD11
    go_wp2_with fail
    refine (impl_flags_at HR.out A1 N1 cap1 AP NP capP _ K1.out.here.1.1.2 K1.out.here.1.2).mono ?_
    rintro e w2 ⟨A2, N2, cap2, rfl, hown, hb⟩
    have hN2 : N2 ≤ 14 := by have := hown.len.1; omega
    have HNL2 := Lib.hid hown.len.1
    obtain ⟨D2, hD2⟩ : ∃ D, w2.heap.size = D := ⟨_, rfl⟩
    have K2 := Lib.hid ((((K1.out.move hb).and (MIn.of hown (by omega)).keep).alloc (.cells #[.int .i64 n2, .slice A2 N2 cap2] 25)).and (kp_one w2 25 #[.int .i64 n2, .slice A2 N2 cap2] hD2))
    clear hb hown
    clear zD10 zD11
    have zD10 := K2.out.here.1.1.2.2.1.cell 0
    have zD11 := K2.out.here.1.1.2.2.1.cell 1
    have zD20 := K2.out.here.2.2.1.cell 0
    have zD21 := K2.out.here.2.2.1.cell 1
    simp at zD10 zD11 zD20 zD21
    go_wp2_with fail
    refine (spec_flags_at HR.out A1 N1 cap1 AP NP capP _ K2.out.here.1.1.1.1.2 K2.out.here.1.1.1.2).mono ?_
    rintro e w3 ⟨A3, N3, cap3, rfl, hown, hb⟩
    have hN3 : N3 ≤ 14 := by have := hown.len.1; omega
    obtain ⟨D3, hD3⟩ : ∃ D, w3.heap.size = D := ⟨_, rfl⟩
    have K3 := Lib.hid ((((K2.out.move hb).and (MIn.of hown (by omega)).keep).alloc (.cells #[.int .i64 n2, .slice A3 N3 cap3] 25)).and (kp_one w3 25 #[.int .i64 n2, .slice A3 N3 cap3] hD3))
    clear hb hown
    clear zD10 zD11 zD20 zD21
    have zD10 := K3.out.here.1.1.1.1.2.2.1.cell 0
    have zD11 := K3.out.here.1.1.1.1.2.2.1.cell 1
    have zD20 := K3.out.here.1.1.2.2.1.cell 0
    have zD21 := K3.out.here.1.1.2.2.1.cell 1
    have zD30 := K3.out.here.2.2.1.cell 0
    have zD31 := K3.out.here.2.2.1.cell 1
    simp at zD10 zD11 zD20 zD21 zD30 zD31
    cases ok with
    | false =>
      go_wp2_with fail
      refine (same_box_at (o := true) n2 n2 _ K3.out.here.1.1.1.2 K3.out.here.1.2 (by simp)).mono ?_
      rintro e w4 ⟨rfl, hb⟩
      have K4 := Lib.hid (K3.out.move hb)
      clear hb
      clear zD10 zD11 zD20 zD21 zD30 zD31
      have zD10 := K4.out.here.1.1.1.1.2.2.1.cell 0
      have zD11 := K4.out.here.1.1.1.1.2.2.1.cell 1
      have zD20 := K4.out.here.1.1.2.2.1.cell 0
      have zD21 := K4.out.here.1.1.2.2.1.cell 1
      have zD30 := K4.out.here.2.2.1.cell 0
      have zD31 := K4.out.here.2.2.1.cell 1
      simp at zD10 zD11 zD20 zD21 zD30 zD31
      go_wp2_with fail
      refine (same_box_at (o := true) n2 n2 _ K4.out.here.1.1.1.2 K4.out.here.1.2 (by simp)).mono ?_
      rintro e w5 ⟨rfl, hb⟩
      have K5 := Lib.hid (K4.out.move hb)
      clear hb
      clear zD10 zD11 zD20 zD21 zD30 zD31
      have zD10 := K5.out.here.1.1.1.1.2.2.1.cell 0
      have zD11 := K5.out.here.1.1.1.1.2.2.1.cell 1
      have zD20 := K5.out.here.1.1.2.2.1.cell 0
      have zD21 := K5.out.here.1.1.2.2.1.cell 1
      have zD30 := K5.out.here.2.2.1.cell 0
      have zD31 := K5.out.here.2.2.1.cell 1
      simp at zD10 zD11 zD20 zD21 zD30 zD31
      go_wp2
      go_ret
      exact ⟨rfl, K5.out.here.1.1.1.1.1.1.1⟩
    | true =>
      go_wp2_with fail
      refine (same_box_at (o := true) n2 n2 _ K3.out.here.1.1.1.2 K3.out.here.1.2 (by simp)).mono ?_
      rintro e w4 ⟨rfl, hb⟩
      have K4 := Lib.hid (K3.out.move hb)
      clear hb
      clear zD10 zD11 zD20 zD21 zD30 zD31
      have zD10 := K4.out.here.1.1.1.1.2.2.1.cell 0
      have zD11 := K4.out.here.1.1.1.1.2.2.1.cell 1
      have zD20 := K4.out.here.1.1.2.2.1.cell 0
      have zD21 := K4.out.here.1.1.2.2.1.cell 1
      have zD30 := K4.out.here.2.2.1.cell 0
      have zD31 := K4.out.here.2.2.1.cell 1
      simp at zD10 zD11 zD20 zD21 zD30 zD31
      obtain ⟨hx1, hx2, n9, L9, hx3, hx4⟩ := fl_pre HR.out
      rw [← HNL.out] at hx2 hx4
      rw [← HNP.out] at hx3
      obtain ⟨tw, htw⟩ : ∃ b, decide (NP = 0) = b := ⟨_, rfl⟩
      have hz0 : ((NP : Int) == 0) = tw := by
        rw [← htw]
        by_cases h : NP = 0
        · rw [decide_eq_true h]; simp; omega
        · rw [decide_eq_false h]; exact beq_eq_false_iff_ne.2 (by omega)
      have htt : (tw == tw) = true := by simp
      rw [htw] at hx3
      obtain ⟨n1, hn1e⟩ : ∃ q, N1 + 1 = q := ⟨_, rfl⟩
      have E1 : (N1 : Int) + 1 = (n1 : Int) := by omega
      have W1 : IntKind.i64.wrap ((N1 : Int) + 1) = (n1 : Int) := (IntWalk.i64_in _ (by omega)).trans E1
      have W2 : IntKind.i64.wrap (n1 : Int) = (n1 : Int) := IntWalk.i64_in _ (by omega)
      rw [E1] at hx2
      have HX1 := Lib.hid hx1
      have HX2 := Lib.hid hx2
      have HX3 := Lib.hid hx3
      have HL0 : Hid (([] : List ML).length ≤ 20) := by show _ ≤ _; simp
      have HL9 : Hid (L9.length ≤ 20) := by show _ ≤ _; omega
      have hNPb : NP ≤ 15 := by omega
      clear hx1 hx2 hx3 hx4 htw hn1e
      obtain ⟨S0, hS0⟩ : ∃ S, w4.heap.size = S := ⟨_, rfl⟩
      have K5 := Lib.hid (K4.out.alloc (.cells #[] 3))
      have ya5D10 := K5.out.here.1.1.1.1.2.2.1.cell 0
      simp at ya5D10
      have ya5D11 := K5.out.here.1.1.1.1.2.2.1.cell 1
      simp at ya5D11
      have ya5D20 := K5.out.here.1.1.2.2.1.cell 0
      simp at ya5D20
      have ya5D21 := K5.out.here.1.1.2.2.1.cell 1
      simp at ya5D21
      have ya5D30 := K5.out.here.2.2.1.cell 0
      simp at ya5D30
      have ya5D31 := K5.out.here.2.2.1.cell 1
      simp at ya5D31
      go_wp2_with fail
      refine (impl_flags_at HX1.out A1 N1 cap1 (some ⟨S0, 0, none⟩) 0 0 _ K5.out.here.1.1.1.1.1.1.2 ⟨rfl, by omega, RAt.nil _ _, (fun e => by cases e), (fun q e => by cases e; rfl)⟩).mono ?_
      rintro e w5 ⟨A4, N4, cap4, rfl, hown, hb⟩
      have hN4 : N4 ≤ 14 := by have h1 := hown.len.1; have := HNL.out; omega
      obtain ⟨D4, hD4⟩ : ∃ D, w5.heap.size = D := ⟨_, rfl⟩
      have K6 := Lib.hid ((((K5.out.move hb).and (MIn.of hown (by omega)).keep).alloc (.cells #[.int .i64 n, .slice A4 N4 cap4] 25)).and (kp_one w5 25 #[.int .i64 n, .slice A4 N4 cap4] hD4))
      clear hb hown
      clear zD10 zD11 zD20 zD21 zD30 zD31 ya5D10 ya5D11 ya5D20 ya5D21 ya5D30 ya5D31
      have zD10 := K6.out.here.1.1.1.1.1.1.2.2.1.cell 0
      have zD11 := K6.out.here.1.1.1.1.1.1.2.2.1.cell 1
      have zD20 := K6.out.here.1.1.1.1.2.2.1.cell 0
      have zD21 := K6.out.here.1.1.1.1.2.2.1.cell 1
      have zD30 := K6.out.here.1.1.2.2.1.cell 0
      have zD31 := K6.out.here.1.1.2.2.1.cell 1
      have zD40 := K6.out.here.2.2.1.cell 0
      have zD41 := K6.out.here.2.2.1.cell 1
      simp at zD10 zD11 zD20 zD21 zD30 zD31 zD40 zD41
      go_wp2_with fail
      clear zD10 zD11 zD20 zD21 zD30 zD31 zD40 zD41
      obtain ⟨wb, hq⟩ : ∃ q, w5.alloc (.cells #[.int .i64 n, .slice A4 N4 cap4] 25) = q := ⟨_, rfl⟩
      rw [hq] at K6 ⊢
      clear hq
      obtain ⟨S, hS⟩ : ∃ S, wb.heap.size = S := ⟨_, rfl⟩
      have HS := Lib.hid hS
      have zD10 := K6.out.here.1.1.1.1.1.1.2.2.1.cell 0
      have zD11 := K6.out.here.1.1.1.1.1.1.2.2.1.cell 1
      have zD20 := K6.out.here.1.1.1.1.2.2.1.cell 0
      have zD21 := K6.out.here.1.1.1.1.2.2.1.cell 1
      have zD30 := K6.out.here.1.1.2.2.1.cell 0
      have zD31 := K6.out.here.1.1.2.2.1.cell 1
      have zD40 := K6.out.here.2.2.1.cell 0
      have zD41 := K6.out.here.2.2.1.cell 1
      simp at zD10 zD11 zD20 zD21 zD30 zD31 zD40 zD41
      go_upto_region 9 with fail
      go_cut [13, 14] (fun sx sy wx => ∃ (DX : Nat) (AX : Option Addr) (NX cX : Nat), sx = .pointer (some ⟨DX, 0, none⟩) ∧ sy = .bool false ∧ NX ≤ 20 ∧ Hid (Below S wb wx) ∧ Hid (Whole wx DX 25 #[.int .i64 0, .slice AX NX cX]) ∧ Hid (MIn wx AX NX cX []))
      case first =>
        clear zD10 zD11 zD20 zD21 zD30 zD31 zD40 zD41
        have HMb := Lib.hid (K6.out.here.1.1.1.1.1.1.1.1.2 : MIn wb A1 N1 cap1 _)
        have HPb := Lib.hid (K6.out.here.1.1.1.1.1.1.1.2 : IIn wb AP NP capP P)
        have HD0 := K6.out.here.1.1.1.1.1.1.2.2.1.cell 0
        have HD1 := K6.out.here.1.1.1.1.1.1.2.2.1.cell 1
        simp only [List.getElem?_toArray, List.getElem?_cons_zero, List.getElem?_cons_succ] at HD0 HD1
        have CS : ∀ wx, Below wb.heap.size wb wx → (fun w' => w'.cell? ⟨D1, 0, none⟩ = some (.int .i64 n) ∧ w'.cell? ⟨D1, 1, none⟩ = some (.slice A1 N1 cap1)) wx := fun wx hbx => ⟨(hbx.cell (p := ⟨D1, 0, none⟩) K6.out.here.1.1.1.1.1.1.2.2.1.lt).trans HD0, (hbx.cell (p := ⟨D1, 1, none⟩) K6.out.here.1.1.1.1.1.1.2.2.1.lt).trans HD1⟩
        have HBR := Lib.hid (below_drew1 wb)
        have hcd := CS _ HBR.out
        have HWS : Hid (wb.heap.size = S) := HS
        have HPL : Hid (P.length = NP) := HNP.out.symm
        obtain ⟨i0, hi0, hq0, hq1, hq2⟩ := info_parts Try.infoNum
        clear HD0 HD1
        refine wp_region_late (fun w' => w'.cell? ⟨D1, 0, none⟩ = some (.int .i64 n) ∧ w'.cell? ⟨D1, 1, none⟩ = some (.slice A1 N1 cap1)) 18 (by kernel_rfl) ?_
        revert HBR hcd
        generalize wb.drew = wd
        intro HBR hcd
        refine wpLate_take (i := 0) (v := ?v0x9rt) rfl (by kernel_rfl) (by kernel_rfl) (by kernel_rfl) (by kernel_rfl) (by kernel_rfl) (fun _ _ _ h => h) (CS _ HBR.out) (by rfl) ?hy0x9rt ?r0x9rt
        case hy0x9rt =>
          rintro wz ⟨z0, z1⟩
          go_simp
          try with_reducible rfl
        try simp only [Act.put]
        refine wpLate_take (i := 2) (v := ?v2x9rt) rfl (by kernel_rfl) (by kernel_rfl) (by kernel_rfl) (by kernel_rfl) (by kernel_rfl) (fun _ _ _ h => h) (CS _ HBR.out) (by rfl) ?hy2x9rt ?r2x9rt
        case hy2x9rt =>
          rintro wz ⟨z0, z1⟩
          go_simp
          try with_reducible rfl
        try simp only [Act.put]
        refine wpLate_take (i := 4) (v := ?v4x9rt) rfl (by kernel_rfl) (by kernel_rfl) (by kernel_rfl) (by kernel_rfl) (by kernel_rfl) (fun _ _ _ h => h) (CS _ HBR.out) (by rfl) ?hy4x9rt ?r4x9rt
        case hy4x9rt =>
          rintro wz ⟨z0, z1⟩
          go_simp
          try with_reducible rfl
        try simp only [Act.put]
        refine wpLate_take (i := 5) (v := ?v5x9rt) rfl (by kernel_rfl) (by kernel_rfl) (by kernel_rfl) (by kernel_rfl) (by kernel_rfl) (fun _ _ _ h => h) (CS _ HBR.out) (by rfl) ?hy5x9rt ?r5x9rt
        case hy5x9rt =>
          rintro wz ⟨z0, z1⟩
          go_simp
          try with_reducible rfl
        try simp only [Act.put]
        refine wpLate_take (i := 6) (v := ?v6x9rt) rfl (by kernel_rfl) (by kernel_rfl) (by kernel_rfl) (by kernel_rfl) (by kernel_rfl) (fun _ _ _ h => h) (CS _ HBR.out) (by rfl) ?hy6x9rt ?r6x9rt
        case hy6x9rt =>
          rintro wz ⟨z0, z1⟩
          go_simp
          try with_reducible rfl
        try simp only [Act.put]
        refine wpLate_take (i := 7) (v := ?v7x9rt) rfl (by kernel_rfl) (by kernel_rfl) (by kernel_rfl) (by kernel_rfl) (by kernel_rfl) (fun _ _ _ h => h) (CS _ HBR.out) (by rfl) ?hy7x9rt ?r7x9rt
        case hy7x9rt =>
          rintro wz ⟨z0, z1⟩
          go_simp
          try with_reducible rfl
        try simp only [Act.put]
        refine wpLate_take (i := 10) (v := ?v10x9rt) rfl (by kernel_rfl) (by kernel_rfl) (by kernel_rfl) (by kernel_rfl) (by kernel_rfl) (fun _ _ _ h => h) (CS _ HBR.out) (by rfl) ?hy10x9rt ?r10x9rt
        case hy10x9rt =>
          rintro wz ⟨z0, z1⟩
          go_simp
          try with_reducible rfl
        try simp only [Act.put]
        refine wpLate_take (i := 11) (v := ?v11x9rt) rfl (by kernel_rfl) (by kernel_rfl) (by kernel_rfl) (by kernel_rfl) (by kernel_rfl) (fun _ _ _ h => h) (CS _ HBR.out) (by rfl) ?hy11x9rt ?r11x9rt
        case hy11x9rt =>
          rintro wz ⟨z0, z1⟩
          go_simp
          try with_reducible rfl
        try simp only [Act.put]
        refine wpLate_three (i := 1) (k := 8) (l := 16) (by kernel_rfl) rfl rfl rfl (fun K hK => ?xr) (fun K hK => ?yr) (fun K hK => ?zr)
        case xr =>
          obtain ⟨S1, hS1⟩ : ∃ S, wd.heap.size = S := ⟨_, rfl⟩
          obtain ⟨v0b, hv0b⟩ : ∃ z, wd.alloc (.cells #[] 3) = z := ⟨_, rfl⟩
          have hbc : Below wd.heap.size wd v0b := by rw [← hv0b]; exact below_new _ _
          have HR0 := Lib.hid (show ROwn intR v0b wb.heap.size (.slice (some ⟨S1, 0, none⟩) 0 0) [] by rw [← hv0b]; exact ROwn.lit wd S1 HBR.out.size hS1)
          have HBR_1 := Lib.hid (HBR.out.trans (hbc.mono HBR.out.size))
          clear HBR
          clear hbc
          go_simp
          refine hK.out _ _ (fun _ => (CS _ HBR_1.out)) ?_
          clear hK K
          try simp only [Act.put]
          refine wpLate_three (i := 3) (k := 8) (l := 16) (by kernel_rfl) rfl rfl rfl (fun K hK => ?xrx) (fun K hK => ?yrx) (fun K hK => ?zrx)
          case xrx =>
            have HMM := Lib.hid (HPb.out.below HBR_1.out (Nat.le_refl _))
            refine step_app_sl rfl (.tmp 74) (.tmp 75) 26 rfl intR wb.heap.size i0 _ 8 Try.underlying26 hi0 hq0 hq1 hq2 rfl (by decide) _ ([]) (P) 0 rfl rfl HR0.out AP (NP) (capP) rfl HMM.out.1 HMM.out.2.2.1 HMM.out.2.2.2.1 HMM.out.2.2.2.2 (by unfold maxLen; omega) (by omega) HBR_1.out.size ?_
            intro A2 N2 c2 v2p hof hgf
            rw [List.nil_append] at hof
            have HR_2 := Lib.hid hof
            have HBR_2 : Hid (Below wb.heap.size wb v2p) := Lib.hid (HBR_1.out.grown hgf HBR_1.out.size (fun z e => (World.ownsRow.lt HR0.out z e).1))
            clear hof hgf HMM HR0 HBR_1
            refine hK.out _ _ (fun _ => (CS _ HBR_2.out)) ?_
            clear hK K
            try simp only [Act.put]
            refine wpLate_two (i := 8) (k := 16) (by kernel_rfl) rfl rfl (fun K hK => ?xrxx) (fun K hK => ?yrxx)
            case xrxx =>
              obtain ⟨G, hG⟩ : ∃ S, v2p.heap.size = S := ⟨_, rfl⟩
              obtain ⟨v2e, hv2e⟩ : ∃ z, v2p.alloc (.cells #[.int .i64 (n1 : Int)] 3) = z := ⟨_, rfl⟩
              have hbc : Below v2p.heap.size v2p v2e := by rw [← hv2e]; exact below_new _ _
              have HXW : Hid (G < v2e.heap.size) := Lib.hid (by have h0 := hbc.size; have h1 : v2e.heap.size = v2p.heap.size + 1 := (by rw [← hv2e]; simp); omega)
              have HX0 := Lib.hid (show Whole v2e G 3 #[.int .i64 (n1 : Int)] by rw [← hv2e, ← hG]; exact Whole.made _ _ _)
              have HXL : Hid (wb.heap.size ≤ G) := Lib.hid (by rw [← hG]; exact HBR_2.out.size)
              have HR_3 := Lib.hid (HR_2.out.kept hbc)
              have HBR_3 := Lib.hid (HBR_2.out.trans (hbc.mono HBR_2.out.size))
              clear HBR_2 HR_2
              clear hbc
              go_simp
              refine hK.out _ _ (fun _ => (CS _ HBR_3.out)) ?_
              clear hK K
              try simp only [Act.put]
              refine wpLate_two (i := 9) (k := 16) (by kernel_rfl) rfl rfl (fun K hK => ?xrxxx) (fun K hK => ?yrxxx)
              case xrxxx =>
                have HMM := Lib.hid (one_num HX0.out)
                refine step_app_sl rfl (.tmp 76) (.tmp 81) 26 rfl intR wb.heap.size i0 _ 8 Try.underlying26 hi0 hq0 hq1 hq2 rfl (by decide) _ (P) ([(n1 : Int)]) NP HPL.out rfl HR_3.out (some ⟨G, 0, none⟩) (1) (1) rfl HMM.out.1 HMM.out.2.2.1 HMM.out.2.2.2.1 HMM.out.2.2.2.2 (by unfold maxLen; omega) (by omega) HBR_3.out.size ?_
                intro A4 N4 c4 v4p hof hgf
                have HR_4 := Lib.hid hof
                have HBR_4 : Hid (Below wb.heap.size wb v4p) := Lib.hid (HBR_3.out.grown hgf HBR_3.out.size (fun z e => (World.ownsRow.lt HR_3.out z e).1))
                clear hof hgf HMM HR_3 HBR_3
                refine hK.out _ _ (fun _ => (CS _ HBR_4.out)) ?_
                clear hK K
                try simp only [Act.put]
                refine wpLate_two (i := 12) (k := 16) (by kernel_rfl) rfl rfl (fun K hK => ?xrxxxx) (fun K hK => ?yrxxxx)
                case xrxxxx =>
                  go_simp
                  have hln := HR_4.out.len.1
                  have hll : (P ++ [(n1 : Int)]).length ≤ 100 := by rw [List.length_append, HPL.out]; show NP + 1 ≤ 100; omega
                  refine (impl_flags_at HX2.out A1 N1 cap1 A4 N4 c4 v4p (HMb.out.below HBR_4.out (Nat.le_refl _)) (IIn.of HR_4.out (by omega))).mono ?_
                  rintro e v4k ⟨A8, N8, cap8, rfl, hown, hb⟩
                  clear hln hll
                  have hN8 : N8 ≤ 20 := by have h1 := hown.len.1; have h2 := HL0.out; omega
                  have HO8 := Lib.hid (hown.from (show wb.heap.size ≤ v4p.heap.size from HBR_4.out.size))
                  have HBR_5 := Lib.hid (HBR_4.out.trans (hb.mono HBR_4.out.size))
                  clear HBR_4
                  clear hb hown
                  refine hK.out _ _ (fun _ => (CS _ HBR_5.out)) ?_
                  clear hK K
                  try simp only [Act.put]
                  refine wpLate_take (i := 13) (v := ?v13x9rxxxxxt) rfl (by kernel_rfl) (by kernel_rfl) (by kernel_rfl) (by kernel_rfl) (by kernel_rfl) (fun _ _ _ h => h) (CS _ HBR_5.out) (by rfl) ?hy13x9rxxxxxt ?r13x9rxxxxxt
                  case hy13x9rxxxxxt =>
                    rintro wz ⟨z0, z1⟩
                    go_simp
                    try with_reducible rfl
                  try simp only [Act.put]
                  refine wpLate_take (i := 14) (v := ?v14x9rxxxxxt) rfl (by kernel_rfl) (by kernel_rfl) (by kernel_rfl) (by kernel_rfl) (by kernel_rfl) (fun _ _ _ h => h) (CS _ HBR_5.out) (by rfl) ?hy14x9rxxxxxt ?r14x9rxxxxxt
                  case hy14x9rxxxxxt =>
                    rintro wz ⟨z0, z1⟩
                    go_simp
                    try with_reducible rfl
                  try simp only [Act.put]
                  refine wpLate_take (i := 15) (v := ?v15x9rxxxxxt) rfl (by kernel_rfl) (by kernel_rfl) (by kernel_rfl) (by kernel_rfl) (by kernel_rfl) (fun _ _ _ h => h) (CS _ HBR_5.out) (by rfl) ?hy15x9rxxxxxt ?r15x9rxxxxxt
                  case hy15x9rxxxxxt =>
                    rintro wz ⟨z0, z1⟩
                    go_simp
                    try with_reducible rfl
                  try simp only [Act.put]
                  refine wpLate_one (i := 16) (by kernel_rfl) rfl (fun K hK => ?_)
                  obtain ⟨F, hF⟩ : ∃ F, v4k.heap.size = F := ⟨_, rfl⟩
                  obtain ⟨v5c, hv5c⟩ : ∃ z, v4k.alloc (.cells #[.int .i64 0, .slice none 0 0] 25) = z := ⟨_, rfl⟩
                  have HFL : Hid (wb.heap.size ≤ F) := Lib.hid (by rw [← hF]; exact HBR_5.out.size)
                  have hbc : Below v4k.heap.size v4k v5c := by rw [← hv5c]; exact below_new v4k _
                  have HFN := Lib.hid (show Whole v5c F 25 #[.int .i64 0, .slice none 0 0] by rw [← hv5c, ← hF]; exact Whole.made _ _ _)
                  have HBR_6 := Lib.hid (HBR_5.out.trans (hbc.mono HBR_5.out.size))
                  have HO_6 := Lib.hid (HO8.out.kept hbc)
                  clear HO8 HBR_5
                  clear hbc
                  go_simp
                  refine hK.out _ _ (fun _ => (CS _ HBR_6.out)) ?_
                  clear hK K
                  try simp only [Act.put]
                  have HBs := Lib.hid (show Below S wb ((v5c.setCell ⟨F, 0, none⟩ (.int .i64 (0))).setCell ⟨F, 1, none⟩ (.slice A8 N8 cap8)) from HWS.out ▸ ((HBR_6.out.setCell (p := ⟨F, 0, none⟩) HFL.out _).setCell (p := ⟨F, 1, none⟩) HFL.out _))
                  have HFs : Hid (Whole ((v5c.setCell ⟨F, 0, none⟩ (.int .i64 (0))).setCell ⟨F, 1, none⟩ (.slice A8 N8 cap8)) F 25 #[.int .i64 (0), .slice A8 N8 cap8]) := Lib.hid ((HFN.out.store 0 _).store 1 _)
                  have HMs : Hid (MIn ((v5c.setCell ⟨F, 0, none⟩ (.int .i64 (0))).setCell ⟨F, 1, none⟩ (.slice A8 N8 cap8)) A8 N8 cap8 ([])) := Lib.hid (MIn.of ((HO_6.out.store (p := ⟨F, 0, none⟩) (HO_6.out.whole HFN.out (by decide)) _).store (p := ⟨F, 1, none⟩) (HO_6.out.whole HFN.out (by decide)) _) (by omega))
                  have f0 := HFN.out.cell 0
                  have f1 := HFN.out.cell 1
                  have j0 := HFN.out.free 0
                  have j1 := HFN.out.free 1
                  simp only [List.getElem?_toArray, List.getElem?_cons_zero, List.getElem?_cons_succ] at f0 f1
                  have hcs := CS _ (show Below wb.heap.size wb ((v5c.setCell ⟨F, 0, none⟩ (.int .i64 (0))).setCell ⟨F, 1, none⟩ (.slice A8 N8 cap8)) from ((HBR_6.out.setCell (p := ⟨F, 0, none⟩) HFL.out _).setCell (p := ⟨F, 1, none⟩) HFL.out _))
                  refine wpLate_one (i := 17) (by kernel_rfl) rfl (fun K hK => ?_)
                  go_simp
                  refine hK.out _ _ (fun _ => hcs) ?_
                  clear hK K
                  try simp only [Act.put]
                  refine wpLate_one (i := 18) (by kernel_rfl) rfl (fun K hK => ?_)
                  go_simp
                  refine hK.out _ _ (fun h => absurd rfl h) ?_
                  clear hK K
                  try simp only [Act.put]
                  refine wpLate_done (by kernel_rfl) ?_ _
                  go_wp2_with fail
                  go_meet
                  case rel => exact ⟨F, A8, N8, cap8, rfl, rfl, hN8, HBs, HFs, HMs⟩
                case yrxxxx =>
                  obtain ⟨F, hF⟩ : ∃ F, v4p.heap.size = F := ⟨_, rfl⟩
                  obtain ⟨v4c, hv4c⟩ : ∃ z, v4p.alloc (.cells #[.int .i64 0, .slice none 0 0] 25) = z := ⟨_, rfl⟩
                  have HFL : Hid (wb.heap.size ≤ F) := Lib.hid (by rw [← hF]; exact HBR_4.out.size)
                  have hbc : Below v4p.heap.size v4p v4c := by rw [← hv4c]; exact below_new v4p _
                  have HFN := Lib.hid (show Whole v4c F 25 #[.int .i64 0, .slice none 0 0] by rw [← hv4c, ← hF]; exact Whole.made _ _ _)
                  have HR_5 := Lib.hid (HR_4.out.kept hbc)
                  have HBR_5 := Lib.hid (HBR_4.out.trans (hbc.mono HBR_4.out.size))
                  clear HBR_4 HR_4
                  clear hbc
                  go_simp
                  refine hK.out _ _ (fun _ => (CS _ HBR_5.out)) ?_
                  clear hK K
                  try simp only [Act.put]
                  refine wpLate_one (i := 12) (by kernel_rfl) rfl (fun K hK => ?_)
                  go_simp
                  have hln := HR_5.out.len.1
                  have hll : (P ++ [(n1 : Int)]).length ≤ 100 := by rw [List.length_append, HPL.out]; show NP + 1 ≤ 100; omega
                  refine (impl_flags_at HX2.out A1 N1 cap1 A4 N4 c4 v4c (HMb.out.below HBR_5.out (Nat.le_refl _)) (IIn.of HR_5.out (by omega))).mono ?_
                  rintro e v5k ⟨A8, N8, cap8, rfl, hown, hb⟩
                  clear hln hll
                  have hN8 : N8 ≤ 20 := by have h1 := hown.len.1; have h2 := HL0.out; omega
                  have HO8 := Lib.hid (hown.from (show wb.heap.size ≤ v4c.heap.size from HBR_5.out.size))
                  have HBR_6 := Lib.hid (HBR_5.out.trans (hb.mono HBR_5.out.size))
                  have HF'_6 := Lib.hid (HFN.out.below hb HFN.out.lt)
                  clear HFN HBR_5
                  clear hb hown
                  refine hK.out _ _ (fun _ => (CS _ HBR_6.out)) ?_
                  clear hK K
                  try simp only [Act.put]
                  refine wpLate_take (i := 13) (v := ?v13x9rxxxxyot) rfl (by kernel_rfl) (by kernel_rfl) (by kernel_rfl) (by kernel_rfl) (by kernel_rfl) (fun _ _ _ h => h) (CS _ HBR_6.out) (by rfl) ?hy13x9rxxxxyot ?r13x9rxxxxyot
                  case hy13x9rxxxxyot =>
                    rintro wz ⟨z0, z1⟩
                    go_simp
                    try with_reducible rfl
                  try simp only [Act.put]
                  refine wpLate_take (i := 14) (v := ?v14x9rxxxxyot) rfl (by kernel_rfl) (by kernel_rfl) (by kernel_rfl) (by kernel_rfl) (by kernel_rfl) (fun _ _ _ h => h) (CS _ HBR_6.out) (by rfl) ?hy14x9rxxxxyot ?r14x9rxxxxyot
                  case hy14x9rxxxxyot =>
                    rintro wz ⟨z0, z1⟩
                    go_simp
                    try with_reducible rfl
                  try simp only [Act.put]
                  refine wpLate_take (i := 15) (v := ?v15x9rxxxxyot) rfl (by kernel_rfl) (by kernel_rfl) (by kernel_rfl) (by kernel_rfl) (by kernel_rfl) (fun _ _ _ h => h) (CS _ HBR_6.out) (by rfl) ?hy15x9rxxxxyot ?r15x9rxxxxyot
                  case hy15x9rxxxxyot =>
                    rintro wz ⟨z0, z1⟩
                    go_simp
                    try with_reducible rfl
                  try simp only [Act.put]
                  have HBs := Lib.hid (show Below S wb ((v5k.setCell ⟨F, 0, none⟩ (.int .i64 (0))).setCell ⟨F, 1, none⟩ (.slice A8 N8 cap8)) from HWS.out ▸ ((HBR_6.out.setCell (p := ⟨F, 0, none⟩) HFL.out _).setCell (p := ⟨F, 1, none⟩) HFL.out _))
                  have HFs : Hid (Whole ((v5k.setCell ⟨F, 0, none⟩ (.int .i64 (0))).setCell ⟨F, 1, none⟩ (.slice A8 N8 cap8)) F 25 #[.int .i64 (0), .slice A8 N8 cap8]) := Lib.hid ((HF'_6.out.store 0 _).store 1 _)
                  have HMs : Hid (MIn ((v5k.setCell ⟨F, 0, none⟩ (.int .i64 (0))).setCell ⟨F, 1, none⟩ (.slice A8 N8 cap8)) A8 N8 cap8 ([])) := Lib.hid (MIn.of ((HO8.out.store (p := ⟨F, 0, none⟩) (HO8.out.whole HF'_6.out (by decide)) _).store (p := ⟨F, 1, none⟩) (HO8.out.whole HF'_6.out (by decide)) _) (by omega))
                  have f0 := HF'_6.out.cell 0
                  have f1 := HF'_6.out.cell 1
                  have j0 := HF'_6.out.free 0
                  have j1 := HF'_6.out.free 1
                  simp only [List.getElem?_toArray, List.getElem?_cons_zero, List.getElem?_cons_succ] at f0 f1
                  have hcs := CS _ (show Below wb.heap.size wb ((v5k.setCell ⟨F, 0, none⟩ (.int .i64 (0))).setCell ⟨F, 1, none⟩ (.slice A8 N8 cap8)) from ((HBR_6.out.setCell (p := ⟨F, 0, none⟩) HFL.out _).setCell (p := ⟨F, 1, none⟩) HFL.out _))
                  refine wpLate_one (i := 17) (by kernel_rfl) rfl (fun K hK => ?_)
                  go_simp
                  refine hK.out _ _ (fun _ => hcs) ?_
                  clear hK K
                  try simp only [Act.put]
                  refine wpLate_one (i := 18) (by kernel_rfl) rfl (fun K hK => ?_)
                  go_simp
                  refine hK.out _ _ (fun h => absurd rfl h) ?_
                  clear hK K
                  try simp only [Act.put]
                  refine wpLate_done (by kernel_rfl) ?_ _
                  go_wp2_with fail
                  go_meet
                  case rel => exact ⟨F, A8, N8, cap8, rfl, rfl, hN8, HBs, HFs, HMs⟩
              case yrxxx =>
                obtain ⟨F, hF⟩ : ∃ F, v2e.heap.size = F := ⟨_, rfl⟩
                obtain ⟨v3c, hv3c⟩ : ∃ z, v2e.alloc (.cells #[.int .i64 0, .slice none 0 0] 25) = z := ⟨_, rfl⟩
                have HFL : Hid (wb.heap.size ≤ F) := Lib.hid (by rw [← hF]; exact HBR_3.out.size)
                have hbc : Below v2e.heap.size v2e v3c := by rw [← hv3c]; exact below_new v2e _
                have HFN := Lib.hid (show Whole v3c F 25 #[.int .i64 0, .slice none 0 0] by rw [← hv3c, ← hF]; exact Whole.made _ _ _)
                have HR_4 := Lib.hid (HR_3.out.kept hbc)
                have HBR_4 := Lib.hid (HBR_3.out.trans (hbc.mono HBR_3.out.size))
                have HX_4 := Lib.hid (HX0.out.below hbc HX0.out.lt)
                clear HX0 HBR_3 HR_3
                clear hbc
                go_simp
                refine hK.out _ _ (fun _ => (CS _ HBR_4.out)) ?_
                clear hK K
                try simp only [Act.put]
                refine wpLate_one (i := 9) (by kernel_rfl) rfl (fun K hK => ?_)
                have HMM := Lib.hid (one_num HX_4.out)
                refine step_app_sl rfl (.tmp 76) (.tmp 81) 26 rfl intR wb.heap.size i0 _ 8 Try.underlying26 hi0 hq0 hq1 hq2 rfl (by decide) _ (P) ([(n1 : Int)]) NP HPL.out rfl HR_4.out (some ⟨G, 0, none⟩) (1) (1) rfl HMM.out.1 HMM.out.2.2.1 HMM.out.2.2.2.1 HMM.out.2.2.2.2 (by unfold maxLen; omega) (by omega) HBR_4.out.size ?_
                intro A5 N5 c5 v5p hof hgf
                have HR_5 := Lib.hid hof
                have HBR_5 : Hid (Below wb.heap.size wb v5p) := Lib.hid (HBR_4.out.grown hgf HBR_4.out.size (fun z e => (World.ownsRow.lt HR_4.out z e).1))
                have HF_5 := Lib.hid (HFN.out.grown hgf (fun e => (HR_4.out.whole HFN.out (by decide)) e.symm))
                clear hof hgf HMM HFN HR_4 HBR_4
                refine hK.out _ _ (fun _ => (CS _ HBR_5.out)) ?_
                clear hK K
                try simp only [Act.put]
                refine wpLate_one (i := 12) (by kernel_rfl) rfl (fun K hK => ?_)
                go_simp
                have hln := HR_5.out.len.1
                have hll : (P ++ [(n1 : Int)]).length ≤ 100 := by rw [List.length_append, HPL.out]; show NP + 1 ≤ 100; omega
                refine (impl_flags_at HX2.out A1 N1 cap1 A5 N5 c5 v5p (HMb.out.below HBR_5.out (Nat.le_refl _)) (IIn.of HR_5.out (by omega))).mono ?_
                rintro e v5k ⟨A8, N8, cap8, rfl, hown, hb⟩
                clear hln hll
                have hN8 : N8 ≤ 20 := by have h1 := hown.len.1; have h2 := HL0.out; omega
                have HO8 := Lib.hid (hown.from (show wb.heap.size ≤ v5p.heap.size from HBR_5.out.size))
                have HBR_6 := Lib.hid (HBR_5.out.trans (hb.mono HBR_5.out.size))
                have HF'_6 := Lib.hid (HF_5.out.below hb HF_5.out.lt)
                clear HF_5 HBR_5
                clear hb hown
                refine hK.out _ _ (fun _ => (CS _ HBR_6.out)) ?_
                clear hK K
                try simp only [Act.put]
                refine wpLate_take (i := 13) (v := ?v13x9rxxxyoot) rfl (by kernel_rfl) (by kernel_rfl) (by kernel_rfl) (by kernel_rfl) (by kernel_rfl) (fun _ _ _ h => h) (CS _ HBR_6.out) (by rfl) ?hy13x9rxxxyoot ?r13x9rxxxyoot
                case hy13x9rxxxyoot =>
                  rintro wz ⟨z0, z1⟩
                  go_simp
                  try with_reducible rfl
                try simp only [Act.put]
                refine wpLate_take (i := 14) (v := ?v14x9rxxxyoot) rfl (by kernel_rfl) (by kernel_rfl) (by kernel_rfl) (by kernel_rfl) (by kernel_rfl) (fun _ _ _ h => h) (CS _ HBR_6.out) (by rfl) ?hy14x9rxxxyoot ?r14x9rxxxyoot
                case hy14x9rxxxyoot =>
                  rintro wz ⟨z0, z1⟩
                  go_simp
                  try with_reducible rfl
                try simp only [Act.put]
                refine wpLate_take (i := 15) (v := ?v15x9rxxxyoot) rfl (by kernel_rfl) (by kernel_rfl) (by kernel_rfl) (by kernel_rfl) (by kernel_rfl) (fun _ _ _ h => h) (CS _ HBR_6.out) (by rfl) ?hy15x9rxxxyoot ?r15x9rxxxyoot
                case hy15x9rxxxyoot =>
                  rintro wz ⟨z0, z1⟩
                  go_simp
                  try with_reducible rfl
                try simp only [Act.put]
                have HBs := Lib.hid (show Below S wb ((v5k.setCell ⟨F, 0, none⟩ (.int .i64 (0))).setCell ⟨F, 1, none⟩ (.slice A8 N8 cap8)) from HWS.out ▸ ((HBR_6.out.setCell (p := ⟨F, 0, none⟩) HFL.out _).setCell (p := ⟨F, 1, none⟩) HFL.out _))
                have HFs : Hid (Whole ((v5k.setCell ⟨F, 0, none⟩ (.int .i64 (0))).setCell ⟨F, 1, none⟩ (.slice A8 N8 cap8)) F 25 #[.int .i64 (0), .slice A8 N8 cap8]) := Lib.hid ((HF'_6.out.store 0 _).store 1 _)
                have HMs : Hid (MIn ((v5k.setCell ⟨F, 0, none⟩ (.int .i64 (0))).setCell ⟨F, 1, none⟩ (.slice A8 N8 cap8)) A8 N8 cap8 ([])) := Lib.hid (MIn.of ((HO8.out.store (p := ⟨F, 0, none⟩) (HO8.out.whole HF'_6.out (by decide)) _).store (p := ⟨F, 1, none⟩) (HO8.out.whole HF'_6.out (by decide)) _) (by omega))
                have f0 := HF'_6.out.cell 0
                have f1 := HF'_6.out.cell 1
                have j0 := HF'_6.out.free 0
                have j1 := HF'_6.out.free 1
                simp only [List.getElem?_toArray, List.getElem?_cons_zero, List.getElem?_cons_succ] at f0 f1
                have hcs := CS _ (show Below wb.heap.size wb ((v5k.setCell ⟨F, 0, none⟩ (.int .i64 (0))).setCell ⟨F, 1, none⟩ (.slice A8 N8 cap8)) from ((HBR_6.out.setCell (p := ⟨F, 0, none⟩) HFL.out _).setCell (p := ⟨F, 1, none⟩) HFL.out _))
                refine wpLate_one (i := 17) (by kernel_rfl) rfl (fun K hK => ?_)
                go_simp
                refine hK.out _ _ (fun _ => hcs) ?_
                clear hK K
                try simp only [Act.put]
                refine wpLate_one (i := 18) (by kernel_rfl) rfl (fun K hK => ?_)
                go_simp
                refine hK.out _ _ (fun h => absurd rfl h) ?_
                clear hK K
                try simp only [Act.put]
                refine wpLate_done (by kernel_rfl) ?_ _
                go_wp2_with fail
                go_meet
                case rel => exact ⟨F, A8, N8, cap8, rfl, rfl, hN8, HBs, HFs, HMs⟩
            case yrxx =>
              obtain ⟨F, hF⟩ : ∃ F, v2p.heap.size = F := ⟨_, rfl⟩
              obtain ⟨v2c, hv2c⟩ : ∃ z, v2p.alloc (.cells #[.int .i64 0, .slice none 0 0] 25) = z := ⟨_, rfl⟩
              have HFL : Hid (wb.heap.size ≤ F) := Lib.hid (by rw [← hF]; exact HBR_2.out.size)
              have hbc : Below v2p.heap.size v2p v2c := by rw [← hv2c]; exact below_new v2p _
              have HFN := Lib.hid (show Whole v2c F 25 #[.int .i64 0, .slice none 0 0] by rw [← hv2c, ← hF]; exact Whole.made _ _ _)
              have HR_3 := Lib.hid (HR_2.out.kept hbc)
              have HBR_3 := Lib.hid (HBR_2.out.trans (hbc.mono HBR_2.out.size))
              clear HBR_2 HR_2
              clear hbc
              go_simp
              refine hK.out _ _ (fun _ => (CS _ HBR_3.out)) ?_
              clear hK K
              try simp only [Act.put]
              refine wpLate_one (i := 8) (by kernel_rfl) rfl (fun K hK => ?_)
              obtain ⟨G, hG⟩ : ∃ S, v2c.heap.size = S := ⟨_, rfl⟩
              obtain ⟨v3e, hv3e⟩ : ∃ z, v2c.alloc (.cells #[.int .i64 (n1 : Int)] 3) = z := ⟨_, rfl⟩
              have hbc : Below v2c.heap.size v2c v3e := by rw [← hv3e]; exact below_new _ _
              have HXW : Hid (G < v3e.heap.size) := Lib.hid (by have h0 := hbc.size; have h1 : v3e.heap.size = v2c.heap.size + 1 := (by rw [← hv3e]; simp); omega)
              have HX0 := Lib.hid (show Whole v3e G 3 #[.int .i64 (n1 : Int)] by rw [← hv3e, ← hG]; exact Whole.made _ _ _)
              have HXL : Hid (wb.heap.size ≤ G) := Lib.hid (by rw [← hG]; exact HBR_3.out.size)
              have HR_4 := Lib.hid (HR_3.out.kept hbc)
              have HBR_4 := Lib.hid (HBR_3.out.trans (hbc.mono HBR_3.out.size))
              have HF'_4 := Lib.hid (HFN.out.below hbc HFN.out.lt)
              clear HFN HBR_3 HR_3
              clear hbc
              go_simp
              refine hK.out _ _ (fun _ => (CS _ HBR_4.out)) ?_
              clear hK K
              try simp only [Act.put]
              refine wpLate_one (i := 9) (by kernel_rfl) rfl (fun K hK => ?_)
              have HMM := Lib.hid (one_num HX0.out)
              refine step_app_sl rfl (.tmp 76) (.tmp 81) 26 rfl intR wb.heap.size i0 _ 8 Try.underlying26 hi0 hq0 hq1 hq2 rfl (by decide) _ (P) ([(n1 : Int)]) NP HPL.out rfl HR_4.out (some ⟨G, 0, none⟩) (1) (1) rfl HMM.out.1 HMM.out.2.2.1 HMM.out.2.2.2.1 HMM.out.2.2.2.2 (by unfold maxLen; omega) (by omega) HBR_4.out.size ?_
              intro A5 N5 c5 v5p hof hgf
              have HR_5 := Lib.hid hof
              have HBR_5 : Hid (Below wb.heap.size wb v5p) := Lib.hid (HBR_4.out.grown hgf HBR_4.out.size (fun z e => (World.ownsRow.lt HR_4.out z e).1))
              have HF_5 := Lib.hid (HF'_4.out.grown hgf (fun e => (HR_4.out.whole HF'_4.out (by decide)) e.symm))
              clear hof hgf HMM HF'_4 HR_4 HBR_4
              refine hK.out _ _ (fun _ => (CS _ HBR_5.out)) ?_
              clear hK K
              try simp only [Act.put]
              refine wpLate_one (i := 12) (by kernel_rfl) rfl (fun K hK => ?_)
              go_simp
              have hln := HR_5.out.len.1
              have hll : (P ++ [(n1 : Int)]).length ≤ 100 := by rw [List.length_append, HPL.out]; show NP + 1 ≤ 100; omega
              refine (impl_flags_at HX2.out A1 N1 cap1 A5 N5 c5 v5p (HMb.out.below HBR_5.out (Nat.le_refl _)) (IIn.of HR_5.out (by omega))).mono ?_
              rintro e v5k ⟨A8, N8, cap8, rfl, hown, hb⟩
              clear hln hll
              have hN8 : N8 ≤ 20 := by have h1 := hown.len.1; have h2 := HL0.out; omega
              have HO8 := Lib.hid (hown.from (show wb.heap.size ≤ v5p.heap.size from HBR_5.out.size))
              have HBR_6 := Lib.hid (HBR_5.out.trans (hb.mono HBR_5.out.size))
              have HF'_6 := Lib.hid (HF_5.out.below hb HF_5.out.lt)
              clear HF_5 HBR_5
              clear hb hown
              refine hK.out _ _ (fun _ => (CS _ HBR_6.out)) ?_
              clear hK K
              try simp only [Act.put]
              refine wpLate_take (i := 13) (v := ?v13x9rxxyooot) rfl (by kernel_rfl) (by kernel_rfl) (by kernel_rfl) (by kernel_rfl) (by kernel_rfl) (fun _ _ _ h => h) (CS _ HBR_6.out) (by rfl) ?hy13x9rxxyooot ?r13x9rxxyooot
              case hy13x9rxxyooot =>
                rintro wz ⟨z0, z1⟩
                go_simp
                try with_reducible rfl
              try simp only [Act.put]
              refine wpLate_take (i := 14) (v := ?v14x9rxxyooot) rfl (by kernel_rfl) (by kernel_rfl) (by kernel_rfl) (by kernel_rfl) (by kernel_rfl) (fun _ _ _ h => h) (CS _ HBR_6.out) (by rfl) ?hy14x9rxxyooot ?r14x9rxxyooot
              case hy14x9rxxyooot =>
                rintro wz ⟨z0, z1⟩
                go_simp
                try with_reducible rfl
              try simp only [Act.put]
              refine wpLate_take (i := 15) (v := ?v15x9rxxyooot) rfl (by kernel_rfl) (by kernel_rfl) (by kernel_rfl) (by kernel_rfl) (by kernel_rfl) (fun _ _ _ h => h) (CS _ HBR_6.out) (by rfl) ?hy15x9rxxyooot ?r15x9rxxyooot
              case hy15x9rxxyooot =>
                rintro wz ⟨z0, z1⟩
                go_simp
                try with_reducible rfl
              try simp only [Act.put]
              have HBs := Lib.hid (show Below S wb ((v5k.setCell ⟨F, 0, none⟩ (.int .i64 (0))).setCell ⟨F, 1, none⟩ (.slice A8 N8 cap8)) from HWS.out ▸ ((HBR_6.out.setCell (p := ⟨F, 0, none⟩) HFL.out _).setCell (p := ⟨F, 1, none⟩) HFL.out _))
              have HFs : Hid (Whole ((v5k.setCell ⟨F, 0, none⟩ (.int .i64 (0))).setCell ⟨F, 1, none⟩ (.slice A8 N8 cap8)) F 25 #[.int .i64 (0), .slice A8 N8 cap8]) := Lib.hid ((HF'_6.out.store 0 _).store 1 _)
              have HMs : Hid (MIn ((v5k.setCell ⟨F, 0, none⟩ (.int .i64 (0))).setCell ⟨F, 1, none⟩ (.slice A8 N8 cap8)) A8 N8 cap8 ([])) := Lib.hid (MIn.of ((HO8.out.store (p := ⟨F, 0, none⟩) (HO8.out.whole HF'_6.out (by decide)) _).store (p := ⟨F, 1, none⟩) (HO8.out.whole HF'_6.out (by decide)) _) (by omega))
              have f0 := HF'_6.out.cell 0
              have f1 := HF'_6.out.cell 1
              have j0 := HF'_6.out.free 0
              have j1 := HF'_6.out.free 1
              simp only [List.getElem?_toArray, List.getElem?_cons_zero, List.getElem?_cons_succ] at f0 f1
              have hcs := CS _ (show Below wb.heap.size wb ((v5k.setCell ⟨F, 0, none⟩ (.int .i64 (0))).setCell ⟨F, 1, none⟩ (.slice A8 N8 cap8)) from ((HBR_6.out.setCell (p := ⟨F, 0, none⟩) HFL.out _).setCell (p := ⟨F, 1, none⟩) HFL.out _))
              refine wpLate_one (i := 17) (by kernel_rfl) rfl (fun K hK => ?_)
              go_simp
              refine hK.out _ _ (fun _ => hcs) ?_
              clear hK K
              try simp only [Act.put]
              refine wpLate_one (i := 18) (by kernel_rfl) rfl (fun K hK => ?_)
              go_simp
              refine hK.out _ _ (fun h => absurd rfl h) ?_
              clear hK K
              try simp only [Act.put]
              refine wpLate_done (by kernel_rfl) ?_ _
              go_wp2_with fail
              go_meet
              case rel => exact ⟨F, A8, N8, cap8, rfl, rfl, hN8, HBs, HFs, HMs⟩
          case yrx =>
            have HSL := Lib.hid (World.ownsRow.lt HR0.out S1 rfl).2
            obtain ⟨G, hG⟩ : ∃ S, v0b.heap.size = S := ⟨_, rfl⟩
            obtain ⟨v1e, hv1e⟩ : ∃ z, v0b.alloc (.cells #[.int .i64 (n1 : Int)] 3) = z := ⟨_, rfl⟩
            have hbc : Below v0b.heap.size v0b v1e := by rw [← hv1e]; exact below_new _ _
            have HXW : Hid (G < v1e.heap.size) := Lib.hid (by have h0 := hbc.size; have h1 : v1e.heap.size = v0b.heap.size + 1 := (by rw [← hv1e]; simp); omega)
            have HX0 := Lib.hid (show Whole v1e G 3 #[.int .i64 (n1 : Int)] by rw [← hv1e, ← hG]; exact Whole.made _ _ _)
            have HXL : Hid (wb.heap.size ≤ G) := Lib.hid (by rw [← hG]; exact HBR_1.out.size)
            have HBR_2 := Lib.hid (HBR_1.out.trans (hbc.mono HBR_1.out.size))
            have HR_2 := Lib.hid (HR0.out.kept hbc)
            clear HR0 HBR_1
            clear hbc
            have HGS : Hid (G ≠ S1) := Lib.hid (by have h1 := HSL.out; omega)
            go_simp
            refine hK.out _ _ (fun _ => (CS _ HBR_2.out)) ?_
            clear hK K
            try simp only [Act.put]
            refine wpLate_two (i := 3) (k := 16) (by kernel_rfl) rfl rfl (fun K hK => ?xrxy) (fun K hK => ?yrxy)
            case xrxy =>
              have HMM := Lib.hid (HPb.out.below HBR_2.out (Nat.le_refl _))
              refine step_app_sl rfl (.tmp 74) (.tmp 75) 26 rfl intR wb.heap.size i0 _ 8 Try.underlying26 hi0 hq0 hq1 hq2 rfl (by decide) _ ([]) (P) 0 rfl rfl HR_2.out AP (NP) (capP) rfl HMM.out.1 HMM.out.2.2.1 HMM.out.2.2.2.1 HMM.out.2.2.2.2 (by unfold maxLen; omega) (by omega) HBR_2.out.size ?_
              intro A3 N3 c3 v3p hof hgf
              rw [List.nil_append] at hof
              have HR_3 := Lib.hid hof
              have HBR_3 : Hid (Below wb.heap.size wb v3p) := Lib.hid (HBR_2.out.grown hgf HBR_2.out.size (fun z e => (World.ownsRow.lt HR_2.out z e).1))
              have HX_3 := Lib.hid (HX0.out.grown hgf (fun e => HGS.out (Option.some.inj e)))
              clear hof hgf HMM HX0 HR_2 HBR_2
              refine hK.out _ _ (fun _ => (CS _ HBR_3.out)) ?_
              clear hK K
              try simp only [Act.put]
              refine wpLate_two (i := 9) (k := 16) (by kernel_rfl) rfl rfl (fun K hK => ?xrxyx) (fun K hK => ?yrxyx)
              case xrxyx =>
                have HMM := Lib.hid (one_num HX_3.out)
                refine step_app_sl rfl (.tmp 76) (.tmp 81) 26 rfl intR wb.heap.size i0 _ 8 Try.underlying26 hi0 hq0 hq1 hq2 rfl (by decide) _ (P) ([(n1 : Int)]) NP HPL.out rfl HR_3.out (some ⟨G, 0, none⟩) (1) (1) rfl HMM.out.1 HMM.out.2.2.1 HMM.out.2.2.2.1 HMM.out.2.2.2.2 (by unfold maxLen; omega) (by omega) HBR_3.out.size ?_
                intro A4 N4 c4 v4p hof hgf
                have HR_4 := Lib.hid hof
                have HBR_4 : Hid (Below wb.heap.size wb v4p) := Lib.hid (HBR_3.out.grown hgf HBR_3.out.size (fun z e => (World.ownsRow.lt HR_3.out z e).1))
                clear hof hgf HMM HR_3 HBR_3
                refine hK.out _ _ (fun _ => (CS _ HBR_4.out)) ?_
                clear hK K
                try simp only [Act.put]
                refine wpLate_two (i := 12) (k := 16) (by kernel_rfl) rfl rfl (fun K hK => ?xrxyxx) (fun K hK => ?yrxyxx)
                case xrxyxx =>
                  go_simp
                  have hln := HR_4.out.len.1
                  have hll : (P ++ [(n1 : Int)]).length ≤ 100 := by rw [List.length_append, HPL.out]; show NP + 1 ≤ 100; omega
                  refine (impl_flags_at HX2.out A1 N1 cap1 A4 N4 c4 v4p (HMb.out.below HBR_4.out (Nat.le_refl _)) (IIn.of HR_4.out (by omega))).mono ?_
                  rintro e v4k ⟨A8, N8, cap8, rfl, hown, hb⟩
                  clear hln hll
                  have hN8 : N8 ≤ 20 := by have h1 := hown.len.1; have h2 := HL0.out; omega
                  have HO8 := Lib.hid (hown.from (show wb.heap.size ≤ v4p.heap.size from HBR_4.out.size))
                  have HBR_5 := Lib.hid (HBR_4.out.trans (hb.mono HBR_4.out.size))
                  clear HBR_4
                  clear hb hown
                  refine hK.out _ _ (fun _ => (CS _ HBR_5.out)) ?_
                  clear hK K
                  try simp only [Act.put]
                  refine wpLate_take (i := 13) (v := ?v13x9rxyxxxt) rfl (by kernel_rfl) (by kernel_rfl) (by kernel_rfl) (by kernel_rfl) (by kernel_rfl) (fun _ _ _ h => h) (CS _ HBR_5.out) (by rfl) ?hy13x9rxyxxxt ?r13x9rxyxxxt
                  case hy13x9rxyxxxt =>
                    rintro wz ⟨z0, z1⟩
                    go_simp
                    try with_reducible rfl
                  try simp only [Act.put]
                  refine wpLate_take (i := 14) (v := ?v14x9rxyxxxt) rfl (by kernel_rfl) (by kernel_rfl) (by kernel_rfl) (by kernel_rfl) (by kernel_rfl) (fun _ _ _ h => h) (CS _ HBR_5.out) (by rfl) ?hy14x9rxyxxxt ?r14x9rxyxxxt
                  case hy14x9rxyxxxt =>
                    rintro wz ⟨z0, z1⟩
                    go_simp
                    try with_reducible rfl
                  try simp only [Act.put]
                  refine wpLate_take (i := 15) (v := ?v15x9rxyxxxt) rfl (by kernel_rfl) (by kernel_rfl) (by kernel_rfl) (by kernel_rfl) (by kernel_rfl) (fun _ _ _ h => h) (CS _ HBR_5.out) (by rfl) ?hy15x9rxyxxxt ?r15x9rxyxxxt
                  case hy15x9rxyxxxt =>
                    rintro wz ⟨z0, z1⟩
                    go_simp
                    try with_reducible rfl
                  try simp only [Act.put]
                  refine wpLate_one (i := 16) (by kernel_rfl) rfl (fun K hK => ?_)
                  obtain ⟨F, hF⟩ : ∃ F, v4k.heap.size = F := ⟨_, rfl⟩
                  obtain ⟨v5c, hv5c⟩ : ∃ z, v4k.alloc (.cells #[.int .i64 0, .slice none 0 0] 25) = z := ⟨_, rfl⟩
                  have HFL : Hid (wb.heap.size ≤ F) := Lib.hid (by rw [← hF]; exact HBR_5.out.size)
                  have hbc : Below v4k.heap.size v4k v5c := by rw [← hv5c]; exact below_new v4k _
                  have HFN := Lib.hid (show Whole v5c F 25 #[.int .i64 0, .slice none 0 0] by rw [← hv5c, ← hF]; exact Whole.made _ _ _)
                  have HBR_6 := Lib.hid (HBR_5.out.trans (hbc.mono HBR_5.out.size))
                  have HO_6 := Lib.hid (HO8.out.kept hbc)
                  clear HO8 HBR_5
                  clear hbc
                  go_simp
                  refine hK.out _ _ (fun _ => (CS _ HBR_6.out)) ?_
                  clear hK K
                  try simp only [Act.put]
                  have HBs := Lib.hid (show Below S wb ((v5c.setCell ⟨F, 0, none⟩ (.int .i64 (0))).setCell ⟨F, 1, none⟩ (.slice A8 N8 cap8)) from HWS.out ▸ ((HBR_6.out.setCell (p := ⟨F, 0, none⟩) HFL.out _).setCell (p := ⟨F, 1, none⟩) HFL.out _))
                  have HFs : Hid (Whole ((v5c.setCell ⟨F, 0, none⟩ (.int .i64 (0))).setCell ⟨F, 1, none⟩ (.slice A8 N8 cap8)) F 25 #[.int .i64 (0), .slice A8 N8 cap8]) := Lib.hid ((HFN.out.store 0 _).store 1 _)
                  have HMs : Hid (MIn ((v5c.setCell ⟨F, 0, none⟩ (.int .i64 (0))).setCell ⟨F, 1, none⟩ (.slice A8 N8 cap8)) A8 N8 cap8 ([])) := Lib.hid (MIn.of ((HO_6.out.store (p := ⟨F, 0, none⟩) (HO_6.out.whole HFN.out (by decide)) _).store (p := ⟨F, 1, none⟩) (HO_6.out.whole HFN.out (by decide)) _) (by omega))
                  have f0 := HFN.out.cell 0
                  have f1 := HFN.out.cell 1
                  have j0 := HFN.out.free 0
                  have j1 := HFN.out.free 1
                  simp only [List.getElem?_toArray, List.getElem?_cons_zero, List.getElem?_cons_succ] at f0 f1
                  have hcs := CS _ (show Below wb.heap.size wb ((v5c.setCell ⟨F, 0, none⟩ (.int .i64 (0))).setCell ⟨F, 1, none⟩ (.slice A8 N8 cap8)) from ((HBR_6.out.setCell (p := ⟨F, 0, none⟩) HFL.out _).setCell (p := ⟨F, 1, none⟩) HFL.out _))
                  refine wpLate_one (i := 17) (by kernel_rfl) rfl (fun K hK => ?_)
                  go_simp
                  refine hK.out _ _ (fun _ => hcs) ?_
                  clear hK K
                  try simp only [Act.put]
                  refine wpLate_one (i := 18) (by kernel_rfl) rfl (fun K hK => ?_)
                  go_simp
                  refine hK.out _ _ (fun h => absurd rfl h) ?_
                  clear hK K
                  try simp only [Act.put]
                  refine wpLate_done (by kernel_rfl) ?_ _
                  go_wp2_with fail
                  go_meet
                  case rel => exact ⟨F, A8, N8, cap8, rfl, rfl, hN8, HBs, HFs, HMs⟩
                case yrxyxx =>
                  obtain ⟨F, hF⟩ : ∃ F, v4p.heap.size = F := ⟨_, rfl⟩
                  obtain ⟨v4c, hv4c⟩ : ∃ z, v4p.alloc (.cells #[.int .i64 0, .slice none 0 0] 25) = z := ⟨_, rfl⟩
                  have HFL : Hid (wb.heap.size ≤ F) := Lib.hid (by rw [← hF]; exact HBR_4.out.size)
                  have hbc : Below v4p.heap.size v4p v4c := by rw [← hv4c]; exact below_new v4p _
                  have HFN := Lib.hid (show Whole v4c F 25 #[.int .i64 0, .slice none 0 0] by rw [← hv4c, ← hF]; exact Whole.made _ _ _)
                  have HR_5 := Lib.hid (HR_4.out.kept hbc)
                  have HBR_5 := Lib.hid (HBR_4.out.trans (hbc.mono HBR_4.out.size))
                  clear HBR_4 HR_4
                  clear hbc
                  go_simp
                  refine hK.out _ _ (fun _ => (CS _ HBR_5.out)) ?_
                  clear hK K
                  try simp only [Act.put]
                  refine wpLate_one (i := 12) (by kernel_rfl) rfl (fun K hK => ?_)
                  go_simp
                  have hln := HR_5.out.len.1
                  have hll : (P ++ [(n1 : Int)]).length ≤ 100 := by rw [List.length_append, HPL.out]; show NP + 1 ≤ 100; omega
                  refine (impl_flags_at HX2.out A1 N1 cap1 A4 N4 c4 v4c (HMb.out.below HBR_5.out (Nat.le_refl _)) (IIn.of HR_5.out (by omega))).mono ?_
                  rintro e v5k ⟨A8, N8, cap8, rfl, hown, hb⟩
                  clear hln hll
                  have hN8 : N8 ≤ 20 := by have h1 := hown.len.1; have h2 := HL0.out; omega
                  have HO8 := Lib.hid (hown.from (show wb.heap.size ≤ v4c.heap.size from HBR_5.out.size))
                  have HBR_6 := Lib.hid (HBR_5.out.trans (hb.mono HBR_5.out.size))
                  have HF'_6 := Lib.hid (HFN.out.below hb HFN.out.lt)
                  clear HFN HBR_5
                  clear hb hown
                  refine hK.out _ _ (fun _ => (CS _ HBR_6.out)) ?_
                  clear hK K
                  try simp only [Act.put]
                  refine wpLate_take (i := 13) (v := ?v13x9rxyxxyot) rfl (by kernel_rfl) (by kernel_rfl) (by kernel_rfl) (by kernel_rfl) (by kernel_rfl) (fun _ _ _ h => h) (CS _ HBR_6.out) (by rfl) ?hy13x9rxyxxyot ?r13x9rxyxxyot
                  case hy13x9rxyxxyot =>
                    rintro wz ⟨z0, z1⟩
                    go_simp
                    try with_reducible rfl
                  try simp only [Act.put]
                  refine wpLate_take (i := 14) (v := ?v14x9rxyxxyot) rfl (by kernel_rfl) (by kernel_rfl) (by kernel_rfl) (by kernel_rfl) (by kernel_rfl) (fun _ _ _ h => h) (CS _ HBR_6.out) (by rfl) ?hy14x9rxyxxyot ?r14x9rxyxxyot
                  case hy14x9rxyxxyot =>
                    rintro wz ⟨z0, z1⟩
                    go_simp
                    try with_reducible rfl
                  try simp only [Act.put]
                  refine wpLate_take (i := 15) (v := ?v15x9rxyxxyot) rfl (by kernel_rfl) (by kernel_rfl) (by kernel_rfl) (by kernel_rfl) (by kernel_rfl) (fun _ _ _ h => h) (CS _ HBR_6.out) (by rfl) ?hy15x9rxyxxyot ?r15x9rxyxxyot
                  case hy15x9rxyxxyot =>
                    rintro wz ⟨z0, z1⟩
                    go_simp
                    try with_reducible rfl
                  try simp only [Act.put]
                  have HBs := Lib.hid (show Below S wb ((v5k.setCell ⟨F, 0, none⟩ (.int .i64 (0))).setCell ⟨F, 1, none⟩ (.slice A8 N8 cap8)) from HWS.out ▸ ((HBR_6.out.setCell (p := ⟨F, 0, none⟩) HFL.out _).setCell (p := ⟨F, 1, none⟩) HFL.out _))
                  have HFs : Hid (Whole ((v5k.setCell ⟨F, 0, none⟩ (.int .i64 (0))).setCell ⟨F, 1, none⟩ (.slice A8 N8 cap8)) F 25 #[.int .i64 (0), .slice A8 N8 cap8]) := Lib.hid ((HF'_6.out.store 0 _).store 1 _)
                  have HMs : Hid (MIn ((v5k.setCell ⟨F, 0, none⟩ (.int .i64 (0))).setCell ⟨F, 1, none⟩ (.slice A8 N8 cap8)) A8 N8 cap8 ([])) := Lib.hid (MIn.of ((HO8.out.store (p := ⟨F, 0, none⟩) (HO8.out.whole HF'_6.out (by decide)) _).store (p := ⟨F, 1, none⟩) (HO8.out.whole HF'_6.out (by decide)) _) (by omega))
                  have f0 := HF'_6.out.cell 0
                  have f1 := HF'_6.out.cell 1
                  have j0 := HF'_6.out.free 0
                  have j1 := HF'_6.out.free 1
                  simp only [List.getElem?_toArray, List.getElem?_cons_zero, List.getElem?_cons_succ] at f0 f1
                  have hcs := CS _ (show Below wb.heap.size wb ((v5k.setCell ⟨F, 0, none⟩ (.int .i64 (0))).setCell ⟨F, 1, none⟩ (.slice A8 N8 cap8)) from ((HBR_6.out.setCell (p := ⟨F, 0, none⟩) HFL.out _).setCell (p := ⟨F, 1, none⟩) HFL.out _))
                  refine wpLate_one (i := 17) (by kernel_rfl) rfl (fun K hK => ?_)
                  go_simp
                  refine hK.out _ _ (fun _ => hcs) ?_
                  clear hK K
                  try simp only [Act.put]
                  refine wpLate_one (i := 18) (by kernel_rfl) rfl (fun K hK => ?_)
                  go_simp
                  refine hK.out _ _ (fun h => absurd rfl h) ?_
                  clear hK K
                  try simp only [Act.put]
                  refine wpLate_done (by kernel_rfl) ?_ _
                  go_wp2_with fail
                  go_meet
                  case rel => exact ⟨F, A8, N8, cap8, rfl, rfl, hN8, HBs, HFs, HMs⟩
              case yrxyx =>
                obtain ⟨F, hF⟩ : ∃ F, v3p.heap.size = F := ⟨_, rfl⟩
                obtain ⟨v3c, hv3c⟩ : ∃ z, v3p.alloc (.cells #[.int .i64 0, .slice none 0 0] 25) = z := ⟨_, rfl⟩
                have HFL : Hid (wb.heap.size ≤ F) := Lib.hid (by rw [← hF]; exact HBR_3.out.size)
                have hbc : Below v3p.heap.size v3p v3c := by rw [← hv3c]; exact below_new v3p _
                have HFN := Lib.hid (show Whole v3c F 25 #[.int .i64 0, .slice none 0 0] by rw [← hv3c, ← hF]; exact Whole.made _ _ _)
                have HR_4 := Lib.hid (HR_3.out.kept hbc)
                have HBR_4 := Lib.hid (HBR_3.out.trans (hbc.mono HBR_3.out.size))
                have HX_4 := Lib.hid (HX_3.out.below hbc HX_3.out.lt)
                clear HX_3 HBR_3 HR_3
                clear hbc
                go_simp
                refine hK.out _ _ (fun _ => (CS _ HBR_4.out)) ?_
                clear hK K
                try simp only [Act.put]
                refine wpLate_one (i := 9) (by kernel_rfl) rfl (fun K hK => ?_)
                have HMM := Lib.hid (one_num HX_4.out)
                refine step_app_sl rfl (.tmp 76) (.tmp 81) 26 rfl intR wb.heap.size i0 _ 8 Try.underlying26 hi0 hq0 hq1 hq2 rfl (by decide) _ (P) ([(n1 : Int)]) NP HPL.out rfl HR_4.out (some ⟨G, 0, none⟩) (1) (1) rfl HMM.out.1 HMM.out.2.2.1 HMM.out.2.2.2.1 HMM.out.2.2.2.2 (by unfold maxLen; omega) (by omega) HBR_4.out.size ?_
                intro A5 N5 c5 v5p hof hgf
                have HR_5 := Lib.hid hof
                have HBR_5 : Hid (Below wb.heap.size wb v5p) := Lib.hid (HBR_4.out.grown hgf HBR_4.out.size (fun z e => (World.ownsRow.lt HR_4.out z e).1))
                have HF_5 := Lib.hid (HFN.out.grown hgf (fun e => (HR_4.out.whole HFN.out (by decide)) e.symm))
                clear hof hgf HMM HFN HR_4 HBR_4
                refine hK.out _ _ (fun _ => (CS _ HBR_5.out)) ?_
                clear hK K
                try simp only [Act.put]
                refine wpLate_one (i := 12) (by kernel_rfl) rfl (fun K hK => ?_)
                go_simp
                have hln := HR_5.out.len.1
                have hll : (P ++ [(n1 : Int)]).length ≤ 100 := by rw [List.length_append, HPL.out]; show NP + 1 ≤ 100; omega
                refine (impl_flags_at HX2.out A1 N1 cap1 A5 N5 c5 v5p (HMb.out.below HBR_5.out (Nat.le_refl _)) (IIn.of HR_5.out (by omega))).mono ?_
                rintro e v5k ⟨A8, N8, cap8, rfl, hown, hb⟩
                clear hln hll
                have hN8 : N8 ≤ 20 := by have h1 := hown.len.1; have h2 := HL0.out; omega
                have HO8 := Lib.hid (hown.from (show wb.heap.size ≤ v5p.heap.size from HBR_5.out.size))
                have HBR_6 := Lib.hid (HBR_5.out.trans (hb.mono HBR_5.out.size))
                have HF'_6 := Lib.hid (HF_5.out.below hb HF_5.out.lt)
                clear HF_5 HBR_5
                clear hb hown
                refine hK.out _ _ (fun _ => (CS _ HBR_6.out)) ?_
                clear hK K
                try simp only [Act.put]
                refine wpLate_take (i := 13) (v := ?v13x9rxyxyoot) rfl (by kernel_rfl) (by kernel_rfl) (by kernel_rfl) (by kernel_rfl) (by kernel_rfl) (fun _ _ _ h => h) (CS _ HBR_6.out) (by rfl) ?hy13x9rxyxyoot ?r13x9rxyxyoot
                case hy13x9rxyxyoot =>
                  rintro wz ⟨z0, z1⟩
                  go_simp
                  try with_reducible rfl
                try simp only [Act.put]
                refine wpLate_take (i := 14) (v := ?v14x9rxyxyoot) rfl (by kernel_rfl) (by kernel_rfl) (by kernel_rfl) (by kernel_rfl) (by kernel_rfl) (fun _ _ _ h => h) (CS _ HBR_6.out) (by rfl) ?hy14x9rxyxyoot ?r14x9rxyxyoot
                case hy14x9rxyxyoot =>
                  rintro wz ⟨z0, z1⟩
                  go_simp
                  try with_reducible rfl
                try simp only [Act.put]
                refine wpLate_take (i := 15) (v := ?v15x9rxyxyoot) rfl (by kernel_rfl) (by kernel_rfl) (by kernel_rfl) (by kernel_rfl) (by kernel_rfl) (fun _ _ _ h => h) (CS _ HBR_6.out) (by rfl) ?hy15x9rxyxyoot ?r15x9rxyxyoot
                case hy15x9rxyxyoot =>
                  rintro wz ⟨z0, z1⟩
                  go_simp
                  try with_reducible rfl
                try simp only [Act.put]
                have HBs := Lib.hid (show Below S wb ((v5k.setCell ⟨F, 0, none⟩ (.int .i64 (0))).setCell ⟨F, 1, none⟩ (.slice A8 N8 cap8)) from HWS.out ▸ ((HBR_6.out.setCell (p := ⟨F, 0, none⟩) HFL.out _).setCell (p := ⟨F, 1, none⟩) HFL.out _))
                have HFs : Hid (Whole ((v5k.setCell ⟨F, 0, none⟩ (.int .i64 (0))).setCell ⟨F, 1, none⟩ (.slice A8 N8 cap8)) F 25 #[.int .i64 (0), .slice A8 N8 cap8]) := Lib.hid ((HF'_6.out.store 0 _).store 1 _)
                have HMs : Hid (MIn ((v5k.setCell ⟨F, 0, none⟩ (.int .i64 (0))).setCell ⟨F, 1, none⟩ (.slice A8 N8 cap8)) A8 N8 cap8 ([])) := Lib.hid (MIn.of ((HO8.out.store (p := ⟨F, 0, none⟩) (HO8.out.whole HF'_6.out (by decide)) _).store (p := ⟨F, 1, none⟩) (HO8.out.whole HF'_6.out (by decide)) _) (by omega))
                have f0 := HF'_6.out.cell 0
                have f1 := HF'_6.out.cell 1
                have j0 := HF'_6.out.free 0
                have j1 := HF'_6.out.free 1
                simp only [List.getElem?_toArray, List.getElem?_cons_zero, List.getElem?_cons_succ] at f0 f1
                have hcs := CS _ (show Below wb.heap.size wb ((v5k.setCell ⟨F, 0, none⟩ (.int .i64 (0))).setCell ⟨F, 1, none⟩ (.slice A8 N8 cap8)) from ((HBR_6.out.setCell (p := ⟨F, 0, none⟩) HFL.out _).setCell (p := ⟨F, 1, none⟩) HFL.out _))
                refine wpLate_one (i := 17) (by kernel_rfl) rfl (fun K hK => ?_)
                go_simp
                refine hK.out _ _ (fun _ => hcs) ?_
                clear hK K
                try simp only [Act.put]
                refine wpLate_one (i := 18) (by kernel_rfl) rfl (fun K hK => ?_)
                go_simp
                refine hK.out _ _ (fun h => absurd rfl h) ?_
                clear hK K
                try simp only [Act.put]
                refine wpLate_done (by kernel_rfl) ?_ _
                go_wp2_with fail
                go_meet
                case rel => exact ⟨F, A8, N8, cap8, rfl, rfl, hN8, HBs, HFs, HMs⟩
            case yrxy =>
              obtain ⟨F, hF⟩ : ∃ F, v1e.heap.size = F := ⟨_, rfl⟩
              obtain ⟨v2c, hv2c⟩ : ∃ z, v1e.alloc (.cells #[.int .i64 0, .slice none 0 0] 25) = z := ⟨_, rfl⟩
              have HFL : Hid (wb.heap.size ≤ F) := Lib.hid (by rw [← hF]; exact HBR_2.out.size)
              have hbc : Below v1e.heap.size v1e v2c := by rw [← hv2c]; exact below_new v1e _
              have HFN := Lib.hid (show Whole v2c F 25 #[.int .i64 0, .slice none 0 0] by rw [← hv2c, ← hF]; exact Whole.made _ _ _)
              have HBR_3 := Lib.hid (HBR_2.out.trans (hbc.mono HBR_2.out.size))
              have HR_3 := Lib.hid (HR_2.out.kept hbc)
              have HX_3 := Lib.hid (HX0.out.below hbc HX0.out.lt)
              clear HX0 HR_2 HBR_2
              clear hbc
              go_simp
              refine hK.out _ _ (fun _ => (CS _ HBR_3.out)) ?_
              clear hK K
              try simp only [Act.put]
              refine wpLate_one (i := 3) (by kernel_rfl) rfl (fun K hK => ?_)
              have HMM := Lib.hid (HPb.out.below HBR_3.out (Nat.le_refl _))
              refine step_app_sl rfl (.tmp 74) (.tmp 75) 26 rfl intR wb.heap.size i0 _ 8 Try.underlying26 hi0 hq0 hq1 hq2 rfl (by decide) _ ([]) (P) 0 rfl rfl HR_3.out AP (NP) (capP) rfl HMM.out.1 HMM.out.2.2.1 HMM.out.2.2.2.1 HMM.out.2.2.2.2 (by unfold maxLen; omega) (by omega) HBR_3.out.size ?_
              intro A4 N4 c4 v4p hof hgf
              rw [List.nil_append] at hof
              have HR_4 := Lib.hid hof
              have HBR_4 : Hid (Below wb.heap.size wb v4p) := Lib.hid (HBR_3.out.grown hgf HBR_3.out.size (fun z e => (World.ownsRow.lt HR_3.out z e).1))
              have HF_4 := Lib.hid (HFN.out.grown hgf (fun e => (HR_3.out.whole HFN.out (by decide)) e.symm))
              have HX_4 := Lib.hid (HX_3.out.grown hgf (fun e => HGS.out (Option.some.inj e)))
              clear hof hgf HMM HX_3 HFN HR_3 HBR_3
              refine hK.out _ _ (fun _ => (CS _ HBR_4.out)) ?_
              clear hK K
              try simp only [Act.put]
              refine wpLate_one (i := 9) (by kernel_rfl) rfl (fun K hK => ?_)
              have HMM := Lib.hid (one_num HX_4.out)
              refine step_app_sl rfl (.tmp 76) (.tmp 81) 26 rfl intR wb.heap.size i0 _ 8 Try.underlying26 hi0 hq0 hq1 hq2 rfl (by decide) _ (P) ([(n1 : Int)]) NP HPL.out rfl HR_4.out (some ⟨G, 0, none⟩) (1) (1) rfl HMM.out.1 HMM.out.2.2.1 HMM.out.2.2.2.1 HMM.out.2.2.2.2 (by unfold maxLen; omega) (by omega) HBR_4.out.size ?_
              intro A5 N5 c5 v5p hof hgf
              have HR_5 := Lib.hid hof
              have HBR_5 : Hid (Below wb.heap.size wb v5p) := Lib.hid (HBR_4.out.grown hgf HBR_4.out.size (fun z e => (World.ownsRow.lt HR_4.out z e).1))
              have HF_5 := Lib.hid (HF_4.out.grown hgf (fun e => (HR_4.out.whole HF_4.out (by decide)) e.symm))
              clear hof hgf HMM HF_4 HR_4 HBR_4
              refine hK.out _ _ (fun _ => (CS _ HBR_5.out)) ?_
              clear hK K
              try simp only [Act.put]
              refine wpLate_one (i := 12) (by kernel_rfl) rfl (fun K hK => ?_)
              go_simp
              have hln := HR_5.out.len.1
              have hll : (P ++ [(n1 : Int)]).length ≤ 100 := by rw [List.length_append, HPL.out]; show NP + 1 ≤ 100; omega
              refine (impl_flags_at HX2.out A1 N1 cap1 A5 N5 c5 v5p (HMb.out.below HBR_5.out (Nat.le_refl _)) (IIn.of HR_5.out (by omega))).mono ?_
              rintro e v5k ⟨A8, N8, cap8, rfl, hown, hb⟩
              clear hln hll
              have hN8 : N8 ≤ 20 := by have h1 := hown.len.1; have h2 := HL0.out; omega
              have HO8 := Lib.hid (hown.from (show wb.heap.size ≤ v5p.heap.size from HBR_5.out.size))
              have HBR_6 := Lib.hid (HBR_5.out.trans (hb.mono HBR_5.out.size))
              have HF'_6 := Lib.hid (HF_5.out.below hb HF_5.out.lt)
              clear HF_5 HBR_5
              clear hb hown
              refine hK.out _ _ (fun _ => (CS _ HBR_6.out)) ?_
              clear hK K
              try simp only [Act.put]
              refine wpLate_take (i := 13) (v := ?v13x9rxyyooot) rfl (by kernel_rfl) (by kernel_rfl) (by kernel_rfl) (by kernel_rfl) (by kernel_rfl) (fun _ _ _ h => h) (CS _ HBR_6.out) (by rfl) ?hy13x9rxyyooot ?r13x9rxyyooot
              case hy13x9rxyyooot =>
                rintro wz ⟨z0, z1⟩
                go_simp
                try with_reducible rfl
              try simp only [Act.put]
              refine wpLate_take (i := 14) (v := ?v14x9rxyyooot) rfl (by kernel_rfl) (by kernel_rfl) (by kernel_rfl) (by kernel_rfl) (by kernel_rfl) (fun _ _ _ h => h) (CS _ HBR_6.out) (by rfl) ?hy14x9rxyyooot ?r14x9rxyyooot
              case hy14x9rxyyooot =>
                rintro wz ⟨z0, z1⟩
                go_simp
                try with_reducible rfl
              try simp only [Act.put]
              refine wpLate_take (i := 15) (v := ?v15x9rxyyooot) rfl (by kernel_rfl) (by kernel_rfl) (by kernel_rfl) (by kernel_rfl) (by kernel_rfl) (fun _ _ _ h => h) (CS _ HBR_6.out) (by rfl) ?hy15x9rxyyooot ?r15x9rxyyooot
              case hy15x9rxyyooot =>
                rintro wz ⟨z0, z1⟩
                go_simp
                try with_reducible rfl
              try simp only [Act.put]
              have HBs := Lib.hid (show Below S wb ((v5k.setCell ⟨F, 0, none⟩ (.int .i64 (0))).setCell ⟨F, 1, none⟩ (.slice A8 N8 cap8)) from HWS.out ▸ ((HBR_6.out.setCell (p := ⟨F, 0, none⟩) HFL.out _).setCell (p := ⟨F, 1, none⟩) HFL.out _))
              have HFs : Hid (Whole ((v5k.setCell ⟨F, 0, none⟩ (.int .i64 (0))).setCell ⟨F, 1, none⟩ (.slice A8 N8 cap8)) F 25 #[.int .i64 (0), .slice A8 N8 cap8]) := Lib.hid ((HF'_6.out.store 0 _).store 1 _)
              have HMs : Hid (MIn ((v5k.setCell ⟨F, 0, none⟩ (.int .i64 (0))).setCell ⟨F, 1, none⟩ (.slice A8 N8 cap8)) A8 N8 cap8 ([])) := Lib.hid (MIn.of ((HO8.out.store (p := ⟨F, 0, none⟩) (HO8.out.whole HF'_6.out (by decide)) _).store (p := ⟨F, 1, none⟩) (HO8.out.whole HF'_6.out (by decide)) _) (by omega))
              have f0 := HF'_6.out.cell 0
              have f1 := HF'_6.out.cell 1
              have j0 := HF'_6.out.free 0
              have j1 := HF'_6.out.free 1
              simp only [List.getElem?_toArray, List.getElem?_cons_zero, List.getElem?_cons_succ] at f0 f1
              have hcs := CS _ (show Below wb.heap.size wb ((v5k.setCell ⟨F, 0, none⟩ (.int .i64 (0))).setCell ⟨F, 1, none⟩ (.slice A8 N8 cap8)) from ((HBR_6.out.setCell (p := ⟨F, 0, none⟩) HFL.out _).setCell (p := ⟨F, 1, none⟩) HFL.out _))
              refine wpLate_one (i := 17) (by kernel_rfl) rfl (fun K hK => ?_)
              go_simp
              refine hK.out _ _ (fun _ => hcs) ?_
              clear hK K
              try simp only [Act.put]
              refine wpLate_one (i := 18) (by kernel_rfl) rfl (fun K hK => ?_)
              go_simp
              refine hK.out _ _ (fun h => absurd rfl h) ?_
              clear hK K
              try simp only [Act.put]
              refine wpLate_done (by kernel_rfl) ?_ _
              go_wp2_with fail
              go_meet
              case rel => exact ⟨F, A8, N8, cap8, rfl, rfl, hN8, HBs, HFs, HMs⟩
          case zrx =>
            obtain ⟨F, hF⟩ : ∃ F, v0b.heap.size = F := ⟨_, rfl⟩
            obtain ⟨v1c, hv1c⟩ : ∃ z, v0b.alloc (.cells #[.int .i64 0, .slice none 0 0] 25) = z := ⟨_, rfl⟩
            have HFL : Hid (wb.heap.size ≤ F) := Lib.hid (by rw [← hF]; exact HBR_1.out.size)
            have hbc : Below v0b.heap.size v0b v1c := by rw [← hv1c]; exact below_new v0b _
            have HFN := Lib.hid (show Whole v1c F 25 #[.int .i64 0, .slice none 0 0] by rw [← hv1c, ← hF]; exact Whole.made _ _ _)
            have HBR_2 := Lib.hid (HBR_1.out.trans (hbc.mono HBR_1.out.size))
            have HR_2 := Lib.hid (HR0.out.kept hbc)
            clear HR0 HBR_1
            clear hbc
            go_simp
            refine hK.out _ _ (fun _ => (CS _ HBR_2.out)) ?_
            clear hK K
            try simp only [Act.put]
            refine wpLate_two (i := 3) (k := 8) (by kernel_rfl) rfl rfl (fun K hK => ?xrxz) (fun K hK => ?yrxz)
            case xrxz =>
              have HMM := Lib.hid (HPb.out.below HBR_2.out (Nat.le_refl _))
              refine step_app_sl rfl (.tmp 74) (.tmp 75) 26 rfl intR wb.heap.size i0 _ 8 Try.underlying26 hi0 hq0 hq1 hq2 rfl (by decide) _ ([]) (P) 0 rfl rfl HR_2.out AP (NP) (capP) rfl HMM.out.1 HMM.out.2.2.1 HMM.out.2.2.2.1 HMM.out.2.2.2.2 (by unfold maxLen; omega) (by omega) HBR_2.out.size ?_
              intro A3 N3 c3 v3p hof hgf
              rw [List.nil_append] at hof
              have HR_3 := Lib.hid hof
              have HBR_3 : Hid (Below wb.heap.size wb v3p) := Lib.hid (HBR_2.out.grown hgf HBR_2.out.size (fun z e => (World.ownsRow.lt HR_2.out z e).1))
              have HF_3 := Lib.hid (HFN.out.grown hgf (fun e => (HR_2.out.whole HFN.out (by decide)) e.symm))
              clear hof hgf HMM HFN HR_2 HBR_2
              refine hK.out _ _ (fun _ => (CS _ HBR_3.out)) ?_
              clear hK K
              try simp only [Act.put]
              refine wpLate_one (i := 8) (by kernel_rfl) rfl (fun K hK => ?_)
              obtain ⟨G, hG⟩ : ∃ S, v3p.heap.size = S := ⟨_, rfl⟩
              obtain ⟨v3e, hv3e⟩ : ∃ z, v3p.alloc (.cells #[.int .i64 (n1 : Int)] 3) = z := ⟨_, rfl⟩
              have hbc : Below v3p.heap.size v3p v3e := by rw [← hv3e]; exact below_new _ _
              have HXW : Hid (G < v3e.heap.size) := Lib.hid (by have h0 := hbc.size; have h1 : v3e.heap.size = v3p.heap.size + 1 := (by rw [← hv3e]; simp); omega)
              have HX0 := Lib.hid (show Whole v3e G 3 #[.int .i64 (n1 : Int)] by rw [← hv3e, ← hG]; exact Whole.made _ _ _)
              have HXL : Hid (wb.heap.size ≤ G) := Lib.hid (by rw [← hG]; exact HBR_3.out.size)
              have HR_4 := Lib.hid (HR_3.out.kept hbc)
              have HBR_4 := Lib.hid (HBR_3.out.trans (hbc.mono HBR_3.out.size))
              have HF'_4 := Lib.hid (HF_3.out.below hbc HF_3.out.lt)
              clear HF_3 HBR_3 HR_3
              clear hbc
              go_simp
              refine hK.out _ _ (fun _ => (CS _ HBR_4.out)) ?_
              clear hK K
              try simp only [Act.put]
              refine wpLate_one (i := 9) (by kernel_rfl) rfl (fun K hK => ?_)
              have HMM := Lib.hid (one_num HX0.out)
              refine step_app_sl rfl (.tmp 76) (.tmp 81) 26 rfl intR wb.heap.size i0 _ 8 Try.underlying26 hi0 hq0 hq1 hq2 rfl (by decide) _ (P) ([(n1 : Int)]) NP HPL.out rfl HR_4.out (some ⟨G, 0, none⟩) (1) (1) rfl HMM.out.1 HMM.out.2.2.1 HMM.out.2.2.2.1 HMM.out.2.2.2.2 (by unfold maxLen; omega) (by omega) HBR_4.out.size ?_
              intro A5 N5 c5 v5p hof hgf
              have HR_5 := Lib.hid hof
              have HBR_5 : Hid (Below wb.heap.size wb v5p) := Lib.hid (HBR_4.out.grown hgf HBR_4.out.size (fun z e => (World.ownsRow.lt HR_4.out z e).1))
              have HF_5 := Lib.hid (HF'_4.out.grown hgf (fun e => (HR_4.out.whole HF'_4.out (by decide)) e.symm))
              clear hof hgf HMM HF'_4 HR_4 HBR_4
              refine hK.out _ _ (fun _ => (CS _ HBR_5.out)) ?_
              clear hK K
              try simp only [Act.put]
              refine wpLate_one (i := 12) (by kernel_rfl) rfl (fun K hK => ?_)
              go_simp
              have hln := HR_5.out.len.1
              have hll : (P ++ [(n1 : Int)]).length ≤ 100 := by rw [List.length_append, HPL.out]; show NP + 1 ≤ 100; omega
              refine (impl_flags_at HX2.out A1 N1 cap1 A5 N5 c5 v5p (HMb.out.below HBR_5.out (Nat.le_refl _)) (IIn.of HR_5.out (by omega))).mono ?_
              rintro e v5k ⟨A8, N8, cap8, rfl, hown, hb⟩
              clear hln hll
              have hN8 : N8 ≤ 20 := by have h1 := hown.len.1; have h2 := HL0.out; omega
              have HO8 := Lib.hid (hown.from (show wb.heap.size ≤ v5p.heap.size from HBR_5.out.size))
              have HBR_6 := Lib.hid (HBR_5.out.trans (hb.mono HBR_5.out.size))
              have HF'_6 := Lib.hid (HF_5.out.below hb HF_5.out.lt)
              clear HF_5 HBR_5
              clear hb hown
              refine hK.out _ _ (fun _ => (CS _ HBR_6.out)) ?_
              clear hK K
              try simp only [Act.put]
              refine wpLate_take (i := 13) (v := ?v13x9rxzxooot) rfl (by kernel_rfl) (by kernel_rfl) (by kernel_rfl) (by kernel_rfl) (by kernel_rfl) (fun _ _ _ h => h) (CS _ HBR_6.out) (by rfl) ?hy13x9rxzxooot ?r13x9rxzxooot
              case hy13x9rxzxooot =>
                rintro wz ⟨z0, z1⟩
                go_simp
                try with_reducible rfl
              try simp only [Act.put]
              refine wpLate_take (i := 14) (v := ?v14x9rxzxooot) rfl (by kernel_rfl) (by kernel_rfl) (by kernel_rfl) (by kernel_rfl) (by kernel_rfl) (fun _ _ _ h => h) (CS _ HBR_6.out) (by rfl) ?hy14x9rxzxooot ?r14x9rxzxooot
              case hy14x9rxzxooot =>
                rintro wz ⟨z0, z1⟩
                go_simp
                try with_reducible rfl
              try simp only [Act.put]
              refine wpLate_take (i := 15) (v := ?v15x9rxzxooot) rfl (by kernel_rfl) (by kernel_rfl) (by kernel_rfl) (by kernel_rfl) (by kernel_rfl) (fun _ _ _ h => h) (CS _ HBR_6.out) (by rfl) ?hy15x9rxzxooot ?r15x9rxzxooot
              case hy15x9rxzxooot =>
                rintro wz ⟨z0, z1⟩
                go_simp
                try with_reducible rfl
              try simp only [Act.put]
              have HBs := Lib.hid (show Below S wb ((v5k.setCell ⟨F, 0, none⟩ (.int .i64 (0))).setCell ⟨F, 1, none⟩ (.slice A8 N8 cap8)) from HWS.out ▸ ((HBR_6.out.setCell (p := ⟨F, 0, none⟩) HFL.out _).setCell (p := ⟨F, 1, none⟩) HFL.out _))
              have HFs : Hid (Whole ((v5k.setCell ⟨F, 0, none⟩ (.int .i64 (0))).setCell ⟨F, 1, none⟩ (.slice A8 N8 cap8)) F 25 #[.int .i64 (0), .slice A8 N8 cap8]) := Lib.hid ((HF'_6.out.store 0 _).store 1 _)
              have HMs : Hid (MIn ((v5k.setCell ⟨F, 0, none⟩ (.int .i64 (0))).setCell ⟨F, 1, none⟩ (.slice A8 N8 cap8)) A8 N8 cap8 ([])) := Lib.hid (MIn.of ((HO8.out.store (p := ⟨F, 0, none⟩) (HO8.out.whole HF'_6.out (by decide)) _).store (p := ⟨F, 1, none⟩) (HO8.out.whole HF'_6.out (by decide)) _) (by omega))
              have f0 := HF'_6.out.cell 0
              have f1 := HF'_6.out.cell 1
              have j0 := HF'_6.out.free 0
              have j1 := HF'_6.out.free 1
              simp only [List.getElem?_toArray, List.getElem?_cons_zero, List.getElem?_cons_succ] at f0 f1
              have hcs := CS _ (show Below wb.heap.size wb ((v5k.setCell ⟨F, 0, none⟩ (.int .i64 (0))).setCell ⟨F, 1, none⟩ (.slice A8 N8 cap8)) from ((HBR_6.out.setCell (p := ⟨F, 0, none⟩) HFL.out _).setCell (p := ⟨F, 1, none⟩) HFL.out _))
              refine wpLate_one (i := 17) (by kernel_rfl) rfl (fun K hK => ?_)
              go_simp
              refine hK.out _ _ (fun _ => hcs) ?_
              clear hK K
              try simp only [Act.put]
              refine wpLate_one (i := 18) (by kernel_rfl) rfl (fun K hK => ?_)
              go_simp
              refine hK.out _ _ (fun h => absurd rfl h) ?_
              clear hK K
              try simp only [Act.put]
              refine wpLate_done (by kernel_rfl) ?_ _
              go_wp2_with fail
              go_meet
              case rel => exact ⟨F, A8, N8, cap8, rfl, rfl, hN8, HBs, HFs, HMs⟩
            case yrxz =>
              have HSL := Lib.hid (World.ownsRow.lt HR_2.out S1 rfl).2
              obtain ⟨G, hG⟩ : ∃ S, v1c.heap.size = S := ⟨_, rfl⟩
              obtain ⟨v2e, hv2e⟩ : ∃ z, v1c.alloc (.cells #[.int .i64 (n1 : Int)] 3) = z := ⟨_, rfl⟩
              have hbc : Below v1c.heap.size v1c v2e := by rw [← hv2e]; exact below_new _ _
              have HXW : Hid (G < v2e.heap.size) := Lib.hid (by have h0 := hbc.size; have h1 : v2e.heap.size = v1c.heap.size + 1 := (by rw [← hv2e]; simp); omega)
              have HX0 := Lib.hid (show Whole v2e G 3 #[.int .i64 (n1 : Int)] by rw [← hv2e, ← hG]; exact Whole.made _ _ _)
              have HXL : Hid (wb.heap.size ≤ G) := Lib.hid (by rw [← hG]; exact HBR_2.out.size)
              have HBR_3 := Lib.hid (HBR_2.out.trans (hbc.mono HBR_2.out.size))
              have HR_3 := Lib.hid (HR_2.out.kept hbc)
              have HF'_3 := Lib.hid (HFN.out.below hbc HFN.out.lt)
              clear HFN HR_2 HBR_2
              clear hbc
              have HGS : Hid (G ≠ S1) := Lib.hid (by have h1 := HSL.out; omega)
              go_simp
              refine hK.out _ _ (fun _ => (CS _ HBR_3.out)) ?_
              clear hK K
              try simp only [Act.put]
              refine wpLate_one (i := 3) (by kernel_rfl) rfl (fun K hK => ?_)
              have HMM := Lib.hid (HPb.out.below HBR_3.out (Nat.le_refl _))
              refine step_app_sl rfl (.tmp 74) (.tmp 75) 26 rfl intR wb.heap.size i0 _ 8 Try.underlying26 hi0 hq0 hq1 hq2 rfl (by decide) _ ([]) (P) 0 rfl rfl HR_3.out AP (NP) (capP) rfl HMM.out.1 HMM.out.2.2.1 HMM.out.2.2.2.1 HMM.out.2.2.2.2 (by unfold maxLen; omega) (by omega) HBR_3.out.size ?_
              intro A4 N4 c4 v4p hof hgf
              rw [List.nil_append] at hof
              have HR_4 := Lib.hid hof
              have HBR_4 : Hid (Below wb.heap.size wb v4p) := Lib.hid (HBR_3.out.grown hgf HBR_3.out.size (fun z e => (World.ownsRow.lt HR_3.out z e).1))
              have HF_4 := Lib.hid (HF'_3.out.grown hgf (fun e => (HR_3.out.whole HF'_3.out (by decide)) e.symm))
              have HX_4 := Lib.hid (HX0.out.grown hgf (fun e => HGS.out (Option.some.inj e)))
              clear hof hgf HMM HX0 HF'_3 HR_3 HBR_3
              refine hK.out _ _ (fun _ => (CS _ HBR_4.out)) ?_
              clear hK K
              try simp only [Act.put]
              refine wpLate_one (i := 9) (by kernel_rfl) rfl (fun K hK => ?_)
              have HMM := Lib.hid (one_num HX_4.out)
              refine step_app_sl rfl (.tmp 76) (.tmp 81) 26 rfl intR wb.heap.size i0 _ 8 Try.underlying26 hi0 hq0 hq1 hq2 rfl (by decide) _ (P) ([(n1 : Int)]) NP HPL.out rfl HR_4.out (some ⟨G, 0, none⟩) (1) (1) rfl HMM.out.1 HMM.out.2.2.1 HMM.out.2.2.2.1 HMM.out.2.2.2.2 (by unfold maxLen; omega) (by omega) HBR_4.out.size ?_
              intro A5 N5 c5 v5p hof hgf
              have HR_5 := Lib.hid hof
              have HBR_5 : Hid (Below wb.heap.size wb v5p) := Lib.hid (HBR_4.out.grown hgf HBR_4.out.size (fun z e => (World.ownsRow.lt HR_4.out z e).1))
              have HF_5 := Lib.hid (HF_4.out.grown hgf (fun e => (HR_4.out.whole HF_4.out (by decide)) e.symm))
              clear hof hgf HMM HF_4 HR_4 HBR_4
              refine hK.out _ _ (fun _ => (CS _ HBR_5.out)) ?_
              clear hK K
              try simp only [Act.put]
              refine wpLate_one (i := 12) (by kernel_rfl) rfl (fun K hK => ?_)
              go_simp
              have hln := HR_5.out.len.1
              have hll : (P ++ [(n1 : Int)]).length ≤ 100 := by rw [List.length_append, HPL.out]; show NP + 1 ≤ 100; omega
              refine (impl_flags_at HX2.out A1 N1 cap1 A5 N5 c5 v5p (HMb.out.below HBR_5.out (Nat.le_refl _)) (IIn.of HR_5.out (by omega))).mono ?_
              rintro e v5k ⟨A8, N8, cap8, rfl, hown, hb⟩
              clear hln hll
              have hN8 : N8 ≤ 20 := by have h1 := hown.len.1; have h2 := HL0.out; omega
              have HO8 := Lib.hid (hown.from (show wb.heap.size ≤ v5p.heap.size from HBR_5.out.size))
              have HBR_6 := Lib.hid (HBR_5.out.trans (hb.mono HBR_5.out.size))
              have HF'_6 := Lib.hid (HF_5.out.below hb HF_5.out.lt)
              clear HF_5 HBR_5
              clear hb hown
              refine hK.out _ _ (fun _ => (CS _ HBR_6.out)) ?_
              clear hK K
              try simp only [Act.put]
              refine wpLate_take (i := 13) (v := ?v13x9rxzyooot) rfl (by kernel_rfl) (by kernel_rfl) (by kernel_rfl) (by kernel_rfl) (by kernel_rfl) (fun _ _ _ h => h) (CS _ HBR_6.out) (by rfl) ?hy13x9rxzyooot ?r13x9rxzyooot
              case hy13x9rxzyooot =>
                rintro wz ⟨z0, z1⟩
                go_simp
                try with_reducible rfl
              try simp only [Act.put]
              refine wpLate_take (i := 14) (v := ?v14x9rxzyooot) rfl (by kernel_rfl) (by kernel_rfl) (by kernel_rfl) (by kernel_rfl) (by kernel_rfl) (fun _ _ _ h => h) (CS _ HBR_6.out) (by rfl) ?hy14x9rxzyooot ?r14x9rxzyooot
              case hy14x9rxzyooot =>
                rintro wz ⟨z0, z1⟩
                go_simp
                try with_reducible rfl
              try simp only [Act.put]
              refine wpLate_take (i := 15) (v := ?v15x9rxzyooot) rfl (by kernel_rfl) (by kernel_rfl) (by kernel_rfl) (by kernel_rfl) (by kernel_rfl) (fun _ _ _ h => h) (CS _ HBR_6.out) (by rfl) ?hy15x9rxzyooot ?r15x9rxzyooot
              case hy15x9rxzyooot =>
                rintro wz ⟨z0, z1⟩
                go_simp
                try with_reducible rfl
              try simp only [Act.put]
              have HBs := Lib.hid (show Below S wb ((v5k.setCell ⟨F, 0, none⟩ (.int .i64 (0))).setCell ⟨F, 1, none⟩ (.slice A8 N8 cap8)) from HWS.out ▸ ((HBR_6.out.setCell (p := ⟨F, 0, none⟩) HFL.out _).setCell (p := ⟨F, 1, none⟩) HFL.out _))
              have HFs : Hid (Whole ((v5k.setCell ⟨F, 0, none⟩ (.int .i64 (0))).setCell ⟨F, 1, none⟩ (.slice A8 N8 cap8)) F 25 #[.int .i64 (0), .slice A8 N8 cap8]) := Lib.hid ((HF'_6.out.store 0 _).store 1 _)
              have HMs : Hid (MIn ((v5k.setCell ⟨F, 0, none⟩ (.int .i64 (0))).setCell ⟨F, 1, none⟩ (.slice A8 N8 cap8)) A8 N8 cap8 ([])) := Lib.hid (MIn.of ((HO8.out.store (p := ⟨F, 0, none⟩) (HO8.out.whole HF'_6.out (by decide)) _).store (p := ⟨F, 1, none⟩) (HO8.out.whole HF'_6.out (by decide)) _) (by omega))
              have f0 := HF'_6.out.cell 0
              have f1 := HF'_6.out.cell 1
              have j0 := HF'_6.out.free 0
              have j1 := HF'_6.out.free 1
              simp only [List.getElem?_toArray, List.getElem?_cons_zero, List.getElem?_cons_succ] at f0 f1
              have hcs := CS _ (show Below wb.heap.size wb ((v5k.setCell ⟨F, 0, none⟩ (.int .i64 (0))).setCell ⟨F, 1, none⟩ (.slice A8 N8 cap8)) from ((HBR_6.out.setCell (p := ⟨F, 0, none⟩) HFL.out _).setCell (p := ⟨F, 1, none⟩) HFL.out _))
              refine wpLate_one (i := 17) (by kernel_rfl) rfl (fun K hK => ?_)
              go_simp
              refine hK.out _ _ (fun _ => hcs) ?_
              clear hK K
              try simp only [Act.put]
              refine wpLate_one (i := 18) (by kernel_rfl) rfl (fun K hK => ?_)
              go_simp
              refine hK.out _ _ (fun h => absurd rfl h) ?_
              clear hK K
              try simp only [Act.put]
              refine wpLate_done (by kernel_rfl) ?_ _
              go_wp2_with fail
              go_meet
              case rel => exact ⟨F, A8, N8, cap8, rfl, rfl, hN8, HBs, HFs, HMs⟩
        case yr =>
          obtain ⟨G, hG⟩ : ∃ S, wd.heap.size = S := ⟨_, rfl⟩
          obtain ⟨v0e, hv0e⟩ : ∃ z, wd.alloc (.cells #[.int .i64 (n1 : Int)] 3) = z := ⟨_, rfl⟩
          have hbc : Below wd.heap.size wd v0e := by rw [← hv0e]; exact below_new _ _
          have HXW : Hid (G < v0e.heap.size) := Lib.hid (by have h0 := hbc.size; have h1 : v0e.heap.size = wd.heap.size + 1 := (by rw [← hv0e]; simp); omega)
          have HX0 := Lib.hid (show Whole v0e G 3 #[.int .i64 (n1 : Int)] by rw [← hv0e, ← hG]; exact Whole.made _ _ _)
          have HXL : Hid (wb.heap.size ≤ G) := Lib.hid (by rw [← hG]; exact HBR.out.size)
          have HBR_1 := Lib.hid (HBR.out.trans (hbc.mono HBR.out.size))
          clear HBR
          clear hbc
          go_simp
          refine hK.out _ _ (fun _ => (CS _ HBR_1.out)) ?_
          clear hK K
          try simp only [Act.put]
          refine wpLate_two (i := 1) (k := 16) (by kernel_rfl) rfl rfl (fun K hK => ?xry) (fun K hK => ?yry)
          case xry =>
            have HGL := Lib.hid (HX0.out.lt)
            obtain ⟨S1, hS1⟩ : ∃ S, v0e.heap.size = S := ⟨_, rfl⟩
            obtain ⟨v1b, hv1b⟩ : ∃ z, v0e.alloc (.cells #[] 3) = z := ⟨_, rfl⟩
            have hbc : Below v0e.heap.size v0e v1b := by rw [← hv1b]; exact below_new _ _
            have HR0 := Lib.hid (show ROwn intR v1b wb.heap.size (.slice (some ⟨S1, 0, none⟩) 0 0) [] by rw [← hv1b]; exact ROwn.lit v0e S1 HBR_1.out.size hS1)
            have HBR_2 := Lib.hid (HBR_1.out.trans (hbc.mono HBR_1.out.size))
            have HX_2 := Lib.hid (HX0.out.below hbc HX0.out.lt)
            clear HX0 HBR_1
            clear hbc
            have HGS : Hid (G ≠ S1) := Lib.hid (by have h1 := HGL.out; omega)
            go_simp
            refine hK.out _ _ (fun _ => (CS _ HBR_2.out)) ?_
            clear hK K
            try simp only [Act.put]
            refine wpLate_two (i := 3) (k := 16) (by kernel_rfl) rfl rfl (fun K hK => ?xryx) (fun K hK => ?yryx)
            case xryx =>
              have HMM := Lib.hid (HPb.out.below HBR_2.out (Nat.le_refl _))
              refine step_app_sl rfl (.tmp 74) (.tmp 75) 26 rfl intR wb.heap.size i0 _ 8 Try.underlying26 hi0 hq0 hq1 hq2 rfl (by decide) _ ([]) (P) 0 rfl rfl HR0.out AP (NP) (capP) rfl HMM.out.1 HMM.out.2.2.1 HMM.out.2.2.2.1 HMM.out.2.2.2.2 (by unfold maxLen; omega) (by omega) HBR_2.out.size ?_
              intro A3 N3 c3 v3p hof hgf
              rw [List.nil_append] at hof
              have HR_3 := Lib.hid hof
              have HBR_3 : Hid (Below wb.heap.size wb v3p) := Lib.hid (HBR_2.out.grown hgf HBR_2.out.size (fun z e => (World.ownsRow.lt HR0.out z e).1))
              have HX_3 := Lib.hid (HX_2.out.grown hgf (fun e => HGS.out (Option.some.inj e)))
              clear hof hgf HMM HX_2 HR0 HBR_2
              refine hK.out _ _ (fun _ => (CS _ HBR_3.out)) ?_
              clear hK K
              try simp only [Act.put]
              refine wpLate_two (i := 9) (k := 16) (by kernel_rfl) rfl rfl (fun K hK => ?xryxx) (fun K hK => ?yryxx)
              case xryxx =>
                have HMM := Lib.hid (one_num HX_3.out)
                refine step_app_sl rfl (.tmp 76) (.tmp 81) 26 rfl intR wb.heap.size i0 _ 8 Try.underlying26 hi0 hq0 hq1 hq2 rfl (by decide) _ (P) ([(n1 : Int)]) NP HPL.out rfl HR_3.out (some ⟨G, 0, none⟩) (1) (1) rfl HMM.out.1 HMM.out.2.2.1 HMM.out.2.2.2.1 HMM.out.2.2.2.2 (by unfold maxLen; omega) (by omega) HBR_3.out.size ?_
                intro A4 N4 c4 v4p hof hgf
                have HR_4 := Lib.hid hof
                have HBR_4 : Hid (Below wb.heap.size wb v4p) := Lib.hid (HBR_3.out.grown hgf HBR_3.out.size (fun z e => (World.ownsRow.lt HR_3.out z e).1))
                clear hof hgf HMM HR_3 HBR_3
                refine hK.out _ _ (fun _ => (CS _ HBR_4.out)) ?_
                clear hK K
                try simp only [Act.put]
                refine wpLate_two (i := 12) (k := 16) (by kernel_rfl) rfl rfl (fun K hK => ?xryxxx) (fun K hK => ?yryxxx)
                case xryxxx =>
                  go_simp
                  have hln := HR_4.out.len.1
                  have hll : (P ++ [(n1 : Int)]).length ≤ 100 := by rw [List.length_append, HPL.out]; show NP + 1 ≤ 100; omega
                  refine (impl_flags_at HX2.out A1 N1 cap1 A4 N4 c4 v4p (HMb.out.below HBR_4.out (Nat.le_refl _)) (IIn.of HR_4.out (by omega))).mono ?_
                  rintro e v4k ⟨A8, N8, cap8, rfl, hown, hb⟩
                  clear hln hll
                  have hN8 : N8 ≤ 20 := by have h1 := hown.len.1; have h2 := HL0.out; omega
                  have HO8 := Lib.hid (hown.from (show wb.heap.size ≤ v4p.heap.size from HBR_4.out.size))
                  have HBR_5 := Lib.hid (HBR_4.out.trans (hb.mono HBR_4.out.size))
                  clear HBR_4
                  clear hb hown
                  refine hK.out _ _ (fun _ => (CS _ HBR_5.out)) ?_
                  clear hK K
                  try simp only [Act.put]
                  refine wpLate_take (i := 13) (v := ?v13x9ryxxxxt) rfl (by kernel_rfl) (by kernel_rfl) (by kernel_rfl) (by kernel_rfl) (by kernel_rfl) (fun _ _ _ h => h) (CS _ HBR_5.out) (by rfl) ?hy13x9ryxxxxt ?r13x9ryxxxxt
                  case hy13x9ryxxxxt =>
                    rintro wz ⟨z0, z1⟩
                    go_simp
                    try with_reducible rfl
                  try simp only [Act.put]
                  refine wpLate_take (i := 14) (v := ?v14x9ryxxxxt) rfl (by kernel_rfl) (by kernel_rfl) (by kernel_rfl) (by kernel_rfl) (by kernel_rfl) (fun _ _ _ h => h) (CS _ HBR_5.out) (by rfl) ?hy14x9ryxxxxt ?r14x9ryxxxxt
                  case hy14x9ryxxxxt =>
                    rintro wz ⟨z0, z1⟩
                    go_simp
                    try with_reducible rfl
                  try simp only [Act.put]
                  refine wpLate_take (i := 15) (v := ?v15x9ryxxxxt) rfl (by kernel_rfl) (by kernel_rfl) (by kernel_rfl) (by kernel_rfl) (by kernel_rfl) (fun _ _ _ h => h) (CS _ HBR_5.out) (by rfl) ?hy15x9ryxxxxt ?r15x9ryxxxxt
                  case hy15x9ryxxxxt =>
                    rintro wz ⟨z0, z1⟩
                    go_simp
                    try with_reducible rfl
                  try simp only [Act.put]
                  refine wpLate_one (i := 16) (by kernel_rfl) rfl (fun K hK => ?_)
                  obtain ⟨F, hF⟩ : ∃ F, v4k.heap.size = F := ⟨_, rfl⟩
                  obtain ⟨v5c, hv5c⟩ : ∃ z, v4k.alloc (.cells #[.int .i64 0, .slice none 0 0] 25) = z := ⟨_, rfl⟩
                  have HFL : Hid (wb.heap.size ≤ F) := Lib.hid (by rw [← hF]; exact HBR_5.out.size)
                  have hbc : Below v4k.heap.size v4k v5c := by rw [← hv5c]; exact below_new v4k _
                  have HFN := Lib.hid (show Whole v5c F 25 #[.int .i64 0, .slice none 0 0] by rw [← hv5c, ← hF]; exact Whole.made _ _ _)
                  have HBR_6 := Lib.hid (HBR_5.out.trans (hbc.mono HBR_5.out.size))
                  have HO_6 := Lib.hid (HO8.out.kept hbc)
                  clear HO8 HBR_5
                  clear hbc
                  go_simp
                  refine hK.out _ _ (fun _ => (CS _ HBR_6.out)) ?_
                  clear hK K
                  try simp only [Act.put]
                  have HBs := Lib.hid (show Below S wb ((v5c.setCell ⟨F, 0, none⟩ (.int .i64 (0))).setCell ⟨F, 1, none⟩ (.slice A8 N8 cap8)) from HWS.out ▸ ((HBR_6.out.setCell (p := ⟨F, 0, none⟩) HFL.out _).setCell (p := ⟨F, 1, none⟩) HFL.out _))
                  have HFs : Hid (Whole ((v5c.setCell ⟨F, 0, none⟩ (.int .i64 (0))).setCell ⟨F, 1, none⟩ (.slice A8 N8 cap8)) F 25 #[.int .i64 (0), .slice A8 N8 cap8]) := Lib.hid ((HFN.out.store 0 _).store 1 _)
                  have HMs : Hid (MIn ((v5c.setCell ⟨F, 0, none⟩ (.int .i64 (0))).setCell ⟨F, 1, none⟩ (.slice A8 N8 cap8)) A8 N8 cap8 ([])) := Lib.hid (MIn.of ((HO_6.out.store (p := ⟨F, 0, none⟩) (HO_6.out.whole HFN.out (by decide)) _).store (p := ⟨F, 1, none⟩) (HO_6.out.whole HFN.out (by decide)) _) (by omega))
                  have f0 := HFN.out.cell 0
                  have f1 := HFN.out.cell 1
                  have j0 := HFN.out.free 0
                  have j1 := HFN.out.free 1
                  simp only [List.getElem?_toArray, List.getElem?_cons_zero, List.getElem?_cons_succ] at f0 f1
                  have hcs := CS _ (show Below wb.heap.size wb ((v5c.setCell ⟨F, 0, none⟩ (.int .i64 (0))).setCell ⟨F, 1, none⟩ (.slice A8 N8 cap8)) from ((HBR_6.out.setCell (p := ⟨F, 0, none⟩) HFL.out _).setCell (p := ⟨F, 1, none⟩) HFL.out _))
                  refine wpLate_one (i := 17) (by kernel_rfl) rfl (fun K hK => ?_)
                  go_simp
                  refine hK.out _ _ (fun _ => hcs) ?_
                  clear hK K
                  try simp only [Act.put]
                  refine wpLate_one (i := 18) (by kernel_rfl) rfl (fun K hK => ?_)
                  go_simp
                  refine hK.out _ _ (fun h => absurd rfl h) ?_
                  clear hK K
                  try simp only [Act.put]
                  refine wpLate_done (by kernel_rfl) ?_ _
                  go_wp2_with fail
                  go_meet
                  case rel => exact ⟨F, A8, N8, cap8, rfl, rfl, hN8, HBs, HFs, HMs⟩
                case yryxxx =>
                  obtain ⟨F, hF⟩ : ∃ F, v4p.heap.size = F := ⟨_, rfl⟩
                  obtain ⟨v4c, hv4c⟩ : ∃ z, v4p.alloc (.cells #[.int .i64 0, .slice none 0 0] 25) = z := ⟨_, rfl⟩
                  have HFL : Hid (wb.heap.size ≤ F) := Lib.hid (by rw [← hF]; exact HBR_4.out.size)
                  have hbc : Below v4p.heap.size v4p v4c := by rw [← hv4c]; exact below_new v4p _
                  have HFN := Lib.hid (show Whole v4c F 25 #[.int .i64 0, .slice none 0 0] by rw [← hv4c, ← hF]; exact Whole.made _ _ _)
                  have HR_5 := Lib.hid (HR_4.out.kept hbc)
                  have HBR_5 := Lib.hid (HBR_4.out.trans (hbc.mono HBR_4.out.size))
                  clear HBR_4 HR_4
                  clear hbc
                  go_simp
                  refine hK.out _ _ (fun _ => (CS _ HBR_5.out)) ?_
                  clear hK K
                  try simp only [Act.put]
                  refine wpLate_one (i := 12) (by kernel_rfl) rfl (fun K hK => ?_)
                  go_simp
                  have hln := HR_5.out.len.1
                  have hll : (P ++ [(n1 : Int)]).length ≤ 100 := by rw [List.length_append, HPL.out]; show NP + 1 ≤ 100; omega
                  refine (impl_flags_at HX2.out A1 N1 cap1 A4 N4 c4 v4c (HMb.out.below HBR_5.out (Nat.le_refl _)) (IIn.of HR_5.out (by omega))).mono ?_
                  rintro e v5k ⟨A8, N8, cap8, rfl, hown, hb⟩
                  clear hln hll
                  have hN8 : N8 ≤ 20 := by have h1 := hown.len.1; have h2 := HL0.out; omega
                  have HO8 := Lib.hid (hown.from (show wb.heap.size ≤ v4c.heap.size from HBR_5.out.size))
                  have HBR_6 := Lib.hid (HBR_5.out.trans (hb.mono HBR_5.out.size))
                  have HF'_6 := Lib.hid (HFN.out.below hb HFN.out.lt)
                  clear HFN HBR_5
                  clear hb hown
                  refine hK.out _ _ (fun _ => (CS _ HBR_6.out)) ?_
                  clear hK K
                  try simp only [Act.put]
                  refine wpLate_take (i := 13) (v := ?v13x9ryxxxyot) rfl (by kernel_rfl) (by kernel_rfl) (by kernel_rfl) (by kernel_rfl) (by kernel_rfl) (fun _ _ _ h => h) (CS _ HBR_6.out) (by rfl) ?hy13x9ryxxxyot ?r13x9ryxxxyot
                  case hy13x9ryxxxyot =>
                    rintro wz ⟨z0, z1⟩
                    go_simp
                    try with_reducible rfl
                  try simp only [Act.put]
                  refine wpLate_take (i := 14) (v := ?v14x9ryxxxyot) rfl (by kernel_rfl) (by kernel_rfl) (by kernel_rfl) (by kernel_rfl) (by kernel_rfl) (fun _ _ _ h => h) (CS _ HBR_6.out) (by rfl) ?hy14x9ryxxxyot ?r14x9ryxxxyot
                  case hy14x9ryxxxyot =>
                    rintro wz ⟨z0, z1⟩
                    go_simp
                    try with_reducible rfl
                  try simp only [Act.put]
                  refine wpLate_take (i := 15) (v := ?v15x9ryxxxyot) rfl (by kernel_rfl) (by kernel_rfl) (by kernel_rfl) (by kernel_rfl) (by kernel_rfl) (fun _ _ _ h => h) (CS _ HBR_6.out) (by rfl) ?hy15x9ryxxxyot ?r15x9ryxxxyot
                  case hy15x9ryxxxyot =>
                    rintro wz ⟨z0, z1⟩
                    go_simp
                    try with_reducible rfl
                  try simp only [Act.put]
                  have HBs := Lib.hid (show Below S wb ((v5k.setCell ⟨F, 0, none⟩ (.int .i64 (0))).setCell ⟨F, 1, none⟩ (.slice A8 N8 cap8)) from HWS.out ▸ ((HBR_6.out.setCell (p := ⟨F, 0, none⟩) HFL.out _).setCell (p := ⟨F, 1, none⟩) HFL.out _))
                  have HFs : Hid (Whole ((v5k.setCell ⟨F, 0, none⟩ (.int .i64 (0))).setCell ⟨F, 1, none⟩ (.slice A8 N8 cap8)) F 25 #[.int .i64 (0), .slice A8 N8 cap8]) := Lib.hid ((HF'_6.out.store 0 _).store 1 _)
                  have HMs : Hid (MIn ((v5k.setCell ⟨F, 0, none⟩ (.int .i64 (0))).setCell ⟨F, 1, none⟩ (.slice A8 N8 cap8)) A8 N8 cap8 ([])) := Lib.hid (MIn.of ((HO8.out.store (p := ⟨F, 0, none⟩) (HO8.out.whole HF'_6.out (by decide)) _).store (p := ⟨F, 1, none⟩) (HO8.out.whole HF'_6.out (by decide)) _) (by omega))
                  have f0 := HF'_6.out.cell 0
                  have f1 := HF'_6.out.cell 1
                  have j0 := HF'_6.out.free 0
                  have j1 := HF'_6.out.free 1
                  simp only [List.getElem?_toArray, List.getElem?_cons_zero, List.getElem?_cons_succ] at f0 f1
                  have hcs := CS _ (show Below wb.heap.size wb ((v5k.setCell ⟨F, 0, none⟩ (.int .i64 (0))).setCell ⟨F, 1, none⟩ (.slice A8 N8 cap8)) from ((HBR_6.out.setCell (p := ⟨F, 0, none⟩) HFL.out _).setCell (p := ⟨F, 1, none⟩) HFL.out _))
                  refine wpLate_one (i := 17) (by kernel_rfl) rfl (fun K hK => ?_)
                  go_simp
                  refine hK.out _ _ (fun _ => hcs) ?_
                  clear hK K
                  try simp only [Act.put]
                  refine wpLate_one (i := 18) (by kernel_rfl) rfl (fun K hK => ?_)
                  go_simp
                  refine hK.out _ _ (fun h => absurd rfl h) ?_
                  clear hK K
                  try simp only [Act.put]
                  refine wpLate_done (by kernel_rfl) ?_ _
                  go_wp2_with fail
                  go_meet
                  case rel => exact ⟨F, A8, N8, cap8, rfl, rfl, hN8, HBs, HFs, HMs⟩
              case yryxx =>
                obtain ⟨F, hF⟩ : ∃ F, v3p.heap.size = F := ⟨_, rfl⟩
                obtain ⟨v3c, hv3c⟩ : ∃ z, v3p.alloc (.cells #[.int .i64 0, .slice none 0 0] 25) = z := ⟨_, rfl⟩
                have HFL : Hid (wb.heap.size ≤ F) := Lib.hid (by rw [← hF]; exact HBR_3.out.size)
                have hbc : Below v3p.heap.size v3p v3c := by rw [← hv3c]; exact below_new v3p _
                have HFN := Lib.hid (show Whole v3c F 25 #[.int .i64 0, .slice none 0 0] by rw [← hv3c, ← hF]; exact Whole.made _ _ _)
                have HR_4 := Lib.hid (HR_3.out.kept hbc)
                have HBR_4 := Lib.hid (HBR_3.out.trans (hbc.mono HBR_3.out.size))
                have HX_4 := Lib.hid (HX_3.out.below hbc HX_3.out.lt)
                clear HX_3 HBR_3 HR_3
                clear hbc
                go_simp
                refine hK.out _ _ (fun _ => (CS _ HBR_4.out)) ?_
                clear hK K
                try simp only [Act.put]
                refine wpLate_one (i := 9) (by kernel_rfl) rfl (fun K hK => ?_)
                have HMM := Lib.hid (one_num HX_4.out)
                refine step_app_sl rfl (.tmp 76) (.tmp 81) 26 rfl intR wb.heap.size i0 _ 8 Try.underlying26 hi0 hq0 hq1 hq2 rfl (by decide) _ (P) ([(n1 : Int)]) NP HPL.out rfl HR_4.out (some ⟨G, 0, none⟩) (1) (1) rfl HMM.out.1 HMM.out.2.2.1 HMM.out.2.2.2.1 HMM.out.2.2.2.2 (by unfold maxLen; omega) (by omega) HBR_4.out.size ?_
                intro A5 N5 c5 v5p hof hgf
                have HR_5 := Lib.hid hof
                have HBR_5 : Hid (Below wb.heap.size wb v5p) := Lib.hid (HBR_4.out.grown hgf HBR_4.out.size (fun z e => (World.ownsRow.lt HR_4.out z e).1))
                have HF_5 := Lib.hid (HFN.out.grown hgf (fun e => (HR_4.out.whole HFN.out (by decide)) e.symm))
                clear hof hgf HMM HFN HR_4 HBR_4
                refine hK.out _ _ (fun _ => (CS _ HBR_5.out)) ?_
                clear hK K
                try simp only [Act.put]
                refine wpLate_one (i := 12) (by kernel_rfl) rfl (fun K hK => ?_)
                go_simp
                have hln := HR_5.out.len.1
                have hll : (P ++ [(n1 : Int)]).length ≤ 100 := by rw [List.length_append, HPL.out]; show NP + 1 ≤ 100; omega
                refine (impl_flags_at HX2.out A1 N1 cap1 A5 N5 c5 v5p (HMb.out.below HBR_5.out (Nat.le_refl _)) (IIn.of HR_5.out (by omega))).mono ?_
                rintro e v5k ⟨A8, N8, cap8, rfl, hown, hb⟩
                clear hln hll
                have hN8 : N8 ≤ 20 := by have h1 := hown.len.1; have h2 := HL0.out; omega
                have HO8 := Lib.hid (hown.from (show wb.heap.size ≤ v5p.heap.size from HBR_5.out.size))
                have HBR_6 := Lib.hid (HBR_5.out.trans (hb.mono HBR_5.out.size))
                have HF'_6 := Lib.hid (HF_5.out.below hb HF_5.out.lt)
                clear HF_5 HBR_5
                clear hb hown
                refine hK.out _ _ (fun _ => (CS _ HBR_6.out)) ?_
                clear hK K
                try simp only [Act.put]
                refine wpLate_take (i := 13) (v := ?v13x9ryxxyoot) rfl (by kernel_rfl) (by kernel_rfl) (by kernel_rfl) (by kernel_rfl) (by kernel_rfl) (fun _ _ _ h => h) (CS _ HBR_6.out) (by rfl) ?hy13x9ryxxyoot ?r13x9ryxxyoot
                case hy13x9ryxxyoot =>
                  rintro wz ⟨z0, z1⟩
                  go_simp
                  try with_reducible rfl
                try simp only [Act.put]
                refine wpLate_take (i := 14) (v := ?v14x9ryxxyoot) rfl (by kernel_rfl) (by kernel_rfl) (by kernel_rfl) (by kernel_rfl) (by kernel_rfl) (fun _ _ _ h => h) (CS _ HBR_6.out) (by rfl) ?hy14x9ryxxyoot ?r14x9ryxxyoot
                case hy14x9ryxxyoot =>
                  rintro wz ⟨z0, z1⟩
                  go_simp
                  try with_reducible rfl
                try simp only [Act.put]
                refine wpLate_take (i := 15) (v := ?v15x9ryxxyoot) rfl (by kernel_rfl) (by kernel_rfl) (by kernel_rfl) (by kernel_rfl) (by kernel_rfl) (fun _ _ _ h => h) (CS _ HBR_6.out) (by rfl) ?hy15x9ryxxyoot ?r15x9ryxxyoot
                case hy15x9ryxxyoot =>
                  rintro wz ⟨z0, z1⟩
                  go_simp
                  try with_reducible rfl
                try simp only [Act.put]
                have HBs := Lib.hid (show Below S wb ((v5k.setCell ⟨F, 0, none⟩ (.int .i64 (0))).setCell ⟨F, 1, none⟩ (.slice A8 N8 cap8)) from HWS.out ▸ ((HBR_6.out.setCell (p := ⟨F, 0, none⟩) HFL.out _).setCell (p := ⟨F, 1, none⟩) HFL.out _))
                have HFs : Hid (Whole ((v5k.setCell ⟨F, 0, none⟩ (.int .i64 (0))).setCell ⟨F, 1, none⟩ (.slice A8 N8 cap8)) F 25 #[.int .i64 (0), .slice A8 N8 cap8]) := Lib.hid ((HF'_6.out.store 0 _).store 1 _)
                have HMs : Hid (MIn ((v5k.setCell ⟨F, 0, none⟩ (.int .i64 (0))).setCell ⟨F, 1, none⟩ (.slice A8 N8 cap8)) A8 N8 cap8 ([])) := Lib.hid (MIn.of ((HO8.out.store (p := ⟨F, 0, none⟩) (HO8.out.whole HF'_6.out (by decide)) _).store (p := ⟨F, 1, none⟩) (HO8.out.whole HF'_6.out (by decide)) _) (by omega))
                have f0 := HF'_6.out.cell 0
                have f1 := HF'_6.out.cell 1
                have j0 := HF'_6.out.free 0
                have j1 := HF'_6.out.free 1
                simp only [List.getElem?_toArray, List.getElem?_cons_zero, List.getElem?_cons_succ] at f0 f1
                have hcs := CS _ (show Below wb.heap.size wb ((v5k.setCell ⟨F, 0, none⟩ (.int .i64 (0))).setCell ⟨F, 1, none⟩ (.slice A8 N8 cap8)) from ((HBR_6.out.setCell (p := ⟨F, 0, none⟩) HFL.out _).setCell (p := ⟨F, 1, none⟩) HFL.out _))
                refine wpLate_one (i := 17) (by kernel_rfl) rfl (fun K hK => ?_)
                go_simp
                refine hK.out _ _ (fun _ => hcs) ?_
                clear hK K
                try simp only [Act.put]
                refine wpLate_one (i := 18) (by kernel_rfl) rfl (fun K hK => ?_)
                go_simp
                refine hK.out _ _ (fun h => absurd rfl h) ?_
                clear hK K
                try simp only [Act.put]
                refine wpLate_done (by kernel_rfl) ?_ _
                go_wp2_with fail
                go_meet
                case rel => exact ⟨F, A8, N8, cap8, rfl, rfl, hN8, HBs, HFs, HMs⟩
            case yryx =>
              obtain ⟨F, hF⟩ : ∃ F, v1b.heap.size = F := ⟨_, rfl⟩
              obtain ⟨v2c, hv2c⟩ : ∃ z, v1b.alloc (.cells #[.int .i64 0, .slice none 0 0] 25) = z := ⟨_, rfl⟩
              have HFL : Hid (wb.heap.size ≤ F) := Lib.hid (by rw [← hF]; exact HBR_2.out.size)
              have hbc : Below v1b.heap.size v1b v2c := by rw [← hv2c]; exact below_new v1b _
              have HFN := Lib.hid (show Whole v2c F 25 #[.int .i64 0, .slice none 0 0] by rw [← hv2c, ← hF]; exact Whole.made _ _ _)
              have HBR_3 := Lib.hid (HBR_2.out.trans (hbc.mono HBR_2.out.size))
              have HX_3 := Lib.hid (HX_2.out.below hbc HX_2.out.lt)
              have HR_3 := Lib.hid (HR0.out.kept hbc)
              clear HR0 HX_2 HBR_2
              clear hbc
              go_simp
              refine hK.out _ _ (fun _ => (CS _ HBR_3.out)) ?_
              clear hK K
              try simp only [Act.put]
              refine wpLate_one (i := 3) (by kernel_rfl) rfl (fun K hK => ?_)
              have HMM := Lib.hid (HPb.out.below HBR_3.out (Nat.le_refl _))
              refine step_app_sl rfl (.tmp 74) (.tmp 75) 26 rfl intR wb.heap.size i0 _ 8 Try.underlying26 hi0 hq0 hq1 hq2 rfl (by decide) _ ([]) (P) 0 rfl rfl HR_3.out AP (NP) (capP) rfl HMM.out.1 HMM.out.2.2.1 HMM.out.2.2.2.1 HMM.out.2.2.2.2 (by unfold maxLen; omega) (by omega) HBR_3.out.size ?_
              intro A4 N4 c4 v4p hof hgf
              rw [List.nil_append] at hof
              have HR_4 := Lib.hid hof
              have HBR_4 : Hid (Below wb.heap.size wb v4p) := Lib.hid (HBR_3.out.grown hgf HBR_3.out.size (fun z e => (World.ownsRow.lt HR_3.out z e).1))
              have HF_4 := Lib.hid (HFN.out.grown hgf (fun e => (HR_3.out.whole HFN.out (by decide)) e.symm))
              have HX_4 := Lib.hid (HX_3.out.grown hgf (fun e => HGS.out (Option.some.inj e)))
              clear hof hgf HMM HX_3 HFN HR_3 HBR_3
              refine hK.out _ _ (fun _ => (CS _ HBR_4.out)) ?_
              clear hK K
              try simp only [Act.put]
              refine wpLate_one (i := 9) (by kernel_rfl) rfl (fun K hK => ?_)
              have HMM := Lib.hid (one_num HX_4.out)
              refine step_app_sl rfl (.tmp 76) (.tmp 81) 26 rfl intR wb.heap.size i0 _ 8 Try.underlying26 hi0 hq0 hq1 hq2 rfl (by decide) _ (P) ([(n1 : Int)]) NP HPL.out rfl HR_4.out (some ⟨G, 0, none⟩) (1) (1) rfl HMM.out.1 HMM.out.2.2.1 HMM.out.2.2.2.1 HMM.out.2.2.2.2 (by unfold maxLen; omega) (by omega) HBR_4.out.size ?_
              intro A5 N5 c5 v5p hof hgf
              have HR_5 := Lib.hid hof
              have HBR_5 : Hid (Below wb.heap.size wb v5p) := Lib.hid (HBR_4.out.grown hgf HBR_4.out.size (fun z e => (World.ownsRow.lt HR_4.out z e).1))
              have HF_5 := Lib.hid (HF_4.out.grown hgf (fun e => (HR_4.out.whole HF_4.out (by decide)) e.symm))
              clear hof hgf HMM HF_4 HR_4 HBR_4
              refine hK.out _ _ (fun _ => (CS _ HBR_5.out)) ?_
              clear hK K
              try simp only [Act.put]
              refine wpLate_one (i := 12) (by kernel_rfl) rfl (fun K hK => ?_)
              go_simp
              have hln := HR_5.out.len.1
              have hll : (P ++ [(n1 : Int)]).length ≤ 100 := by rw [List.length_append, HPL.out]; show NP + 1 ≤ 100; omega
              refine (impl_flags_at HX2.out A1 N1 cap1 A5 N5 c5 v5p (HMb.out.below HBR_5.out (Nat.le_refl _)) (IIn.of HR_5.out (by omega))).mono ?_
              rintro e v5k ⟨A8, N8, cap8, rfl, hown, hb⟩
              clear hln hll
              have hN8 : N8 ≤ 20 := by have h1 := hown.len.1; have h2 := HL0.out; omega
              have HO8 := Lib.hid (hown.from (show wb.heap.size ≤ v5p.heap.size from HBR_5.out.size))
              have HBR_6 := Lib.hid (HBR_5.out.trans (hb.mono HBR_5.out.size))
              have HF'_6 := Lib.hid (HF_5.out.below hb HF_5.out.lt)
              clear HF_5 HBR_5
              clear hb hown
              refine hK.out _ _ (fun _ => (CS _ HBR_6.out)) ?_
              clear hK K
              try simp only [Act.put]
              refine wpLate_take (i := 13) (v := ?v13x9ryxyooot) rfl (by kernel_rfl) (by kernel_rfl) (by kernel_rfl) (by kernel_rfl) (by kernel_rfl) (fun _ _ _ h => h) (CS _ HBR_6.out) (by rfl) ?hy13x9ryxyooot ?r13x9ryxyooot
              case hy13x9ryxyooot =>
                rintro wz ⟨z0, z1⟩
                go_simp
                try with_reducible rfl
              try simp only [Act.put]
              refine wpLate_take (i := 14) (v := ?v14x9ryxyooot) rfl (by kernel_rfl) (by kernel_rfl) (by kernel_rfl) (by kernel_rfl) (by kernel_rfl) (fun _ _ _ h => h) (CS _ HBR_6.out) (by rfl) ?hy14x9ryxyooot ?r14x9ryxyooot
              case hy14x9ryxyooot =>
                rintro wz ⟨z0, z1⟩
                go_simp
                try with_reducible rfl
              try simp only [Act.put]
              refine wpLate_take (i := 15) (v := ?v15x9ryxyooot) rfl (by kernel_rfl) (by kernel_rfl) (by kernel_rfl) (by kernel_rfl) (by kernel_rfl) (fun _ _ _ h => h) (CS _ HBR_6.out) (by rfl) ?hy15x9ryxyooot ?r15x9ryxyooot
              case hy15x9ryxyooot =>
                rintro wz ⟨z0, z1⟩
                go_simp
                try with_reducible rfl
              try simp only [Act.put]
              have HBs := Lib.hid (show Below S wb ((v5k.setCell ⟨F, 0, none⟩ (.int .i64 (0))).setCell ⟨F, 1, none⟩ (.slice A8 N8 cap8)) from HWS.out ▸ ((HBR_6.out.setCell (p := ⟨F, 0, none⟩) HFL.out _).setCell (p := ⟨F, 1, none⟩) HFL.out _))
              have HFs : Hid (Whole ((v5k.setCell ⟨F, 0, none⟩ (.int .i64 (0))).setCell ⟨F, 1, none⟩ (.slice A8 N8 cap8)) F 25 #[.int .i64 (0), .slice A8 N8 cap8]) := Lib.hid ((HF'_6.out.store 0 _).store 1 _)
              have HMs : Hid (MIn ((v5k.setCell ⟨F, 0, none⟩ (.int .i64 (0))).setCell ⟨F, 1, none⟩ (.slice A8 N8 cap8)) A8 N8 cap8 ([])) := Lib.hid (MIn.of ((HO8.out.store (p := ⟨F, 0, none⟩) (HO8.out.whole HF'_6.out (by decide)) _).store (p := ⟨F, 1, none⟩) (HO8.out.whole HF'_6.out (by decide)) _) (by omega))
              have f0 := HF'_6.out.cell 0
              have f1 := HF'_6.out.cell 1
              have j0 := HF'_6.out.free 0
              have j1 := HF'_6.out.free 1
              simp only [List.getElem?_toArray, List.getElem?_cons_zero, List.getElem?_cons_succ] at f0 f1
              have hcs := CS _ (show Below wb.heap.size wb ((v5k.setCell ⟨F, 0, none⟩ (.int .i64 (0))).setCell ⟨F, 1, none⟩ (.slice A8 N8 cap8)) from ((HBR_6.out.setCell (p := ⟨F, 0, none⟩) HFL.out _).setCell (p := ⟨F, 1, none⟩) HFL.out _))
              refine wpLate_one (i := 17) (by kernel_rfl) rfl (fun K hK => ?_)
              go_simp
              refine hK.out _ _ (fun _ => hcs) ?_
              clear hK K
              try simp only [Act.put]
              refine wpLate_one (i := 18) (by kernel_rfl) rfl (fun K hK => ?_)
              go_simp
              refine hK.out _ _ (fun h => absurd rfl h) ?_
              clear hK K
              try simp only [Act.put]
              refine wpLate_done (by kernel_rfl) ?_ _
              go_wp2_with fail
              go_meet
              case rel => exact ⟨F, A8, N8, cap8, rfl, rfl, hN8, HBs, HFs, HMs⟩
          case yry =>
            obtain ⟨F, hF⟩ : ∃ F, v0e.heap.size = F := ⟨_, rfl⟩
            obtain ⟨v1c, hv1c⟩ : ∃ z, v0e.alloc (.cells #[.int .i64 0, .slice none 0 0] 25) = z := ⟨_, rfl⟩
            have HFL : Hid (wb.heap.size ≤ F) := Lib.hid (by rw [← hF]; exact HBR_1.out.size)
            have hbc : Below v0e.heap.size v0e v1c := by rw [← hv1c]; exact below_new v0e _
            have HFN := Lib.hid (show Whole v1c F 25 #[.int .i64 0, .slice none 0 0] by rw [← hv1c, ← hF]; exact Whole.made _ _ _)
            have HBR_2 := Lib.hid (HBR_1.out.trans (hbc.mono HBR_1.out.size))
            have HX_2 := Lib.hid (HX0.out.below hbc HX0.out.lt)
            clear HX0 HBR_1
            clear hbc
            go_simp
            refine hK.out _ _ (fun _ => (CS _ HBR_2.out)) ?_
            clear hK K
            try simp only [Act.put]
            refine wpLate_one (i := 1) (by kernel_rfl) rfl (fun K hK => ?_)
            have HGL := Lib.hid (HX_2.out.lt)
            obtain ⟨S1, hS1⟩ : ∃ S, v1c.heap.size = S := ⟨_, rfl⟩
            obtain ⟨v2b, hv2b⟩ : ∃ z, v1c.alloc (.cells #[] 3) = z := ⟨_, rfl⟩
            have hbc : Below v1c.heap.size v1c v2b := by rw [← hv2b]; exact below_new _ _
            have HR0 := Lib.hid (show ROwn intR v2b wb.heap.size (.slice (some ⟨S1, 0, none⟩) 0 0) [] by rw [← hv2b]; exact ROwn.lit v1c S1 HBR_2.out.size hS1)
            have HBR_3 := Lib.hid (HBR_2.out.trans (hbc.mono HBR_2.out.size))
            have HX_3 := Lib.hid (HX_2.out.below hbc HX_2.out.lt)
            have HF'_3 := Lib.hid (HFN.out.below hbc HFN.out.lt)
            clear HFN HX_2 HBR_2
            clear hbc
            have HGS : Hid (G ≠ S1) := Lib.hid (by have h1 := HGL.out; omega)
            go_simp
            refine hK.out _ _ (fun _ => (CS _ HBR_3.out)) ?_
            clear hK K
            try simp only [Act.put]
            refine wpLate_one (i := 3) (by kernel_rfl) rfl (fun K hK => ?_)
            have HMM := Lib.hid (HPb.out.below HBR_3.out (Nat.le_refl _))
            refine step_app_sl rfl (.tmp 74) (.tmp 75) 26 rfl intR wb.heap.size i0 _ 8 Try.underlying26 hi0 hq0 hq1 hq2 rfl (by decide) _ ([]) (P) 0 rfl rfl HR0.out AP (NP) (capP) rfl HMM.out.1 HMM.out.2.2.1 HMM.out.2.2.2.1 HMM.out.2.2.2.2 (by unfold maxLen; omega) (by omega) HBR_3.out.size ?_
            intro A4 N4 c4 v4p hof hgf
            rw [List.nil_append] at hof
            have HR_4 := Lib.hid hof
            have HBR_4 : Hid (Below wb.heap.size wb v4p) := Lib.hid (HBR_3.out.grown hgf HBR_3.out.size (fun z e => (World.ownsRow.lt HR0.out z e).1))
            have HF_4 := Lib.hid (HF'_3.out.grown hgf (fun e => (HR0.out.whole HF'_3.out (by decide)) e.symm))
            have HX_4 := Lib.hid (HX_3.out.grown hgf (fun e => HGS.out (Option.some.inj e)))
            clear hof hgf HMM HX_3 HF'_3 HR0 HBR_3
            refine hK.out _ _ (fun _ => (CS _ HBR_4.out)) ?_
            clear hK K
            try simp only [Act.put]
            refine wpLate_one (i := 9) (by kernel_rfl) rfl (fun K hK => ?_)
            have HMM := Lib.hid (one_num HX_4.out)
            refine step_app_sl rfl (.tmp 76) (.tmp 81) 26 rfl intR wb.heap.size i0 _ 8 Try.underlying26 hi0 hq0 hq1 hq2 rfl (by decide) _ (P) ([(n1 : Int)]) NP HPL.out rfl HR_4.out (some ⟨G, 0, none⟩) (1) (1) rfl HMM.out.1 HMM.out.2.2.1 HMM.out.2.2.2.1 HMM.out.2.2.2.2 (by unfold maxLen; omega) (by omega) HBR_4.out.size ?_
            intro A5 N5 c5 v5p hof hgf
            have HR_5 := Lib.hid hof
            have HBR_5 : Hid (Below wb.heap.size wb v5p) := Lib.hid (HBR_4.out.grown hgf HBR_4.out.size (fun z e => (World.ownsRow.lt HR_4.out z e).1))
            have HF_5 := Lib.hid (HF_4.out.grown hgf (fun e => (HR_4.out.whole HF_4.out (by decide)) e.symm))
            clear hof hgf HMM HF_4 HR_4 HBR_4
            refine hK.out _ _ (fun _ => (CS _ HBR_5.out)) ?_
            clear hK K
            try simp only [Act.put]
            refine wpLate_one (i := 12) (by kernel_rfl) rfl (fun K hK => ?_)
            go_simp
            have hln := HR_5.out.len.1
            have hll : (P ++ [(n1 : Int)]).length ≤ 100 := by rw [List.length_append, HPL.out]; show NP + 1 ≤ 100; omega
            refine (impl_flags_at HX2.out A1 N1 cap1 A5 N5 c5 v5p (HMb.out.below HBR_5.out (Nat.le_refl _)) (IIn.of HR_5.out (by omega))).mono ?_
            rintro e v5k ⟨A8, N8, cap8, rfl, hown, hb⟩
            clear hln hll
            have hN8 : N8 ≤ 20 := by have h1 := hown.len.1; have h2 := HL0.out; omega
            have HO8 := Lib.hid (hown.from (show wb.heap.size ≤ v5p.heap.size from HBR_5.out.size))
            have HBR_6 := Lib.hid (HBR_5.out.trans (hb.mono HBR_5.out.size))
            have HF'_6 := Lib.hid (HF_5.out.below hb HF_5.out.lt)
            clear HF_5 HBR_5
            clear hb hown
            refine hK.out _ _ (fun _ => (CS _ HBR_6.out)) ?_
            clear hK K
            try simp only [Act.put]
            refine wpLate_take (i := 13) (v := ?v13x9ryyoooot) rfl (by kernel_rfl) (by kernel_rfl) (by kernel_rfl) (by kernel_rfl) (by kernel_rfl) (fun _ _ _ h => h) (CS _ HBR_6.out) (by rfl) ?hy13x9ryyoooot ?r13x9ryyoooot
            case hy13x9ryyoooot =>
              rintro wz ⟨z0, z1⟩
              go_simp
              try with_reducible rfl
            try simp only [Act.put]
            refine wpLate_take (i := 14) (v := ?v14x9ryyoooot) rfl (by kernel_rfl) (by kernel_rfl) (by kernel_rfl) (by kernel_rfl) (by kernel_rfl) (fun _ _ _ h => h) (CS _ HBR_6.out) (by rfl) ?hy14x9ryyoooot ?r14x9ryyoooot
            case hy14x9ryyoooot =>
              rintro wz ⟨z0, z1⟩
              go_simp
              try with_reducible rfl
            try simp only [Act.put]
            refine wpLate_take (i := 15) (v := ?v15x9ryyoooot) rfl (by kernel_rfl) (by kernel_rfl) (by kernel_rfl) (by kernel_rfl) (by kernel_rfl) (fun _ _ _ h => h) (CS _ HBR_6.out) (by rfl) ?hy15x9ryyoooot ?r15x9ryyoooot
            case hy15x9ryyoooot =>
              rintro wz ⟨z0, z1⟩
              go_simp
              try with_reducible rfl
            try simp only [Act.put]
            have HBs := Lib.hid (show Below S wb ((v5k.setCell ⟨F, 0, none⟩ (.int .i64 (0))).setCell ⟨F, 1, none⟩ (.slice A8 N8 cap8)) from HWS.out ▸ ((HBR_6.out.setCell (p := ⟨F, 0, none⟩) HFL.out _).setCell (p := ⟨F, 1, none⟩) HFL.out _))
            have HFs : Hid (Whole ((v5k.setCell ⟨F, 0, none⟩ (.int .i64 (0))).setCell ⟨F, 1, none⟩ (.slice A8 N8 cap8)) F 25 #[.int .i64 (0), .slice A8 N8 cap8]) := Lib.hid ((HF'_6.out.store 0 _).store 1 _)
            have HMs : Hid (MIn ((v5k.setCell ⟨F, 0, none⟩ (.int .i64 (0))).setCell ⟨F, 1, none⟩ (.slice A8 N8 cap8)) A8 N8 cap8 ([])) := Lib.hid (MIn.of ((HO8.out.store (p := ⟨F, 0, none⟩) (HO8.out.whole HF'_6.out (by decide)) _).store (p := ⟨F, 1, none⟩) (HO8.out.whole HF'_6.out (by decide)) _) (by omega))
            have f0 := HF'_6.out.cell 0
            have f1 := HF'_6.out.cell 1
            have j0 := HF'_6.out.free 0
            have j1 := HF'_6.out.free 1
            simp only [List.getElem?_toArray, List.getElem?_cons_zero, List.getElem?_cons_succ] at f0 f1
            have hcs := CS _ (show Below wb.heap.size wb ((v5k.setCell ⟨F, 0, none⟩ (.int .i64 (0))).setCell ⟨F, 1, none⟩ (.slice A8 N8 cap8)) from ((HBR_6.out.setCell (p := ⟨F, 0, none⟩) HFL.out _).setCell (p := ⟨F, 1, none⟩) HFL.out _))
            refine wpLate_one (i := 17) (by kernel_rfl) rfl (fun K hK => ?_)
            go_simp
            refine hK.out _ _ (fun _ => hcs) ?_
            clear hK K
            try simp only [Act.put]
            refine wpLate_one (i := 18) (by kernel_rfl) rfl (fun K hK => ?_)
            go_simp
            refine hK.out _ _ (fun h => absurd rfl h) ?_
            clear hK K
            try simp only [Act.put]
            refine wpLate_done (by kernel_rfl) ?_ _
            go_wp2_with fail
            go_meet
            case rel => exact ⟨F, A8, N8, cap8, rfl, rfl, hN8, HBs, HFs, HMs⟩
        case zr =>
          obtain ⟨F, hF⟩ : ∃ F, wd.heap.size = F := ⟨_, rfl⟩
          obtain ⟨v0c, hv0c⟩ : ∃ z, wd.alloc (.cells #[.int .i64 0, .slice none 0 0] 25) = z := ⟨_, rfl⟩
          have HFL : Hid (wb.heap.size ≤ F) := Lib.hid (by rw [← hF]; exact HBR.out.size)
          have hbc : Below wd.heap.size wd v0c := by rw [← hv0c]; exact below_new wd _
          have HFN := Lib.hid (show Whole v0c F 25 #[.int .i64 0, .slice none 0 0] by rw [← hv0c, ← hF]; exact Whole.made _ _ _)
          have HBR_1 := Lib.hid (HBR.out.trans (hbc.mono HBR.out.size))
          clear HBR
          clear hbc
          go_simp
          refine hK.out _ _ (fun _ => (CS _ HBR_1.out)) ?_
          clear hK K
          try simp only [Act.put]
          refine wpLate_two (i := 1) (k := 8) (by kernel_rfl) rfl rfl (fun K hK => ?xrz) (fun K hK => ?yrz)
          case xrz =>
            obtain ⟨S1, hS1⟩ : ∃ S, v0c.heap.size = S := ⟨_, rfl⟩
            obtain ⟨v1b, hv1b⟩ : ∃ z, v0c.alloc (.cells #[] 3) = z := ⟨_, rfl⟩
            have hbc : Below v0c.heap.size v0c v1b := by rw [← hv1b]; exact below_new _ _
            have HR0 := Lib.hid (show ROwn intR v1b wb.heap.size (.slice (some ⟨S1, 0, none⟩) 0 0) [] by rw [← hv1b]; exact ROwn.lit v0c S1 HBR_1.out.size hS1)
            have HBR_2 := Lib.hid (HBR_1.out.trans (hbc.mono HBR_1.out.size))
            have HF'_2 := Lib.hid (HFN.out.below hbc HFN.out.lt)
            clear HFN HBR_1
            clear hbc
            go_simp
            refine hK.out _ _ (fun _ => (CS _ HBR_2.out)) ?_
            clear hK K
            try simp only [Act.put]
            refine wpLate_two (i := 3) (k := 8) (by kernel_rfl) rfl rfl (fun K hK => ?xrzx) (fun K hK => ?yrzx)
            case xrzx =>
              have HMM := Lib.hid (HPb.out.below HBR_2.out (Nat.le_refl _))
              refine step_app_sl rfl (.tmp 74) (.tmp 75) 26 rfl intR wb.heap.size i0 _ 8 Try.underlying26 hi0 hq0 hq1 hq2 rfl (by decide) _ ([]) (P) 0 rfl rfl HR0.out AP (NP) (capP) rfl HMM.out.1 HMM.out.2.2.1 HMM.out.2.2.2.1 HMM.out.2.2.2.2 (by unfold maxLen; omega) (by omega) HBR_2.out.size ?_
              intro A3 N3 c3 v3p hof hgf
              rw [List.nil_append] at hof
              have HR_3 := Lib.hid hof
              have HBR_3 : Hid (Below wb.heap.size wb v3p) := Lib.hid (HBR_2.out.grown hgf HBR_2.out.size (fun z e => (World.ownsRow.lt HR0.out z e).1))
              have HF_3 := Lib.hid (HF'_2.out.grown hgf (fun e => (HR0.out.whole HF'_2.out (by decide)) e.symm))
              clear hof hgf HMM HF'_2 HR0 HBR_2
              refine hK.out _ _ (fun _ => (CS _ HBR_3.out)) ?_
              clear hK K
              try simp only [Act.put]
              refine wpLate_one (i := 8) (by kernel_rfl) rfl (fun K hK => ?_)
              obtain ⟨G, hG⟩ : ∃ S, v3p.heap.size = S := ⟨_, rfl⟩
              obtain ⟨v3e, hv3e⟩ : ∃ z, v3p.alloc (.cells #[.int .i64 (n1 : Int)] 3) = z := ⟨_, rfl⟩
              have hbc : Below v3p.heap.size v3p v3e := by rw [← hv3e]; exact below_new _ _
              have HXW : Hid (G < v3e.heap.size) := Lib.hid (by have h0 := hbc.size; have h1 : v3e.heap.size = v3p.heap.size + 1 := (by rw [← hv3e]; simp); omega)
              have HX0 := Lib.hid (show Whole v3e G 3 #[.int .i64 (n1 : Int)] by rw [← hv3e, ← hG]; exact Whole.made _ _ _)
              have HXL : Hid (wb.heap.size ≤ G) := Lib.hid (by rw [← hG]; exact HBR_3.out.size)
              have HR_4 := Lib.hid (HR_3.out.kept hbc)
              have HBR_4 := Lib.hid (HBR_3.out.trans (hbc.mono HBR_3.out.size))
              have HF'_4 := Lib.hid (HF_3.out.below hbc HF_3.out.lt)
              clear HF_3 HBR_3 HR_3
              clear hbc
              go_simp
              refine hK.out _ _ (fun _ => (CS _ HBR_4.out)) ?_
              clear hK K
              try simp only [Act.put]
              refine wpLate_one (i := 9) (by kernel_rfl) rfl (fun K hK => ?_)
              have HMM := Lib.hid (one_num HX0.out)
              refine step_app_sl rfl (.tmp 76) (.tmp 81) 26 rfl intR wb.heap.size i0 _ 8 Try.underlying26 hi0 hq0 hq1 hq2 rfl (by decide) _ (P) ([(n1 : Int)]) NP HPL.out rfl HR_4.out (some ⟨G, 0, none⟩) (1) (1) rfl HMM.out.1 HMM.out.2.2.1 HMM.out.2.2.2.1 HMM.out.2.2.2.2 (by unfold maxLen; omega) (by omega) HBR_4.out.size ?_
              intro A5 N5 c5 v5p hof hgf
              have HR_5 := Lib.hid hof
              have HBR_5 : Hid (Below wb.heap.size wb v5p) := Lib.hid (HBR_4.out.grown hgf HBR_4.out.size (fun z e => (World.ownsRow.lt HR_4.out z e).1))
              have HF_5 := Lib.hid (HF'_4.out.grown hgf (fun e => (HR_4.out.whole HF'_4.out (by decide)) e.symm))
              clear hof hgf HMM HF'_4 HR_4 HBR_4
              refine hK.out _ _ (fun _ => (CS _ HBR_5.out)) ?_
              clear hK K
              try simp only [Act.put]
              refine wpLate_one (i := 12) (by kernel_rfl) rfl (fun K hK => ?_)
              go_simp
              have hln := HR_5.out.len.1
              have hll : (P ++ [(n1 : Int)]).length ≤ 100 := by rw [List.length_append, HPL.out]; show NP + 1 ≤ 100; omega
              refine (impl_flags_at HX2.out A1 N1 cap1 A5 N5 c5 v5p (HMb.out.below HBR_5.out (Nat.le_refl _)) (IIn.of HR_5.out (by omega))).mono ?_
              rintro e v5k ⟨A8, N8, cap8, rfl, hown, hb⟩
              clear hln hll
              have hN8 : N8 ≤ 20 := by have h1 := hown.len.1; have h2 := HL0.out; omega
              have HO8 := Lib.hid (hown.from (show wb.heap.size ≤ v5p.heap.size from HBR_5.out.size))
              have HBR_6 := Lib.hid (HBR_5.out.trans (hb.mono HBR_5.out.size))
              have HF'_6 := Lib.hid (HF_5.out.below hb HF_5.out.lt)
              clear HF_5 HBR_5
              clear hb hown
              refine hK.out _ _ (fun _ => (CS _ HBR_6.out)) ?_
              clear hK K
              try simp only [Act.put]
              refine wpLate_take (i := 13) (v := ?v13x9rzxxooot) rfl (by kernel_rfl) (by kernel_rfl) (by kernel_rfl) (by kernel_rfl) (by kernel_rfl) (fun _ _ _ h => h) (CS _ HBR_6.out) (by rfl) ?hy13x9rzxxooot ?r13x9rzxxooot
              case hy13x9rzxxooot =>
                rintro wz ⟨z0, z1⟩
                go_simp
                try with_reducible rfl
              try simp only [Act.put]
              refine wpLate_take (i := 14) (v := ?v14x9rzxxooot) rfl (by kernel_rfl) (by kernel_rfl) (by kernel_rfl) (by kernel_rfl) (by kernel_rfl) (fun _ _ _ h => h) (CS _ HBR_6.out) (by rfl) ?hy14x9rzxxooot ?r14x9rzxxooot
              case hy14x9rzxxooot =>
                rintro wz ⟨z0, z1⟩
                go_simp
                try with_reducible rfl
              try simp only [Act.put]
              refine wpLate_take (i := 15) (v := ?v15x9rzxxooot) rfl (by kernel_rfl) (by kernel_rfl) (by kernel_rfl) (by kernel_rfl) (by kernel_rfl) (fun _ _ _ h => h) (CS _ HBR_6.out) (by rfl) ?hy15x9rzxxooot ?r15x9rzxxooot
              case hy15x9rzxxooot =>
                rintro wz ⟨z0, z1⟩
                go_simp
                try with_reducible rfl
              try simp only [Act.put]
              have HBs := Lib.hid (show Below S wb ((v5k.setCell ⟨F, 0, none⟩ (.int .i64 (0))).setCell ⟨F, 1, none⟩ (.slice A8 N8 cap8)) from HWS.out ▸ ((HBR_6.out.setCell (p := ⟨F, 0, none⟩) HFL.out _).setCell (p := ⟨F, 1, none⟩) HFL.out _))
              have HFs : Hid (Whole ((v5k.setCell ⟨F, 0, none⟩ (.int .i64 (0))).setCell ⟨F, 1, none⟩ (.slice A8 N8 cap8)) F 25 #[.int .i64 (0), .slice A8 N8 cap8]) := Lib.hid ((HF'_6.out.store 0 _).store 1 _)
              have HMs : Hid (MIn ((v5k.setCell ⟨F, 0, none⟩ (.int .i64 (0))).setCell ⟨F, 1, none⟩ (.slice A8 N8 cap8)) A8 N8 cap8 ([])) := Lib.hid (MIn.of ((HO8.out.store (p := ⟨F, 0, none⟩) (HO8.out.whole HF'_6.out (by decide)) _).store (p := ⟨F, 1, none⟩) (HO8.out.whole HF'_6.out (by decide)) _) (by omega))
              have f0 := HF'_6.out.cell 0
              have f1 := HF'_6.out.cell 1
              have j0 := HF'_6.out.free 0
              have j1 := HF'_6.out.free 1
              simp only [List.getElem?_toArray, List.getElem?_cons_zero, List.getElem?_cons_succ] at f0 f1
              have hcs := CS _ (show Below wb.heap.size wb ((v5k.setCell ⟨F, 0, none⟩ (.int .i64 (0))).setCell ⟨F, 1, none⟩ (.slice A8 N8 cap8)) from ((HBR_6.out.setCell (p := ⟨F, 0, none⟩) HFL.out _).setCell (p := ⟨F, 1, none⟩) HFL.out _))
              refine wpLate_one (i := 17) (by kernel_rfl) rfl (fun K hK => ?_)
              go_simp
              refine hK.out _ _ (fun _ => hcs) ?_
              clear hK K
              try simp only [Act.put]
              refine wpLate_one (i := 18) (by kernel_rfl) rfl (fun K hK => ?_)
              go_simp
              refine hK.out _ _ (fun h => absurd rfl h) ?_
              clear hK K
              try simp only [Act.put]
              refine wpLate_done (by kernel_rfl) ?_ _
              go_wp2_with fail
              go_meet
              case rel => exact ⟨F, A8, N8, cap8, rfl, rfl, hN8, HBs, HFs, HMs⟩
            case yrzx =>
              have HSL := Lib.hid (World.ownsRow.lt HR0.out S1 rfl).2
              obtain ⟨G, hG⟩ : ∃ S, v1b.heap.size = S := ⟨_, rfl⟩
              obtain ⟨v2e, hv2e⟩ : ∃ z, v1b.alloc (.cells #[.int .i64 (n1 : Int)] 3) = z := ⟨_, rfl⟩
              have hbc : Below v1b.heap.size v1b v2e := by rw [← hv2e]; exact below_new _ _
              have HXW : Hid (G < v2e.heap.size) := Lib.hid (by have h0 := hbc.size; have h1 : v2e.heap.size = v1b.heap.size + 1 := (by rw [← hv2e]; simp); omega)
              have HX0 := Lib.hid (show Whole v2e G 3 #[.int .i64 (n1 : Int)] by rw [← hv2e, ← hG]; exact Whole.made _ _ _)
              have HXL : Hid (wb.heap.size ≤ G) := Lib.hid (by rw [← hG]; exact HBR_2.out.size)
              have HBR_3 := Lib.hid (HBR_2.out.trans (hbc.mono HBR_2.out.size))
              have HF'_3 := Lib.hid (HF'_2.out.below hbc HF'_2.out.lt)
              have HR_3 := Lib.hid (HR0.out.kept hbc)
              clear HR0 HF'_2 HBR_2
              clear hbc
              have HGS : Hid (G ≠ S1) := Lib.hid (by have h1 := HSL.out; omega)
              go_simp
              refine hK.out _ _ (fun _ => (CS _ HBR_3.out)) ?_
              clear hK K
              try simp only [Act.put]
              refine wpLate_one (i := 3) (by kernel_rfl) rfl (fun K hK => ?_)
              have HMM := Lib.hid (HPb.out.below HBR_3.out (Nat.le_refl _))
              refine step_app_sl rfl (.tmp 74) (.tmp 75) 26 rfl intR wb.heap.size i0 _ 8 Try.underlying26 hi0 hq0 hq1 hq2 rfl (by decide) _ ([]) (P) 0 rfl rfl HR_3.out AP (NP) (capP) rfl HMM.out.1 HMM.out.2.2.1 HMM.out.2.2.2.1 HMM.out.2.2.2.2 (by unfold maxLen; omega) (by omega) HBR_3.out.size ?_
              intro A4 N4 c4 v4p hof hgf
              rw [List.nil_append] at hof
              have HR_4 := Lib.hid hof
              have HBR_4 : Hid (Below wb.heap.size wb v4p) := Lib.hid (HBR_3.out.grown hgf HBR_3.out.size (fun z e => (World.ownsRow.lt HR_3.out z e).1))
              have HF_4 := Lib.hid (HF'_3.out.grown hgf (fun e => (HR_3.out.whole HF'_3.out (by decide)) e.symm))
              have HX_4 := Lib.hid (HX0.out.grown hgf (fun e => HGS.out (Option.some.inj e)))
              clear hof hgf HMM HX0 HF'_3 HR_3 HBR_3
              refine hK.out _ _ (fun _ => (CS _ HBR_4.out)) ?_
              clear hK K
              try simp only [Act.put]
              refine wpLate_one (i := 9) (by kernel_rfl) rfl (fun K hK => ?_)
              have HMM := Lib.hid (one_num HX_4.out)
              refine step_app_sl rfl (.tmp 76) (.tmp 81) 26 rfl intR wb.heap.size i0 _ 8 Try.underlying26 hi0 hq0 hq1 hq2 rfl (by decide) _ (P) ([(n1 : Int)]) NP HPL.out rfl HR_4.out (some ⟨G, 0, none⟩) (1) (1) rfl HMM.out.1 HMM.out.2.2.1 HMM.out.2.2.2.1 HMM.out.2.2.2.2 (by unfold maxLen; omega) (by omega) HBR_4.out.size ?_
              intro A5 N5 c5 v5p hof hgf
              have HR_5 := Lib.hid hof
              have HBR_5 : Hid (Below wb.heap.size wb v5p) := Lib.hid (HBR_4.out.grown hgf HBR_4.out.size (fun z e => (World.ownsRow.lt HR_4.out z e).1))
              have HF_5 := Lib.hid (HF_4.out.grown hgf (fun e => (HR_4.out.whole HF_4.out (by decide)) e.symm))
              clear hof hgf HMM HF_4 HR_4 HBR_4
              refine hK.out _ _ (fun _ => (CS _ HBR_5.out)) ?_
              clear hK K
              try simp only [Act.put]
              refine wpLate_one (i := 12) (by kernel_rfl) rfl (fun K hK => ?_)
              go_simp
              have hln := HR_5.out.len.1
              have hll : (P ++ [(n1 : Int)]).length ≤ 100 := by rw [List.length_append, HPL.out]; show NP + 1 ≤ 100; omega
              refine (impl_flags_at HX2.out A1 N1 cap1 A5 N5 c5 v5p (HMb.out.below HBR_5.out (Nat.le_refl _)) (IIn.of HR_5.out (by omega))).mono ?_
              rintro e v5k ⟨A8, N8, cap8, rfl, hown, hb⟩
              clear hln hll
              have hN8 : N8 ≤ 20 := by have h1 := hown.len.1; have h2 := HL0.out; omega
              have HO8 := Lib.hid (hown.from (show wb.heap.size ≤ v5p.heap.size from HBR_5.out.size))
              have HBR_6 := Lib.hid (HBR_5.out.trans (hb.mono HBR_5.out.size))
              have HF'_6 := Lib.hid (HF_5.out.below hb HF_5.out.lt)
              clear HF_5 HBR_5
              clear hb hown
              refine hK.out _ _ (fun _ => (CS _ HBR_6.out)) ?_
              clear hK K
              try simp only [Act.put]
              refine wpLate_take (i := 13) (v := ?v13x9rzxyooot) rfl (by kernel_rfl) (by kernel_rfl) (by kernel_rfl) (by kernel_rfl) (by kernel_rfl) (fun _ _ _ h => h) (CS _ HBR_6.out) (by rfl) ?hy13x9rzxyooot ?r13x9rzxyooot
              case hy13x9rzxyooot =>
                rintro wz ⟨z0, z1⟩
                go_simp
                try with_reducible rfl
              try simp only [Act.put]
              refine wpLate_take (i := 14) (v := ?v14x9rzxyooot) rfl (by kernel_rfl) (by kernel_rfl) (by kernel_rfl) (by kernel_rfl) (by kernel_rfl) (fun _ _ _ h => h) (CS _ HBR_6.out) (by rfl) ?hy14x9rzxyooot ?r14x9rzxyooot
              case hy14x9rzxyooot =>
                rintro wz ⟨z0, z1⟩
                go_simp
                try with_reducible rfl
              try simp only [Act.put]
              refine wpLate_take (i := 15) (v := ?v15x9rzxyooot) rfl (by kernel_rfl) (by kernel_rfl) (by kernel_rfl) (by kernel_rfl) (by kernel_rfl) (fun _ _ _ h => h) (CS _ HBR_6.out) (by rfl) ?hy15x9rzxyooot ?r15x9rzxyooot
              case hy15x9rzxyooot =>
                rintro wz ⟨z0, z1⟩
                go_simp
                try with_reducible rfl
              try simp only [Act.put]
              have HBs := Lib.hid (show Below S wb ((v5k.setCell ⟨F, 0, none⟩ (.int .i64 (0))).setCell ⟨F, 1, none⟩ (.slice A8 N8 cap8)) from HWS.out ▸ ((HBR_6.out.setCell (p := ⟨F, 0, none⟩) HFL.out _).setCell (p := ⟨F, 1, none⟩) HFL.out _))
              have HFs : Hid (Whole ((v5k.setCell ⟨F, 0, none⟩ (.int .i64 (0))).setCell ⟨F, 1, none⟩ (.slice A8 N8 cap8)) F 25 #[.int .i64 (0), .slice A8 N8 cap8]) := Lib.hid ((HF'_6.out.store 0 _).store 1 _)
              have HMs : Hid (MIn ((v5k.setCell ⟨F, 0, none⟩ (.int .i64 (0))).setCell ⟨F, 1, none⟩ (.slice A8 N8 cap8)) A8 N8 cap8 ([])) := Lib.hid (MIn.of ((HO8.out.store (p := ⟨F, 0, none⟩) (HO8.out.whole HF'_6.out (by decide)) _).store (p := ⟨F, 1, none⟩) (HO8.out.whole HF'_6.out (by decide)) _) (by omega))
              have f0 := HF'_6.out.cell 0
              have f1 := HF'_6.out.cell 1
              have j0 := HF'_6.out.free 0
              have j1 := HF'_6.out.free 1
              simp only [List.getElem?_toArray, List.getElem?_cons_zero, List.getElem?_cons_succ] at f0 f1
              have hcs := CS _ (show Below wb.heap.size wb ((v5k.setCell ⟨F, 0, none⟩ (.int .i64 (0))).setCell ⟨F, 1, none⟩ (.slice A8 N8 cap8)) from ((HBR_6.out.setCell (p := ⟨F, 0, none⟩) HFL.out _).setCell (p := ⟨F, 1, none⟩) HFL.out _))
              refine wpLate_one (i := 17) (by kernel_rfl) rfl (fun K hK => ?_)
              go_simp
              refine hK.out _ _ (fun _ => hcs) ?_
              clear hK K
              try simp only [Act.put]
              refine wpLate_one (i := 18) (by kernel_rfl) rfl (fun K hK => ?_)
              go_simp
              refine hK.out _ _ (fun h => absurd rfl h) ?_
              clear hK K
              try simp only [Act.put]
              refine wpLate_done (by kernel_rfl) ?_ _
              go_wp2_with fail
              go_meet
              case rel => exact ⟨F, A8, N8, cap8, rfl, rfl, hN8, HBs, HFs, HMs⟩
          case yrz =>
            obtain ⟨G, hG⟩ : ∃ S, v0c.heap.size = S := ⟨_, rfl⟩
            obtain ⟨v1e, hv1e⟩ : ∃ z, v0c.alloc (.cells #[.int .i64 (n1 : Int)] 3) = z := ⟨_, rfl⟩
            have hbc : Below v0c.heap.size v0c v1e := by rw [← hv1e]; exact below_new _ _
            have HXW : Hid (G < v1e.heap.size) := Lib.hid (by have h0 := hbc.size; have h1 : v1e.heap.size = v0c.heap.size + 1 := (by rw [← hv1e]; simp); omega)
            have HX0 := Lib.hid (show Whole v1e G 3 #[.int .i64 (n1 : Int)] by rw [← hv1e, ← hG]; exact Whole.made _ _ _)
            have HXL : Hid (wb.heap.size ≤ G) := Lib.hid (by rw [← hG]; exact HBR_1.out.size)
            have HBR_2 := Lib.hid (HBR_1.out.trans (hbc.mono HBR_1.out.size))
            have HF'_2 := Lib.hid (HFN.out.below hbc HFN.out.lt)
            clear HFN HBR_1
            clear hbc
            go_simp
            refine hK.out _ _ (fun _ => (CS _ HBR_2.out)) ?_
            clear hK K
            try simp only [Act.put]
            refine wpLate_one (i := 1) (by kernel_rfl) rfl (fun K hK => ?_)
            have HGL := Lib.hid (HX0.out.lt)
            obtain ⟨S1, hS1⟩ : ∃ S, v1e.heap.size = S := ⟨_, rfl⟩
            obtain ⟨v2b, hv2b⟩ : ∃ z, v1e.alloc (.cells #[] 3) = z := ⟨_, rfl⟩
            have hbc : Below v1e.heap.size v1e v2b := by rw [← hv2b]; exact below_new _ _
            have HR0 := Lib.hid (show ROwn intR v2b wb.heap.size (.slice (some ⟨S1, 0, none⟩) 0 0) [] by rw [← hv2b]; exact ROwn.lit v1e S1 HBR_2.out.size hS1)
            have HBR_3 := Lib.hid (HBR_2.out.trans (hbc.mono HBR_2.out.size))
            have HF'_3 := Lib.hid (HF'_2.out.below hbc HF'_2.out.lt)
            have HX_3 := Lib.hid (HX0.out.below hbc HX0.out.lt)
            clear HX0 HF'_2 HBR_2
            clear hbc
            have HGS : Hid (G ≠ S1) := Lib.hid (by have h1 := HGL.out; omega)
            go_simp
            refine hK.out _ _ (fun _ => (CS _ HBR_3.out)) ?_
            clear hK K
            try simp only [Act.put]
            refine wpLate_one (i := 3) (by kernel_rfl) rfl (fun K hK => ?_)
            have HMM := Lib.hid (HPb.out.below HBR_3.out (Nat.le_refl _))
            refine step_app_sl rfl (.tmp 74) (.tmp 75) 26 rfl intR wb.heap.size i0 _ 8 Try.underlying26 hi0 hq0 hq1 hq2 rfl (by decide) _ ([]) (P) 0 rfl rfl HR0.out AP (NP) (capP) rfl HMM.out.1 HMM.out.2.2.1 HMM.out.2.2.2.1 HMM.out.2.2.2.2 (by unfold maxLen; omega) (by omega) HBR_3.out.size ?_
            intro A4 N4 c4 v4p hof hgf
            rw [List.nil_append] at hof
            have HR_4 := Lib.hid hof
            have HBR_4 : Hid (Below wb.heap.size wb v4p) := Lib.hid (HBR_3.out.grown hgf HBR_3.out.size (fun z e => (World.ownsRow.lt HR0.out z e).1))
            have HF_4 := Lib.hid (HF'_3.out.grown hgf (fun e => (HR0.out.whole HF'_3.out (by decide)) e.symm))
            have HX_4 := Lib.hid (HX_3.out.grown hgf (fun e => HGS.out (Option.some.inj e)))
            clear hof hgf HMM HX_3 HF'_3 HR0 HBR_3
            refine hK.out _ _ (fun _ => (CS _ HBR_4.out)) ?_
            clear hK K
            try simp only [Act.put]
            refine wpLate_one (i := 9) (by kernel_rfl) rfl (fun K hK => ?_)
            have HMM := Lib.hid (one_num HX_4.out)
            refine step_app_sl rfl (.tmp 76) (.tmp 81) 26 rfl intR wb.heap.size i0 _ 8 Try.underlying26 hi0 hq0 hq1 hq2 rfl (by decide) _ (P) ([(n1 : Int)]) NP HPL.out rfl HR_4.out (some ⟨G, 0, none⟩) (1) (1) rfl HMM.out.1 HMM.out.2.2.1 HMM.out.2.2.2.1 HMM.out.2.2.2.2 (by unfold maxLen; omega) (by omega) HBR_4.out.size ?_
            intro A5 N5 c5 v5p hof hgf
            have HR_5 := Lib.hid hof
            have HBR_5 : Hid (Below wb.heap.size wb v5p) := Lib.hid (HBR_4.out.grown hgf HBR_4.out.size (fun z e => (World.ownsRow.lt HR_4.out z e).1))
            have HF_5 := Lib.hid (HF_4.out.grown hgf (fun e => (HR_4.out.whole HF_4.out (by decide)) e.symm))
            clear hof hgf HMM HF_4 HR_4 HBR_4
            refine hK.out _ _ (fun _ => (CS _ HBR_5.out)) ?_
            clear hK K
            try simp only [Act.put]
            refine wpLate_one (i := 12) (by kernel_rfl) rfl (fun K hK => ?_)
            go_simp
            have hln := HR_5.out.len.1
            have hll : (P ++ [(n1 : Int)]).length ≤ 100 := by rw [List.length_append, HPL.out]; show NP + 1 ≤ 100; omega
            refine (impl_flags_at HX2.out A1 N1 cap1 A5 N5 c5 v5p (HMb.out.below HBR_5.out (Nat.le_refl _)) (IIn.of HR_5.out (by omega))).mono ?_
            rintro e v5k ⟨A8, N8, cap8, rfl, hown, hb⟩
            clear hln hll
            have hN8 : N8 ≤ 20 := by have h1 := hown.len.1; have h2 := HL0.out; omega
            have HO8 := Lib.hid (hown.from (show wb.heap.size ≤ v5p.heap.size from HBR_5.out.size))
            have HBR_6 := Lib.hid (HBR_5.out.trans (hb.mono HBR_5.out.size))
            have HF'_6 := Lib.hid (HF_5.out.below hb HF_5.out.lt)
            clear HF_5 HBR_5
            clear hb hown
            refine hK.out _ _ (fun _ => (CS _ HBR_6.out)) ?_
            clear hK K
            try simp only [Act.put]
            refine wpLate_take (i := 13) (v := ?v13x9rzyoooot) rfl (by kernel_rfl) (by kernel_rfl) (by kernel_rfl) (by kernel_rfl) (by kernel_rfl) (fun _ _ _ h => h) (CS _ HBR_6.out) (by rfl) ?hy13x9rzyoooot ?r13x9rzyoooot
            case hy13x9rzyoooot =>
              rintro wz ⟨z0, z1⟩
              go_simp
              try with_reducible rfl
            try simp only [Act.put]
            refine wpLate_take (i := 14) (v := ?v14x9rzyoooot) rfl (by kernel_rfl) (by kernel_rfl) (by kernel_rfl) (by kernel_rfl) (by kernel_rfl) (fun _ _ _ h => h) (CS _ HBR_6.out) (by rfl) ?hy14x9rzyoooot ?r14x9rzyoooot
            case hy14x9rzyoooot =>
              rintro wz ⟨z0, z1⟩
              go_simp
              try with_reducible rfl
            try simp only [Act.put]
            refine wpLate_take (i := 15) (v := ?v15x9rzyoooot) rfl (by kernel_rfl) (by kernel_rfl) (by kernel_rfl) (by kernel_rfl) (by kernel_rfl) (fun _ _ _ h => h) (CS _ HBR_6.out) (by rfl) ?hy15x9rzyoooot ?r15x9rzyoooot
            case hy15x9rzyoooot =>
              rintro wz ⟨z0, z1⟩
              go_simp
              try with_reducible rfl
            try simp only [Act.put]
            have HBs := Lib.hid (show Below S wb ((v5k.setCell ⟨F, 0, none⟩ (.int .i64 (0))).setCell ⟨F, 1, none⟩ (.slice A8 N8 cap8)) from HWS.out ▸ ((HBR_6.out.setCell (p := ⟨F, 0, none⟩) HFL.out _).setCell (p := ⟨F, 1, none⟩) HFL.out _))
            have HFs : Hid (Whole ((v5k.setCell ⟨F, 0, none⟩ (.int .i64 (0))).setCell ⟨F, 1, none⟩ (.slice A8 N8 cap8)) F 25 #[.int .i64 (0), .slice A8 N8 cap8]) := Lib.hid ((HF'_6.out.store 0 _).store 1 _)
            have HMs : Hid (MIn ((v5k.setCell ⟨F, 0, none⟩ (.int .i64 (0))).setCell ⟨F, 1, none⟩ (.slice A8 N8 cap8)) A8 N8 cap8 ([])) := Lib.hid (MIn.of ((HO8.out.store (p := ⟨F, 0, none⟩) (HO8.out.whole HF'_6.out (by decide)) _).store (p := ⟨F, 1, none⟩) (HO8.out.whole HF'_6.out (by decide)) _) (by omega))
            have f0 := HF'_6.out.cell 0
            have f1 := HF'_6.out.cell 1
            have j0 := HF'_6.out.free 0
            have j1 := HF'_6.out.free 1
            simp only [List.getElem?_toArray, List.getElem?_cons_zero, List.getElem?_cons_succ] at f0 f1
            have hcs := CS _ (show Below wb.heap.size wb ((v5k.setCell ⟨F, 0, none⟩ (.int .i64 (0))).setCell ⟨F, 1, none⟩ (.slice A8 N8 cap8)) from ((HBR_6.out.setCell (p := ⟨F, 0, none⟩) HFL.out _).setCell (p := ⟨F, 1, none⟩) HFL.out _))
            refine wpLate_one (i := 17) (by kernel_rfl) rfl (fun K hK => ?_)
            go_simp
            refine hK.out _ _ (fun _ => hcs) ?_
            clear hK K
            try simp only [Act.put]
            refine wpLate_one (i := 18) (by kernel_rfl) rfl (fun K hK => ?_)
            go_simp
            refine hK.out _ _ (fun h => absurd rfl h) ?_
            clear hK K
            try simp only [Act.put]
            refine wpLate_done (by kernel_rfl) ?_ _
            go_wp2_with fail
            go_meet
            case rel => exact ⟨F, A8, N8, cap8, rfl, rfl, hN8, HBs, HFs, HMs⟩
      case rest =>
        obtain ⟨Dx9, Ax9, Nx9, capx9, rfl, rfl, hNx9, HBX, HWX, HMX⟩ := hcut
        obtain ⟨wx9, hwn⟩ := name_worldN HBX.out
        subst hwn
        clear zD10 zD11 zD20 zD21 zD30 zD31 zD40 zD41
        have K7 := Lib.hid (((K6.out.move (show Below wb.heap.size wb _ from HS.out.symm ▸ HBX.out)).and HMX.out.keep).and (kp_wholeN HWX.out))
        clear HBX HWX HMX
        have zD10 := K7.out.here.1.1.1.1.1.1.1.1.2.2.1.cell 0
        have zD11 := K7.out.here.1.1.1.1.1.1.1.1.2.2.1.cell 1
        have zD20 := K7.out.here.1.1.1.1.1.1.2.2.1.cell 0
        have zD21 := K7.out.here.1.1.1.1.1.1.2.2.1.cell 1
        have zD30 := K7.out.here.1.1.1.1.2.2.1.cell 0
        have zD31 := K7.out.here.1.1.1.1.2.2.1.cell 1
        have zD40 := K7.out.here.1.1.2.2.1.cell 0
        have zD41 := K7.out.here.1.1.2.2.1.cell 1
        have zDx90 := K7.out.here.2.2.1.cell 0
        have zDx91 := K7.out.here.2.2.1.cell 1
        simp at zD10 zD11 zD20 zD21 zD30 zD31 zD40 zD41 zDx90 zDx91
        obtain ⟨S2, hS2⟩ : ∃ S, wx9.heap.size = S := ⟨_, rfl⟩
        have HS2 := Lib.hid hS2
        go_upto_region 10 with fail
        go_cut [15, 16] (fun sx sy wx => ∃ (DX : Nat) (AX : Option Addr) (NX cX : Nat), sx = .pointer (some ⟨DX, 0, none⟩) ∧ sy = .bool tw ∧ NX ≤ 20 ∧ Hid (Below S2 wx9 wx) ∧ Hid (Whole wx DX 25 #[.int .i64 n9, .slice AX NX cX]) ∧ Hid (MIn wx AX NX cX L9))
        case first =>
          clear zD10 zD11 zD20 zD21 zD30 zD31 zD40 zD41 zDx90 zDx91
          have HMb := Lib.hid (K7.out.here.1.1.1.1.1.1.1.1.1.1.2 : MIn wx9 A1 N1 cap1 _)
          have HPb := Lib.hid (K7.out.here.1.1.1.1.1.1.1.1.1.2 : IIn wx9 AP NP capP P)
          have HD0 := K7.out.here.1.1.1.1.1.1.1.1.2.2.1.cell 0
          have HD1 := K7.out.here.1.1.1.1.1.1.1.1.2.2.1.cell 1
          simp only [List.getElem?_toArray, List.getElem?_cons_zero, List.getElem?_cons_succ] at HD0 HD1
          have CS : ∀ wx, Below wx9.heap.size wx9 wx → (fun w' => w'.cell? ⟨D1, 0, none⟩ = some (.int .i64 n) ∧ w'.cell? ⟨D1, 1, none⟩ = some (.slice A1 N1 cap1)) wx := fun wx hbx => ⟨(hbx.cell (p := ⟨D1, 0, none⟩) K7.out.here.1.1.1.1.1.1.1.1.2.2.1.lt).trans HD0, (hbx.cell (p := ⟨D1, 1, none⟩) K7.out.here.1.1.1.1.1.1.1.1.2.2.1.lt).trans HD1⟩
          have HBR := Lib.hid (below_drew1 wx9)
          have hcd := CS _ HBR.out
          have HWS : Hid (wx9.heap.size = S2) := HS2
          have HPL : Hid (P.length = NP) := HNP.out.symm
          obtain ⟨i0, hi0, hq0, hq1, hq2⟩ := info_parts Try.infoNum
          clear HD0 HD1
          refine wp_region_late (fun w' => w'.cell? ⟨D1, 0, none⟩ = some (.int .i64 n) ∧ w'.cell? ⟨D1, 1, none⟩ = some (.slice A1 N1 cap1)) 14 (by kernel_rfl) ?_
          revert HBR hcd
          generalize wx9.drew = wd
          intro HBR hcd
          refine wpLate_take (i := 0) (v := ?v0x10rt) rfl (by kernel_rfl) (by kernel_rfl) (by kernel_rfl) (by kernel_rfl) (by kernel_rfl) (fun _ _ _ h => h) (CS _ HBR.out) (by rfl) ?hy0x10rt ?r0x10rt
          case hy0x10rt =>
            rintro wz ⟨z0, z1⟩
            go_simp
            try with_reducible rfl
          try simp only [Act.put]
          refine wpLate_take (i := 2) (v := ?v2x10rt) rfl (by kernel_rfl) (by kernel_rfl) (by kernel_rfl) (by kernel_rfl) (by kernel_rfl) (fun _ _ _ h => h) (CS _ HBR.out) (by rfl) ?hy2x10rt ?r2x10rt
          case hy2x10rt =>
            rintro wz ⟨z0, z1⟩
            go_simp
            try with_reducible rfl
          try simp only [Act.put]
          refine wpLate_take (i := 4) (v := ?v4x10rt) rfl (by kernel_rfl) (by kernel_rfl) (by kernel_rfl) (by kernel_rfl) (by kernel_rfl) (fun _ _ _ h => h) (CS _ HBR.out) (by rfl) ?hy4x10rt ?r4x10rt
          case hy4x10rt =>
            rintro wz ⟨z0, z1⟩
            go_simp
            try with_reducible rfl
          try simp only [Act.put]
          refine wpLate_take (i := 6) (v := ?v6x10rt) rfl (by kernel_rfl) (by kernel_rfl) (by kernel_rfl) (by kernel_rfl) (by kernel_rfl) (fun _ _ _ h => h) (CS _ HBR.out) (by rfl) ?hy6x10rt ?r6x10rt
          case hy6x10rt =>
            rintro wz ⟨z0, z1⟩
            go_simp
            try with_reducible rfl
          try simp only [Act.put]
          refine wpLate_take (i := 7) (v := ?v7x10rt) rfl (by kernel_rfl) (by kernel_rfl) (by kernel_rfl) (by kernel_rfl) (by kernel_rfl) (fun _ _ _ h => h) (CS _ HBR.out) (by rfl) ?hy7x10rt ?r7x10rt
          case hy7x10rt =>
            rintro wz ⟨z0, z1⟩
            go_simp
            try with_reducible rfl
          try simp only [Act.put]
          refine wpLate_two (i := 1) (k := 12) (by kernel_rfl) rfl rfl (fun K hK => ?xr) (fun K hK => ?yr)
          case xr =>
            obtain ⟨S1, hS1⟩ : ∃ S, wd.heap.size = S := ⟨_, rfl⟩
            obtain ⟨v0b, hv0b⟩ : ∃ z, wd.alloc (.cells #[] 3) = z := ⟨_, rfl⟩
            have hbc : Below wd.heap.size wd v0b := by rw [← hv0b]; exact below_new _ _
            have HR0 := Lib.hid (show ROwn intR v0b wx9.heap.size (.slice (some ⟨S1, 0, none⟩) 0 0) [] by rw [← hv0b]; exact ROwn.lit wd S1 HBR.out.size hS1)
            have HBR_1 := Lib.hid (HBR.out.trans (hbc.mono HBR.out.size))
            clear HBR
            clear hbc
            go_simp
            refine hK.out _ _ (fun _ => (CS _ HBR_1.out)) ?_
            clear hK K
            try simp only [Act.put]
            refine wpLate_two (i := 3) (k := 12) (by kernel_rfl) rfl rfl (fun K hK => ?xrx) (fun K hK => ?yrx)
            case xrx =>
              have HMM := Lib.hid (HPb.out.below HBR_1.out (Nat.le_refl _))
              refine step_app_sl rfl (.tmp 90) (.tmp 91) 26 rfl intR wx9.heap.size i0 _ 8 Try.underlying26 hi0 hq0 hq1 hq2 rfl (by decide) _ ([]) (P) 0 rfl rfl HR0.out AP (NP) (capP) rfl HMM.out.1 HMM.out.2.2.1 HMM.out.2.2.2.1 HMM.out.2.2.2.2 (by unfold maxLen; omega) (by omega) HBR_1.out.size ?_
              intro A2 N2 c2 v2p hof hgf
              rw [List.nil_append] at hof
              have HR_2 := Lib.hid hof
              have HBR_2 : Hid (Below wx9.heap.size wx9 v2p) := Lib.hid (HBR_1.out.grown hgf HBR_1.out.size (fun z e => (World.ownsRow.lt HR0.out z e).1))
              clear hof hgf HMM HR0 HBR_1
              refine hK.out _ _ (fun _ => (CS _ HBR_2.out)) ?_
              clear hK K
              try simp only [Act.put]
              refine wpLate_two (i := 5) (k := 12) (by kernel_rfl) rfl rfl (fun K hK => ?xrxx) (fun K hK => ?yrxx)
              case xrxx =>
                have HMM := Lib.hid (HPb.out.below HBR_2.out (Nat.le_refl _))
                refine step_app_sl rfl (.tmp 92) (.tmp 93) 26 rfl intR wx9.heap.size i0 _ 8 Try.underlying26 hi0 hq0 hq1 hq2 rfl (by decide) _ (P) (P) NP HPL.out rfl HR_2.out AP (NP) (capP) rfl HMM.out.1 HMM.out.2.2.1 HMM.out.2.2.2.1 HMM.out.2.2.2.2 (by unfold maxLen; omega) (by omega) HBR_2.out.size ?_
                intro A3 N3 c3 v3p hof hgf
                have HR_3 := Lib.hid hof
                have HBR_3 : Hid (Below wx9.heap.size wx9 v3p) := Lib.hid (HBR_2.out.grown hgf HBR_2.out.size (fun z e => (World.ownsRow.lt HR_2.out z e).1))
                clear hof hgf HMM HR_2 HBR_2
                refine hK.out _ _ (fun _ => (CS _ HBR_3.out)) ?_
                clear hK K
                try simp only [Act.put]
                refine wpLate_two (i := 8) (k := 12) (by kernel_rfl) rfl rfl (fun K hK => ?xrxxx) (fun K hK => ?yrxxx)
                case xrxxx =>
                  go_simp
                  have hln := HR_3.out.len.1
                  have hll : (P ++ P).length ≤ 100 := by rw [List.length_append, HPL.out]; omega
                  refine (impl_flags_at HX3.out A1 N1 cap1 A3 N3 c3 v3p (HMb.out.below HBR_3.out (Nat.le_refl _)) (IIn.of HR_3.out (by omega))).mono ?_
                  rintro e v3k ⟨A8, N8, cap8, rfl, hown, hb⟩
                  clear hln hll
                  have hN8 : N8 ≤ 20 := by have h1 := hown.len.1; have h2 := HL9.out; omega
                  have HO8 := Lib.hid (hown.from (show wx9.heap.size ≤ v3p.heap.size from HBR_3.out.size))
                  have HBR_4 := Lib.hid (HBR_3.out.trans (hb.mono HBR_3.out.size))
                  clear HBR_3
                  clear hb hown
                  refine hK.out _ _ (fun _ => (CS _ HBR_4.out)) ?_
                  clear hK K
                  try simp only [Act.put]
                  refine wpLate_take (i := 9) (v := ?v9x10rxxxxt) rfl (by kernel_rfl) (by kernel_rfl) (by kernel_rfl) (by kernel_rfl) (by kernel_rfl) (fun _ _ _ h => h) (CS _ HBR_4.out) (by rfl) ?hy9x10rxxxxt ?r9x10rxxxxt
                  case hy9x10rxxxxt =>
                    rintro wz ⟨z0, z1⟩
                    go_simp
                    try with_reducible rfl
                  try simp only [Act.put]
                  refine wpLate_take (i := 10) (v := ?v10x10rxxxxt) rfl (by kernel_rfl) (by kernel_rfl) (by kernel_rfl) (by kernel_rfl) (by kernel_rfl) (fun _ _ _ h => h) (CS _ HBR_4.out) (by rfl) ?hy10x10rxxxxt ?r10x10rxxxxt
                  case hy10x10rxxxxt =>
                    rintro wz ⟨z0, z1⟩
                    go_simp
                    try with_reducible rfl
                  try simp only [Act.put]
                  refine wpLate_take (i := 11) (v := ?v11x10rxxxxt) rfl (by kernel_rfl) (by kernel_rfl) (by kernel_rfl) (by kernel_rfl) (by kernel_rfl) (fun _ _ _ h => h) (CS _ HBR_4.out) (by rfl) ?hy11x10rxxxxt ?r11x10rxxxxt
                  case hy11x10rxxxxt =>
                    rintro wz ⟨z0, z1⟩
                    go_simp
                    try with_reducible rfl
                  try simp only [Act.put]
                  refine wpLate_one (i := 12) (by kernel_rfl) rfl (fun K hK => ?_)
                  obtain ⟨F, hF⟩ : ∃ F, v3k.heap.size = F := ⟨_, rfl⟩
                  obtain ⟨v4c, hv4c⟩ : ∃ z, v3k.alloc (.cells #[.int .i64 0, .slice none 0 0] 25) = z := ⟨_, rfl⟩
                  have HFL : Hid (wx9.heap.size ≤ F) := Lib.hid (by rw [← hF]; exact HBR_4.out.size)
                  have hbc : Below v3k.heap.size v3k v4c := by rw [← hv4c]; exact below_new v3k _
                  have HFN := Lib.hid (show Whole v4c F 25 #[.int .i64 0, .slice none 0 0] by rw [← hv4c, ← hF]; exact Whole.made _ _ _)
                  have HBR_5 := Lib.hid (HBR_4.out.trans (hbc.mono HBR_4.out.size))
                  have HO_5 := Lib.hid (HO8.out.kept hbc)
                  clear HO8 HBR_4
                  clear hbc
                  go_simp
                  refine hK.out _ _ (fun _ => (CS _ HBR_5.out)) ?_
                  clear hK K
                  try simp only [Act.put]
                  have HBs := Lib.hid (show Below S2 wx9 ((v4c.setCell ⟨F, 0, none⟩ (.int .i64 (n9))).setCell ⟨F, 1, none⟩ (.slice A8 N8 cap8)) from HWS.out ▸ ((HBR_5.out.setCell (p := ⟨F, 0, none⟩) HFL.out _).setCell (p := ⟨F, 1, none⟩) HFL.out _))
                  have HFs : Hid (Whole ((v4c.setCell ⟨F, 0, none⟩ (.int .i64 (n9))).setCell ⟨F, 1, none⟩ (.slice A8 N8 cap8)) F 25 #[.int .i64 (n9), .slice A8 N8 cap8]) := Lib.hid ((HFN.out.store 0 _).store 1 _)
                  have HMs : Hid (MIn ((v4c.setCell ⟨F, 0, none⟩ (.int .i64 (n9))).setCell ⟨F, 1, none⟩ (.slice A8 N8 cap8)) A8 N8 cap8 (L9)) := Lib.hid (MIn.of ((HO_5.out.store (p := ⟨F, 0, none⟩) (HO_5.out.whole HFN.out (by decide)) _).store (p := ⟨F, 1, none⟩) (HO_5.out.whole HFN.out (by decide)) _) (by omega))
                  have f0 := HFN.out.cell 0
                  have f1 := HFN.out.cell 1
                  have j0 := HFN.out.free 0
                  have j1 := HFN.out.free 1
                  simp only [List.getElem?_toArray, List.getElem?_cons_zero, List.getElem?_cons_succ] at f0 f1
                  have hcs := CS _ (show Below wx9.heap.size wx9 ((v4c.setCell ⟨F, 0, none⟩ (.int .i64 (n9))).setCell ⟨F, 1, none⟩ (.slice A8 N8 cap8)) from ((HBR_5.out.setCell (p := ⟨F, 0, none⟩) HFL.out _).setCell (p := ⟨F, 1, none⟩) HFL.out _))
                  refine wpLate_one (i := 13) (by kernel_rfl) rfl (fun K hK => ?_)
                  go_simp
                  refine hK.out _ _ (fun _ => hcs) ?_
                  clear hK K
                  try simp only [Act.put]
                  refine wpLate_one (i := 14) (by kernel_rfl) rfl (fun K hK => ?_)
                  go_simp
                  refine hK.out _ _ (fun h => absurd rfl h) ?_
                  clear hK K
                  try simp only [Act.put]
                  refine wpLate_done (by kernel_rfl) ?_ _
                  go_wp2_with fail
                  go_meet
                  case rel => exact ⟨F, A8, N8, cap8, rfl, rfl, hN8, HBs, HFs, HMs⟩
                case yrxxx =>
                  obtain ⟨F, hF⟩ : ∃ F, v3p.heap.size = F := ⟨_, rfl⟩
                  obtain ⟨v3c, hv3c⟩ : ∃ z, v3p.alloc (.cells #[.int .i64 0, .slice none 0 0] 25) = z := ⟨_, rfl⟩
                  have HFL : Hid (wx9.heap.size ≤ F) := Lib.hid (by rw [← hF]; exact HBR_3.out.size)
                  have hbc : Below v3p.heap.size v3p v3c := by rw [← hv3c]; exact below_new v3p _
                  have HFN := Lib.hid (show Whole v3c F 25 #[.int .i64 0, .slice none 0 0] by rw [← hv3c, ← hF]; exact Whole.made _ _ _)
                  have HR_4 := Lib.hid (HR_3.out.kept hbc)
                  have HBR_4 := Lib.hid (HBR_3.out.trans (hbc.mono HBR_3.out.size))
                  clear HBR_3 HR_3
                  clear hbc
                  go_simp
                  refine hK.out _ _ (fun _ => (CS _ HBR_4.out)) ?_
                  clear hK K
                  try simp only [Act.put]
                  refine wpLate_one (i := 8) (by kernel_rfl) rfl (fun K hK => ?_)
                  go_simp
                  have hln := HR_4.out.len.1
                  have hll : (P ++ P).length ≤ 100 := by rw [List.length_append, HPL.out]; omega
                  refine (impl_flags_at HX3.out A1 N1 cap1 A3 N3 c3 v3c (HMb.out.below HBR_4.out (Nat.le_refl _)) (IIn.of HR_4.out (by omega))).mono ?_
                  rintro e v4k ⟨A8, N8, cap8, rfl, hown, hb⟩
                  clear hln hll
                  have hN8 : N8 ≤ 20 := by have h1 := hown.len.1; have h2 := HL9.out; omega
                  have HO8 := Lib.hid (hown.from (show wx9.heap.size ≤ v3c.heap.size from HBR_4.out.size))
                  have HBR_5 := Lib.hid (HBR_4.out.trans (hb.mono HBR_4.out.size))
                  have HF'_5 := Lib.hid (HFN.out.below hb HFN.out.lt)
                  clear HFN HBR_4
                  clear hb hown
                  refine hK.out _ _ (fun _ => (CS _ HBR_5.out)) ?_
                  clear hK K
                  try simp only [Act.put]
                  refine wpLate_take (i := 9) (v := ?v9x10rxxxyot) rfl (by kernel_rfl) (by kernel_rfl) (by kernel_rfl) (by kernel_rfl) (by kernel_rfl) (fun _ _ _ h => h) (CS _ HBR_5.out) (by rfl) ?hy9x10rxxxyot ?r9x10rxxxyot
                  case hy9x10rxxxyot =>
                    rintro wz ⟨z0, z1⟩
                    go_simp
                    try with_reducible rfl
                  try simp only [Act.put]
                  refine wpLate_take (i := 10) (v := ?v10x10rxxxyot) rfl (by kernel_rfl) (by kernel_rfl) (by kernel_rfl) (by kernel_rfl) (by kernel_rfl) (fun _ _ _ h => h) (CS _ HBR_5.out) (by rfl) ?hy10x10rxxxyot ?r10x10rxxxyot
                  case hy10x10rxxxyot =>
                    rintro wz ⟨z0, z1⟩
                    go_simp
                    try with_reducible rfl
                  try simp only [Act.put]
                  refine wpLate_take (i := 11) (v := ?v11x10rxxxyot) rfl (by kernel_rfl) (by kernel_rfl) (by kernel_rfl) (by kernel_rfl) (by kernel_rfl) (fun _ _ _ h => h) (CS _ HBR_5.out) (by rfl) ?hy11x10rxxxyot ?r11x10rxxxyot
                  case hy11x10rxxxyot =>
                    rintro wz ⟨z0, z1⟩
                    go_simp
                    try with_reducible rfl
                  try simp only [Act.put]
                  have HBs := Lib.hid (show Below S2 wx9 ((v4k.setCell ⟨F, 0, none⟩ (.int .i64 (n9))).setCell ⟨F, 1, none⟩ (.slice A8 N8 cap8)) from HWS.out ▸ ((HBR_5.out.setCell (p := ⟨F, 0, none⟩) HFL.out _).setCell (p := ⟨F, 1, none⟩) HFL.out _))
                  have HFs : Hid (Whole ((v4k.setCell ⟨F, 0, none⟩ (.int .i64 (n9))).setCell ⟨F, 1, none⟩ (.slice A8 N8 cap8)) F 25 #[.int .i64 (n9), .slice A8 N8 cap8]) := Lib.hid ((HF'_5.out.store 0 _).store 1 _)
                  have HMs : Hid (MIn ((v4k.setCell ⟨F, 0, none⟩ (.int .i64 (n9))).setCell ⟨F, 1, none⟩ (.slice A8 N8 cap8)) A8 N8 cap8 (L9)) := Lib.hid (MIn.of ((HO8.out.store (p := ⟨F, 0, none⟩) (HO8.out.whole HF'_5.out (by decide)) _).store (p := ⟨F, 1, none⟩) (HO8.out.whole HF'_5.out (by decide)) _) (by omega))
                  have f0 := HF'_5.out.cell 0
                  have f1 := HF'_5.out.cell 1
                  have j0 := HF'_5.out.free 0
                  have j1 := HF'_5.out.free 1
                  simp only [List.getElem?_toArray, List.getElem?_cons_zero, List.getElem?_cons_succ] at f0 f1
                  have hcs := CS _ (show Below wx9.heap.size wx9 ((v4k.setCell ⟨F, 0, none⟩ (.int .i64 (n9))).setCell ⟨F, 1, none⟩ (.slice A8 N8 cap8)) from ((HBR_5.out.setCell (p := ⟨F, 0, none⟩) HFL.out _).setCell (p := ⟨F, 1, none⟩) HFL.out _))
                  refine wpLate_one (i := 13) (by kernel_rfl) rfl (fun K hK => ?_)
                  go_simp
                  refine hK.out _ _ (fun _ => hcs) ?_
                  clear hK K
                  try simp only [Act.put]
                  refine wpLate_one (i := 14) (by kernel_rfl) rfl (fun K hK => ?_)
                  go_simp
                  refine hK.out _ _ (fun h => absurd rfl h) ?_
                  clear hK K
                  try simp only [Act.put]
                  refine wpLate_done (by kernel_rfl) ?_ _
                  go_wp2_with fail
                  go_meet
                  case rel => exact ⟨F, A8, N8, cap8, rfl, rfl, hN8, HBs, HFs, HMs⟩
              case yrxx =>
                obtain ⟨F, hF⟩ : ∃ F, v2p.heap.size = F := ⟨_, rfl⟩
                obtain ⟨v2c, hv2c⟩ : ∃ z, v2p.alloc (.cells #[.int .i64 0, .slice none 0 0] 25) = z := ⟨_, rfl⟩
                have HFL : Hid (wx9.heap.size ≤ F) := Lib.hid (by rw [← hF]; exact HBR_2.out.size)
                have hbc : Below v2p.heap.size v2p v2c := by rw [← hv2c]; exact below_new v2p _
                have HFN := Lib.hid (show Whole v2c F 25 #[.int .i64 0, .slice none 0 0] by rw [← hv2c, ← hF]; exact Whole.made _ _ _)
                have HR_3 := Lib.hid (HR_2.out.kept hbc)
                have HBR_3 := Lib.hid (HBR_2.out.trans (hbc.mono HBR_2.out.size))
                clear HBR_2 HR_2
                clear hbc
                go_simp
                refine hK.out _ _ (fun _ => (CS _ HBR_3.out)) ?_
                clear hK K
                try simp only [Act.put]
                refine wpLate_one (i := 5) (by kernel_rfl) rfl (fun K hK => ?_)
                have HMM := Lib.hid (HPb.out.below HBR_3.out (Nat.le_refl _))
                refine step_app_sl rfl (.tmp 92) (.tmp 93) 26 rfl intR wx9.heap.size i0 _ 8 Try.underlying26 hi0 hq0 hq1 hq2 rfl (by decide) _ (P) (P) NP HPL.out rfl HR_3.out AP (NP) (capP) rfl HMM.out.1 HMM.out.2.2.1 HMM.out.2.2.2.1 HMM.out.2.2.2.2 (by unfold maxLen; omega) (by omega) HBR_3.out.size ?_
                intro A4 N4 c4 v4p hof hgf
                have HR_4 := Lib.hid hof
                have HBR_4 : Hid (Below wx9.heap.size wx9 v4p) := Lib.hid (HBR_3.out.grown hgf HBR_3.out.size (fun z e => (World.ownsRow.lt HR_3.out z e).1))
                have HF_4 := Lib.hid (HFN.out.grown hgf (fun e => (HR_3.out.whole HFN.out (by decide)) e.symm))
                clear hof hgf HMM HFN HR_3 HBR_3
                refine hK.out _ _ (fun _ => (CS _ HBR_4.out)) ?_
                clear hK K
                try simp only [Act.put]
                refine wpLate_one (i := 8) (by kernel_rfl) rfl (fun K hK => ?_)
                go_simp
                have hln := HR_4.out.len.1
                have hll : (P ++ P).length ≤ 100 := by rw [List.length_append, HPL.out]; omega
                refine (impl_flags_at HX3.out A1 N1 cap1 A4 N4 c4 v4p (HMb.out.below HBR_4.out (Nat.le_refl _)) (IIn.of HR_4.out (by omega))).mono ?_
                rintro e v4k ⟨A8, N8, cap8, rfl, hown, hb⟩
                clear hln hll
                have hN8 : N8 ≤ 20 := by have h1 := hown.len.1; have h2 := HL9.out; omega
                have HO8 := Lib.hid (hown.from (show wx9.heap.size ≤ v4p.heap.size from HBR_4.out.size))
                have HBR_5 := Lib.hid (HBR_4.out.trans (hb.mono HBR_4.out.size))
                have HF'_5 := Lib.hid (HF_4.out.below hb HF_4.out.lt)
                clear HF_4 HBR_4
                clear hb hown
                refine hK.out _ _ (fun _ => (CS _ HBR_5.out)) ?_
                clear hK K
                try simp only [Act.put]
                refine wpLate_take (i := 9) (v := ?v9x10rxxyoot) rfl (by kernel_rfl) (by kernel_rfl) (by kernel_rfl) (by kernel_rfl) (by kernel_rfl) (fun _ _ _ h => h) (CS _ HBR_5.out) (by rfl) ?hy9x10rxxyoot ?r9x10rxxyoot
                case hy9x10rxxyoot =>
                  rintro wz ⟨z0, z1⟩
                  go_simp
                  try with_reducible rfl
                try simp only [Act.put]
                refine wpLate_take (i := 10) (v := ?v10x10rxxyoot) rfl (by kernel_rfl) (by kernel_rfl) (by kernel_rfl) (by kernel_rfl) (by kernel_rfl) (fun _ _ _ h => h) (CS _ HBR_5.out) (by rfl) ?hy10x10rxxyoot ?r10x10rxxyoot
                case hy10x10rxxyoot =>
                  rintro wz ⟨z0, z1⟩
                  go_simp
                  try with_reducible rfl
                try simp only [Act.put]
                refine wpLate_take (i := 11) (v := ?v11x10rxxyoot) rfl (by kernel_rfl) (by kernel_rfl) (by kernel_rfl) (by kernel_rfl) (by kernel_rfl) (fun _ _ _ h => h) (CS _ HBR_5.out) (by rfl) ?hy11x10rxxyoot ?r11x10rxxyoot
                case hy11x10rxxyoot =>
                  rintro wz ⟨z0, z1⟩
                  go_simp
                  try with_reducible rfl
                try simp only [Act.put]
                have HBs := Lib.hid (show Below S2 wx9 ((v4k.setCell ⟨F, 0, none⟩ (.int .i64 (n9))).setCell ⟨F, 1, none⟩ (.slice A8 N8 cap8)) from HWS.out ▸ ((HBR_5.out.setCell (p := ⟨F, 0, none⟩) HFL.out _).setCell (p := ⟨F, 1, none⟩) HFL.out _))
                have HFs : Hid (Whole ((v4k.setCell ⟨F, 0, none⟩ (.int .i64 (n9))).setCell ⟨F, 1, none⟩ (.slice A8 N8 cap8)) F 25 #[.int .i64 (n9), .slice A8 N8 cap8]) := Lib.hid ((HF'_5.out.store 0 _).store 1 _)
                have HMs : Hid (MIn ((v4k.setCell ⟨F, 0, none⟩ (.int .i64 (n9))).setCell ⟨F, 1, none⟩ (.slice A8 N8 cap8)) A8 N8 cap8 (L9)) := Lib.hid (MIn.of ((HO8.out.store (p := ⟨F, 0, none⟩) (HO8.out.whole HF'_5.out (by decide)) _).store (p := ⟨F, 1, none⟩) (HO8.out.whole HF'_5.out (by decide)) _) (by omega))
                have f0 := HF'_5.out.cell 0
                have f1 := HF'_5.out.cell 1
                have j0 := HF'_5.out.free 0
                have j1 := HF'_5.out.free 1
                simp only [List.getElem?_toArray, List.getElem?_cons_zero, List.getElem?_cons_succ] at f0 f1
                have hcs := CS _ (show Below wx9.heap.size wx9 ((v4k.setCell ⟨F, 0, none⟩ (.int .i64 (n9))).setCell ⟨F, 1, none⟩ (.slice A8 N8 cap8)) from ((HBR_5.out.setCell (p := ⟨F, 0, none⟩) HFL.out _).setCell (p := ⟨F, 1, none⟩) HFL.out _))
                refine wpLate_one (i := 13) (by kernel_rfl) rfl (fun K hK => ?_)
                go_simp
                refine hK.out _ _ (fun _ => hcs) ?_
                clear hK K
                try simp only [Act.put]
                refine wpLate_one (i := 14) (by kernel_rfl) rfl (fun K hK => ?_)
                go_simp
                refine hK.out _ _ (fun h => absurd rfl h) ?_
                clear hK K
                try simp only [Act.put]
                refine wpLate_done (by kernel_rfl) ?_ _
                go_wp2_with fail
                go_meet
                case rel => exact ⟨F, A8, N8, cap8, rfl, rfl, hN8, HBs, HFs, HMs⟩
            case yrx =>
              obtain ⟨F, hF⟩ : ∃ F, v0b.heap.size = F := ⟨_, rfl⟩
              obtain ⟨v1c, hv1c⟩ : ∃ z, v0b.alloc (.cells #[.int .i64 0, .slice none 0 0] 25) = z := ⟨_, rfl⟩
              have HFL : Hid (wx9.heap.size ≤ F) := Lib.hid (by rw [← hF]; exact HBR_1.out.size)
              have hbc : Below v0b.heap.size v0b v1c := by rw [← hv1c]; exact below_new v0b _
              have HFN := Lib.hid (show Whole v1c F 25 #[.int .i64 0, .slice none 0 0] by rw [← hv1c, ← hF]; exact Whole.made _ _ _)
              have HBR_2 := Lib.hid (HBR_1.out.trans (hbc.mono HBR_1.out.size))
              have HR_2 := Lib.hid (HR0.out.kept hbc)
              clear HR0 HBR_1
              clear hbc
              go_simp
              refine hK.out _ _ (fun _ => (CS _ HBR_2.out)) ?_
              clear hK K
              try simp only [Act.put]
              refine wpLate_one (i := 3) (by kernel_rfl) rfl (fun K hK => ?_)
              have HMM := Lib.hid (HPb.out.below HBR_2.out (Nat.le_refl _))
              refine step_app_sl rfl (.tmp 90) (.tmp 91) 26 rfl intR wx9.heap.size i0 _ 8 Try.underlying26 hi0 hq0 hq1 hq2 rfl (by decide) _ ([]) (P) 0 rfl rfl HR_2.out AP (NP) (capP) rfl HMM.out.1 HMM.out.2.2.1 HMM.out.2.2.2.1 HMM.out.2.2.2.2 (by unfold maxLen; omega) (by omega) HBR_2.out.size ?_
              intro A3 N3 c3 v3p hof hgf
              rw [List.nil_append] at hof
              have HR_3 := Lib.hid hof
              have HBR_3 : Hid (Below wx9.heap.size wx9 v3p) := Lib.hid (HBR_2.out.grown hgf HBR_2.out.size (fun z e => (World.ownsRow.lt HR_2.out z e).1))
              have HF_3 := Lib.hid (HFN.out.grown hgf (fun e => (HR_2.out.whole HFN.out (by decide)) e.symm))
              clear hof hgf HMM HFN HR_2 HBR_2
              refine hK.out _ _ (fun _ => (CS _ HBR_3.out)) ?_
              clear hK K
              try simp only [Act.put]
              refine wpLate_one (i := 5) (by kernel_rfl) rfl (fun K hK => ?_)
              have HMM := Lib.hid (HPb.out.below HBR_3.out (Nat.le_refl _))
              refine step_app_sl rfl (.tmp 92) (.tmp 93) 26 rfl intR wx9.heap.size i0 _ 8 Try.underlying26 hi0 hq0 hq1 hq2 rfl (by decide) _ (P) (P) NP HPL.out rfl HR_3.out AP (NP) (capP) rfl HMM.out.1 HMM.out.2.2.1 HMM.out.2.2.2.1 HMM.out.2.2.2.2 (by unfold maxLen; omega) (by omega) HBR_3.out.size ?_
              intro A4 N4 c4 v4p hof hgf
              have HR_4 := Lib.hid hof
              have HBR_4 : Hid (Below wx9.heap.size wx9 v4p) := Lib.hid (HBR_3.out.grown hgf HBR_3.out.size (fun z e => (World.ownsRow.lt HR_3.out z e).1))
              have HF_4 := Lib.hid (HF_3.out.grown hgf (fun e => (HR_3.out.whole HF_3.out (by decide)) e.symm))
              clear hof hgf HMM HF_3 HR_3 HBR_3
              refine hK.out _ _ (fun _ => (CS _ HBR_4.out)) ?_
              clear hK K
              try simp only [Act.put]
              refine wpLate_one (i := 8) (by kernel_rfl) rfl (fun K hK => ?_)
              go_simp
              have hln := HR_4.out.len.1
              have hll : (P ++ P).length ≤ 100 := by rw [List.length_append, HPL.out]; omega
              refine (impl_flags_at HX3.out A1 N1 cap1 A4 N4 c4 v4p (HMb.out.below HBR_4.out (Nat.le_refl _)) (IIn.of HR_4.out (by omega))).mono ?_
              rintro e v4k ⟨A8, N8, cap8, rfl, hown, hb⟩
              clear hln hll
              have hN8 : N8 ≤ 20 := by have h1 := hown.len.1; have h2 := HL9.out; omega
              have HO8 := Lib.hid (hown.from (show wx9.heap.size ≤ v4p.heap.size from HBR_4.out.size))
              have HBR_5 := Lib.hid (HBR_4.out.trans (hb.mono HBR_4.out.size))
              have HF'_5 := Lib.hid (HF_4.out.below hb HF_4.out.lt)
              clear HF_4 HBR_4
              clear hb hown
              refine hK.out _ _ (fun _ => (CS _ HBR_5.out)) ?_
              clear hK K
              try simp only [Act.put]
              refine wpLate_take (i := 9) (v := ?v9x10rxyooot) rfl (by kernel_rfl) (by kernel_rfl) (by kernel_rfl) (by kernel_rfl) (by kernel_rfl) (fun _ _ _ h => h) (CS _ HBR_5.out) (by rfl) ?hy9x10rxyooot ?r9x10rxyooot
              case hy9x10rxyooot =>
                rintro wz ⟨z0, z1⟩
                go_simp
                try with_reducible rfl
              try simp only [Act.put]
              refine wpLate_take (i := 10) (v := ?v10x10rxyooot) rfl (by kernel_rfl) (by kernel_rfl) (by kernel_rfl) (by kernel_rfl) (by kernel_rfl) (fun _ _ _ h => h) (CS _ HBR_5.out) (by rfl) ?hy10x10rxyooot ?r10x10rxyooot
              case hy10x10rxyooot =>
                rintro wz ⟨z0, z1⟩
                go_simp
                try with_reducible rfl
              try simp only [Act.put]
              refine wpLate_take (i := 11) (v := ?v11x10rxyooot) rfl (by kernel_rfl) (by kernel_rfl) (by kernel_rfl) (by kernel_rfl) (by kernel_rfl) (fun _ _ _ h => h) (CS _ HBR_5.out) (by rfl) ?hy11x10rxyooot ?r11x10rxyooot
              case hy11x10rxyooot =>
                rintro wz ⟨z0, z1⟩
                go_simp
                try with_reducible rfl
              try simp only [Act.put]
              have HBs := Lib.hid (show Below S2 wx9 ((v4k.setCell ⟨F, 0, none⟩ (.int .i64 (n9))).setCell ⟨F, 1, none⟩ (.slice A8 N8 cap8)) from HWS.out ▸ ((HBR_5.out.setCell (p := ⟨F, 0, none⟩) HFL.out _).setCell (p := ⟨F, 1, none⟩) HFL.out _))
              have HFs : Hid (Whole ((v4k.setCell ⟨F, 0, none⟩ (.int .i64 (n9))).setCell ⟨F, 1, none⟩ (.slice A8 N8 cap8)) F 25 #[.int .i64 (n9), .slice A8 N8 cap8]) := Lib.hid ((HF'_5.out.store 0 _).store 1 _)
              have HMs : Hid (MIn ((v4k.setCell ⟨F, 0, none⟩ (.int .i64 (n9))).setCell ⟨F, 1, none⟩ (.slice A8 N8 cap8)) A8 N8 cap8 (L9)) := Lib.hid (MIn.of ((HO8.out.store (p := ⟨F, 0, none⟩) (HO8.out.whole HF'_5.out (by decide)) _).store (p := ⟨F, 1, none⟩) (HO8.out.whole HF'_5.out (by decide)) _) (by omega))
              have f0 := HF'_5.out.cell 0
              have f1 := HF'_5.out.cell 1
              have j0 := HF'_5.out.free 0
              have j1 := HF'_5.out.free 1
              simp only [List.getElem?_toArray, List.getElem?_cons_zero, List.getElem?_cons_succ] at f0 f1
              have hcs := CS _ (show Below wx9.heap.size wx9 ((v4k.setCell ⟨F, 0, none⟩ (.int .i64 (n9))).setCell ⟨F, 1, none⟩ (.slice A8 N8 cap8)) from ((HBR_5.out.setCell (p := ⟨F, 0, none⟩) HFL.out _).setCell (p := ⟨F, 1, none⟩) HFL.out _))
              refine wpLate_one (i := 13) (by kernel_rfl) rfl (fun K hK => ?_)
              go_simp
              refine hK.out _ _ (fun _ => hcs) ?_
              clear hK K
              try simp only [Act.put]
              refine wpLate_one (i := 14) (by kernel_rfl) rfl (fun K hK => ?_)
              go_simp
              refine hK.out _ _ (fun h => absurd rfl h) ?_
              clear hK K
              try simp only [Act.put]
              refine wpLate_done (by kernel_rfl) ?_ _
              go_wp2_with fail
              go_meet
              case rel => exact ⟨F, A8, N8, cap8, rfl, rfl, hN8, HBs, HFs, HMs⟩
          case yr =>
            obtain ⟨F, hF⟩ : ∃ F, wd.heap.size = F := ⟨_, rfl⟩
            obtain ⟨v0c, hv0c⟩ : ∃ z, wd.alloc (.cells #[.int .i64 0, .slice none 0 0] 25) = z := ⟨_, rfl⟩
            have HFL : Hid (wx9.heap.size ≤ F) := Lib.hid (by rw [← hF]; exact HBR.out.size)
            have hbc : Below wd.heap.size wd v0c := by rw [← hv0c]; exact below_new wd _
            have HFN := Lib.hid (show Whole v0c F 25 #[.int .i64 0, .slice none 0 0] by rw [← hv0c, ← hF]; exact Whole.made _ _ _)
            have HBR_1 := Lib.hid (HBR.out.trans (hbc.mono HBR.out.size))
            clear HBR
            clear hbc
            go_simp
            refine hK.out _ _ (fun _ => (CS _ HBR_1.out)) ?_
            clear hK K
            try simp only [Act.put]
            refine wpLate_one (i := 1) (by kernel_rfl) rfl (fun K hK => ?_)
            obtain ⟨S1, hS1⟩ : ∃ S, v0c.heap.size = S := ⟨_, rfl⟩
            obtain ⟨v1b, hv1b⟩ : ∃ z, v0c.alloc (.cells #[] 3) = z := ⟨_, rfl⟩
            have hbc : Below v0c.heap.size v0c v1b := by rw [← hv1b]; exact below_new _ _
            have HR0 := Lib.hid (show ROwn intR v1b wx9.heap.size (.slice (some ⟨S1, 0, none⟩) 0 0) [] by rw [← hv1b]; exact ROwn.lit v0c S1 HBR_1.out.size hS1)
            have HBR_2 := Lib.hid (HBR_1.out.trans (hbc.mono HBR_1.out.size))
            have HF'_2 := Lib.hid (HFN.out.below hbc HFN.out.lt)
            clear HFN HBR_1
            clear hbc
            go_simp
            refine hK.out _ _ (fun _ => (CS _ HBR_2.out)) ?_
            clear hK K
            try simp only [Act.put]
            refine wpLate_one (i := 3) (by kernel_rfl) rfl (fun K hK => ?_)
            have HMM := Lib.hid (HPb.out.below HBR_2.out (Nat.le_refl _))
            refine step_app_sl rfl (.tmp 90) (.tmp 91) 26 rfl intR wx9.heap.size i0 _ 8 Try.underlying26 hi0 hq0 hq1 hq2 rfl (by decide) _ ([]) (P) 0 rfl rfl HR0.out AP (NP) (capP) rfl HMM.out.1 HMM.out.2.2.1 HMM.out.2.2.2.1 HMM.out.2.2.2.2 (by unfold maxLen; omega) (by omega) HBR_2.out.size ?_
            intro A3 N3 c3 v3p hof hgf
            rw [List.nil_append] at hof
            have HR_3 := Lib.hid hof
            have HBR_3 : Hid (Below wx9.heap.size wx9 v3p) := Lib.hid (HBR_2.out.grown hgf HBR_2.out.size (fun z e => (World.ownsRow.lt HR0.out z e).1))
            have HF_3 := Lib.hid (HF'_2.out.grown hgf (fun e => (HR0.out.whole HF'_2.out (by decide)) e.symm))
            clear hof hgf HMM HF'_2 HR0 HBR_2
            refine hK.out _ _ (fun _ => (CS _ HBR_3.out)) ?_
            clear hK K
            try simp only [Act.put]
            refine wpLate_one (i := 5) (by kernel_rfl) rfl (fun K hK => ?_)
            have HMM := Lib.hid (HPb.out.below HBR_3.out (Nat.le_refl _))
            refine step_app_sl rfl (.tmp 92) (.tmp 93) 26 rfl intR wx9.heap.size i0 _ 8 Try.underlying26 hi0 hq0 hq1 hq2 rfl (by decide) _ (P) (P) NP HPL.out rfl HR_3.out AP (NP) (capP) rfl HMM.out.1 HMM.out.2.2.1 HMM.out.2.2.2.1 HMM.out.2.2.2.2 (by unfold maxLen; omega) (by omega) HBR_3.out.size ?_
            intro A4 N4 c4 v4p hof hgf
            have HR_4 := Lib.hid hof
            have HBR_4 : Hid (Below wx9.heap.size wx9 v4p) := Lib.hid (HBR_3.out.grown hgf HBR_3.out.size (fun z e => (World.ownsRow.lt HR_3.out z e).1))
            have HF_4 := Lib.hid (HF_3.out.grown hgf (fun e => (HR_3.out.whole HF_3.out (by decide)) e.symm))
            clear hof hgf HMM HF_3 HR_3 HBR_3
            refine hK.out _ _ (fun _ => (CS _ HBR_4.out)) ?_
            clear hK K
            try simp only [Act.put]
            refine wpLate_one (i := 8) (by kernel_rfl) rfl (fun K hK => ?_)
            go_simp
            have hln := HR_4.out.len.1
            have hll : (P ++ P).length ≤ 100 := by rw [List.length_append, HPL.out]; omega
            refine (impl_flags_at HX3.out A1 N1 cap1 A4 N4 c4 v4p (HMb.out.below HBR_4.out (Nat.le_refl _)) (IIn.of HR_4.out (by omega))).mono ?_
            rintro e v4k ⟨A8, N8, cap8, rfl, hown, hb⟩
            clear hln hll
            have hN8 : N8 ≤ 20 := by have h1 := hown.len.1; have h2 := HL9.out; omega
            have HO8 := Lib.hid (hown.from (show wx9.heap.size ≤ v4p.heap.size from HBR_4.out.size))
            have HBR_5 := Lib.hid (HBR_4.out.trans (hb.mono HBR_4.out.size))
            have HF'_5 := Lib.hid (HF_4.out.below hb HF_4.out.lt)
            clear HF_4 HBR_4
            clear hb hown
            refine hK.out _ _ (fun _ => (CS _ HBR_5.out)) ?_
            clear hK K
            try simp only [Act.put]
            refine wpLate_take (i := 9) (v := ?v9x10ryoooot) rfl (by kernel_rfl) (by kernel_rfl) (by kernel_rfl) (by kernel_rfl) (by kernel_rfl) (fun _ _ _ h => h) (CS _ HBR_5.out) (by rfl) ?hy9x10ryoooot ?r9x10ryoooot
            case hy9x10ryoooot =>
              rintro wz ⟨z0, z1⟩
              go_simp
              try with_reducible rfl
            try simp only [Act.put]
            refine wpLate_take (i := 10) (v := ?v10x10ryoooot) rfl (by kernel_rfl) (by kernel_rfl) (by kernel_rfl) (by kernel_rfl) (by kernel_rfl) (fun _ _ _ h => h) (CS _ HBR_5.out) (by rfl) ?hy10x10ryoooot ?r10x10ryoooot
            case hy10x10ryoooot =>
              rintro wz ⟨z0, z1⟩
              go_simp
              try with_reducible rfl
            try simp only [Act.put]
            refine wpLate_take (i := 11) (v := ?v11x10ryoooot) rfl (by kernel_rfl) (by kernel_rfl) (by kernel_rfl) (by kernel_rfl) (by kernel_rfl) (fun _ _ _ h => h) (CS _ HBR_5.out) (by rfl) ?hy11x10ryoooot ?r11x10ryoooot
            case hy11x10ryoooot =>
              rintro wz ⟨z0, z1⟩
              go_simp
              try with_reducible rfl
            try simp only [Act.put]
            have HBs := Lib.hid (show Below S2 wx9 ((v4k.setCell ⟨F, 0, none⟩ (.int .i64 (n9))).setCell ⟨F, 1, none⟩ (.slice A8 N8 cap8)) from HWS.out ▸ ((HBR_5.out.setCell (p := ⟨F, 0, none⟩) HFL.out _).setCell (p := ⟨F, 1, none⟩) HFL.out _))
            have HFs : Hid (Whole ((v4k.setCell ⟨F, 0, none⟩ (.int .i64 (n9))).setCell ⟨F, 1, none⟩ (.slice A8 N8 cap8)) F 25 #[.int .i64 (n9), .slice A8 N8 cap8]) := Lib.hid ((HF'_5.out.store 0 _).store 1 _)
            have HMs : Hid (MIn ((v4k.setCell ⟨F, 0, none⟩ (.int .i64 (n9))).setCell ⟨F, 1, none⟩ (.slice A8 N8 cap8)) A8 N8 cap8 (L9)) := Lib.hid (MIn.of ((HO8.out.store (p := ⟨F, 0, none⟩) (HO8.out.whole HF'_5.out (by decide)) _).store (p := ⟨F, 1, none⟩) (HO8.out.whole HF'_5.out (by decide)) _) (by omega))
            have f0 := HF'_5.out.cell 0
            have f1 := HF'_5.out.cell 1
            have j0 := HF'_5.out.free 0
            have j1 := HF'_5.out.free 1
            simp only [List.getElem?_toArray, List.getElem?_cons_zero, List.getElem?_cons_succ] at f0 f1
            have hcs := CS _ (show Below wx9.heap.size wx9 ((v4k.setCell ⟨F, 0, none⟩ (.int .i64 (n9))).setCell ⟨F, 1, none⟩ (.slice A8 N8 cap8)) from ((HBR_5.out.setCell (p := ⟨F, 0, none⟩) HFL.out _).setCell (p := ⟨F, 1, none⟩) HFL.out _))
            refine wpLate_one (i := 13) (by kernel_rfl) rfl (fun K hK => ?_)
            go_simp
            refine hK.out _ _ (fun _ => hcs) ?_
            clear hK K
            try simp only [Act.put]
            refine wpLate_one (i := 14) (by kernel_rfl) rfl (fun K hK => ?_)
            go_simp
            refine hK.out _ _ (fun h => absurd rfl h) ?_
            clear hK K
            try simp only [Act.put]
            refine wpLate_done (by kernel_rfl) ?_ _
            go_wp2_with fail
            go_meet
            case rel => exact ⟨F, A8, N8, cap8, rfl, rfl, hN8, HBs, HFs, HMs⟩
        case rest =>
          obtain ⟨Dx10, Ax10, Nx10, capx10, rfl, rfl, hNx10, HBX, HWX, HMX⟩ := hcut
          obtain ⟨wx10, hwn⟩ := name_worldN HBX.out
          subst hwn
          clear zD10 zD11 zD20 zD21 zD30 zD31 zD40 zD41 zDx90 zDx91
          have K8 := Lib.hid (((K7.out.move (show Below wx9.heap.size wx9 _ from HS2.out.symm ▸ HBX.out)).and HMX.out.keep).and (kp_wholeN HWX.out))
          clear HBX HWX HMX
          have zD10 := K8.out.here.1.1.1.1.1.1.1.1.1.1.2.2.1.cell 0
          have zD11 := K8.out.here.1.1.1.1.1.1.1.1.1.1.2.2.1.cell 1
          have zD20 := K8.out.here.1.1.1.1.1.1.1.1.2.2.1.cell 0
          have zD21 := K8.out.here.1.1.1.1.1.1.1.1.2.2.1.cell 1
          have zD30 := K8.out.here.1.1.1.1.1.1.2.2.1.cell 0
          have zD31 := K8.out.here.1.1.1.1.1.1.2.2.1.cell 1
          have zD40 := K8.out.here.1.1.1.1.2.2.1.cell 0
          have zD41 := K8.out.here.1.1.1.1.2.2.1.cell 1
          have zDx90 := K8.out.here.1.1.2.2.1.cell 0
          have zDx91 := K8.out.here.1.1.2.2.1.cell 1
          have zDx100 := K8.out.here.2.2.1.cell 0
          have zDx101 := K8.out.here.2.2.1.cell 1
          simp at zD10 zD11 zD20 zD21 zD30 zD31 zD40 zD41 zDx90 zDx91 zDx100 zDx101
          go_wp2_with fail
          refine (same_box_at (o := true) n n _ K8.out.here.1.1.1.1.1.2 K8.out.here.1.1.1.1.1.1.1.1.1.1.1.1.2 (by simp)).mono ?_
          rintro e w7 ⟨rfl, hb⟩
          have K9 := Lib.hid (K8.out.move hb)
          clear hb
          clear zD10 zD11 zD20 zD21 zD30 zD31 zD40 zD41 zDx90 zDx91 zDx100 zDx101
          have zD10 := K9.out.here.1.1.1.1.1.1.1.1.1.1.2.2.1.cell 0
          have zD11 := K9.out.here.1.1.1.1.1.1.1.1.1.1.2.2.1.cell 1
          have zD20 := K9.out.here.1.1.1.1.1.1.1.1.2.2.1.cell 0
          have zD21 := K9.out.here.1.1.1.1.1.1.1.1.2.2.1.cell 1
          have zD30 := K9.out.here.1.1.1.1.1.1.2.2.1.cell 0
          have zD31 := K9.out.here.1.1.1.1.1.1.2.2.1.cell 1
          have zD40 := K9.out.here.1.1.1.1.2.2.1.cell 0
          have zD41 := K9.out.here.1.1.1.1.2.2.1.cell 1
          have zDx90 := K9.out.here.1.1.2.2.1.cell 0
          have zDx91 := K9.out.here.1.1.2.2.1.cell 1
          have zDx100 := K9.out.here.2.2.1.cell 0
          have zDx101 := K9.out.here.2.2.1.cell 1
          simp at zD10 zD11 zD20 zD21 zD30 zD31 zD40 zD41 zDx90 zDx91 zDx100 zDx101
          go_wp2
          go_ret
          exact ⟨rfl, K9.out.here.1.1.1.1.1.1.1.1.1.1.1.1.1⟩
  · have hl' : (1048576 : Int) < (len : Int) := by omega
    go_enter Try.func3, Try.ntmps3
    go_wp2
    go_ret
    exact ⟨rfl, Below.refl _ _⟩
end Go.Proofs.Ytllhcogmcfgnoaa
