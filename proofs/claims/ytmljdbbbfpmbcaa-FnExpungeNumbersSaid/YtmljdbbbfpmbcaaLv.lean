/-
  The walks of the laws FnExpungeNumbers. Condition: the code can be read.
-/
import Derived.Test.YtmljdbbbfpmbcaaLu
import Derived.BigQuiet
import Derived.Deep.RegionHeld3
import Derived.Outline
import Derived.Deep.RegionWith
namespace Go.Proofs.Ytmljdbbbfpmbcaa
open Go.RowKit
set_option linter.unusedVariables false

/-- A slice of messages of the call's own, in a world that keeps the early blocks. -/
def ApM (S : Nat) (w0 w : World) (v : Value) (L : List ML) : Prop := Below S w0 w ∧ ROwn mailR w S v L
theorem ApM.lit {S : Nat} {w0 w : World} (h : Below S w0 w) (N : Nat) (hS : S ≤ w.heap.size) (hN : w.heap.size = N) : ApM S w0 (w.alloc (.cells #[] 30)) (.slice (some ⟨N, 0, none⟩) 0 0) [] := ⟨h.alloc hS _, ROwn.lit w N hS hN⟩
theorem ApM.alloc {S : Nat} {w0 w : World} {v : Value} {L : List ML} (h : ApM S w0 w v L) (hS : S ≤ w.heap.size) (o : Obj) : ApM S w0 (w.alloc o) v L := ⟨h.1.alloc hS o, h.2.alloc o⟩
theorem ApM.drew {S : Nat} {w0 w : World} {v : Value} {L : List ML} (h : ApM S w0 w v L) : ApM S w0 w.drew v L := ⟨h.1.drew, h.2⟩
/-- One append of messages inside a region that draws. -/
theorem step_app_mail {ops : Array Oper} {o : Oper} {a : Act} {K : Act → World → Prop} {Q : Exit → Act → World → Prop} {E : Prop} (hg : o.guard = none) (s x : Operand)
    (ho : o.op = .call { callee := .builtin .append, args := #[s, x], argTypes := #[23, 23] }) {S : Nat} {w0 w : World}
    (v : Value) (L M : List ML) (n : Nat) (hA : ApM S w0 w v L) (hw0 : w0.heap.size = S) (hn : L.length = n) (hs : a.eval s = v) (A : Option Addr) (m c : Nat) (hx : a.eval x = .slice A m c) (hM : MIn w A m c M) (hl : n + m ≤ 1000) (N : Nat) (hN : n + m = N)
    (h : ∀ A' c' w', ApM S w0 w' (.slice A' N c') (L ++ M) → w.grownBy w' v.ownBlock → w.heap.size ≤ w'.heap.size → K (a.put o.dst (.slice A' N c')) w') :
    if Region.wanted o (yielded ops a.tmps) = true then Oper.wp Try.prog o a w K Q else E := by
  obtain ⟨j0, hj, hp0, hp1, hp2⟩ := info_parts Try.infoMail
  have hS : S ≤ w.heap.size := hw0 ▸ hA.1.size
  refine step_append_rows hg s x 23 ho mailR S j0 _ 32 Try.underlying23 hj hp0 hp1 hp2 rfl (by decide) v L M n hn hs hA.2 A m c hx hM.1 hM.2.2.1 hM.2.2.2.1 hM.2.2.2.2 (by unfold maxLen; omega) (by omega) hS ?_
  intro v' w' hown hgr _
  obtain ⟨A', N', c', rfl⟩ := hown.val
  have hN' : N' = N := by have := hown.len.1; rw [List.length_append, hn, hM.1] at this; omega
  subst hN'
  exact h A' c' w' ⟨hA.1.grown hgr hS (fun z hz => (World.ownsRow.lt hA.2 z hz).1), hown⟩ hgr hgr.size

theorem part_less {n : Int} {L : List ML} (h : bOk n L = true) (k : Nat) : bOk n (L.take k ++ L.drop (k + 1)) = true := by
  rw [← List.eraseIdx_eq_take_drop_succ]
  exact bOk_sub h (List.eraseIdx_sublist _ _)
theorem part_more {n : Int} {L : List ML} {k : Nat} {x : ML} (hx : L[k]? = some x) : bOk n (L.take (k + 1) ++ L.drop k) = false := by
  cases hb : bOk n (L.take (k + 1) ++ L.drop k) with
  | false => rfl
  | true =>
    obtain ⟨hk, rfl⟩ := List.getElem?_eq_some_iff.1 hx
    have h2 := (bOk_iff.1 hb).2.1
    have h3 := (List.pairwise_append.1 h2).2.2 L[k] (by rw [List.take_add_one, List.getElem?_eq_getElem hk]; exact List.mem_append_right _ (List.mem_singleton.2 rfl)) L[k] (by rw [List.drop_eq_getElem_cons hk]; exact List.mem_cons_self)
    omega
theorem MIn.cut {w : World} {b o N cap r : Nat} {L : List ML} (h : MIn w (some ⟨b, o, none⟩) N cap L) (hr : r ≤ N) : MIn w (some ⟨b, o + r * 3, none⟩) (N - r) (cap - r) (L.drop r) := ⟨by rw [List.length_drop, h.1], by have := h.2.1; omega, h.2.2.1.drop r, (fun e => by cases e), (fun q e => by cases e; rfl)⟩
theorem MIn.cutE {w : World} {b o N cap r : Nat} {L : List ML} (h : MIn w (some ⟨b, o, none⟩) N cap L) (hr : r = N) : MIn w (some ⟨b, o, none⟩) 0 0 (L.drop r) := by
  subst hr
  refine ⟨by rw [List.length_drop, h.1]; omega, by omega, ?_, (fun e => by cases e), (fun q e => by cases e; rfl)⟩
  rw [← h.1, List.drop_length]
  exact RAt.nil w _
theorem kp_wholeP {w : World} {D : Nat} {t : TypeId} {cs : Array Value} (h : Whole w D t cs) : Kp w fun w' => Whole w' D t cs := fun w2 h2 => h.below h2 h.lt
theorem name_world {B : Nat} {a w : World} (h : Below B a w) : ∃ w2, w2 = w := ⟨w, rfl⟩

/-- One append of messages in a plain region. -/
theorem wpList_app_mail {ops : Array Oper} {rest : List Oper} {o : Oper} {a : Act} {w : World} {Q : Exit → Act → World → Prop} (hg : o.guard = none) (s x : Operand)
    (ho : o.op = .call { callee := .builtin .append, args := #[s, x], argTypes := #[23, 23] }) {S : Nat} {w0 : World}
    (v : Value) (L M : List ML) (n : Nat) (hA : ApM S w0 w v L) (hw0 : w0.heap.size = S) (hn : L.length = n) (hs : a.eval s = v) (A : Option Addr) (m c : Nat) (hx : a.eval x = .slice A m c) (hM : MIn w A m c M) (hl : n + m ≤ 1000) (N : Nat) (hN : n + m = N)
    (h : ∀ A' c' w', ApM S w0 w' (.slice A' N c') (L ++ M) → w.grownBy w' v.ownBlock → wpList Try.prog ops Q rest (a.put o.dst (.slice A' N c')) w') :
    wpList Try.prog ops Q (o :: rest) a w := by
  obtain ⟨j0, hj, hp0, hp1, hp2⟩ := info_parts Try.infoMail
  have hS : S ≤ w.heap.size := hw0 ▸ hA.1.size
  refine wpList_append_rows hg s x 23 ho mailR S j0 _ 32 Try.underlying23 hj hp0 hp1 hp2 rfl (by decide) v L M n hn hs hA.2 A m c hx hM.1 hM.2.2.1 hM.2.2.2.1 hM.2.2.2.2 (by unfold maxLen; omega) (by omega) hS ?_
  intro v' w' hown hgr _
  obtain ⟨A', N', c', rfl⟩ := hown.val
  have hN' : N' = N := by have := hown.len.1; rw [List.length_append, hn, hM.1] at this; omega
  subst hN'
  exact h A' c' w' ⟨hA.1.grown hgr hS (fun z hz => (World.ownsRow.lt hA.2 z hz).1), hown⟩ hgr
theorem own_blockP {w : World} {B n cap : Nat} {A : Option Addr} {L : List ML} (h : ROwn mailR w B (.slice A n cap) L) (h0 : 0 < n) : ∃ g, A = some ⟨g, 0, none⟩ := by
  have hl := h.len.1
  obtain ⟨A', c, he, _, _, _, _, hne⟩ := h.form
  cases he
  exact hne (by intro e; rw [hl, e] at h0; simp at h0)
theorem gone_at {L : List ML} {G : List Int} {K R : List ML} {k : Nat} (hk : k < G.length) (h : G.drop k = (gnM K.length R).map fun (x : Nat) => (x : Int)) : ∃ (g : Nat) (Gr : List Nat), gnM K.length R = g :: Gr ∧ G[k]? = some (g : Int) ∧ G.drop (k + 1) = Gr.map fun (x : Nat) => (x : Int) := by
  rw [List.drop_eq_getElem_cons hk] at h
  cases hg : gnM K.length R with
  | nil => rw [hg] at h; cases h
  | cons g Gr =>
    rw [hg, List.map_cons] at h
    obtain ⟨h1, h2⟩ := List.cons.inj h
    exact ⟨g, Gr, rfl, by rw [List.getElem?_eq_getElem hk, h1], h2⟩

set_option maxRecDepth 20000 in
set_option maxHeartbeats 2000000 in
theorem law_FnExpungeNumbers (A : Option Addr) (len cap : Nat) (w : World) (h : Coded w A len cap) : Calls Try.prog 6 #[.slice A len cap] w (Holds1 w) := by
  have HC := Lib.hid h
  clear h
  by_cases hl : len ≤ 1048576
  · have hl' : (len : Int) ≤ 1048576 := by omega
    go_enter Try.func6, Try.ntmps6
    go_wp2_with fail
    refine (draw_bexpunge A len cap _ HC.out).mono ?_
    rintro e w1 ⟨n, A1, N1, cap1, L, rfl, hN1, hn1, hn2, hown, hb⟩
    obtain ⟨⟨n2, L2, G⟩, hr⟩ : ∃ r, bxEI n L = r := ⟨_, rfl⟩
    have hL2 : L2.length ≤ 14 ∧ G.length ≤ 14 := by have h1 := bxEI_len hr; have h2 := hown.len.1; omega
    have HR := Lib.hid hr
    have HNL := Lib.hid hown.len.1
    have HCAP := Lib.hid hown.len.2.1
    clear hr
    obtain ⟨D1, hD1⟩ : ∃ D, w1.heap.size = D := ⟨_, rfl⟩
    have K1 := Lib.hid (((((kp_start w).move hb).and (MIn.of hown (by omega)).keep).alloc (.cells #[.int .i64 n, .slice A1 N1 cap1] 25)).and (kp_one w1 25 #[.int .i64 n, .slice A1 N1 cap1] hD1))
    clear hb hown
    have zD10 := K1.out.here.2.2.1.cell 0
    have zD11 := K1.out.here.2.2.1.cell 1
    simp at zD10 zD11
    go_wp2_with fail
    refine (impl_expunge_at HR.out A1 N1 cap1 _ K1.out.here.1.2).mono ?_
    rintro e w2 ⟨A2, N2, cap2, AG, NG, capG, rfl, hown, hownI, hb⟩
    have hN2 : N2 ≤ 14 := by have := hown.len.1; omega
    have hNG : NG ≤ 14 := by have := hownI.len.1; omega
    have HNL2 := Lib.hid hown.len.1
    have HNG := Lib.hid hownI.len.1
    obtain ⟨D2, hD2⟩ : ∃ D, w2.heap.size = D := ⟨_, rfl⟩
    have K2 := Lib.hid (((((K1.out.move hb).and (MIn.of hown (by omega)).keep).and (IIn.of hownI (by omega)).keep).alloc (.cells #[.int .i64 n2, .slice A2 N2 cap2] 25)).and (kp_one w2 25 #[.int .i64 n2, .slice A2 N2 cap2] hD2))
    clear hb hown hownI
    clear zD10 zD11
    have zD10 := K2.out.here.1.1.1.2.2.1.cell 0
    have zD11 := K2.out.here.1.1.1.2.2.1.cell 1
    have zD20 := K2.out.here.2.2.1.cell 0
    have zD21 := K2.out.here.2.2.1.cell 1
    simp at zD10 zD11 zD20 zD21
    go_wp2_with fail
    refine (spec_expunge_at HR.out A1 N1 cap1 _ K2.out.here.1.1.1.1.2).mono ?_
    rintro e w3 ⟨A3, N3, cap3, AH, NH, capH, rfl, hown, hownI, hb⟩
    have hN3 : N3 ≤ 14 := by have := hown.len.1; omega
    have hNH : NH ≤ 14 := by have := hownI.len.1; omega
    obtain ⟨D3, hD3⟩ : ∃ D, w3.heap.size = D := ⟨_, rfl⟩
    have K3 := Lib.hid (((((K2.out.move hb).and (MIn.of hown (by omega)).keep).and (IIn.of hownI (by omega)).keep).alloc (.cells #[.int .i64 n2, .slice A3 N3 cap3] 25)).and (kp_one w3 25 #[.int .i64 n2, .slice A3 N3 cap3] hD3))
    clear hb hown hownI
    clear zD10 zD11 zD20 zD21
    have zD10 := K3.out.here.1.1.1.1.1.1.2.2.1.cell 0
    have zD11 := K3.out.here.1.1.1.1.1.1.2.2.1.cell 1
    have zD20 := K3.out.here.1.1.1.2.2.1.cell 0
    have zD21 := K3.out.here.1.1.1.2.2.1.cell 1
    have zD30 := K3.out.here.2.2.1.cell 0
    have zD31 := K3.out.here.2.2.1.cell 1
    simp at zD10 zD11 zD20 zD21 zD30 zD31
    go_wp2_with fail
    refine (same_box_at (o := true) n2 n2 _ K3.out.here.1.1.1.1.1.2 K3.out.here.1.1.2 (by simp)).mono ?_
    rintro e w4 ⟨rfl, hb⟩
    have K4 := Lib.hid (K3.out.move hb)
    clear hb
    clear zD10 zD11 zD20 zD21 zD30 zD31
    have zD10 := K4.out.here.1.1.1.1.1.1.2.2.1.cell 0
    have zD11 := K4.out.here.1.1.1.1.1.1.2.2.1.cell 1
    have zD20 := K4.out.here.1.1.1.2.2.1.cell 0
    have zD21 := K4.out.here.1.1.1.2.2.1.cell 1
    have zD30 := K4.out.here.2.2.1.cell 0
    have zD31 := K4.out.here.2.2.1.cell 1
    simp at zD10 zD11 zD20 zD21 zD30 zD31
    go_wp2_with fail
    refine (same_nums_at (o := true) _ K4.out.here.1.1.1.1.2 K4.out.here.1.2 (by simp)).mono ?_
    rintro e w5 ⟨rfl, hb⟩
    have K5 := Lib.hid (K4.out.move hb)
    clear hb
    clear zD10 zD11 zD20 zD21 zD30 zD31
    have zD10 := K5.out.here.1.1.1.1.1.1.2.2.1.cell 0
    have zD11 := K5.out.here.1.1.1.1.1.1.2.2.1.cell 1
    have zD20 := K5.out.here.1.1.1.2.2.1.cell 0
    have zD21 := K5.out.here.1.1.1.2.2.1.cell 1
    have zD30 := K5.out.here.2.2.1.cell 0
    have zD31 := K5.out.here.2.2.1.cell 1
    simp at zD10 zD11 zD20 zD21 zD30 zD31
    obtain ⟨bv, hbv⟩ : ∃ b, bOk n L = b := ⟨_, rfl⟩
    go_wp2_with fail
    refine (boxvalid_at hbv A1 N1 cap1 _ K5.out.here.1.1.1.1.1.1.1.2).mono ?_
    rintro e w6 ⟨rfl, hb⟩
    have K6 := Lib.hid (K5.out.move hb)
    clear hb
    clear zD10 zD11 zD20 zD21 zD30 zD31
    have zD10 := K6.out.here.1.1.1.1.1.1.2.2.1.cell 0
    have zD11 := K6.out.here.1.1.1.1.1.1.2.2.1.cell 1
    have zD20 := K6.out.here.1.1.1.2.2.1.cell 0
    have zD21 := K6.out.here.1.1.1.2.2.1.cell 1
    have zD30 := K6.out.here.2.2.1.cell 0
    have zD31 := K6.out.here.2.2.1.cell 1
    simp at zD10 zD11 zD20 zD21 zD30 zD31
    have HBV := Lib.hid hbv
    clear hbv
    cases bv with
    | false =>
      go_wp2_with fail
      refine (same_box_at (o := true) n2 n2 _ K6.out.here.1.1.1.1.1.2 K6.out.here.1.1.2 (by simp)).mono ?_
      rintro e w7 ⟨rfl, hb⟩
      have K7 := Lib.hid (K6.out.move hb)
      clear hb
      clear zD10 zD11 zD20 zD21 zD30 zD31
      have zD10 := K7.out.here.1.1.1.1.1.1.2.2.1.cell 0
      have zD11 := K7.out.here.1.1.1.1.1.1.2.2.1.cell 1
      have zD20 := K7.out.here.1.1.1.2.2.1.cell 0
      have zD21 := K7.out.here.1.1.1.2.2.1.cell 1
      have zD30 := K7.out.here.2.2.1.cell 0
      have zD31 := K7.out.here.2.2.1.cell 1
      simp at zD10 zD11 zD20 zD21 zD30 zD31
      go_wp2_with fail
      refine (same_nums_at (o := true) _ K7.out.here.1.1.1.1.2 K7.out.here.1.2 (by simp)).mono ?_
      rintro e w8 ⟨rfl, hb⟩
      have K8 := Lib.hid (K7.out.move hb)
      clear hb
      clear zD10 zD11 zD20 zD21 zD30 zD31
      have zD10 := K8.out.here.1.1.1.1.1.1.2.2.1.cell 0
      have zD11 := K8.out.here.1.1.1.1.1.1.2.2.1.cell 1
      have zD20 := K8.out.here.1.1.1.2.2.1.cell 0
      have zD21 := K8.out.here.1.1.1.2.2.1.cell 1
      have zD30 := K8.out.here.2.2.1.cell 0
      have zD31 := K8.out.here.2.2.1.cell 1
      simp at zD10 zD11 zD20 zD21 zD30 zD31
      go_wp2
      go_ret
      exact ⟨rfl, K8.out.here.1.1.1.1.1.1.1.1⟩
    | true =>
      have he := (bxEI_of HBV.out).symm.trans HR.out
      obtain ⟨S, hS⟩ : ∃ S, w6.heap.size = S := ⟨_, rfl⟩
      have HS := Lib.hid hS
      have HEL : Hid (kpM L = L2) := (Prod.mk.inj (Prod.mk.inj he).2).1
      have HEG : Hid (gnI L = G) := (Prod.mk.inj (Prod.mk.inj he).2).2
      have hcap1 := HCAP.out
      clear he
      have HPA : Hid (ApM S w6 (w6.alloc (.cells #[] 30)) (.slice (some ⟨S, 0, none⟩) 0 0) []) := ApM.lit (Below.refl _ _) S (Nat.le_of_eq hS.symm) hS
      have KA := Lib.hid (K6.out.alloc (.cells #[] 30))
      have za0 := KA.out.here.1.1.1.1.1.1.2.2.1.cell 1
      simp at za0
      go_wp2_with (at_builtin; refine wpList_app_mail rfl (.tmp 48) (.tmp 50) rfl (.slice (some ⟨S, 0, none⟩) 0 0) [] L 0 HPA.out HS.out rfl rfl A1 N1 cap1 rfl KA.out.here.1.1.1.1.1.1.1.2 (by omega) N1 (Nat.zero_add _) ?_)
      intro A7 cap7 w7 hq hgr
      have H7 := Lib.hid hq.2
      have HB7 := Lib.hid hq.1
      have hz7 : S ≤ w7.heap.size := HS.out ▸ hq.1.size
      clear hq hgr za0 KA
      clear zD10 zD11 zD20 zD21 zD30 zD31
      go_wp2
      go_loopw [8, 9] (fun lv iv wr => ∃ (k : Nat) (K R : List ML) (A8 : Option Addr) (N8 cap8 : Nat), k ≤ NG ∧ lv = .slice A8 N8 cap8 ∧ iv = .int .i64 (k : Int) ∧ N8 ≤ 14 ∧ S ≤ wr.heap.size ∧ Hid (ROwn mailR wr S (.slice A8 N8 cap8) (K ++ R)) ∧ Hid (G.drop k = (gnM K.length R).map fun (x : Nat) => (x : Int)) ∧ Hid (K ++ kpM R = L2) ∧ Hid (Below S w6 wr)) (fun _ iv _ => NG - (intOf iv).toNat)
      case atStart => exact ⟨0, [], L, A7, N1, cap7, Nat.zero_le _, rfl, by go_num, by omega, hz7, H7, HEG.out.symm, HEL.out, HB7⟩
      case round =>
        obtain ⟨k, K, R, A8, N8, cap8, hk, rfl, rfl, hN8, hzr, HO, HGK, HKR, HB⟩ := hrel
        clear H7 HB7 hz7 HPA
        have K7 := Lib.hid (K6.out.move (show Below w6.heap.size w6 _ from HS.out.symm ▸ HB.out))
        have zD10 := K7.out.here.1.1.1.1.1.1.2.2.1.cell 0
        have zD11 := K7.out.here.1.1.1.1.1.1.2.2.1.cell 1
        have zD20 := K7.out.here.1.1.1.2.2.1.cell 0
        have zD21 := K7.out.here.1.1.1.2.2.1.cell 1
        have zD30 := K7.out.here.2.2.1.cell 0
        have zD31 := K7.out.here.2.2.1.cell 1
        simp at zD10 zD11 zD20 zD21 zD30 zD31
        by_cases hlt : k < NG
        · have h0 : (0 : Int) ≤ (k : Int) := by omega
          have h5 : (k : Int) < (NG : Int) := by omega
          obtain ⟨g, Gr, hg1, hg2, hg3⟩ := gone_at (L := L) (by rw [← HNG.out]; exact hlt) HGK.out
          obtain ⟨Ka, Ra, hg4, hg5, hg6, hg7, hg8⟩ := rm_step hg1
          obtain ⟨bG, oG, hAG, hbG, c0⟩ := int_at K7.out.here.1.1.1.1.2.2.2.1 hg2
          subst hAG
          have hlen := HO.out.len.1
          have hcp := HO.out.len.2.1
          obtain ⟨g8, hA8⟩ := own_blockP HO.out (by omega)
          subst hA8
          obtain ⟨g1, rfl⟩ : ∃ q, g = q + 1 := ⟨g - 1, by omega⟩
          obtain ⟨g2, hg2e⟩ : ∃ q, g1 + 1 = q := ⟨_, rfl⟩
          rw [Nat.add_sub_cancel] at hg6
          rw [hg2e] at c0 hg6 hg5
          have HG6 := Lib.hid hg6
          have HG7 := Lib.hid hg7
          have HG8 := Lib.hid hg8
          have HG3 := Lib.hid hg3
          have HC0 := Lib.hid c0
          have hb8 : g2 ≤ N8 := by omega
          have t1 : ¬ (g2 : Int) < 1 := by omega
          have t2 : ¬ (N8 : Int) < (g2 : Int) := by omega
          have t3 : decide ((g2 : Int) < 1) = false := decide_eq_false t1
          have t4 : decide ((N8 : Int) < (g2 : Int)) = false := decide_eq_false t2
          have E1 : (g2 : Int) - 1 = (g1 : Int) := by omega
          have W1 : IntKind.i64.wrap ((g2 : Int) - 1) = (g1 : Int) := (IntWalk.i64_in _ (by omega)).trans E1
          have W2 : IntKind.i64.wrap (g1 : Int) = (g1 : Int) := IntWalk.i64_in _ (by omega)
          have i0 : (0 : Int) ≤ (g1 : Int) := by omega
          have i2 : (g1 : Int) ≤ (cap8 : Int) := by omega
          have i3 : (0 : Int) ≤ (g2 : Int) := by omega
          have i4 : (g2 : Int) ≤ (N8 : Int) := by omega
          have i6 : ¬ cap8 = 0 := by omega
          have hm8 := MIn.of HO.out (by omega)
          have HM8 := Lib.hid hm8
          have HTL : Hid (((K ++ R).take g1).length = g1) := by show _ = _; rw [List.length_take, ← hlen]; omega
          have HG12 := Lib.hid hg2e
          clear hg1 hg2 hg3 hg4 hg5 hg6 hg7 hg8 hlen hm8 hg2e
          obtain ⟨Sr, hSr⟩ : ∃ S, wr.heap.size = S := ⟨_, rfl⟩
          have HSR := Lib.hid hSr
          have HPR : Hid (ApM Sr wr (wr.drew.alloc (.cells #[] 30)) (.slice (some ⟨Sr, 0, none⟩) 0 0) []) := ApM.lit (Below.refl _ _).drew Sr (Nat.le_of_eq HSR.out.symm) HSR.out
          have hbGS : bG < Sr := by omega
          have HBG := Lib.hid hbGS
          go_wp2
          clear zD10 zD11 zD20 zD21 zD30 zD31 c0
          by_cases hce : cap8 = g2
          · have e0 : N8 = g2 := by omega
            subst hce
            subst e0
            have e1 : N8 - N8 = 0 := Nat.sub_self _
            go_region_held3 (fun w' => w'.cell? ⟨bG, oG + k, none⟩ = some (.int .i64 (N8 : Int))) (first | exact HC0.out | exact (HPR.out.1.cell HBG.out).trans HC0.out | exact (H6.out.1.cell HBG.out).trans HC0.out | exact (H9.out.1.cell HBG.out).trans HC0.out) (first
              | (refine step_app_mail rfl (.tmp 72) (.tmp 79) rfl (.slice (some ⟨Sr, 0, none⟩) 0 0) [] ((K ++ R).take g1) 0 HPR.out HSR.out rfl rfl (some ⟨g8, 0, none⟩) g1 N8 rfl (MIn.take (HM8.out.below HPR.out.1 (Nat.le_of_eq HSR.out)) (by omega)) (by omega) g1 (Nat.zero_add _) ?_
                 intro A6 cap6 w6 hq hgr hsz
                 rw [List.nil_append] at hq
                 have H6 := Lib.hid hq
                 clear hq hgr hsz)
              | (refine step_app_mail rfl (.tmp 80) (.tmp 86) rfl (.slice A6 g1 cap6) ((K ++ R).take g1) ((K ++ R).drop N8) g1 H6.out HSR.out HTL.out rfl (some ⟨g8, 0, none⟩) 0 0 rfl (MIn.cutE (HM8.out.below H6.out.1 (Nat.le_of_eq HSR.out)) rfl) (by omega) (g1 + 0) rfl ?_
                 intro A9 cap9 w9 hq hgr hsz
                 have H9 := Lib.hid hq
                 clear hq hgr hsz))
            all_goals
              go_wp2
              go_roundw
              case rel => exact ⟨k + 1, Ka, Ra, A9, (g1 + 0), cap9, by omega, rfl, by go_num, by omega, Nat.le_trans hzr (by have := H9.out.1.size; omega), (by have h := H9.out.2.from (show S ≤ Sr by omega); rw [HG6.out] at h; exact h), (by show _ = _; rw [HG3.out, HG7.out]), (HG8.out.symm.trans HKR.out), HB.out.trans (H9.out.1.mono (by omega))⟩
              case measure => simp [intOf]; omega
          · have e1 : ¬ cap8 - g2 = 0 := by omega
            go_region_held3 (fun w' => w'.cell? ⟨bG, oG + k, none⟩ = some (.int .i64 (g2 : Int))) (first | exact HC0.out | exact (HPR.out.1.cell HBG.out).trans HC0.out | exact (H6.out.1.cell HBG.out).trans HC0.out | exact (H9.out.1.cell HBG.out).trans HC0.out) (first
              | (refine step_app_mail rfl (.tmp 72) (.tmp 79) rfl (.slice (some ⟨Sr, 0, none⟩) 0 0) [] ((K ++ R).take g1) 0 HPR.out HSR.out rfl rfl (some ⟨g8, 0, none⟩) g1 cap8 rfl (MIn.take (HM8.out.below HPR.out.1 (Nat.le_of_eq HSR.out)) (by omega)) (by omega) g1 (Nat.zero_add _) ?_
                 intro A6 cap6 w6 hq hgr hsz
                 rw [List.nil_append] at hq
                 have H6 := Lib.hid hq
                 clear hq hgr hsz)
              | (refine step_app_mail rfl (.tmp 80) (.tmp 86) rfl (.slice A6 g1 cap6) ((K ++ R).take g1) ((K ++ R).drop g2) g1 H6.out HSR.out HTL.out rfl (some ⟨g8, g2 * 3, none⟩) (N8 - g2) (cap8 - g2) rfl (by have h := MIn.cut (HM8.out.below H6.out.1 (Nat.le_of_eq HSR.out)) hb8; rw [Nat.zero_add] at h; exact h) (by omega) (g1 + (N8 - g2)) rfl ?_
                 intro A9 cap9 w9 hq hgr hsz
                 have H9 := Lib.hid hq
                 clear hq hgr hsz))
            all_goals
              go_wp2
              go_roundw
              case rel => exact ⟨k + 1, Ka, Ra, A9, (g1 + (N8 - g2)), cap9, by omega, rfl, by go_num, by omega, Nat.le_trans hzr (by have := H9.out.1.size; omega), (by have h := H9.out.2.from (show S ≤ Sr by omega); rw [HG6.out] at h; exact h), (by show _ = _; rw [HG3.out, HG7.out]), (HG8.out.symm.trans HKR.out), HB.out.trans (H9.out.1.mono (by omega))⟩
              case measure => simp [intOf]; omega
        · have h5 : ¬ (k : Int) < (NG : Int) := by omega
          have HLL : Hid (L2 = K ++ R) := by
            have h1 := HGK.out
            rw [List.drop_of_length_le (by rw [← HNG.out]; omega)] at h1
            have h2 : gnM K.length R = [] := List.map_eq_nil_iff.1 h1.symm
            have h3 := HKR.out
            rw [gnM_nil h2] at h3
            exact h3.symm
          have HM8 := Lib.hid (MIn.of HO.out (show N8 ≤ 33554432 by omega))
          go_wp2_with fail
          refine (same_mail_at (o := true) _ K7.out.here.1.1.1.1.1.2 HM8.out (decide_eq_true HLL.out)).mono ?_
          rintro e w9 ⟨rfl, hb⟩
          have K8 := Lib.hid (K7.out.move hb)
          clear hb
          clear zD10 zD11 zD20 zD21 zD30 zD31
          have zD10 := K8.out.here.1.1.1.1.1.1.2.2.1.cell 0
          have zD11 := K8.out.here.1.1.1.1.1.1.2.2.1.cell 1
          have zD20 := K8.out.here.1.1.1.2.2.1.cell 0
          have zD21 := K8.out.here.1.1.1.2.2.1.cell 1
          have zD30 := K8.out.here.2.2.1.cell 0
          have zD31 := K8.out.here.2.2.1.cell 1
          simp at zD10 zD11 zD20 zD21 zD30 zD31
          go_wp2
          go_ret
          exact ⟨rfl, K8.out.here.1.1.1.1.1.1.1.1⟩
  · have hl' : (1048576 : Int) < (len : Int) := by omega
    go_enter Try.func6, Try.ntmps6
    go_wp2
    go_ret
    exact ⟨rfl, Below.refl _ _⟩
end Go.Proofs.Ytmljdbbbfpmbcaa
