/-
  The walk of the law FnUsersPart. Condition: the codes can be read.
-/
import Derived.Test.YtmangdkaklnpdaaUd
import Derived.Test.YtmangdkaklnpdaaLawa
namespace Go.Proofs.Ytmangdkaklnpdaa
open Go.RowKit
set_option linter.unusedVariables false

theorem upart_less {L : List Us} (h : vU L = true) {k : Nat} (hk : k < L.length) : vU (L.take k ++ L.drop (k + 1)) = decide (1 < L.length) := by
  rw [← List.eraseIdx_eq_take_drop_succ]
  have hl : (L.eraseIdx k).length = L.length - 1 := by rw [List.length_eraseIdx, if_pos hk]
  obtain ⟨⟨h1, h4⟩, hok, ha⟩ := vU_iff.1 h
  by_cases h2 : 1 < L.length
  · rw [decide_eq_true h2]
    have hs := List.eraseIdx_sublist L k
    exact vU_iff.2 ⟨⟨by omega, by omega⟩, fun g hg => hok g (hs.subset hg), List.Pairwise.sublist hs ha⟩
  · rw [decide_eq_false h2]
    exact vU_long (by omega)
theorem upart_more {L : List Us} {k : Nat} {x : Us} (hx : L[k]? = some x) : vU (L.take (k + 1) ++ L.drop k) = false := by
  cases hb : vU (L.take (k + 1) ++ L.drop k) with
  | false => rfl
  | true =>
    obtain ⟨hk, rfl⟩ := List.getElem?_eq_some_iff.1 hx
    have h2 := (vU_iff.1 hb).2.2
    have h3 := (List.pairwise_append.1 h2).2.2 L[k] (by rw [List.take_add_one, List.getElem?_eq_getElem hk]; exact List.mem_append_right _ (List.mem_singleton.2 rfl)) L[k] (by rw [List.drop_eq_getElem_cons hk]; exact List.mem_cons_self)
    rw [ltG_irrefl] at h3
    cases h3
theorem UIn.take {w : World} {A : Option Addr} {N cap r : Nat} {L : List Us} (h : UIn w A N cap L) (hr : r ≤ N) : UIn w A r cap (L.take r) := ⟨by rw [List.length_take, h.1]; omega, by have := h.2.1; omega, h.2.2.1.take r, h.2.2.2.1, h.2.2.2.2.1, fun g hg => h.2.2.2.2.2 g (List.mem_of_mem_take hg)⟩
theorem UIn.cut {w : World} {b o N cap r : Nat} {L : List Us} (h : UIn w (some ⟨b, o, none⟩) N cap L) (hr : r ≤ N) : UIn w (some ⟨b, o + r * 3, none⟩) (N - r) (cap - r) (L.drop r) := ⟨by rw [List.length_drop, h.1], by have := h.2.1; omega, h.2.2.1.drop r, (fun e => by cases e), (fun q e => by cases e; rfl), fun g hg => h.2.2.2.2.2 g (List.mem_of_mem_drop hg)⟩
theorem UIn.cutE {w : World} {b o N cap r : Nat} {L : List Us} (h : UIn w (some ⟨b, o, none⟩) N cap L) (hr : r = N) : UIn w (some ⟨b, o, none⟩) 0 0 (L.drop r) := by
  subst hr
  refine ⟨by rw [List.length_drop, h.1]; omega, by omega, ?_, (fun e => by cases e), (fun q e => by cases e; rfl), fun g hg => h.2.2.2.2.2 g (List.mem_of_mem_drop hg)⟩
  rw [← h.1, List.drop_length]
  exact RAt.nil w _
/-- A slice of grants of the call's own, in a world that keeps the early blocks. -/
def ApU (S : Nat) (w0 w : World) (v : Value) (L : List Us) : Prop := Below S w0 w ∧ ROwn usR w S v L
theorem step_app_user {ops : Array Oper} {o : Oper} {a : Act} {K : Act → World → Prop} {Q : Exit → Act → World → Prop} {E : Prop} (hg : o.guard = none) (s x : Operand)
    (ho : o.op = .call { callee := .builtin .append, args := #[s, x], argTypes := #[23, 23] }) {S : Nat} {w0 w : World}
    (v : Value) (L M : List Us) (n : Nat) (hA : ApU S w0 w v L) (hw0 : w0.heap.size = S) (hn : L.length = n) (hs : a.eval s = v) (A : Option Addr) (m c : Nat) (hx : a.eval x = .slice A m c) (hM : UIn w A m c M) (hl : n + m ≤ 1000) (N : Nat) (hN : n + m = N)
    (h : ∀ A' c' w', ApU S w0 w' (.slice A' N c') (L ++ M) → K (a.put o.dst (.slice A' N c')) w') :
    if Region.wanted o (yielded ops a.tmps) = true then Oper.wp Try.prog o a w K Q else E := by
  obtain ⟨j0, hj, hp0, hp1, hp2⟩ := info_parts Try.infoUser
  have hS : S ≤ w.heap.size := hw0 ▸ hA.1.size
  refine step_append_rows hg s x 23 ho usR S j0 _ 40 Try.underlying23 hj hp0 hp1 hp2 rfl (by decide) v L M n hn hs hA.2 A m c hx hM.1 hM.2.2.1 hM.2.2.2.1 hM.2.2.2.2.1 (by unfold maxLen; omega) (by omega) hS ?_
  intro v' w' hown hU _
  obtain ⟨A', N', c', rfl⟩ := hown.val
  have hN' : N' = N := by have := hown.len.1; rw [List.length_append, hn, hM.1] at this; omega
  subst hN'
  exact h A' c' w' ⟨hA.1.grown hU hS (fun z hz => (World.ownsRow.lt hA.2 z hz).1), hown⟩

set_option maxRecDepth 20000 in
set_option maxHeartbeats 8000000 in
theorem law_FnUsersPart (A : Option Addr) (len cap : Nat) (A0 : Option Addr) (len0 cap0 : Nat) (w : World) (h : Coded w A len cap) (h0 : Coded w A0 len0 cap0) : Calls Try.prog 5 #[.slice A len cap, .slice A0 len0 cap0] w (Holds1 w) := by
  have HC := Lib.hid h
  clear h h0
  by_cases hl : len ≤ 1048576
  · have hl' : (len : Int) ≤ 1048576 := by omega
    by_cases hl0 : len0 ≤ 1048576
    · have hl0' : (len0 : Int) ≤ 1048576 := by omega
      go_enter Try.func5, Try.ntmps5
      go_wp2_with fail
      refine (draw_uvalid A len cap _ HC.out).mono ?_
      rintro e w1 ⟨A1, N1, cap1, L, rfl, hU⟩
      have HB1 := Lib.hid hU.2.2.2.2
      have HL1 := Lib.hid hU.uin
      have hN8 : N1 ≤ 5 := hU.2.1
      have hN01 : 1 ≤ N1 := hU.1
      have hNc := hU.2.2.2.1.len.2.1
      clear hU
      cases hv : vU L with
      | false =>
        have HV := Lib.hid hv
        clear hv
        go_wp2_with fail
        refine (impl_uv HV.out _ HL1.out).mono ?_
        rintro e w2 ⟨rfl, hb⟩
        have HB2 := Lib.hid (HB1.out.trans (hb.mono HB1.out.size))
        have HL2 := Lib.hid (HL1.out.below hb (Nat.le_refl _))
        clear hb
        go_wp2_with fail
        refine (spec_uv HV.out _ HL2.out).mono ?_
        rintro e w3 ⟨rfl, hb⟩
        have HB3 := Lib.hid (HB2.out.trans (hb.mono HB2.out.size))
        clear hb
        go_wp2
        go_ret
        exact ⟨rfl, HB3.out⟩
      | true =>
        have HV := Lib.hid hv
        clear hv
        by_cases hN0 : N1 = 0
        · omega
        · have hN1 : ((N1 : Int) == 0) = false := beq_eq_false_iff_ne.2 (by omega)
          have hNz : ¬ (N1 : Int) = 0 := by omega
          obtain ⟨r, hr⟩ : ∃ r, len0 % N1 = r := ⟨_, rfl⟩
          have hrN : r < N1 := hr ▸ Nat.mod_lt _ (by omega)
          have R1 : (len0 : Int).tmod (N1 : Int) = (r : Int) := by rw [Int.tmod_eq_emod_of_nonneg (by omega), ← hr]; omega
          have R2 : (len0 : Int) % (N1 : Int) = (r : Int) := by rw [← hr]; omega
          have WR : IntKind.i64.wrap (r : Int) = (r : Int) := IntWalk.i64_in _ (by omega)
          obtain ⟨x, hx⟩ : ∃ x, L[r]? = some x := ⟨_, List.getElem?_eq_getElem (by rw [HL1.out.1]; exact hrN)⟩
          obtain ⟨b, o, rfl, _, _, _, _⟩ := user_at (n := x.1) (p := x.2.1) (q := x.2.2) HL1.out.2.2.1 hx
          have HLESS := Lib.hid (upart_less (k := r) HV.out (by rw [HL1.out.1]; exact hrN))
          rw [HL1.out.1] at HLESS
          have d1 : decide ((1 : Int) < (N1 : Int)) = decide (1 < N1) := by rw [decide_eq_decide]; omega
          obtain ⟨zz, hzz⟩ : ∃ zz, decide (1 < N1) = zz := ⟨_, rfl⟩
          rw [hzz] at HLESS d1
          have d2 : (zz == zz) = true := by simp
          have HMORE := Lib.hid (upart_more hx)
          obtain ⟨r1, hr1⟩ : ∃ q, r + 1 = q := ⟨_, rfl⟩
          rw [hr1] at HLESS HMORE
          have E3 : (r : Int) + 1 = (r1 : Int) := by omega
          have W3 : IntKind.i64.wrap ((r : Int) + 1) = (r1 : Int) := (IntWalk.i64_in _ (by omega)).trans E3
          have W4 : IntKind.i64.wrap (r1 : Int) = (r1 : Int) := IntWalk.i64_in _ (by omega)
          have i0 : (0 : Int) ≤ (r : Int) := by omega
          have i1 : (r : Int) ≤ (N1 : Int) := by omega
          have i2 : (r : Int) ≤ (cap1 : Int) := by omega
          have i3 : (0 : Int) ≤ (r1 : Int) := by omega
          have i4 : (r1 : Int) ≤ (N1 : Int) := by omega
          have i5 : (r1 : Int) ≤ (cap1 : Int) := by omega
          have i6 : ¬ cap1 = 0 := by omega
          have i7 : ¬ cap1 = r := by omega
          have i8 : ¬ cap1 - r = 0 := by omega
          have HTK : Hid ((L.take r).length = r) := Lib.hid (by rw [List.length_take, HL1.out.1]; omega)
          have HTK1 : Hid ((L.take r1).length = r1) := Lib.hid (by rw [List.length_take, HL1.out.1]; omega)
          have HLNG : Hid (smallU (L.take r ++ L.drop r1)) := Lib.hid ⟨by rw [List.length_append, List.length_take, List.length_drop, HL1.out.1]; omega, fun g hg => HL1.out.2.2.2.2.2 g ((List.mem_append.1 hg).elim List.mem_of_mem_take List.mem_of_mem_drop)⟩
          have HLNG1 : Hid (smallU (L.take r1 ++ L.drop r)) := Lib.hid ⟨by rw [List.length_append, List.length_take, List.length_drop, HL1.out.1]; omega, fun g hg => HL1.out.2.2.2.2.2 g ((List.mem_append.1 hg).elim List.mem_of_mem_take List.mem_of_mem_drop)⟩
          clear hr hx hzz
          go_wp2_with fail
          refine (impl_uv HV.out _ HL1.out).mono ?_
          rintro e w2 ⟨rfl, hb⟩
          have HB2 := Lib.hid (HB1.out.trans (hb.mono HB1.out.size))
          have HL2 := Lib.hid (HL1.out.below hb (Nat.le_refl _))
          clear hb
          go_wp2_with fail
          refine (spec_uv HV.out _ HL2.out).mono ?_
          rintro e w3 ⟨rfl, hb⟩
          have HB3 := Lib.hid (HB2.out.trans (hb.mono HB2.out.size))
          have HL3 := Lib.hid (HL2.out.below hb (Nat.le_refl _))
          obtain ⟨S, hS⟩ : ∃ S, w3.heap.size = S := ⟨_, rfl⟩
          have HS := Lib.hid hS
          clear hb hS
          by_cases hce : cap1 = r1
          · have e0 : N1 = r1 := by omega
            subst hce
            subst e0
            have e1 : N1 - N1 = 0 := Nat.sub_self _
            go_wp2
            have HPa : Hid (ApU S w3 (w3.drew.alloc (.cells #[] 27)) (.slice (some ⟨w3.heap.size, 0, none⟩) 0 0) []) := Lib.hid ⟨((Below.refl _ _).drew).alloc (Nat.le_of_eq HS.out.symm) _, ROwn.lit w3.drew w3.heap.size (Nat.le_of_eq HS.out.symm) rfl⟩
            have HLPa := Lib.hid (HL3.out.below HPa.out.1 (Nat.le_of_eq HS.out))
            go_region_held3 (fun _ => True) (exact trivial) (first
              | (refine step_app_user rfl (.tmp 40) (.tmp 43) rfl (.slice (some ⟨w3.heap.size, 0, none⟩) 0 0) [] (L.take r) 0 HPa.out HS.out rfl rfl (some ⟨b, o, none⟩) r N1 rfl (UIn.take HLPa.out (by omega)) (by omega) r (Nat.zero_add _) ?_
                 intro A6a c6a w6a hq
                 rw [List.nil_append] at hq
                 have H6a := Lib.hid hq
                 have HL6a := Lib.hid (HL3.out.below hq.1 (Nat.le_of_eq HS.out))
                 clear hq)
              | (refine step_app_user rfl (.tmp 44) (.tmp 48) rfl (.slice A6a r c6a) (L.take r) (L.drop N1) r H6a.out HS.out HTK.out rfl (some ⟨b, o, none⟩) (0) (0) rfl (UIn.cutE HL6a.out rfl) (by omega) (r + (0)) rfl ?_
                 intro A7a c7a w7a hq
                 have H7a := Lib.hid hq
                 have HL7a := Lib.hid (HL3.out.below hq.1 (Nat.le_of_eq HS.out))
                 clear hq))
            obtain ⟨S2, hS2⟩ : ∃ S2, w7a.heap.size = S2 := ⟨_, rfl⟩
            have HS2 := Lib.hid hS2
            clear hS2
            go_wp2
            have HPb : Hid (ApU S2 w7a (w7a.drew.alloc (.cells #[] 27)) (.slice (some ⟨w7a.heap.size, 0, none⟩) 0 0) []) := Lib.hid ⟨((Below.refl _ _).drew).alloc (Nat.le_of_eq HS2.out.symm) _, ROwn.lit w7a.drew w7a.heap.size (Nat.le_of_eq HS2.out.symm) rfl⟩
            have HLPb := Lib.hid (HL7a.out.below HPb.out.1 (Nat.le_of_eq HS2.out))
            go_region_held3 (fun _ => True) (exact trivial) (first
              | (refine step_app_user rfl (.tmp 50) (.tmp 54) rfl (.slice (some ⟨w7a.heap.size, 0, none⟩) 0 0) [] (L.take N1) 0 HPb.out HS2.out rfl rfl (some ⟨b, o, none⟩) N1 N1 rfl (UIn.take HLPb.out (by omega)) (by omega) N1 (Nat.zero_add _) ?_
                 intro A6b c6b w6b hq
                 rw [List.nil_append] at hq
                 have H6b := Lib.hid hq
                 have HL6b := Lib.hid (HL7a.out.below hq.1 (Nat.le_of_eq HS2.out))
                 clear hq)
              | (refine step_app_user rfl (.tmp 55) (.tmp 58) rfl (.slice A6b N1 c6b) (L.take N1) (L.drop r) N1 H6b.out HS2.out HTK1.out rfl (some ⟨b, o + r * 3, none⟩) (N1 - r) (N1 - r) rfl (UIn.cut HL6b.out (by omega)) (by omega) (N1 + (N1 - r)) rfl ?_
                 intro A7b c7b w7b hq
                 have H7b := Lib.hid hq
                 have HL7b := Lib.hid (HL7a.out.below hq.1 (Nat.le_of_eq HS2.out))
                 clear hq))
            have HX := Lib.hid (UIn.made (H7a.out.2.kept (by have := H7b.out.1; rw [← HS2.out] at this; exact this)) HLNG.out)
            have HY := Lib.hid (UIn.made H7b.out.2 HLNG1.out)
            have HBX : Hid (Below w.heap.size w w7b) := Lib.hid ((HB3.out.trans (H7a.out.1.mono (by rw [← HS.out]; exact HB3.out.size))).trans (H7b.out.1.mono (by rw [← HS2.out]; exact (HB3.out.trans (H7a.out.1.mono (by rw [← HS.out]; exact HB3.out.size))).size)))
            go_wp2_with fail
            refine (impl_uv HLESS.out _ HX.out).mono ?_
            rintro e w8 ⟨rfl, hb⟩
            have HB8 := Lib.hid (HBX.out.trans (hb.mono HBX.out.size))
            have HY8 := Lib.hid (HY.out.below hb (Nat.le_refl _))
            clear hb
            go_wp2_with fail
            refine (impl_uv HMORE.out _ HY8.out).mono ?_
            rintro e w9 ⟨rfl, hb⟩
            have HB9 := Lib.hid (HB8.out.trans (hb.mono HB8.out.size))
            clear hb
            go_wp2
            go_ret
            exact ⟨rfl, HB9.out⟩
          · have e1 : ¬ cap1 - r1 = 0 := by omega
            have e2 : ¬ cap1 = r1 := hce
            go_wp2
            have HPa : Hid (ApU S w3 (w3.drew.alloc (.cells #[] 27)) (.slice (some ⟨w3.heap.size, 0, none⟩) 0 0) []) := Lib.hid ⟨((Below.refl _ _).drew).alloc (Nat.le_of_eq HS.out.symm) _, ROwn.lit w3.drew w3.heap.size (Nat.le_of_eq HS.out.symm) rfl⟩
            have HLPa := Lib.hid (HL3.out.below HPa.out.1 (Nat.le_of_eq HS.out))
            go_region_held3 (fun _ => True) (exact trivial) (first
              | (refine step_app_user rfl (.tmp 40) (.tmp 43) rfl (.slice (some ⟨w3.heap.size, 0, none⟩) 0 0) [] (L.take r) 0 HPa.out HS.out rfl rfl (some ⟨b, o, none⟩) r cap1 rfl (UIn.take HLPa.out (by omega)) (by omega) r (Nat.zero_add _) ?_
                 intro A6a c6a w6a hq
                 rw [List.nil_append] at hq
                 have H6a := Lib.hid hq
                 have HL6a := Lib.hid (HL3.out.below hq.1 (Nat.le_of_eq HS.out))
                 clear hq)
              | (refine step_app_user rfl (.tmp 44) (.tmp 48) rfl (.slice A6a r c6a) (L.take r) (L.drop r1) r H6a.out HS.out HTK.out rfl (some ⟨b, o + r1 * 3, none⟩) (N1 - r1) (cap1 - r1) rfl (UIn.cut HL6a.out (by omega)) (by omega) (r + (N1 - r1)) rfl ?_
                 intro A7a c7a w7a hq
                 have H7a := Lib.hid hq
                 have HL7a := Lib.hid (HL3.out.below hq.1 (Nat.le_of_eq HS.out))
                 clear hq))
            obtain ⟨S2, hS2⟩ : ∃ S2, w7a.heap.size = S2 := ⟨_, rfl⟩
            have HS2 := Lib.hid hS2
            clear hS2
            go_wp2
            have HPb : Hid (ApU S2 w7a (w7a.drew.alloc (.cells #[] 27)) (.slice (some ⟨w7a.heap.size, 0, none⟩) 0 0) []) := Lib.hid ⟨((Below.refl _ _).drew).alloc (Nat.le_of_eq HS2.out.symm) _, ROwn.lit w7a.drew w7a.heap.size (Nat.le_of_eq HS2.out.symm) rfl⟩
            have HLPb := Lib.hid (HL7a.out.below HPb.out.1 (Nat.le_of_eq HS2.out))
            go_region_held3 (fun _ => True) (exact trivial) (first
              | (refine step_app_user rfl (.tmp 50) (.tmp 54) rfl (.slice (some ⟨w7a.heap.size, 0, none⟩) 0 0) [] (L.take r1) 0 HPb.out HS2.out rfl rfl (some ⟨b, o, none⟩) r1 cap1 rfl (UIn.take HLPb.out (by omega)) (by omega) r1 (Nat.zero_add _) ?_
                 intro A6b c6b w6b hq
                 rw [List.nil_append] at hq
                 have H6b := Lib.hid hq
                 have HL6b := Lib.hid (HL7a.out.below hq.1 (Nat.le_of_eq HS2.out))
                 clear hq)
              | (refine step_app_user rfl (.tmp 55) (.tmp 58) rfl (.slice A6b r1 c6b) (L.take r1) (L.drop r) r1 H6b.out HS2.out HTK1.out rfl (some ⟨b, o + r * 3, none⟩) (N1 - r) (cap1 - r) rfl (UIn.cut HL6b.out (by omega)) (by omega) (r1 + (N1 - r)) rfl ?_
                 intro A7b c7b w7b hq
                 have H7b := Lib.hid hq
                 have HL7b := Lib.hid (HL7a.out.below hq.1 (Nat.le_of_eq HS2.out))
                 clear hq))
            have HX := Lib.hid (UIn.made (H7a.out.2.kept (by have := H7b.out.1; rw [← HS2.out] at this; exact this)) HLNG.out)
            have HY := Lib.hid (UIn.made H7b.out.2 HLNG1.out)
            have HBX : Hid (Below w.heap.size w w7b) := Lib.hid ((HB3.out.trans (H7a.out.1.mono (by rw [← HS.out]; exact HB3.out.size))).trans (H7b.out.1.mono (by rw [← HS2.out]; exact (HB3.out.trans (H7a.out.1.mono (by rw [← HS.out]; exact HB3.out.size))).size)))
            go_wp2_with fail
            refine (impl_uv HLESS.out _ HX.out).mono ?_
            rintro e w8 ⟨rfl, hb⟩
            have HB8 := Lib.hid (HBX.out.trans (hb.mono HBX.out.size))
            have HY8 := Lib.hid (HY.out.below hb (Nat.le_refl _))
            clear hb
            go_wp2_with fail
            refine (impl_uv HMORE.out _ HY8.out).mono ?_
            rintro e w9 ⟨rfl, hb⟩
            have HB9 := Lib.hid (HB8.out.trans (hb.mono HB8.out.size))
            clear hb
            go_wp2
            go_ret
            exact ⟨rfl, HB9.out⟩
    · have hl0' : (1048576 : Int) < (len0 : Int) := by omega
      go_enter Try.func5, Try.ntmps5
      go_wp2
      go_ret
      exact ⟨rfl, Below.refl _ _⟩
  · have hl' : (1048576 : Int) < (len : Int) := by omega
    go_enter Try.func5, Try.ntmps5
    go_wp2
    go_ret
    exact ⟨rfl, Below.refl _ _⟩
end Go.Proofs.Ytmangdkaklnpdaa
