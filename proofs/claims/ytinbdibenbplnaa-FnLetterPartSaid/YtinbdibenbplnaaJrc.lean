/-
  The walks of the laws FnLetterPart. Condition: the code can be read.
-/
import Derived.Test.YtinbdibenbplnaaQi
import Derived.BigQuiet
namespace Go.Proofs.Ytinbdibenbplnaa
open Go.RowKit
set_option linter.unusedVariables false

theorem step_app_sl {α : Type} {P : Program} {ops : Array Oper} {o : Oper} {a : Act} {K : Act → World → Prop} {Q : Exit → Act → World → Prop} {E : Prop} {w : World} (hg : o.guard = none) (s x : Operand) (t : TypeId)
    (ho : o.op = .call { callee := .builtin .append, args := #[s, x], argTypes := #[t, t] })
    (R : RowT α) (base : Nat) (i : TypeInfo) (z : Value) (bytes : Nat) (ht : P.underlying t = some (.slice R.t)) (hi : P.info? R.t = some i) (hz : i.zero = some z)
    (hsize : i.size = R.sz) (hby : i.bytes = bytes) (hzs : z.cells.size = R.sz) (hsz : 0 < R.sz)
    (v : Value) (L M : List α) (n : Nat) (hn : L.length = n) (hs : a.eval s = v) (hown : ROwn R w base v L)
    (A : Option Addr) (m c : Nat) (hx : a.eval x = .slice A m c) (hm : M.length = m) (hat : RAt R w A M) (hA : A = none → c = 0) (hsp : ∀ q, A = some q → q.spot = none)
    (h63 : n + m ≤ maxLen) (hbytes : (n + m) * bytes ≤ 140737488355328) (hbase : base ≤ w.heap.size)
    (h : ∀ A' N' c' w', ROwn R w' base (.slice A' N' c') (L ++ M) → w.grownBy w' v.ownBlock → K (a.put o.dst (.slice A' N' c')) w') :
    if Region.wanted o (yielded ops a.tmps) = true then Oper.wp P o a w K Q else E := by
  refine step_append_rows hg s x t ho R base i z bytes ht hi hz hsize hby hzs hsz v L M n hn hs hown A m c hx hm hat hA hsp h63 hbytes hbase ?_
  intro v' w' h1 h2 _
  obtain ⟨A', N', c', rfl⟩ := h1.val
  exact h A' N' c' w' h1 h2
theorem SIn.takeP {w : World} {A : Option Addr} {N cap r : Nat} {L : List ByteArray} (h : SIn w A N cap L) (hr : r ≤ N) : SIn w A r cap (L.take r) := ⟨by rw [List.length_take, h.1]; omega, by have := h.2.1; omega, h.2.2.1.take r, h.2.2.2.1, h.2.2.2.2.1, fun g hg => h.2.2.2.2.2.1 g (List.mem_of_mem_take hg), Nat.le_trans hr h.2.2.2.2.2.2.1, h.2.2.2.2.2.2.2⟩
theorem SIn.cutP {w : World} {b o N cap r : Nat} {L : List ByteArray} (h : SIn w (some ⟨b, o, none⟩) N cap L) : SIn w (some ⟨b, o + r, none⟩) (N - r) (cap - r) (L.drop r) := ⟨by rw [List.length_drop, h.1], by have := h.2.1; omega, by have := h.2.2.1.drop r; rwa [show r * stR.sz = r from Nat.mul_one r] at this, (fun e => by cases e), (fun q e => by cases e; rfl), fun g hg => h.2.2.2.2.2.1 g (List.mem_of_mem_drop hg), Nat.sub_le_sub_right h.2.2.2.2.2.2.1 r, fun q e => by cases e; exact h.2.2.2.2.2.2.2 ⟨b, o, none⟩ rfl⟩
theorem SIn.cutE {w : World} {b o N cap : Nat} {L : List ByteArray} (h : SIn w (some ⟨b, o, none⟩) N cap L) : SIn w (some ⟨b, o, none⟩) 0 0 (L.drop N) := by
  refine ⟨by rw [List.length_drop, h.1]; omega, by omega, ?_, (fun e => by cases e), (fun q e => by cases e; rfl), fun g hg => h.2.2.2.2.2.1 g (List.mem_of_mem_drop hg), Nat.le_refl _, h.2.2.2.2.2.2.2⟩
  rw [← h.1, List.drop_length]
  exact RAt.nil w _
theorem lpart_less {us tx : ByteArray} {L : List ByteArray} (h : letB us L tx = true) {k : Nat} (hk : k < L.length) : letB us (L.take k ++ L.drop (k + 1)) tx = decide (1 < L.length) := by
  rw [← List.eraseIdx_eq_take_drop_succ]
  have hl : (L.eraseIdx k).length = L.length - 1 := by rw [List.length_eraseIdx, if_pos hk]
  have hs := List.eraseIdx_sublist L k
  unfold letB recB n21 at h ⊢
  simp only [Bool.and_eq_true, decide_eq_true_eq] at h
  obtain ⟨h1, ⟨⟨h2, h3⟩, h4⟩, h5⟩ := h
  obtain ⟨h6, h7⟩ := namesB_iff.1 h2
  rw [h1, hl, decide_eq_true h5, namesB_iff.2 ⟨fun x hx => h6 x (hs.subset hx), List.Pairwise.sublist hs h7⟩, decide_eq_true (show L.length - 1 ≤ 3 by omega)]
  by_cases h8 : 1 < L.length
  · rw [decide_eq_true h8, decide_eq_true (show 1 ≤ L.length - 1 by omega)]; rfl
  · rw [decide_eq_false h8, decide_eq_false (show ¬ 1 ≤ L.length - 1 by omega)]; rfl
theorem lpart_more {us tx : ByteArray} {L : List ByteArray} {k : Nat} (hk : k < L.length) : letB us (L.take (k + 1) ++ L.drop k) tx = false := by
  cases hb : letB us (L.take (k + 1) ++ L.drop k) tx with
  | false => rfl
  | true =>
    unfold letB recB n21 at hb
    simp only [Bool.and_eq_true, decide_eq_true_eq] at hb
    have h7 := (namesB_iff.1 hb.2.1.1.1).2
    exact absurd rfl ((List.pairwise_append.1 h7).2.2 L[k] (by rw [List.take_add_one, List.getElem?_eq_getElem hk]; exact List.mem_append_right _ (List.mem_singleton.2 rfl)) L[k] (by rw [List.drop_eq_getElem_cons hk]; exact List.mem_cons_self))
set_option maxRecDepth 20000 in
set_option maxHeartbeats 60000000 in
theorem law_FnLetterPart (A0 : Option Addr) (len cap0 : Nat) (A1 : Option Addr) (len1 cap1 : Nat) (w : World) (h : Coded w A0 len cap0) (h0 : Coded w A1 len1 cap1) : Calls Try.prog 3 #[.slice A0 len cap0, .slice A1 len1 cap1] w (Holds1 w) := by
  have HC := Lib.hid h
  clear h h0
  by_cases hlen : len ≤ 1048576
  · have hlenI : (len : Int) ≤ 1048576 := by omega
    by_cases hlen1 : len1 ≤ 1048576
    · have hlenK : (len1 : Int) ≤ 1048576 := by omega
      go_enter Try.func3, Try.ntmps3
      go_wp2_with fail
      refine (draw_letval A0 len cap0 w HC.out).mono ?_
      rintro e w1 ⟨us, tx, A, N, cT, T, rfl, ho, hus, htx, hl, hs, hb⟩
      have hN8 : N ≤ 6 := by have := ho.len.1; omega
      have hNc : N ≤ cT := ho.len.2.1
      obtain ⟨D, hD⟩ : ∃ D, w1.heap.size = D := ⟨_, rfl⟩
      obtain ⟨w2, hw2⟩ : ∃ w2, w1.alloc (.cells #[.string us, .slice A N cT, .string tx] 25) = w2 := ⟨_, rfl⟩
      have hb2 : Below w1.heap.size w1 w2 := by rw [← hw2]; exact below_new _ _
      have HB := Lib.hid (hb.trans (hb2.mono hb.size))
      have HX := Lib.hid (show Whole w2 D 25 #[.string us, .slice A N cT, .string tx] by rw [← hw2, ← hD]; exact Whole.made _ _ _)
      have HJ := Lib.hid ((SIn.made ho (by omega) (fun g hg => Nat.le_trans (hs g hg) (by omega))).below hb2 (Nat.le_refl _))
      clear ho hb hb2 hs
      cases hv : letB us T tx with
      | false =>
        have HV := Lib.hid hv
        clear hv
        have cHX0 := HX.out.cell 0
        have cHX1 := HX.out.cell 1
        have cHX2 := HX.out.cell 2
        simp only [List.getElem?_toArray, List.getElem?_cons_zero, List.getElem?_cons_succ] at cHX0 cHX1 cHX2
        go_wp2_with fail
        refine (ilet_at HV.out w2 HJ.out (by omega)).mono ?_
        rintro e w3 ⟨rfl, hb⟩
        clear cHX0 cHX1 cHX2
        have HB_1 := Lib.hid (HB.out.trans (hb.mono HB.out.size))
        have HX_1 := Lib.hid (HX.out.below hb HX.out.lt)
        have HJ_1 := Lib.hid (HJ.out.below hb (Nat.le_refl _))
        clear HJ HX HB
        clear hb
        have cHX0 := HX_1.out.cell 0
        have cHX1 := HX_1.out.cell 1
        have cHX2 := HX_1.out.cell 2
        simp only [List.getElem?_toArray, List.getElem?_cons_zero, List.getElem?_cons_succ] at cHX0 cHX1 cHX2
        go_wp2_with fail
        refine (slet_at HV.out w3 HJ_1.out (by omega)).mono ?_
        rintro e w4 ⟨rfl, hb⟩
        clear cHX0 cHX1 cHX2
        have HB_2 := Lib.hid (HB_1.out.trans (hb.mono HB_1.out.size))
        have HX_2 := Lib.hid (HX_1.out.below hb HX_1.out.lt)
        have HJ_2 := Lib.hid (HJ_1.out.below hb (Nat.le_refl _))
        clear HJ_1 HX_1 HB_1
        clear hb
        go_wp2
        go_ret
        exact ⟨rfl, HB_2.out⟩
      | true =>
        have HV := Lib.hid hv
        have hN1 : 1 ≤ N := by
          have h1 := (letB_parts hv).2.1
          rcases Nat.eq_zero_or_pos N with h2 | h2
          · exact absurd (List.length_eq_zero_iff.1 (HJ.out.1.trans h2)) h1
          · exact h2
        clear hv
        have hNz : ¬ (N : Int) = 0 := by omega
        have hNz2 : ((N : Int) == 0) = false := beq_eq_false_iff_ne.2 (by omega)
        obtain ⟨r, hr⟩ : ∃ r, len1 % N = r := ⟨_, rfl⟩
        have hrN : r < N := hr ▸ Nat.mod_lt _ (by omega)
        have R1 : (len1 : Int).tmod (N : Int) = (r : Int) := by rw [Int.tmod_eq_emod_of_nonneg (by omega), ← hr]; omega
        have R2 : (len1 : Int) % (N : Int) = (r : Int) := by rw [← hr]; omega
        have WR : IntKind.i64.wrap (r : Int) = (r : Int) := IntWalk.i64_in _ (by omega)
        obtain ⟨x, hx⟩ : ∃ x, T[r]? = some x := ⟨_, List.getElem?_eq_getElem (by rw [HJ.out.1]; exact hrN)⟩
        obtain ⟨b, o, rfl, _, _⟩ := str_at HJ.out.2.2.1 hx
        have HLESS := Lib.hid (lpart_less (k := r) HV.out (by rw [HJ.out.1]; exact hrN))
        rw [HJ.out.1] at HLESS
        have d1 : decide ((1 : Int) < (N : Int)) = decide (1 < N) := by rw [decide_eq_decide]; omega
        obtain ⟨zz, hzz⟩ : ∃ zz, decide (1 < N) = zz := ⟨_, rfl⟩
        rw [hzz] at HLESS d1
        have d2 : (zz == zz) = true := by simp
        have HMORE := Lib.hid (lpart_more (us := us) (tx := tx) (L := T) (k := r) (by rw [HJ.out.1]; exact hrN))
        obtain ⟨r1, hr1⟩ : ∃ q, r + 1 = q := ⟨_, rfl⟩
        rw [hr1] at HLESS HMORE
        have E3 : (r : Int) + 1 = (r1 : Int) := by omega
        have W3 : IntKind.i64.wrap ((r : Int) + 1) = (r1 : Int) := (IntWalk.i64_in _ (by omega)).trans E3
        have W4 : IntKind.i64.wrap (r1 : Int) = (r1 : Int) := IntWalk.i64_in _ (by omega)
        have i00 : (0 : Int) ≤ (r : Int) := by omega
        have i1 : (r : Int) ≤ (N : Int) := by omega
        have i2 : (r : Int) ≤ (cT : Int) := by omega
        have i3 : (0 : Int) ≤ (r1 : Int) := by omega
        have i4 : (r1 : Int) ≤ (N : Int) := by omega
        have i5 : (r1 : Int) ≤ (cT : Int) := by omega
        have i6 : ¬ cT = 0 := by omega
        have i7 : ¬ cT = r := by omega
        have i8 : ¬ cT - r = 0 := by omega
        obtain ⟨i0, hi0, hq0, hq1, hq2⟩ := info_parts Try.infoString
        have HUS := Lib.hid hus
        clear hr hx hzz
        have cHX0 := HX.out.cell 0
        have cHX1 := HX.out.cell 1
        have cHX2 := HX.out.cell 2
        simp only [List.getElem?_toArray, List.getElem?_cons_zero, List.getElem?_cons_succ] at cHX0 cHX1 cHX2
        go_wp2_with fail
        refine (ilet_at HV.out w2 HJ.out (by omega)).mono ?_
        rintro e w3 ⟨rfl, hb⟩
        clear cHX0 cHX1 cHX2
        have HB_1 := Lib.hid (HB.out.trans (hb.mono HB.out.size))
        have HX_1 := Lib.hid (HX.out.below hb HX.out.lt)
        have HJ_1 := Lib.hid (HJ.out.below hb (Nat.le_refl _))
        clear HJ HX HB
        clear hb
        have cHX0 := HX_1.out.cell 0
        have cHX1 := HX_1.out.cell 1
        have cHX2 := HX_1.out.cell 2
        simp only [List.getElem?_toArray, List.getElem?_cons_zero, List.getElem?_cons_succ] at cHX0 cHX1 cHX2
        go_wp2_with fail
        refine (slet_at HV.out w3 HJ_1.out (by omega)).mono ?_
        rintro e wv ⟨rfl, hb⟩
        clear cHX0 cHX1 cHX2
        have HB_2 := Lib.hid (HB_1.out.trans (hb.mono HB_1.out.size))
        have HX_2 := Lib.hid (HX_1.out.below hb HX_1.out.lt)
        have HJ_2 := Lib.hid (HJ_1.out.below hb (Nat.le_refl _))
        clear HJ_1 HX_1 HB_1
        clear hb
        by_cases hce : cT = r1
        · have e0 : N = r1 := by omega
          subst hce
          subst e0
          have e1 : N - N = 0 := Nat.sub_self _
          have cHX0 := HX_2.out.cell 0
          have cHX1 := HX_2.out.cell 1
          have cHX2 := HX_2.out.cell 2
          simp only [List.getElem?_toArray, List.getElem?_cons_zero, List.getElem?_cons_succ] at cHX0 cHX1 cHX2
          obtain ⟨Fa, hFa⟩ : ∃ F, wv.heap.size = F := ⟨_, rfl⟩
          obtain ⟨w9a, hw9a⟩ : ∃ z, wv.alloc (.cells #[.string us, .slice (some ⟨b, o, none⟩) N N, .string tx] 25) = z := ⟨_, rfl⟩
          have hb9 : Below wv.heap.size wv w9a := by rw [← hw9a]; exact below_new _ _
          have HY9 : Hid (Whole w9a Fa 25 #[.string us, .slice (some ⟨b, o, none⟩) N N, .string tx]) := Lib.hid (by rw [← hw9a, ← hFa]; exact Whole.made _ _ _)
          obtain ⟨wda, hwda⟩ : ∃ z, w9a.drew = z := ⟨_, rfl⟩
          have HBd : Hid (Below wv.heap.size wv wda) := Lib.hid (by rw [← hwda]; exact hb9.drew)
          have HYd : Hid (Whole wda Fa 25 #[.string us, .slice (some ⟨b, o, none⟩) N N, .string tx]) := Lib.hid (by rw [← hwda]; exact HY9.out.drew)
          have HWDa := Lib.hid hwda
          have HFE : Hid (wv.heap.size ≤ Fa) := Lib.hid (Nat.le_of_eq hFa)
          have CS : ∀ wx, Below wv.heap.size wv wx → wx.cell? ⟨D, 1, none⟩ = some (.slice (some ⟨b, o, none⟩) N N) := fun wx hbx => (hbx.cell (p := ⟨D, 1, none⟩) HX_2.out.lt).trans cHX1
          have hcd := CS _ HBd.out
          clear hwda hb9
          go_upto_region 10 with fail
          clear hw9a hFa
          clear cHX0 cHX1 cHX2
          refine wp_region_late (fun w' => w'.cell? ⟨D, 1, none⟩ = some (.slice (some ⟨b, o, none⟩) N N)) 13 (by kernel_rfl) ?_
          rw [HWDa.out]
          refine wpLate_take (i := 1) (v := ?v1aE) rfl (by kernel_rfl) (by kernel_rfl) (by kernel_rfl) (by kernel_rfl) (by kernel_rfl) (fun _ _ _ h => h) hcd (by rfl) ?hy1aE ?r1aE
          case hy1aE =>
            rintro wz z0
            go_simp
            try with_reducible rfl
          try simp only [Act.put]
          refine wpLate_take (i := 2) (v := ?v2aE) rfl (by kernel_rfl) (by kernel_rfl) (by kernel_rfl) (by kernel_rfl) (by kernel_rfl) (fun _ _ _ h => h) hcd (by rfl) ?hy2aE ?r2aE
          case hy2aE =>
            rintro wz z0
            go_simp
            try with_reducible rfl
          try simp only [Act.put]
          refine wpLate_take (i := 3) (v := ?v3aE) rfl (by kernel_rfl) (by kernel_rfl) (by kernel_rfl) (by kernel_rfl) (by kernel_rfl) (fun _ _ _ h => h) hcd (by rfl) ?hy3aE ?r3aE
          case hy3aE =>
            rintro wz z0
            go_simp
            try with_reducible rfl
          try simp only [Act.put]
          refine wpLate_take (i := 4) (v := ?v4aE) rfl (by kernel_rfl) (by kernel_rfl) (by kernel_rfl) (by kernel_rfl) (by kernel_rfl) (fun _ _ _ h => h) hcd (by rfl) ?hy4aE ?r4aE
          case hy4aE =>
            rintro wz z0
            go_simp
            try with_reducible rfl
          try simp only [Act.put]
          refine wpLate_take (i := 6) (v := ?v6aE) rfl (by kernel_rfl) (by kernel_rfl) (by kernel_rfl) (by kernel_rfl) (by kernel_rfl) (fun _ _ _ h => h) hcd (by rfl) ?hy6aE ?r6aE
          case hy6aE =>
            rintro wz z0
            go_simp
            try with_reducible rfl
          try simp only [Act.put]
          refine wpLate_take (i := 7) (v := ?v7aE) rfl (by kernel_rfl) (by kernel_rfl) (by kernel_rfl) (by kernel_rfl) (by kernel_rfl) (fun _ _ _ h => h) hcd (by rfl) ?hy7aE ?r7aE
          case hy7aE =>
            rintro wz z0
            go_simp
            try with_reducible rfl
          try simp only [Act.put]
          refine wpLate_take (i := 8) (v := ?v8aE) rfl (by kernel_rfl) (by kernel_rfl) (by kernel_rfl) (by kernel_rfl) (by kernel_rfl) (fun _ _ _ h => h) hcd (by rfl) ?hy8aE ?r8aE
          case hy8aE =>
            rintro wz z0
            go_simp
            try with_reducible rfl
          try simp only [Act.put]
          refine wpLate_take (i := 9) (v := ?v9aE) rfl (by kernel_rfl) (by kernel_rfl) (by kernel_rfl) (by kernel_rfl) (by kernel_rfl) (fun _ _ _ h => h) hcd (by rfl) ?hy9aE ?r9aE
          case hy9aE =>
            rintro wz z0
            go_simp
            try with_reducible rfl
          try simp only [Act.put]
          refine wpLate_take (i := 10) (v := ?v10aE) rfl (by kernel_rfl) (by kernel_rfl) (by kernel_rfl) (by kernel_rfl) (by kernel_rfl) (fun _ _ _ h => h) hcd (by rfl) ?hy10aE ?r10aE
          case hy10aE =>
            rintro wz z0
            go_simp
            try with_reducible rfl
          try simp only [Act.put]
          refine wpLate_one (i := 0) (by kernel_rfl) rfl (fun K hK => ?_)
          obtain ⟨Sa, hSa⟩ : ∃ S, wda.heap.size = S := ⟨_, rfl⟩
          obtain ⟨wba, hwba⟩ : ∃ wb, wda.alloc (.cells #[] 9) = wb := ⟨_, rfl⟩
          have HR0 := Lib.hid (show ROwn stR wba wv.heap.size (.slice (some ⟨Sa, 0, none⟩) 0 0) [] by rw [← hwba]; exact ROwn.lit wda Sa HBd.out.size hSa)
          have HBb : Hid (Below wv.heap.size wv wba) := Lib.hid (by rw [← hwba]; exact HBd.out.alloc HBd.out.size _)
          have HYb : Hid (Whole wba Fa 25 #[.string us, .slice (some ⟨b, o, none⟩) N N, .string tx]) := Lib.hid (by rw [← hwba]; exact HYd.out.alloc _)
          have hcb := CS _ HBb.out
          go_simp
          refine hK.out _ _ (fun _ => hcb) ?_
          clear hK K
          try simp only [Act.put]
          clear hwba hSa
          have HTK : Hid ((T.take r).length = r) := Lib.hid (by rw [List.length_take, HJ_2.out.1]; omega)
          refine wpLate_one (i := 5) (by kernel_rfl) rfl (fun K hK => ?_)
          have HM := Lib.hid ((SIn.takeP HJ_2.out (show r ≤ N by omega)).below HBb.out (Nat.le_refl _))
          refine step_app_sl rfl (.tmp 42) (.tmp 46) 23 rfl stR wv.heap.size i0 _ 16 Try.underlying23 hi0 hq0 hq1 hq2 rfl (by decide) _ ([]) (T.take r) 0 rfl rfl HR0.out (some ⟨b, o, none⟩) (r) (N) rfl HM.out.1 HM.out.2.2.1 HM.out.2.2.2.1 HM.out.2.2.2.2.1 (by unfold maxLen; omega) (by omega) HBb.out.size ?_
          intro pA pN pc wfa hof hgf
          rw [List.nil_append] at hof
          have HNp := Lib.hid hof.len.1
          have HOp := Lib.hid hof
          have HBp : Hid (Below wv.heap.size wv wfa) := Lib.hid (HBb.out.grown hgf HBb.out.size (fun z e => (World.ownsRow.lt HR0.out z e).1))
          have HYp : Hid (Whole wfa Fa 25 #[.string us, .slice (some ⟨b, o, none⟩) N N, .string tx]) := Lib.hid (HYb.out.grown hgf (fun e => (HR0.out.whole HYb.out (by decide)) e.symm))
          have hcp := CS _ HBp.out
          clear hof hgf HM
          refine hK.out _ _ (fun _ => hcp) ?_
          clear hK K
          try simp only [Act.put]
          refine wpLate_one (i := 11) (by kernel_rfl) rfl (fun K hK => ?_)
          have HM := Lib.hid ((SIn.cutE HJ_2.out).below HBp.out (Nat.le_refl _))
          refine step_app_sl rfl (.tmp 47) (.tmp 52) 23 rfl stR wv.heap.size i0 _ 16 Try.underlying23 hi0 hq0 hq1 hq2 rfl (by decide) _ (T.take r) (T.drop N) r HTK.out rfl HOp.out (some ⟨b, o, none⟩) (0) (0) rfl HM.out.1 HM.out.2.2.1 HM.out.2.2.2.1 HM.out.2.2.2.2.1 (by unfold maxLen; omega) (by omega) HBp.out.size ?_
          intro qaA qaN qac wga hof hgf
          have HNqa := Lib.hid hof.len.1
          have HOqa := Lib.hid hof
          have HBqa : Hid (Below wv.heap.size wv wga) := Lib.hid (HBp.out.grown hgf HBp.out.size (fun z e => (World.ownsRow.lt HOp.out z e).1))
          have HYqa : Hid (Whole wga Fa 25 #[.string us, .slice (some ⟨b, o, none⟩) N N, .string tx]) := Lib.hid (HYp.out.grown hgf (fun e => (HOp.out.whole HYp.out (by decide)) e.symm))
          have hcqa := CS _ HBqa.out
          clear hof hgf HM
          refine hK.out _ _ (fun _ => hcqa) ?_
          clear hK K
          try simp only [Act.put]
          refine wpLate_take (i := 12) (v := ?v12aE) rfl (by kernel_rfl) (by kernel_rfl) (by kernel_rfl) (by kernel_rfl) (by kernel_rfl) (fun _ _ _ h => h) hcqa (by rfl) ?hy12aE ?r12aE
          case hy12aE =>
            rintro wz z0
            go_simp
            try with_reducible rfl
          try simp only [Act.put]
          have f1 := HYqa.out.cell 1
          have g1 := HYqa.out.free 1
          simp only [List.getElem?_toArray, List.getElem?_cons_zero, List.getElem?_cons_succ] at f1
          obtain ⟨wea, hwea⟩ : ∃ z, (wga.setCell ⟨Fa, 1, none⟩ (.slice qaA qaN qac)) = z := ⟨_, rfl⟩
          have HYe := Lib.hid (show Whole wea Fa 25 #[.string us, .slice qaA qaN qac, .string tx] from by rw [← hwea]; exact HYqa.out.store 1 _)
          have HRe := Lib.hid (show ROwn stR wea wv.heap.size (.slice qaA qaN qac) (T.take r ++ (T.drop N)) from by rw [← hwea]; exact HOqa.out.store (p := ⟨Fa, 1, none⟩) (HOqa.out.whole HYqa.out (by decide)) _)
          have HBe : Hid (Below wv.heap.size wv wea) := Lib.hid (by rw [← hwea]; exact HBqa.out.setCell (p := ⟨Fa, 1, none⟩) HFE.out _)
          have hbe := HBe.out
          have HB_3 := Lib.hid (HB_2.out.trans (hbe.mono HB_2.out.size))
          have HX_3 := Lib.hid (HX_2.out.below hbe HX_2.out.lt)
          have HJ_3 := Lib.hid (HJ_2.out.below hbe (Nat.le_refl _))
          clear HJ_2 HX_2 HB_2
          have HZa := Lib.hid (HYe.out)
          have Ra := Lib.hid (HRe.out)
          refine wpLate_one (i := 13) (by kernel_rfl) rfl (fun K hK => ?_)
          go_simp
          refine hK.out _ _ (fun h => absurd rfl h) ?_
          clear hK K
          try simp only [Act.put]
          refine wpLate_done (by kernel_rfl) ?_ _
          clear f1 g1 hbe hwea hcd hcb hcp hcqa HYe HRe HBe HR0 HBd HYd HBb HYb HY9 HBp HYp HOp HNp HTK CS HFE
          have cHX0 := HX_3.out.cell 0
          have cHX1 := HX_3.out.cell 1
          have cHX2 := HX_3.out.cell 2
          simp only [List.getElem?_toArray, List.getElem?_cons_zero, List.getElem?_cons_succ] at cHX0 cHX1 cHX2
          obtain ⟨Fb, hFb⟩ : ∃ F, wea.heap.size = F := ⟨_, rfl⟩
          obtain ⟨w9b, hw9b⟩ : ∃ z, wea.alloc (.cells #[.string us, .slice (some ⟨b, o, none⟩) N N, .string tx] 25) = z := ⟨_, rfl⟩
          have hb9 : Below wea.heap.size wea w9b := by rw [← hw9b]; exact below_new _ _
          have HY9 : Hid (Whole w9b Fb 25 #[.string us, .slice (some ⟨b, o, none⟩) N N, .string tx]) := Lib.hid (by rw [← hw9b, ← hFb]; exact Whole.made _ _ _)
          obtain ⟨wdb, hwdb⟩ : ∃ z, w9b.drew = z := ⟨_, rfl⟩
          have HBd : Hid (Below wea.heap.size wea wdb) := Lib.hid (by rw [← hwdb]; exact hb9.drew)
          have HYd : Hid (Whole wdb Fb 25 #[.string us, .slice (some ⟨b, o, none⟩) N N, .string tx]) := Lib.hid (by rw [← hwdb]; exact HY9.out.drew)
          have HWDb := Lib.hid hwdb
          have HFE : Hid (wea.heap.size ≤ Fb) := Lib.hid (Nat.le_of_eq hFb)
          have CS : ∀ wx, Below wea.heap.size wea wx → wx.cell? ⟨D, 1, none⟩ = some (.slice (some ⟨b, o, none⟩) N N) := fun wx hbx => (hbx.cell (p := ⟨D, 1, none⟩) HX_3.out.lt).trans cHX1
          have hcd := CS _ HBd.out
          clear hwdb hb9
          go_upto_region 12 with fail
          clear hw9b hFb
          clear cHX0 cHX1 cHX2
          refine wp_region_late (fun w' => w'.cell? ⟨D, 1, none⟩ = some (.slice (some ⟨b, o, none⟩) N N)) 13 (by kernel_rfl) ?_
          rw [HWDb.out]
          refine wpLate_take (i := 1) (v := ?v1bE) rfl (by kernel_rfl) (by kernel_rfl) (by kernel_rfl) (by kernel_rfl) (by kernel_rfl) (fun _ _ _ h => h) hcd (by rfl) ?hy1bE ?r1bE
          case hy1bE =>
            rintro wz z0
            go_simp
            try with_reducible rfl
          try simp only [Act.put]
          refine wpLate_take (i := 2) (v := ?v2bE) rfl (by kernel_rfl) (by kernel_rfl) (by kernel_rfl) (by kernel_rfl) (by kernel_rfl) (fun _ _ _ h => h) hcd (by rfl) ?hy2bE ?r2bE
          case hy2bE =>
            rintro wz z0
            go_simp
            try with_reducible rfl
          try simp only [Act.put]
          refine wpLate_take (i := 3) (v := ?v3bE) rfl (by kernel_rfl) (by kernel_rfl) (by kernel_rfl) (by kernel_rfl) (by kernel_rfl) (fun _ _ _ h => h) hcd (by rfl) ?hy3bE ?r3bE
          case hy3bE =>
            rintro wz z0
            go_simp
            try with_reducible rfl
          try simp only [Act.put]
          refine wpLate_take (i := 4) (v := ?v4bE) rfl (by kernel_rfl) (by kernel_rfl) (by kernel_rfl) (by kernel_rfl) (by kernel_rfl) (fun _ _ _ h => h) hcd (by rfl) ?hy4bE ?r4bE
          case hy4bE =>
            rintro wz z0
            go_simp
            try with_reducible rfl
          try simp only [Act.put]
          refine wpLate_take (i := 5) (v := ?v5bE) rfl (by kernel_rfl) (by kernel_rfl) (by kernel_rfl) (by kernel_rfl) (by kernel_rfl) (fun _ _ _ h => h) hcd (by rfl) ?hy5bE ?r5bE
          case hy5bE =>
            rintro wz z0
            go_simp
            try with_reducible rfl
          try simp only [Act.put]
          refine wpLate_take (i := 7) (v := ?v7bE) rfl (by kernel_rfl) (by kernel_rfl) (by kernel_rfl) (by kernel_rfl) (by kernel_rfl) (fun _ _ _ h => h) hcd (by rfl) ?hy7bE ?r7bE
          case hy7bE =>
            rintro wz z0
            go_simp
            try with_reducible rfl
          try simp only [Act.put]
          refine wpLate_take (i := 8) (v := ?v8bE) rfl (by kernel_rfl) (by kernel_rfl) (by kernel_rfl) (by kernel_rfl) (by kernel_rfl) (fun _ _ _ h => h) hcd (by rfl) ?hy8bE ?r8bE
          case hy8bE =>
            rintro wz z0
            go_simp
            try with_reducible rfl
          try simp only [Act.put]
          refine wpLate_take (i := 9) (v := ?v9bE) rfl (by kernel_rfl) (by kernel_rfl) (by kernel_rfl) (by kernel_rfl) (by kernel_rfl) (fun _ _ _ h => h) hcd (by rfl) ?hy9bE ?r9bE
          case hy9bE =>
            rintro wz z0
            go_simp
            try with_reducible rfl
          try simp only [Act.put]
          refine wpLate_take (i := 10) (v := ?v10bE) rfl (by kernel_rfl) (by kernel_rfl) (by kernel_rfl) (by kernel_rfl) (by kernel_rfl) (fun _ _ _ h => h) hcd (by rfl) ?hy10bE ?r10bE
          case hy10bE =>
            rintro wz z0
            go_simp
            try with_reducible rfl
          try simp only [Act.put]
          refine wpLate_one (i := 0) (by kernel_rfl) rfl (fun K hK => ?_)
          obtain ⟨Sb, hSb⟩ : ∃ S, wdb.heap.size = S := ⟨_, rfl⟩
          obtain ⟨wbb, hwbb⟩ : ∃ wb, wdb.alloc (.cells #[] 9) = wb := ⟨_, rfl⟩
          have HR0 := Lib.hid (show ROwn stR wbb wea.heap.size (.slice (some ⟨Sb, 0, none⟩) 0 0) [] by rw [← hwbb]; exact ROwn.lit wdb Sb HBd.out.size hSb)
          have HBb : Hid (Below wea.heap.size wea wbb) := Lib.hid (by rw [← hwbb]; exact HBd.out.alloc HBd.out.size _)
          have HYb : Hid (Whole wbb Fb 25 #[.string us, .slice (some ⟨b, o, none⟩) N N, .string tx]) := Lib.hid (by rw [← hwbb]; exact HYd.out.alloc _)
          have hcb := CS _ HBb.out
          go_simp
          refine hK.out _ _ (fun _ => hcb) ?_
          clear hK K
          try simp only [Act.put]
          clear hwbb hSb
          have HTK : Hid ((T.take N).length = N) := Lib.hid (by rw [List.length_take, HJ_3.out.1]; omega)
          refine wpLate_one (i := 6) (by kernel_rfl) rfl (fun K hK => ?_)
          have HM := Lib.hid ((SIn.takeP HJ_3.out (show N ≤ N by omega)).below HBb.out (Nat.le_refl _))
          refine step_app_sl rfl (.tmp 56) (.tmp 61) 23 rfl stR wea.heap.size i0 _ 16 Try.underlying23 hi0 hq0 hq1 hq2 rfl (by decide) _ ([]) (T.take N) 0 rfl rfl HR0.out (some ⟨b, o, none⟩) (N) (N) rfl HM.out.1 HM.out.2.2.1 HM.out.2.2.2.1 HM.out.2.2.2.2.1 (by unfold maxLen; omega) (by omega) HBb.out.size ?_
          intro pA pN pc wfb hof hgf
          rw [List.nil_append] at hof
          have HNp := Lib.hid hof.len.1
          have HOp := Lib.hid hof
          have HBp : Hid (Below wea.heap.size wea wfb) := Lib.hid (HBb.out.grown hgf HBb.out.size (fun z e => (World.ownsRow.lt HR0.out z e).1))
          have HYp : Hid (Whole wfb Fb 25 #[.string us, .slice (some ⟨b, o, none⟩) N N, .string tx]) := Lib.hid (HYb.out.grown hgf (fun e => (HR0.out.whole HYb.out (by decide)) e.symm))
          have hcp := CS _ HBp.out
          clear hof hgf HM
          refine hK.out _ _ (fun _ => hcp) ?_
          clear hK K
          try simp only [Act.put]
          refine wpLate_one (i := 11) (by kernel_rfl) rfl (fun K hK => ?_)
          have HM := Lib.hid ((SIn.cutP (r := r) HJ_3.out).below HBp.out (Nat.le_refl _))
          refine step_app_sl rfl (.tmp 62) (.tmp 66) 23 rfl stR wea.heap.size i0 _ 16 Try.underlying23 hi0 hq0 hq1 hq2 rfl (by decide) _ (T.take N) (T.drop r) N HTK.out rfl HOp.out (some ⟨b, o + r, none⟩) (N - r) (N - r) rfl HM.out.1 HM.out.2.2.1 HM.out.2.2.2.1 HM.out.2.2.2.2.1 (by unfold maxLen; omega) (by omega) HBp.out.size ?_
          intro qbA qbN qbc wgb hof hgf
          have HNqb := Lib.hid hof.len.1
          have HOqb := Lib.hid hof
          have HBqb : Hid (Below wea.heap.size wea wgb) := Lib.hid (HBp.out.grown hgf HBp.out.size (fun z e => (World.ownsRow.lt HOp.out z e).1))
          have HYqb : Hid (Whole wgb Fb 25 #[.string us, .slice (some ⟨b, o, none⟩) N N, .string tx]) := Lib.hid (HYp.out.grown hgf (fun e => (HOp.out.whole HYp.out (by decide)) e.symm))
          have hcqb := CS _ HBqb.out
          clear hof hgf HM
          refine hK.out _ _ (fun _ => hcqb) ?_
          clear hK K
          try simp only [Act.put]
          refine wpLate_take (i := 12) (v := ?v12bE) rfl (by kernel_rfl) (by kernel_rfl) (by kernel_rfl) (by kernel_rfl) (by kernel_rfl) (fun _ _ _ h => h) hcqb (by rfl) ?hy12bE ?r12bE
          case hy12bE =>
            rintro wz z0
            go_simp
            try with_reducible rfl
          try simp only [Act.put]
          have f1 := HYqb.out.cell 1
          have g1 := HYqb.out.free 1
          simp only [List.getElem?_toArray, List.getElem?_cons_zero, List.getElem?_cons_succ] at f1
          obtain ⟨web, hweb⟩ : ∃ z, (wgb.setCell ⟨Fb, 1, none⟩ (.slice qbA qbN qbc)) = z := ⟨_, rfl⟩
          have HYe := Lib.hid (show Whole web Fb 25 #[.string us, .slice qbA qbN qbc, .string tx] from by rw [← hweb]; exact HYqb.out.store 1 _)
          have HRe := Lib.hid (show ROwn stR web wea.heap.size (.slice qbA qbN qbc) (T.take N ++ (T.drop r)) from by rw [← hweb]; exact HOqb.out.store (p := ⟨Fb, 1, none⟩) (HOqb.out.whole HYqb.out (by decide)) _)
          have HBe : Hid (Below wea.heap.size wea web) := Lib.hid (by rw [← hweb]; exact HBqb.out.setCell (p := ⟨Fb, 1, none⟩) HFE.out _)
          have hbe := HBe.out
          have HB_4 := Lib.hid (HB_3.out.trans (hbe.mono HB_3.out.size))
          have HX_4 := Lib.hid (HX_3.out.below hbe HX_3.out.lt)
          have HJ_4 := Lib.hid (HJ_3.out.below hbe (Nat.le_refl _))
          have HZa_4 := Lib.hid (HZa.out.below hbe HZa.out.lt)
          have Ra_4 := Lib.hid (Ra.out.kept hbe)
          clear Ra HZa HJ_3 HX_3 HB_3
          have HZb := Lib.hid (HYe.out)
          have Rb := Lib.hid (HRe.out)
          refine wpLate_one (i := 13) (by kernel_rfl) rfl (fun K hK => ?_)
          go_simp
          refine hK.out _ _ (fun h => absurd rfl h) ?_
          clear hK K
          try simp only [Act.put]
          refine wpLate_done (by kernel_rfl) ?_ _
          clear f1 g1 hbe hweb hcd hcb hcp hcqb HYe HRe HBe HR0 HBd HYd HBb HYb HY9 HBp HYp HOp HNp HTK CS HFE
          have HLA : Hid (T.take r ++ T.drop N = T.take r ++ T.drop N) := Lib.hid rfl
          have HSX : Hid (∀ M : List ByteArray, (∀ g ∈ M, g ∈ T) → ∀ g ∈ M, g.size ≤ 16777216) := Lib.hid (fun M hM g hg => HJ_4.out.2.2.2.2.2.1 g (hM g hg))
          have HL1 : Hid ((T.take r ++ T.drop N).length ≤ 4194304) := Lib.hid (by rw [List.length_append, List.length_take, List.length_drop, HJ_4.out.1]; omega)
          have HL2 : Hid ((T.take N ++ T.drop r).length ≤ 4194304) := Lib.hid (by rw [List.length_append, List.length_take, List.length_drop, HJ_4.out.1]; omega)
          have HSY1 := Lib.hid (HSX.out (T.take r ++ T.drop N) (fun g hg => (List.mem_append.1 hg).elim List.mem_of_mem_take List.mem_of_mem_drop))
          have HSY2 := Lib.hid (HSX.out (T.take N ++ T.drop r) (fun g hg => (List.mem_append.1 hg).elim List.mem_of_mem_take List.mem_of_mem_drop))
          obtain ⟨wh, hwh⟩ : ∃ z, web.drew = z := ⟨_, rfl⟩
          have hbd : Below web.heap.size web wh := by rw [← hwh]; exact below_drew1 _
          have HWH := Lib.hid hwh
          clear hwh
          have HB_5 := Lib.hid (HB_4.out.trans (hbd.mono HB_4.out.size))
          have HX_5 := Lib.hid (HX_4.out.below hbd HX_4.out.lt)
          have HJ_5 := Lib.hid (HJ_4.out.below hbd (Nat.le_refl _))
          have HZa_5 := Lib.hid (HZa_4.out.below hbd HZa_4.out.lt)
          have Ra_5 := Lib.hid (Ra_4.out.kept hbd)
          have HZb_5 := Lib.hid (HZb.out.below hbd HZb.out.lt)
          have Rb_5 := Lib.hid (Rb.out.kept hbd)
          clear Rb HZb Ra_4 HZa_4 HJ_4 HX_4 HB_4
          clear hbd
          have cHX0 := HX_5.out.cell 0
          have cHX1 := HX_5.out.cell 1
          have cHZa0 := HZa_5.out.cell 0
          have cHZa1 := HZa_5.out.cell 1
          have cHZa2 := HZa_5.out.cell 2
          have cHZb0 := HZb_5.out.cell 0
          have cHZb1 := HZb_5.out.cell 1
          have cHZb2 := HZb_5.out.cell 2
          simp only [List.getElem?_toArray, List.getElem?_cons_zero, List.getElem?_cons_succ] at cHX0 cHX1 cHZa0 cHZa1 cHZa2 cHZb0 cHZb1 cHZb2
          go_upto_region 13 with fail
          refine wp_region_late (fun w' => w'.cell? ⟨D, 1, none⟩ = some (.slice (some ⟨b, o, none⟩) N N) ∧ w'.cell? ⟨Fa, 0, none⟩ = some (.string us) ∧ w'.cell? ⟨Fa, 1, none⟩ = some (.slice qaA qaN qac) ∧ w'.cell? ⟨Fa, 2, none⟩ = some (.string tx) ∧ w'.cell? ⟨Fb, 0, none⟩ = some (.string us) ∧ w'.cell? ⟨Fb, 1, none⟩ = some (.slice qbA qbN qbc) ∧ w'.cell? ⟨Fb, 2, none⟩ = some (.string tx)) 12 (by kernel_rfl) ?_
          rw [HWH.out]
          refine wpLate_take (i := 0) (v := ?v0ce) rfl (by kernel_rfl) (by kernel_rfl) (by kernel_rfl) (by kernel_rfl) (by kernel_rfl) (fun _ _ _ h => h) ⟨cHX1, cHZa0, cHZa1, cHZa2, cHZb0, cHZb1, cHZb2⟩ (by rfl) ?hy0ce ?r0ce
          case hy0ce =>
            rintro wz ⟨z0, z1, z2, z3, z4, z5, z6⟩
            go_simp
            try with_reducible rfl
          try simp only [Act.put]
          refine wpLate_take (i := 2) (v := ?v2ce) rfl (by kernel_rfl) (by kernel_rfl) (by kernel_rfl) (by kernel_rfl) (by kernel_rfl) (fun _ _ _ h => h) ⟨cHX1, cHZa0, cHZa1, cHZa2, cHZb0, cHZb1, cHZb2⟩ (by rfl) ?hy2ce ?r2ce
          case hy2ce =>
            rintro wz ⟨z0, z1, z2, z3, z4, z5, z6⟩
            go_simp
            try with_reducible rfl
          try simp only [Act.put]
          refine wpLate_take (i := 3) (v := ?v3ce) rfl (by kernel_rfl) (by kernel_rfl) (by kernel_rfl) (by kernel_rfl) (by kernel_rfl) (fun _ _ _ h => h) ⟨cHX1, cHZa0, cHZa1, cHZa2, cHZb0, cHZb1, cHZb2⟩ (by rfl) ?hy3ce ?r3ce
          case hy3ce =>
            rintro wz ⟨z0, z1, z2, z3, z4, z5, z6⟩
            go_simp
            try with_reducible rfl
          try simp only [Act.put]
          refine wpLate_take (i := 4) (v := ?v4ce) rfl (by kernel_rfl) (by kernel_rfl) (by kernel_rfl) (by kernel_rfl) (by kernel_rfl) (fun _ _ _ h => h) ⟨cHX1, cHZa0, cHZa1, cHZa2, cHZb0, cHZb1, cHZb2⟩ (by rfl) ?hy4ce ?r4ce
          case hy4ce =>
            rintro wz ⟨z0, z1, z2, z3, z4, z5, z6⟩
            go_simp
            try with_reducible rfl
          try simp only [Act.put]
          refine wpLate_take (i := 5) (v := ?v5ce) rfl (by kernel_rfl) (by kernel_rfl) (by kernel_rfl) (by kernel_rfl) (by kernel_rfl) (fun _ _ _ h => h) ⟨cHX1, cHZa0, cHZa1, cHZa2, cHZb0, cHZb1, cHZb2⟩ (by rfl) ?hy5ce ?r5ce
          case hy5ce =>
            rintro wz ⟨z0, z1, z2, z3, z4, z5, z6⟩
            go_simp
            try with_reducible rfl
          try simp only [Act.put]
          refine wpLate_one (i := 1) (by kernel_rfl) rfl (fun K hK => ?_)
          go_simp
          refine (ilet_at HLESS.out wh (SIn.made Ra_5.out HL1.out HSY1.out) (by have := HUS.out; omega)).mono ?_
          rintro e wi ⟨rfl, hb⟩
          clear cHX0 cHX1 cHZa0 cHZa1 cHZa2 cHZb0 cHZb1 cHZb2
          have HB_6 := Lib.hid (HB_5.out.trans (hb.mono HB_5.out.size))
          have HX_6 := Lib.hid (HX_5.out.below hb HX_5.out.lt)
          have HJ_6 := Lib.hid (HJ_5.out.below hb (Nat.le_refl _))
          have HZa_6 := Lib.hid (HZa_5.out.below hb HZa_5.out.lt)
          have Ra_6 := Lib.hid (Ra_5.out.kept hb)
          have HZb_6 := Lib.hid (HZb_5.out.below hb HZb_5.out.lt)
          have Rb_6 := Lib.hid (Rb_5.out.kept hb)
          clear Rb_5 HZb_5 Ra_5 HZa_5 HJ_5 HX_5 HB_5
          clear hb
          have cHX0 := HX_6.out.cell 0
          have cHX1 := HX_6.out.cell 1
          have cHZa0 := HZa_6.out.cell 0
          have cHZa1 := HZa_6.out.cell 1
          have cHZa2 := HZa_6.out.cell 2
          have cHZb0 := HZb_6.out.cell 0
          have cHZb1 := HZb_6.out.cell 1
          have cHZb2 := HZb_6.out.cell 2
          simp only [List.getElem?_toArray, List.getElem?_cons_zero, List.getElem?_cons_succ] at cHX0 cHX1 cHZa0 cHZa1 cHZa2 cHZb0 cHZb1 cHZb2
          refine hK.out _ _ (fun _ => ⟨cHX1, cHZa0, cHZa1, cHZa2, cHZb0, cHZb1, cHZb2⟩) ?_
          clear hK K
          try simp only [Act.put]
          refine wpLate_take (i := 6) (v := ?v6ce) rfl (by kernel_rfl) (by kernel_rfl) (by kernel_rfl) (by kernel_rfl) (by kernel_rfl) (fun _ _ _ h => h) ⟨cHX1, cHZa0, cHZa1, cHZa2, cHZb0, cHZb1, cHZb2⟩ (by rfl) ?hy6ce ?r6ce
          case hy6ce =>
            rintro wz ⟨z0, z1, z2, z3, z4, z5, z6⟩
            go_simp
            try with_reducible rfl
          try simp only [Act.put]
          refine wpLate_take (i := 7) (v := ?v7ce) rfl (by kernel_rfl) (by kernel_rfl) (by kernel_rfl) (by kernel_rfl) (by kernel_rfl) (fun _ _ _ h => h) ⟨cHX1, cHZa0, cHZa1, cHZa2, cHZb0, cHZb1, cHZb2⟩ (by rfl) ?hy7ce ?r7ce
          case hy7ce =>
            rintro wz ⟨z0, z1, z2, z3, z4, z5, z6⟩
            go_simp
            try with_reducible rfl
          try simp only [Act.put]
          refine wpLate_take (i := 8) (v := ?v8ce) rfl (by kernel_rfl) (by kernel_rfl) (by kernel_rfl) (by kernel_rfl) (by kernel_rfl) (fun _ _ _ h => h) ⟨cHX1, cHZa0, cHZa1, cHZa2, cHZb0, cHZb1, cHZb2⟩ (by go_simp) ?hy8ce ?r8ce
          case hy8ce =>
            rintro wz ⟨z0, z1, z2, z3, z4, z5, z6⟩
            go_simp
            try with_reducible rfl
          try simp only [Act.put]
          refine wpLate_one (i := 9) (by kernel_rfl) rfl (fun K hK => ?_)
          go_simp
          refine (ilet_at HMORE.out wi (SIn.made Rb_6.out HL2.out HSY2.out) (by have := HUS.out; omega)).mono ?_
          rintro e wj ⟨rfl, hb⟩
          clear cHX0 cHX1 cHZa0 cHZa1 cHZa2 cHZb0 cHZb1 cHZb2
          have HB_7 := Lib.hid (HB_6.out.trans (hb.mono HB_6.out.size))
          have HX_7 := Lib.hid (HX_6.out.below hb HX_6.out.lt)
          have HJ_7 := Lib.hid (HJ_6.out.below hb (Nat.le_refl _))
          have HZa_7 := Lib.hid (HZa_6.out.below hb HZa_6.out.lt)
          have Ra_7 := Lib.hid (Ra_6.out.kept hb)
          have HZb_7 := Lib.hid (HZb_6.out.below hb HZb_6.out.lt)
          have Rb_7 := Lib.hid (Rb_6.out.kept hb)
          clear Rb_6 HZb_6 Ra_6 HZa_6 HJ_6 HX_6 HB_6
          clear hb
          have cHX0 := HX_7.out.cell 0
          have cHX1 := HX_7.out.cell 1
          have cHZa0 := HZa_7.out.cell 0
          have cHZa1 := HZa_7.out.cell 1
          have cHZa2 := HZa_7.out.cell 2
          have cHZb0 := HZb_7.out.cell 0
          have cHZb1 := HZb_7.out.cell 1
          have cHZb2 := HZb_7.out.cell 2
          simp only [List.getElem?_toArray, List.getElem?_cons_zero, List.getElem?_cons_succ] at cHX0 cHX1 cHZa0 cHZa1 cHZa2 cHZb0 cHZb1 cHZb2
          refine hK.out _ _ (fun _ => ⟨cHX1, cHZa0, cHZa1, cHZa2, cHZb0, cHZb1, cHZb2⟩) ?_
          clear hK K
          try simp only [Act.put]
          refine wpLate_take (i := 10) (v := ?v10ce) rfl (by kernel_rfl) (by kernel_rfl) (by kernel_rfl) (by kernel_rfl) (by kernel_rfl) (fun _ _ _ h => h) ⟨cHX1, cHZa0, cHZa1, cHZa2, cHZb0, cHZb1, cHZb2⟩ (by go_simp) ?hy10ce ?r10ce
          case hy10ce =>
            rintro wz ⟨z0, z1, z2, z3, z4, z5, z6⟩
            go_simp
            try with_reducible rfl
          try simp only [Act.put]
          refine wpLate_take (i := 11) (v := ?v11ce) rfl (by kernel_rfl) (by kernel_rfl) (by kernel_rfl) (by kernel_rfl) (by kernel_rfl) (fun _ _ _ h => h) ⟨cHX1, cHZa0, cHZa1, cHZa2, cHZb0, cHZb1, cHZb2⟩ (by rfl) ?hy11ce ?r11ce
          case hy11ce =>
            rintro wz ⟨z0, z1, z2, z3, z4, z5, z6⟩
            go_simp
            try with_reducible rfl
          try simp only [Act.put]
          refine wpLate_one (i := 12) (by kernel_rfl) rfl (fun K hK => ?_)
          go_simp
          refine hK.out _ _ (fun h => absurd rfl h) ?_
          clear hK K
          try simp only [Act.put]
          refine wpLate_done (by kernel_rfl) ?_ _
          go_wp2
          go_ret
          exact ⟨rfl, HB_7.out⟩
        · have e1 : ¬ cT - r1 = 0 := by omega
          have e2 : ¬ cT = r1 := hce
          have cHX0 := HX_2.out.cell 0
          have cHX1 := HX_2.out.cell 1
          have cHX2 := HX_2.out.cell 2
          simp only [List.getElem?_toArray, List.getElem?_cons_zero, List.getElem?_cons_succ] at cHX0 cHX1 cHX2
          obtain ⟨Fa, hFa⟩ : ∃ F, wv.heap.size = F := ⟨_, rfl⟩
          obtain ⟨w9a, hw9a⟩ : ∃ z, wv.alloc (.cells #[.string us, .slice (some ⟨b, o, none⟩) N cT, .string tx] 25) = z := ⟨_, rfl⟩
          have hb9 : Below wv.heap.size wv w9a := by rw [← hw9a]; exact below_new _ _
          have HY9 : Hid (Whole w9a Fa 25 #[.string us, .slice (some ⟨b, o, none⟩) N cT, .string tx]) := Lib.hid (by rw [← hw9a, ← hFa]; exact Whole.made _ _ _)
          obtain ⟨wda, hwda⟩ : ∃ z, w9a.drew = z := ⟨_, rfl⟩
          have HBd : Hid (Below wv.heap.size wv wda) := Lib.hid (by rw [← hwda]; exact hb9.drew)
          have HYd : Hid (Whole wda Fa 25 #[.string us, .slice (some ⟨b, o, none⟩) N cT, .string tx]) := Lib.hid (by rw [← hwda]; exact HY9.out.drew)
          have HWDa := Lib.hid hwda
          have HFE : Hid (wv.heap.size ≤ Fa) := Lib.hid (Nat.le_of_eq hFa)
          have CS : ∀ wx, Below wv.heap.size wv wx → wx.cell? ⟨D, 1, none⟩ = some (.slice (some ⟨b, o, none⟩) N cT) := fun wx hbx => (hbx.cell (p := ⟨D, 1, none⟩) HX_2.out.lt).trans cHX1
          have hcd := CS _ HBd.out
          clear hwda hb9
          go_upto_region 10 with fail
          clear hw9a hFa
          clear cHX0 cHX1 cHX2
          refine wp_region_late (fun w' => w'.cell? ⟨D, 1, none⟩ = some (.slice (some ⟨b, o, none⟩) N cT)) 13 (by kernel_rfl) ?_
          rw [HWDa.out]
          refine wpLate_take (i := 1) (v := ?v1aC) rfl (by kernel_rfl) (by kernel_rfl) (by kernel_rfl) (by kernel_rfl) (by kernel_rfl) (fun _ _ _ h => h) hcd (by rfl) ?hy1aC ?r1aC
          case hy1aC =>
            rintro wz z0
            go_simp
            try with_reducible rfl
          try simp only [Act.put]
          refine wpLate_take (i := 2) (v := ?v2aC) rfl (by kernel_rfl) (by kernel_rfl) (by kernel_rfl) (by kernel_rfl) (by kernel_rfl) (fun _ _ _ h => h) hcd (by rfl) ?hy2aC ?r2aC
          case hy2aC =>
            rintro wz z0
            go_simp
            try with_reducible rfl
          try simp only [Act.put]
          refine wpLate_take (i := 3) (v := ?v3aC) rfl (by kernel_rfl) (by kernel_rfl) (by kernel_rfl) (by kernel_rfl) (by kernel_rfl) (fun _ _ _ h => h) hcd (by rfl) ?hy3aC ?r3aC
          case hy3aC =>
            rintro wz z0
            go_simp
            try with_reducible rfl
          try simp only [Act.put]
          refine wpLate_take (i := 4) (v := ?v4aC) rfl (by kernel_rfl) (by kernel_rfl) (by kernel_rfl) (by kernel_rfl) (by kernel_rfl) (fun _ _ _ h => h) hcd (by rfl) ?hy4aC ?r4aC
          case hy4aC =>
            rintro wz z0
            go_simp
            try with_reducible rfl
          try simp only [Act.put]
          refine wpLate_take (i := 6) (v := ?v6aC) rfl (by kernel_rfl) (by kernel_rfl) (by kernel_rfl) (by kernel_rfl) (by kernel_rfl) (fun _ _ _ h => h) hcd (by rfl) ?hy6aC ?r6aC
          case hy6aC =>
            rintro wz z0
            go_simp
            try with_reducible rfl
          try simp only [Act.put]
          refine wpLate_take (i := 7) (v := ?v7aC) rfl (by kernel_rfl) (by kernel_rfl) (by kernel_rfl) (by kernel_rfl) (by kernel_rfl) (fun _ _ _ h => h) hcd (by rfl) ?hy7aC ?r7aC
          case hy7aC =>
            rintro wz z0
            go_simp
            try with_reducible rfl
          try simp only [Act.put]
          refine wpLate_take (i := 8) (v := ?v8aC) rfl (by kernel_rfl) (by kernel_rfl) (by kernel_rfl) (by kernel_rfl) (by kernel_rfl) (fun _ _ _ h => h) hcd (by rfl) ?hy8aC ?r8aC
          case hy8aC =>
            rintro wz z0
            go_simp
            try with_reducible rfl
          try simp only [Act.put]
          refine wpLate_take (i := 9) (v := ?v9aC) rfl (by kernel_rfl) (by kernel_rfl) (by kernel_rfl) (by kernel_rfl) (by kernel_rfl) (fun _ _ _ h => h) hcd (by rfl) ?hy9aC ?r9aC
          case hy9aC =>
            rintro wz z0
            go_simp
            try with_reducible rfl
          try simp only [Act.put]
          refine wpLate_take (i := 10) (v := ?v10aC) rfl (by kernel_rfl) (by kernel_rfl) (by kernel_rfl) (by kernel_rfl) (by kernel_rfl) (fun _ _ _ h => h) hcd (by rfl) ?hy10aC ?r10aC
          case hy10aC =>
            rintro wz z0
            go_simp
            try with_reducible rfl
          try simp only [Act.put]
          refine wpLate_one (i := 0) (by kernel_rfl) rfl (fun K hK => ?_)
          obtain ⟨Sa, hSa⟩ : ∃ S, wda.heap.size = S := ⟨_, rfl⟩
          obtain ⟨wba, hwba⟩ : ∃ wb, wda.alloc (.cells #[] 9) = wb := ⟨_, rfl⟩
          have HR0 := Lib.hid (show ROwn stR wba wv.heap.size (.slice (some ⟨Sa, 0, none⟩) 0 0) [] by rw [← hwba]; exact ROwn.lit wda Sa HBd.out.size hSa)
          have HBb : Hid (Below wv.heap.size wv wba) := Lib.hid (by rw [← hwba]; exact HBd.out.alloc HBd.out.size _)
          have HYb : Hid (Whole wba Fa 25 #[.string us, .slice (some ⟨b, o, none⟩) N cT, .string tx]) := Lib.hid (by rw [← hwba]; exact HYd.out.alloc _)
          have hcb := CS _ HBb.out
          go_simp
          refine hK.out _ _ (fun _ => hcb) ?_
          clear hK K
          try simp only [Act.put]
          clear hwba hSa
          have HTK : Hid ((T.take r).length = r) := Lib.hid (by rw [List.length_take, HJ_2.out.1]; omega)
          refine wpLate_one (i := 5) (by kernel_rfl) rfl (fun K hK => ?_)
          have HM := Lib.hid ((SIn.takeP HJ_2.out (show r ≤ N by omega)).below HBb.out (Nat.le_refl _))
          refine step_app_sl rfl (.tmp 42) (.tmp 46) 23 rfl stR wv.heap.size i0 _ 16 Try.underlying23 hi0 hq0 hq1 hq2 rfl (by decide) _ ([]) (T.take r) 0 rfl rfl HR0.out (some ⟨b, o, none⟩) (r) (cT) rfl HM.out.1 HM.out.2.2.1 HM.out.2.2.2.1 HM.out.2.2.2.2.1 (by unfold maxLen; omega) (by omega) HBb.out.size ?_
          intro pA pN pc wfa hof hgf
          rw [List.nil_append] at hof
          have HNp := Lib.hid hof.len.1
          have HOp := Lib.hid hof
          have HBp : Hid (Below wv.heap.size wv wfa) := Lib.hid (HBb.out.grown hgf HBb.out.size (fun z e => (World.ownsRow.lt HR0.out z e).1))
          have HYp : Hid (Whole wfa Fa 25 #[.string us, .slice (some ⟨b, o, none⟩) N cT, .string tx]) := Lib.hid (HYb.out.grown hgf (fun e => (HR0.out.whole HYb.out (by decide)) e.symm))
          have hcp := CS _ HBp.out
          clear hof hgf HM
          refine hK.out _ _ (fun _ => hcp) ?_
          clear hK K
          try simp only [Act.put]
          refine wpLate_one (i := 11) (by kernel_rfl) rfl (fun K hK => ?_)
          have HM := Lib.hid ((SIn.cutP (r := r1) HJ_2.out).below HBp.out (Nat.le_refl _))
          refine step_app_sl rfl (.tmp 47) (.tmp 52) 23 rfl stR wv.heap.size i0 _ 16 Try.underlying23 hi0 hq0 hq1 hq2 rfl (by decide) _ (T.take r) (T.drop r1) r HTK.out rfl HOp.out (some ⟨b, o + r1, none⟩) (N - r1) (cT - r1) rfl HM.out.1 HM.out.2.2.1 HM.out.2.2.2.1 HM.out.2.2.2.2.1 (by unfold maxLen; omega) (by omega) HBp.out.size ?_
          intro qaA qaN qac wga hof hgf
          have HNqa := Lib.hid hof.len.1
          have HOqa := Lib.hid hof
          have HBqa : Hid (Below wv.heap.size wv wga) := Lib.hid (HBp.out.grown hgf HBp.out.size (fun z e => (World.ownsRow.lt HOp.out z e).1))
          have HYqa : Hid (Whole wga Fa 25 #[.string us, .slice (some ⟨b, o, none⟩) N cT, .string tx]) := Lib.hid (HYp.out.grown hgf (fun e => (HOp.out.whole HYp.out (by decide)) e.symm))
          have hcqa := CS _ HBqa.out
          clear hof hgf HM
          refine hK.out _ _ (fun _ => hcqa) ?_
          clear hK K
          try simp only [Act.put]
          refine wpLate_take (i := 12) (v := ?v12aC) rfl (by kernel_rfl) (by kernel_rfl) (by kernel_rfl) (by kernel_rfl) (by kernel_rfl) (fun _ _ _ h => h) hcqa (by rfl) ?hy12aC ?r12aC
          case hy12aC =>
            rintro wz z0
            go_simp
            try with_reducible rfl
          try simp only [Act.put]
          have f1 := HYqa.out.cell 1
          have g1 := HYqa.out.free 1
          simp only [List.getElem?_toArray, List.getElem?_cons_zero, List.getElem?_cons_succ] at f1
          obtain ⟨wea, hwea⟩ : ∃ z, (wga.setCell ⟨Fa, 1, none⟩ (.slice qaA qaN qac)) = z := ⟨_, rfl⟩
          have HYe := Lib.hid (show Whole wea Fa 25 #[.string us, .slice qaA qaN qac, .string tx] from by rw [← hwea]; exact HYqa.out.store 1 _)
          have HRe := Lib.hid (show ROwn stR wea wv.heap.size (.slice qaA qaN qac) (T.take r ++ (T.drop r1)) from by rw [← hwea]; exact HOqa.out.store (p := ⟨Fa, 1, none⟩) (HOqa.out.whole HYqa.out (by decide)) _)
          have HBe : Hid (Below wv.heap.size wv wea) := Lib.hid (by rw [← hwea]; exact HBqa.out.setCell (p := ⟨Fa, 1, none⟩) HFE.out _)
          have hbe := HBe.out
          have HB_3 := Lib.hid (HB_2.out.trans (hbe.mono HB_2.out.size))
          have HX_3 := Lib.hid (HX_2.out.below hbe HX_2.out.lt)
          have HJ_3 := Lib.hid (HJ_2.out.below hbe (Nat.le_refl _))
          clear HJ_2 HX_2 HB_2
          have HZa := Lib.hid (HYe.out)
          have Ra := Lib.hid (HRe.out)
          refine wpLate_one (i := 13) (by kernel_rfl) rfl (fun K hK => ?_)
          go_simp
          refine hK.out _ _ (fun h => absurd rfl h) ?_
          clear hK K
          try simp only [Act.put]
          refine wpLate_done (by kernel_rfl) ?_ _
          clear f1 g1 hbe hwea hcd hcb hcp hcqa HYe HRe HBe HR0 HBd HYd HBb HYb HY9 HBp HYp HOp HNp HTK CS HFE
          have cHX0 := HX_3.out.cell 0
          have cHX1 := HX_3.out.cell 1
          have cHX2 := HX_3.out.cell 2
          simp only [List.getElem?_toArray, List.getElem?_cons_zero, List.getElem?_cons_succ] at cHX0 cHX1 cHX2
          obtain ⟨Fb, hFb⟩ : ∃ F, wea.heap.size = F := ⟨_, rfl⟩
          obtain ⟨w9b, hw9b⟩ : ∃ z, wea.alloc (.cells #[.string us, .slice (some ⟨b, o, none⟩) N cT, .string tx] 25) = z := ⟨_, rfl⟩
          have hb9 : Below wea.heap.size wea w9b := by rw [← hw9b]; exact below_new _ _
          have HY9 : Hid (Whole w9b Fb 25 #[.string us, .slice (some ⟨b, o, none⟩) N cT, .string tx]) := Lib.hid (by rw [← hw9b, ← hFb]; exact Whole.made _ _ _)
          obtain ⟨wdb, hwdb⟩ : ∃ z, w9b.drew = z := ⟨_, rfl⟩
          have HBd : Hid (Below wea.heap.size wea wdb) := Lib.hid (by rw [← hwdb]; exact hb9.drew)
          have HYd : Hid (Whole wdb Fb 25 #[.string us, .slice (some ⟨b, o, none⟩) N cT, .string tx]) := Lib.hid (by rw [← hwdb]; exact HY9.out.drew)
          have HWDb := Lib.hid hwdb
          have HFE : Hid (wea.heap.size ≤ Fb) := Lib.hid (Nat.le_of_eq hFb)
          have CS : ∀ wx, Below wea.heap.size wea wx → wx.cell? ⟨D, 1, none⟩ = some (.slice (some ⟨b, o, none⟩) N cT) := fun wx hbx => (hbx.cell (p := ⟨D, 1, none⟩) HX_3.out.lt).trans cHX1
          have hcd := CS _ HBd.out
          clear hwdb hb9
          go_upto_region 12 with fail
          clear hw9b hFb
          clear cHX0 cHX1 cHX2
          refine wp_region_late (fun w' => w'.cell? ⟨D, 1, none⟩ = some (.slice (some ⟨b, o, none⟩) N cT)) 13 (by kernel_rfl) ?_
          rw [HWDb.out]
          refine wpLate_take (i := 1) (v := ?v1bC) rfl (by kernel_rfl) (by kernel_rfl) (by kernel_rfl) (by kernel_rfl) (by kernel_rfl) (fun _ _ _ h => h) hcd (by rfl) ?hy1bC ?r1bC
          case hy1bC =>
            rintro wz z0
            go_simp
            try with_reducible rfl
          try simp only [Act.put]
          refine wpLate_take (i := 2) (v := ?v2bC) rfl (by kernel_rfl) (by kernel_rfl) (by kernel_rfl) (by kernel_rfl) (by kernel_rfl) (fun _ _ _ h => h) hcd (by rfl) ?hy2bC ?r2bC
          case hy2bC =>
            rintro wz z0
            go_simp
            try with_reducible rfl
          try simp only [Act.put]
          refine wpLate_take (i := 3) (v := ?v3bC) rfl (by kernel_rfl) (by kernel_rfl) (by kernel_rfl) (by kernel_rfl) (by kernel_rfl) (fun _ _ _ h => h) hcd (by rfl) ?hy3bC ?r3bC
          case hy3bC =>
            rintro wz z0
            go_simp
            try with_reducible rfl
          try simp only [Act.put]
          refine wpLate_take (i := 4) (v := ?v4bC) rfl (by kernel_rfl) (by kernel_rfl) (by kernel_rfl) (by kernel_rfl) (by kernel_rfl) (fun _ _ _ h => h) hcd (by rfl) ?hy4bC ?r4bC
          case hy4bC =>
            rintro wz z0
            go_simp
            try with_reducible rfl
          try simp only [Act.put]
          refine wpLate_take (i := 5) (v := ?v5bC) rfl (by kernel_rfl) (by kernel_rfl) (by kernel_rfl) (by kernel_rfl) (by kernel_rfl) (fun _ _ _ h => h) hcd (by rfl) ?hy5bC ?r5bC
          case hy5bC =>
            rintro wz z0
            go_simp
            try with_reducible rfl
          try simp only [Act.put]
          refine wpLate_take (i := 7) (v := ?v7bC) rfl (by kernel_rfl) (by kernel_rfl) (by kernel_rfl) (by kernel_rfl) (by kernel_rfl) (fun _ _ _ h => h) hcd (by rfl) ?hy7bC ?r7bC
          case hy7bC =>
            rintro wz z0
            go_simp
            try with_reducible rfl
          try simp only [Act.put]
          refine wpLate_take (i := 8) (v := ?v8bC) rfl (by kernel_rfl) (by kernel_rfl) (by kernel_rfl) (by kernel_rfl) (by kernel_rfl) (fun _ _ _ h => h) hcd (by rfl) ?hy8bC ?r8bC
          case hy8bC =>
            rintro wz z0
            go_simp
            try with_reducible rfl
          try simp only [Act.put]
          refine wpLate_take (i := 9) (v := ?v9bC) rfl (by kernel_rfl) (by kernel_rfl) (by kernel_rfl) (by kernel_rfl) (by kernel_rfl) (fun _ _ _ h => h) hcd (by rfl) ?hy9bC ?r9bC
          case hy9bC =>
            rintro wz z0
            go_simp
            try with_reducible rfl
          try simp only [Act.put]
          refine wpLate_take (i := 10) (v := ?v10bC) rfl (by kernel_rfl) (by kernel_rfl) (by kernel_rfl) (by kernel_rfl) (by kernel_rfl) (fun _ _ _ h => h) hcd (by rfl) ?hy10bC ?r10bC
          case hy10bC =>
            rintro wz z0
            go_simp
            try with_reducible rfl
          try simp only [Act.put]
          refine wpLate_one (i := 0) (by kernel_rfl) rfl (fun K hK => ?_)
          obtain ⟨Sb, hSb⟩ : ∃ S, wdb.heap.size = S := ⟨_, rfl⟩
          obtain ⟨wbb, hwbb⟩ : ∃ wb, wdb.alloc (.cells #[] 9) = wb := ⟨_, rfl⟩
          have HR0 := Lib.hid (show ROwn stR wbb wea.heap.size (.slice (some ⟨Sb, 0, none⟩) 0 0) [] by rw [← hwbb]; exact ROwn.lit wdb Sb HBd.out.size hSb)
          have HBb : Hid (Below wea.heap.size wea wbb) := Lib.hid (by rw [← hwbb]; exact HBd.out.alloc HBd.out.size _)
          have HYb : Hid (Whole wbb Fb 25 #[.string us, .slice (some ⟨b, o, none⟩) N cT, .string tx]) := Lib.hid (by rw [← hwbb]; exact HYd.out.alloc _)
          have hcb := CS _ HBb.out
          go_simp
          refine hK.out _ _ (fun _ => hcb) ?_
          clear hK K
          try simp only [Act.put]
          clear hwbb hSb
          have HTK : Hid ((T.take r1).length = r1) := Lib.hid (by rw [List.length_take, HJ_3.out.1]; omega)
          refine wpLate_one (i := 6) (by kernel_rfl) rfl (fun K hK => ?_)
          have HM := Lib.hid ((SIn.takeP HJ_3.out (show r1 ≤ N by omega)).below HBb.out (Nat.le_refl _))
          refine step_app_sl rfl (.tmp 56) (.tmp 61) 23 rfl stR wea.heap.size i0 _ 16 Try.underlying23 hi0 hq0 hq1 hq2 rfl (by decide) _ ([]) (T.take r1) 0 rfl rfl HR0.out (some ⟨b, o, none⟩) (r1) (cT) rfl HM.out.1 HM.out.2.2.1 HM.out.2.2.2.1 HM.out.2.2.2.2.1 (by unfold maxLen; omega) (by omega) HBb.out.size ?_
          intro pA pN pc wfb hof hgf
          rw [List.nil_append] at hof
          have HNp := Lib.hid hof.len.1
          have HOp := Lib.hid hof
          have HBp : Hid (Below wea.heap.size wea wfb) := Lib.hid (HBb.out.grown hgf HBb.out.size (fun z e => (World.ownsRow.lt HR0.out z e).1))
          have HYp : Hid (Whole wfb Fb 25 #[.string us, .slice (some ⟨b, o, none⟩) N cT, .string tx]) := Lib.hid (HYb.out.grown hgf (fun e => (HR0.out.whole HYb.out (by decide)) e.symm))
          have hcp := CS _ HBp.out
          clear hof hgf HM
          refine hK.out _ _ (fun _ => hcp) ?_
          clear hK K
          try simp only [Act.put]
          refine wpLate_one (i := 11) (by kernel_rfl) rfl (fun K hK => ?_)
          have HM := Lib.hid ((SIn.cutP (r := r) HJ_3.out).below HBp.out (Nat.le_refl _))
          refine step_app_sl rfl (.tmp 62) (.tmp 66) 23 rfl stR wea.heap.size i0 _ 16 Try.underlying23 hi0 hq0 hq1 hq2 rfl (by decide) _ (T.take r1) (T.drop r) r1 HTK.out rfl HOp.out (some ⟨b, o + r, none⟩) (N - r) (cT - r) rfl HM.out.1 HM.out.2.2.1 HM.out.2.2.2.1 HM.out.2.2.2.2.1 (by unfold maxLen; omega) (by omega) HBp.out.size ?_
          intro qbA qbN qbc wgb hof hgf
          have HNqb := Lib.hid hof.len.1
          have HOqb := Lib.hid hof
          have HBqb : Hid (Below wea.heap.size wea wgb) := Lib.hid (HBp.out.grown hgf HBp.out.size (fun z e => (World.ownsRow.lt HOp.out z e).1))
          have HYqb : Hid (Whole wgb Fb 25 #[.string us, .slice (some ⟨b, o, none⟩) N cT, .string tx]) := Lib.hid (HYp.out.grown hgf (fun e => (HOp.out.whole HYp.out (by decide)) e.symm))
          have hcqb := CS _ HBqb.out
          clear hof hgf HM
          refine hK.out _ _ (fun _ => hcqb) ?_
          clear hK K
          try simp only [Act.put]
          refine wpLate_take (i := 12) (v := ?v12bC) rfl (by kernel_rfl) (by kernel_rfl) (by kernel_rfl) (by kernel_rfl) (by kernel_rfl) (fun _ _ _ h => h) hcqb (by rfl) ?hy12bC ?r12bC
          case hy12bC =>
            rintro wz z0
            go_simp
            try with_reducible rfl
          try simp only [Act.put]
          have f1 := HYqb.out.cell 1
          have g1 := HYqb.out.free 1
          simp only [List.getElem?_toArray, List.getElem?_cons_zero, List.getElem?_cons_succ] at f1
          obtain ⟨web, hweb⟩ : ∃ z, (wgb.setCell ⟨Fb, 1, none⟩ (.slice qbA qbN qbc)) = z := ⟨_, rfl⟩
          have HYe := Lib.hid (show Whole web Fb 25 #[.string us, .slice qbA qbN qbc, .string tx] from by rw [← hweb]; exact HYqb.out.store 1 _)
          have HRe := Lib.hid (show ROwn stR web wea.heap.size (.slice qbA qbN qbc) (T.take r1 ++ (T.drop r)) from by rw [← hweb]; exact HOqb.out.store (p := ⟨Fb, 1, none⟩) (HOqb.out.whole HYqb.out (by decide)) _)
          have HBe : Hid (Below wea.heap.size wea web) := Lib.hid (by rw [← hweb]; exact HBqb.out.setCell (p := ⟨Fb, 1, none⟩) HFE.out _)
          have hbe := HBe.out
          have HB_4 := Lib.hid (HB_3.out.trans (hbe.mono HB_3.out.size))
          have HX_4 := Lib.hid (HX_3.out.below hbe HX_3.out.lt)
          have HJ_4 := Lib.hid (HJ_3.out.below hbe (Nat.le_refl _))
          have HZa_4 := Lib.hid (HZa.out.below hbe HZa.out.lt)
          have Ra_4 := Lib.hid (Ra.out.kept hbe)
          clear Ra HZa HJ_3 HX_3 HB_3
          have HZb := Lib.hid (HYe.out)
          have Rb := Lib.hid (HRe.out)
          refine wpLate_one (i := 13) (by kernel_rfl) rfl (fun K hK => ?_)
          go_simp
          refine hK.out _ _ (fun h => absurd rfl h) ?_
          clear hK K
          try simp only [Act.put]
          refine wpLate_done (by kernel_rfl) ?_ _
          clear f1 g1 hbe hweb hcd hcb hcp hcqb HYe HRe HBe HR0 HBd HYd HBb HYb HY9 HBp HYp HOp HNp HTK CS HFE
          have HLA : Hid (T.take r ++ T.drop r1 = T.take r ++ T.drop r1) := Lib.hid rfl
          have HSX : Hid (∀ M : List ByteArray, (∀ g ∈ M, g ∈ T) → ∀ g ∈ M, g.size ≤ 16777216) := Lib.hid (fun M hM g hg => HJ_4.out.2.2.2.2.2.1 g (hM g hg))
          have HL1 : Hid ((T.take r ++ T.drop r1).length ≤ 4194304) := Lib.hid (by rw [List.length_append, List.length_take, List.length_drop, HJ_4.out.1]; omega)
          have HL2 : Hid ((T.take r1 ++ T.drop r).length ≤ 4194304) := Lib.hid (by rw [List.length_append, List.length_take, List.length_drop, HJ_4.out.1]; omega)
          have HSY1 := Lib.hid (HSX.out (T.take r ++ T.drop r1) (fun g hg => (List.mem_append.1 hg).elim List.mem_of_mem_take List.mem_of_mem_drop))
          have HSY2 := Lib.hid (HSX.out (T.take r1 ++ T.drop r) (fun g hg => (List.mem_append.1 hg).elim List.mem_of_mem_take List.mem_of_mem_drop))
          obtain ⟨wh, hwh⟩ : ∃ z, web.drew = z := ⟨_, rfl⟩
          have hbd : Below web.heap.size web wh := by rw [← hwh]; exact below_drew1 _
          have HWH := Lib.hid hwh
          clear hwh
          have HB_5 := Lib.hid (HB_4.out.trans (hbd.mono HB_4.out.size))
          have HX_5 := Lib.hid (HX_4.out.below hbd HX_4.out.lt)
          have HJ_5 := Lib.hid (HJ_4.out.below hbd (Nat.le_refl _))
          have HZa_5 := Lib.hid (HZa_4.out.below hbd HZa_4.out.lt)
          have Ra_5 := Lib.hid (Ra_4.out.kept hbd)
          have HZb_5 := Lib.hid (HZb.out.below hbd HZb.out.lt)
          have Rb_5 := Lib.hid (Rb.out.kept hbd)
          clear Rb HZb Ra_4 HZa_4 HJ_4 HX_4 HB_4
          clear hbd
          have cHX0 := HX_5.out.cell 0
          have cHX1 := HX_5.out.cell 1
          have cHZa0 := HZa_5.out.cell 0
          have cHZa1 := HZa_5.out.cell 1
          have cHZa2 := HZa_5.out.cell 2
          have cHZb0 := HZb_5.out.cell 0
          have cHZb1 := HZb_5.out.cell 1
          have cHZb2 := HZb_5.out.cell 2
          simp only [List.getElem?_toArray, List.getElem?_cons_zero, List.getElem?_cons_succ] at cHX0 cHX1 cHZa0 cHZa1 cHZa2 cHZb0 cHZb1 cHZb2
          go_upto_region 13 with fail
          refine wp_region_late (fun w' => w'.cell? ⟨D, 1, none⟩ = some (.slice (some ⟨b, o, none⟩) N cT) ∧ w'.cell? ⟨Fa, 0, none⟩ = some (.string us) ∧ w'.cell? ⟨Fa, 1, none⟩ = some (.slice qaA qaN qac) ∧ w'.cell? ⟨Fa, 2, none⟩ = some (.string tx) ∧ w'.cell? ⟨Fb, 0, none⟩ = some (.string us) ∧ w'.cell? ⟨Fb, 1, none⟩ = some (.slice qbA qbN qbc) ∧ w'.cell? ⟨Fb, 2, none⟩ = some (.string tx)) 12 (by kernel_rfl) ?_
          rw [HWH.out]
          refine wpLate_take (i := 0) (v := ?v0cc) rfl (by kernel_rfl) (by kernel_rfl) (by kernel_rfl) (by kernel_rfl) (by kernel_rfl) (fun _ _ _ h => h) ⟨cHX1, cHZa0, cHZa1, cHZa2, cHZb0, cHZb1, cHZb2⟩ (by rfl) ?hy0cc ?r0cc
          case hy0cc =>
            rintro wz ⟨z0, z1, z2, z3, z4, z5, z6⟩
            go_simp
            try with_reducible rfl
          try simp only [Act.put]
          refine wpLate_take (i := 2) (v := ?v2cc) rfl (by kernel_rfl) (by kernel_rfl) (by kernel_rfl) (by kernel_rfl) (by kernel_rfl) (fun _ _ _ h => h) ⟨cHX1, cHZa0, cHZa1, cHZa2, cHZb0, cHZb1, cHZb2⟩ (by rfl) ?hy2cc ?r2cc
          case hy2cc =>
            rintro wz ⟨z0, z1, z2, z3, z4, z5, z6⟩
            go_simp
            try with_reducible rfl
          try simp only [Act.put]
          refine wpLate_take (i := 3) (v := ?v3cc) rfl (by kernel_rfl) (by kernel_rfl) (by kernel_rfl) (by kernel_rfl) (by kernel_rfl) (fun _ _ _ h => h) ⟨cHX1, cHZa0, cHZa1, cHZa2, cHZb0, cHZb1, cHZb2⟩ (by rfl) ?hy3cc ?r3cc
          case hy3cc =>
            rintro wz ⟨z0, z1, z2, z3, z4, z5, z6⟩
            go_simp
            try with_reducible rfl
          try simp only [Act.put]
          refine wpLate_take (i := 4) (v := ?v4cc) rfl (by kernel_rfl) (by kernel_rfl) (by kernel_rfl) (by kernel_rfl) (by kernel_rfl) (fun _ _ _ h => h) ⟨cHX1, cHZa0, cHZa1, cHZa2, cHZb0, cHZb1, cHZb2⟩ (by rfl) ?hy4cc ?r4cc
          case hy4cc =>
            rintro wz ⟨z0, z1, z2, z3, z4, z5, z6⟩
            go_simp
            try with_reducible rfl
          try simp only [Act.put]
          refine wpLate_take (i := 5) (v := ?v5cc) rfl (by kernel_rfl) (by kernel_rfl) (by kernel_rfl) (by kernel_rfl) (by kernel_rfl) (fun _ _ _ h => h) ⟨cHX1, cHZa0, cHZa1, cHZa2, cHZb0, cHZb1, cHZb2⟩ (by rfl) ?hy5cc ?r5cc
          case hy5cc =>
            rintro wz ⟨z0, z1, z2, z3, z4, z5, z6⟩
            go_simp
            try with_reducible rfl
          try simp only [Act.put]
          refine wpLate_one (i := 1) (by kernel_rfl) rfl (fun K hK => ?_)
          go_simp
          refine (ilet_at HLESS.out wh (SIn.made Ra_5.out HL1.out HSY1.out) (by have := HUS.out; omega)).mono ?_
          rintro e wi ⟨rfl, hb⟩
          clear cHX0 cHX1 cHZa0 cHZa1 cHZa2 cHZb0 cHZb1 cHZb2
          have HB_6 := Lib.hid (HB_5.out.trans (hb.mono HB_5.out.size))
          have HX_6 := Lib.hid (HX_5.out.below hb HX_5.out.lt)
          have HJ_6 := Lib.hid (HJ_5.out.below hb (Nat.le_refl _))
          have HZa_6 := Lib.hid (HZa_5.out.below hb HZa_5.out.lt)
          have Ra_6 := Lib.hid (Ra_5.out.kept hb)
          have HZb_6 := Lib.hid (HZb_5.out.below hb HZb_5.out.lt)
          have Rb_6 := Lib.hid (Rb_5.out.kept hb)
          clear Rb_5 HZb_5 Ra_5 HZa_5 HJ_5 HX_5 HB_5
          clear hb
          have cHX0 := HX_6.out.cell 0
          have cHX1 := HX_6.out.cell 1
          have cHZa0 := HZa_6.out.cell 0
          have cHZa1 := HZa_6.out.cell 1
          have cHZa2 := HZa_6.out.cell 2
          have cHZb0 := HZb_6.out.cell 0
          have cHZb1 := HZb_6.out.cell 1
          have cHZb2 := HZb_6.out.cell 2
          simp only [List.getElem?_toArray, List.getElem?_cons_zero, List.getElem?_cons_succ] at cHX0 cHX1 cHZa0 cHZa1 cHZa2 cHZb0 cHZb1 cHZb2
          refine hK.out _ _ (fun _ => ⟨cHX1, cHZa0, cHZa1, cHZa2, cHZb0, cHZb1, cHZb2⟩) ?_
          clear hK K
          try simp only [Act.put]
          refine wpLate_take (i := 6) (v := ?v6cc) rfl (by kernel_rfl) (by kernel_rfl) (by kernel_rfl) (by kernel_rfl) (by kernel_rfl) (fun _ _ _ h => h) ⟨cHX1, cHZa0, cHZa1, cHZa2, cHZb0, cHZb1, cHZb2⟩ (by rfl) ?hy6cc ?r6cc
          case hy6cc =>
            rintro wz ⟨z0, z1, z2, z3, z4, z5, z6⟩
            go_simp
            try with_reducible rfl
          try simp only [Act.put]
          refine wpLate_take (i := 7) (v := ?v7cc) rfl (by kernel_rfl) (by kernel_rfl) (by kernel_rfl) (by kernel_rfl) (by kernel_rfl) (fun _ _ _ h => h) ⟨cHX1, cHZa0, cHZa1, cHZa2, cHZb0, cHZb1, cHZb2⟩ (by rfl) ?hy7cc ?r7cc
          case hy7cc =>
            rintro wz ⟨z0, z1, z2, z3, z4, z5, z6⟩
            go_simp
            try with_reducible rfl
          try simp only [Act.put]
          refine wpLate_take (i := 8) (v := ?v8cc) rfl (by kernel_rfl) (by kernel_rfl) (by kernel_rfl) (by kernel_rfl) (by kernel_rfl) (fun _ _ _ h => h) ⟨cHX1, cHZa0, cHZa1, cHZa2, cHZb0, cHZb1, cHZb2⟩ (by go_simp) ?hy8cc ?r8cc
          case hy8cc =>
            rintro wz ⟨z0, z1, z2, z3, z4, z5, z6⟩
            go_simp
            try with_reducible rfl
          try simp only [Act.put]
          refine wpLate_one (i := 9) (by kernel_rfl) rfl (fun K hK => ?_)
          go_simp
          refine (ilet_at HMORE.out wi (SIn.made Rb_6.out HL2.out HSY2.out) (by have := HUS.out; omega)).mono ?_
          rintro e wj ⟨rfl, hb⟩
          clear cHX0 cHX1 cHZa0 cHZa1 cHZa2 cHZb0 cHZb1 cHZb2
          have HB_7 := Lib.hid (HB_6.out.trans (hb.mono HB_6.out.size))
          have HX_7 := Lib.hid (HX_6.out.below hb HX_6.out.lt)
          have HJ_7 := Lib.hid (HJ_6.out.below hb (Nat.le_refl _))
          have HZa_7 := Lib.hid (HZa_6.out.below hb HZa_6.out.lt)
          have Ra_7 := Lib.hid (Ra_6.out.kept hb)
          have HZb_7 := Lib.hid (HZb_6.out.below hb HZb_6.out.lt)
          have Rb_7 := Lib.hid (Rb_6.out.kept hb)
          clear Rb_6 HZb_6 Ra_6 HZa_6 HJ_6 HX_6 HB_6
          clear hb
          have cHX0 := HX_7.out.cell 0
          have cHX1 := HX_7.out.cell 1
          have cHZa0 := HZa_7.out.cell 0
          have cHZa1 := HZa_7.out.cell 1
          have cHZa2 := HZa_7.out.cell 2
          have cHZb0 := HZb_7.out.cell 0
          have cHZb1 := HZb_7.out.cell 1
          have cHZb2 := HZb_7.out.cell 2
          simp only [List.getElem?_toArray, List.getElem?_cons_zero, List.getElem?_cons_succ] at cHX0 cHX1 cHZa0 cHZa1 cHZa2 cHZb0 cHZb1 cHZb2
          refine hK.out _ _ (fun _ => ⟨cHX1, cHZa0, cHZa1, cHZa2, cHZb0, cHZb1, cHZb2⟩) ?_
          clear hK K
          try simp only [Act.put]
          refine wpLate_take (i := 10) (v := ?v10cc) rfl (by kernel_rfl) (by kernel_rfl) (by kernel_rfl) (by kernel_rfl) (by kernel_rfl) (fun _ _ _ h => h) ⟨cHX1, cHZa0, cHZa1, cHZa2, cHZb0, cHZb1, cHZb2⟩ (by go_simp) ?hy10cc ?r10cc
          case hy10cc =>
            rintro wz ⟨z0, z1, z2, z3, z4, z5, z6⟩
            go_simp
            try with_reducible rfl
          try simp only [Act.put]
          refine wpLate_take (i := 11) (v := ?v11cc) rfl (by kernel_rfl) (by kernel_rfl) (by kernel_rfl) (by kernel_rfl) (by kernel_rfl) (fun _ _ _ h => h) ⟨cHX1, cHZa0, cHZa1, cHZa2, cHZb0, cHZb1, cHZb2⟩ (by rfl) ?hy11cc ?r11cc
          case hy11cc =>
            rintro wz ⟨z0, z1, z2, z3, z4, z5, z6⟩
            go_simp
            try with_reducible rfl
          try simp only [Act.put]
          refine wpLate_one (i := 12) (by kernel_rfl) rfl (fun K hK => ?_)
          go_simp
          refine hK.out _ _ (fun h => absurd rfl h) ?_
          clear hK K
          try simp only [Act.put]
          refine wpLate_done (by kernel_rfl) ?_ _
          go_wp2
          go_ret
          exact ⟨rfl, HB_7.out⟩
    · have hlenK : (1048576 : Int) < (len1 : Int) := by omega
      go_enter Try.func3, Try.ntmps3
      go_wp2
      go_ret
      exact ⟨rfl, Below.refl _ _⟩
  · have hlenI : (1048576 : Int) < (len : Int) := by omega
    go_enter Try.func3, Try.ntmps3
    go_wp2
    go_ret
    exact ⟨rfl, Below.refl _ _⟩
end Go.Proofs.Ytinbdibenbplnaa
