/-
  The walks of the laws FnQueuePart. Condition: the code can be read.
-/
import Derived.Test.YtinbdibenbplnaaJr
import Derived.BigQuiet
namespace Go.Proofs.Ytinbdibenbplnaa
open Go.RowKit
set_option linter.unusedVariables false

theorem step_app_sl {α : Type} {P : Program} {ops : Array Oper} {o : Oper} {a : Act} {K : Act → World → Prop} {Q : Exit → Act → World → Prop} {E : Prop} {w : World} (hg : o.guard = none) (s x : Operand) (t : TypeId)
    (ho : o.op = .call { callee := .builtin .append, args := #[s, x], argTypes := #[t, t] })
    (R : RowT α) (base : Nat) (i : TypeInfo) (z : Value) (bytes : Nat) (ht : P.underlying t = some (.slice R.t)) (hi : P.info? R.t = some i) (hz : i.zero = some z)
    (hsize : i.size = R.sz) (hby : i.bytes = bytes) (hzs : z.cells.size = R.sz) (hsz : 0 < R.sz)
    (v : Value) (L M : List α) (n : Nat) (hn : L.length = n) (hs : a.eval s = v) (hown : ROwn R w base v L)
    (A : Option Addr) (m c : Nat) (hx : a.eval x = .slice A m c) (hm : M.length = m) (hat : RAt R w A M) (hA : A = none → c = 0) (hsp : ∀ q, A = some q → q.spot = none)
    (h63 : n + m ≤ maxLen) (hbytes : (n + m) * bytes ≤ 140737488355328) (hbase : base ≤ w.heap.size)
    (h : ∀ A' N' c' w', ROwn R w' base (.slice A' N' c') (L ++ M) → w.grownBy w' v.ownBlock → K (a.put o.dst (.slice A' N' c')) w') :
    if Region.wanted o (yielded ops a.tmps) = true then Oper.wp P o a w K Q else E := by
  refine step_append_rows hg s x t ho R base i z bytes ht hi hz hsize hby hzs hsz v L M n hn hs hown A m c hx hm hat hA hsp h63 hbytes hbase ?_
  intro v' w' h1 h2 _
  obtain ⟨A', N', c', rfl⟩ := h1.val
  exact h A' N' c' w' h1 h2
theorem name_nat {p : Prop} (n : Nat) (h : ∀ z, n = z → p) : p := h n rfl
theorem name_wd {p : Prop} (n : World) (h : ∀ z, n = z → p) : p := h n rfl
theorem QIn.takeP {w : World} {A : Option Addr} {N cap r : Nat} {L : List QI} (h : QIn w A N cap L) (hr : r ≤ N) : QIn w A r cap (L.take r) := ⟨by rw [List.length_take, h.1]; omega, by have := h.2.1; omega, h.2.2.1.take r, h.2.2.2.1, h.2.2.2.2.1, fun g hg => h.2.2.2.2.2 g (List.mem_of_mem_take hg)⟩
theorem QIn.cutP {w : World} {b o N cap r : Nat} {L : List QI} (h : QIn w (some ⟨b, o, none⟩) N cap L) : QIn w (some ⟨b, o + r * 4, none⟩) (N - r) (cap - r) (L.drop r) := ⟨by rw [List.length_drop, h.1], by have := h.2.1; omega, h.2.2.1.drop r, (fun e => by cases e), (fun q e => by cases e; rfl), fun g hg => h.2.2.2.2.2 g (List.mem_of_mem_drop hg)⟩
theorem QIn.cutE {w : World} {b o N cap : Nat} {L : List QI} (h : QIn w (some ⟨b, o, none⟩) N cap L) : QIn w (some ⟨b, o, none⟩) 0 0 (L.drop N) := by
  refine ⟨by rw [List.length_drop, h.1]; omega, by omega, ?_, (fun e => by cases e), (fun q e => by cases e; rfl), fun g hg => h.2.2.2.2.2 g (List.mem_of_mem_drop hg)⟩
  rw [← h.1, List.drop_length]
  exact RAt.nil w _
theorem QIn.part {w : World} {A A' : Option Addr} {N cap N' c' B : Nat} {L M : List QI} (h : QIn w A N cap L) (ho : ROwn qiR w B (.slice A' N' c') M) (hl : M.length ≤ 4194304) (hm : ∀ g ∈ M, g ∈ L) : QIn w A' N' c' M := ⟨ho.len.1.symm, ho.len.1 ▸ hl, ho.at, ho.nilcap, ho.spot, fun g hg => h.2.2.2.2.2 g (hm g hg)⟩
theorem qpart_less {n : Int} {L : List QI} (h : vQ n L = true) (k : Nat) : vQ n (L.take k ++ L.drop (k + 1)) = true := by
  rw [← List.eraseIdx_eq_take_drop_succ]
  have hs := List.eraseIdx_sublist L k
  obtain ⟨h1, h2, h3, h4⟩ := vQ_parts h
  obtain ⟨h5, h6⟩ := okQ_asc h3
  have h7 := (okQ_le h3).2
  have hn := vQ_low h
  exact vQ_mk (Nat.le_trans hs.length_le h1) h2 (okQ_mk (List.Pairwise.sublist hs h5) (fun x hx => h6 x (hs.subset hx))) (lastQ_lt (by omega) (fun x hx => by have := h7 x (hs.subset hx); omega))
theorem qpart_more {n : Int} {L : List QI} {k : Nat} (hk : k < L.length) : vQ n (L.take (k + 1) ++ L.drop k) = false := by
  cases hb : vQ n (L.take (k + 1) ++ L.drop k) with
  | false => rfl
  | true =>
    have h7 := (okQ_asc (vQ_parts hb).2.2.1).1
    have h8 := (List.pairwise_append.1 h7).2.2 L[k] (by rw [List.take_add_one, List.getElem?_eq_getElem hk]; exact List.mem_append_right _ (List.mem_singleton.2 rfl)) L[k] (by rw [List.drop_eq_getElem_cons hk]; exact List.mem_cons_self)
    exact absurd h8 (by omega)
set_option maxRecDepth 20000 in
set_option maxHeartbeats 400000000 in
theorem law_FnQueuePart (A0 : Option Addr) (len cap0 : Nat) (A1 : Option Addr) (len1 cap1 : Nat) (w : World) (h : Coded w A0 len cap0) (h0 : Coded w A1 len1 cap1) : Calls Try.prog 14 #[.slice A0 len cap0, .slice A1 len1 cap1] w (Holds1 w) := by
  have HC := Lib.hid h
  clear h h0
  by_cases hlen : len ≤ 1048576
  · have hlenI : (len : Int) ≤ 1048576 := by omega
    by_cases hlen1 : len1 ≤ 1048576
    · have hlenK : (len1 : Int) ≤ 1048576 := by omega
      go_enter Try.func14, Try.ntmps14
      go_wp2_with fail
      refine (draw_qvalid A0 len cap0 w HC.out).mono ?_
      rintro e w1 ⟨n, A, N, cT, L, rfl, ho, hs, hl, hb⟩
      have hN8 : N ≤ 8 := by have := ho.1.len.1; omega
      have hNc : N ≤ cT := ho.1.len.2.1
      have HNL := Lib.hid ho.1.len.1
      obtain ⟨D, hD⟩ : ∃ D, w1.heap.size = D := ⟨_, rfl⟩
      obtain ⟨w2, hw2⟩ : ∃ w2, w1.alloc (.cells #[.int .i64 n, .slice A N cT] 31) = w2 := ⟨_, rfl⟩
      have hb2 : Below w1.heap.size w1 w2 := by rw [← hw2]; exact below_new _ _
      have HB := Lib.hid (hb.trans (hb2.mono hb.size))
      have HX := Lib.hid (show Whole w2 D 31 #[.int .i64 n, .slice A N cT] by rw [← hw2, ← hD]; exact Whole.made _ _ _)
      have HJ := Lib.hid ((ho.qinS hs (by omega)).below hb2 (Nat.le_refl _))
      clear ho hb hb2 hs
      obtain ⟨z, hv⟩ : ∃ z, vQ n L = z := ⟨_, rfl⟩
      have HV := Lib.hid hv
      have cHX0 := HX.out.cell 0
      have cHX1 := HX.out.cell 1
      simp only [List.getElem?_toArray, List.getElem?_cons_zero, List.getElem?_cons_succ] at cHX0 cHX1
      go_wp2_with fail
      refine (iqv_at HV.out w2 HJ.out).mono ?_
      rintro e w3 ⟨rfl, hb⟩
      clear cHX0 cHX1
      have HB_1 := Lib.hid (HB.out.trans (hb.mono HB.out.size))
      have HX_1 := Lib.hid (HX.out.below hb HX.out.lt)
      have HJ_1 := Lib.hid (HJ.out.below hb (Nat.le_refl _))
      clear HJ HX HB
      clear hb
      have cHX0 := HX_1.out.cell 0
      have cHX1 := HX_1.out.cell 1
      simp only [List.getElem?_toArray, List.getElem?_cons_zero, List.getElem?_cons_succ] at cHX0 cHX1
      go_wp2_with fail
      refine (sqv_at HV.out w3 HJ_1.out).mono ?_
      rintro e wv ⟨rfl, hb⟩
      clear cHX0 cHX1
      have HB_2 := Lib.hid (HB_1.out.trans (hb.mono HB_1.out.size))
      have HX_2 := Lib.hid (HX_1.out.below hb HX_1.out.lt)
      have HJ_2 := Lib.hid (HJ_1.out.below hb (Nat.le_refl _))
      clear HJ_1 HX_1 HB_1
      clear hb
      have cHX0 := HX_2.out.cell 0
      have cHX1 := HX_2.out.cell 1
      simp only [List.getElem?_toArray, List.getElem?_cons_zero, List.getElem?_cons_succ] at cHX0 cHX1
      cases z with
      | false =>
        clear hv
        go_wp2
        go_ret
        exact ⟨rfl, HB_2.out⟩
      | true =>
        by_cases hN1 : N = 0
        · have hN00 : (N : Int) = 0 := by omega
          have hN01 : ((N : Int) == 0) = true := beq_iff_eq.2 hN00
          subst hN1
          clear hv
          go_wp2
          go_ret
          exact ⟨rfl, HB_2.out⟩
        have hNz : ¬ (N : Int) = 0 := by omega
        have hNz2 : ((N : Int) == 0) = false := beq_eq_false_iff_ne.2 (by omega)
        obtain ⟨r, hr⟩ : ∃ r, len1 % N = r := ⟨_, rfl⟩
        have hrN : r < N := hr ▸ Nat.mod_lt _ (by omega)
        have R1 : (len1 : Int).tmod (N : Int) = (r : Int) := by rw [Int.tmod_eq_emod_of_nonneg (by omega), ← hr]; omega
        have R2 : (len1 : Int) % (N : Int) = (r : Int) := by rw [← hr]; omega
        have WR : IntKind.i64.wrap (r : Int) = (r : Int) := IntWalk.i64_in _ (by omega)
        obtain ⟨x, hx⟩ : ∃ x, L[r]? = some x := ⟨_, List.getElem?_eq_getElem (by rw [← HNL.out]; exact hrN)⟩
        obtain ⟨b, o, rfl, _, _⟩ := qi_at HJ_2.out.2.2.1 hx
        have HLESS := Lib.hid (qpart_less HV.out r)
        have HMORE := Lib.hid (qpart_more (n := n) (L := L) (k := r) (by rw [← HNL.out]; exact hrN))
        obtain ⟨r1, hr1⟩ : ∃ q, r + 1 = q := ⟨_, rfl⟩
        rw [hr1] at HLESS HMORE
        have E3 : (r : Int) + 1 = (r1 : Int) := by omega
        have W3 : IntKind.i64.wrap ((r : Int) + 1) = (r1 : Int) := (IntWalk.i64_in _ (by omega)).trans E3
        have W4 : IntKind.i64.wrap (r1 : Int) = (r1 : Int) := IntWalk.i64_in _ (by omega)
        have i00 : (0 : Int) ≤ (r : Int) := by omega
        have i1 : (r : Int) ≤ (N : Int) := by omega
        have i2 : (r : Int) ≤ (cT : Int) := by omega
        have i3 : (0 : Int) ≤ (r1 : Int) := by omega
        have i4 : (r1 : Int) ≤ (N : Int) := by omega
        have i5 : (r1 : Int) ≤ (cT : Int) := by omega
        have i6 : ¬ cT = 0 := by omega
        have i7 : ¬ cT = r := by omega
        have i8 : ¬ cT - r = 0 := by omega
        obtain ⟨i0, hi0, hq0, hq1, hq2⟩ := info_parts Try.infoItem
        clear hr hx hv
        by_cases hce : cT = r1
        · have e0 : N = r1 := by omega
          subst hce
          subst e0
          have e1 : N - N = 0 := Nat.sub_self _
          clear cHX0 cHX1
          have cHX0 := HX_2.out.cell 0
          have cHX1 := HX_2.out.cell 1
          simp only [List.getElem?_toArray, List.getElem?_cons_zero, List.getElem?_cons_succ] at cHX0 cHX1
          go_upto_region 9 with fail
          go_cut [9] (fun s1 wxa => ∃ (F : Nat) (A' : Option Addr) (N' c' : Nat), s1 = .pointer (some ⟨F, 0, none⟩) ∧ Hid (Below wv.heap.size wv wxa) ∧ Hid (Whole wxa F 31 #[.int .i64 n, .slice A' N' c']) ∧ Hid (ROwn qiR wxa wv.heap.size (.slice A' N' c') (L.take r ++ (L.drop N))))
          case first =>
            have CS : ∀ wx, Below wv.heap.size wv wx → (fun w' => w'.cell? ⟨D, 0, none⟩ = some (.int .i64 n) ∧ w'.cell? ⟨D, 1, none⟩ = some (.slice (some ⟨b, o, none⟩) N N)) wx := fun wx hbx => ⟨(hbx.cell (p := ⟨D, 0, none⟩) HX_2.out.lt).trans cHX0, (hbx.cell (p := ⟨D, 1, none⟩) HX_2.out.lt).trans cHX1⟩
            have HBR := Lib.hid (below_drew1 wv)
            have HQ0 := Lib.hid HJ_2.out
            have hcd := CS _ HBR.out
            have HTK : Hid ((L.take r).length = r) := Lib.hid (by rw [List.length_take, HQ0.out.1]; omega)
            clear cHX0 cHX1
            refine wp_region_late (fun w' => w'.cell? ⟨D, 0, none⟩ = some (.int .i64 n) ∧ w'.cell? ⟨D, 1, none⟩ = some (.slice (some ⟨b, o, none⟩) N N)) 16 (by kernel_rfl) ?_
            revert HBR hcd
            generalize wv.drew = wd
            intro HBR hcd
            refine wpLate_take (i := 0) (v := ?v0aE) rfl (by kernel_rfl) (by kernel_rfl) (by kernel_rfl) (by kernel_rfl) (by kernel_rfl) (fun _ _ _ h => h) hcd (by rfl) ?hy0aE ?r0aE
            case hy0aE =>
              rintro wz ⟨z0, z1⟩
              go_simp
              try with_reducible rfl
            try simp only [Act.put]
            refine wpLate_take (i := 1) (v := ?v1aE) rfl (by kernel_rfl) (by kernel_rfl) (by kernel_rfl) (by kernel_rfl) (by kernel_rfl) (fun _ _ _ h => h) hcd (by rfl) ?hy1aE ?r1aE
            case hy1aE =>
              rintro wz ⟨z0, z1⟩
              go_simp
              try with_reducible rfl
            try simp only [Act.put]
            refine wpLate_take (i := 3) (v := ?v3aE) rfl (by kernel_rfl) (by kernel_rfl) (by kernel_rfl) (by kernel_rfl) (by kernel_rfl) (fun _ _ _ h => h) hcd (by rfl) ?hy3aE ?r3aE
            case hy3aE =>
              rintro wz ⟨z0, z1⟩
              go_simp
              try with_reducible rfl
            try simp only [Act.put]
            refine wpLate_take (i := 4) (v := ?v4aE) rfl (by kernel_rfl) (by kernel_rfl) (by kernel_rfl) (by kernel_rfl) (by kernel_rfl) (fun _ _ _ h => h) hcd (by rfl) ?hy4aE ?r4aE
            case hy4aE =>
              rintro wz ⟨z0, z1⟩
              go_simp
              try with_reducible rfl
            try simp only [Act.put]
            refine wpLate_take (i := 5) (v := ?v5aE) rfl (by kernel_rfl) (by kernel_rfl) (by kernel_rfl) (by kernel_rfl) (by kernel_rfl) (fun _ _ _ h => h) hcd (by rfl) ?hy5aE ?r5aE
            case hy5aE =>
              rintro wz ⟨z0, z1⟩
              go_simp
              try with_reducible rfl
            try simp only [Act.put]
            refine wpLate_take (i := 6) (v := ?v6aE) rfl (by kernel_rfl) (by kernel_rfl) (by kernel_rfl) (by kernel_rfl) (by kernel_rfl) (fun _ _ _ h => h) hcd (by rfl) ?hy6aE ?r6aE
            case hy6aE =>
              rintro wz ⟨z0, z1⟩
              go_simp
              try with_reducible rfl
            try simp only [Act.put]
            refine wpLate_take (i := 8) (v := ?v8aE) rfl (by kernel_rfl) (by kernel_rfl) (by kernel_rfl) (by kernel_rfl) (by kernel_rfl) (fun _ _ _ h => h) hcd (by rfl) ?hy8aE ?r8aE
            case hy8aE =>
              rintro wz ⟨z0, z1⟩
              go_simp
              try with_reducible rfl
            try simp only [Act.put]
            refine wpLate_take (i := 9) (v := ?v9aE) rfl (by kernel_rfl) (by kernel_rfl) (by kernel_rfl) (by kernel_rfl) (by kernel_rfl) (fun _ _ _ h => h) hcd (by rfl) ?hy9aE ?r9aE
            case hy9aE =>
              rintro wz ⟨z0, z1⟩
              go_simp
              try with_reducible rfl
            try simp only [Act.put]
            refine wpLate_take (i := 10) (v := ?v10aE) rfl (by kernel_rfl) (by kernel_rfl) (by kernel_rfl) (by kernel_rfl) (by kernel_rfl) (fun _ _ _ h => h) hcd (by rfl) ?hy10aE ?r10aE
            case hy10aE =>
              rintro wz ⟨z0, z1⟩
              go_simp
              try with_reducible rfl
            try simp only [Act.put]
            refine wpLate_take (i := 11) (v := ?v11aE) rfl (by kernel_rfl) (by kernel_rfl) (by kernel_rfl) (by kernel_rfl) (by kernel_rfl) (fun _ _ _ h => h) hcd (by rfl) ?hy11aE ?r11aE
            case hy11aE =>
              rintro wz ⟨z0, z1⟩
              go_simp
              try with_reducible rfl
            try simp only [Act.put]
            refine wpLate_take (i := 12) (v := ?v12aE) rfl (by kernel_rfl) (by kernel_rfl) (by kernel_rfl) (by kernel_rfl) (by kernel_rfl) (fun _ _ _ h => h) hcd (by rfl) ?hy12aE ?r12aE
            case hy12aE =>
              rintro wz ⟨z0, z1⟩
              go_simp
              try with_reducible rfl
            try simp only [Act.put]
            refine wpLate_two (i := 2) (k := 15) (by kernel_rfl) rfl rfl (fun K hK => ?xaE) (fun K hK => ?yaE)
            case xaE =>
              refine name_nat wd.heap.size (fun S1 hS1 => ?_)
              refine name_wd (wd.alloc (.cells #[] 38)) (fun v2b hv2b => ?_)
              have hbc : Below wd.heap.size wd v2b := by rw [← hv2b]; exact below_new _ _
              have HR0 := Lib.hid (show ROwn qiR v2b wv.heap.size (.slice (some ⟨S1, 0, none⟩) 0 0) [] by rw [← hv2b]; exact ROwn.lit wd S1 HBR.out.size hS1)
              have HBR_3 := Lib.hid (HBR.out.trans (hbc.mono HBR.out.size))
              clear HBR
              clear hbc
              go_simp
              refine hK.out _ _ (fun _ => (CS _ HBR_3.out)) ?_
              clear hK K
              try simp only [Act.put]
              refine wpLate_two (i := 7) (k := 15) (by kernel_rfl) rfl rfl (fun K hK => ?xaEa) (fun K hK => ?yaEa)
              case xaEa =>
                have HM := Lib.hid ((QIn.takeP HQ0.out (show r ≤ N by omega)).below HBR_3.out (Nat.le_refl _))
                refine step_app_sl rfl (.tmp 49) (.tmp 53) 29 rfl qiR wv.heap.size i0 _ 64 Try.underlying29 hi0 hq0 hq1 hq2 rfl (by decide) _ ([]) (L.take r) 0 rfl rfl HR0.out (some ⟨b, o, none⟩) (r) (N) rfl HM.out.1 HM.out.2.2.1 HM.out.2.2.2.1 HM.out.2.2.2.2.1 (by unfold maxLen; omega) (by omega) HBR_3.out.size ?_
                intro A4 N4 c4 v3p hof hgf
                rw [List.nil_append] at hof
                have HR_4 := Lib.hid hof
                have HBR_4 : Hid (Below wv.heap.size wv v3p) := Lib.hid (HBR_3.out.grown hgf HBR_3.out.size (fun z e => (World.ownsRow.lt HR0.out z e).1))
                clear hof hgf HM HR0 HBR_3
                refine hK.out _ _ (fun _ => (CS _ HBR_4.out)) ?_
                clear hK K
                try simp only [Act.put]
                refine wpLate_two (i := 13) (k := 15) (by kernel_rfl) rfl rfl (fun K hK => ?xaEaa) (fun K hK => ?yaEaa)
                case xaEaa =>
                  have HM := Lib.hid ((QIn.cutE HQ0.out).below HBR_4.out (Nat.le_refl _))
                  refine step_app_sl rfl (.tmp 54) (.tmp 59) 29 rfl qiR wv.heap.size i0 _ 64 Try.underlying29 hi0 hq0 hq1 hq2 rfl (by decide) _ (L.take r) (L.drop N) r HTK.out rfl HR_4.out (some ⟨b, o, none⟩) (0) (0) rfl HM.out.1 HM.out.2.2.1 HM.out.2.2.2.1 HM.out.2.2.2.2.1 (by unfold maxLen; omega) (by omega) HBR_4.out.size ?_
                  intro A5 N5 c5 v4p hof hgf
                  have HR_5 := Lib.hid hof
                  have HBR_5 : Hid (Below wv.heap.size wv v4p) := Lib.hid (HBR_4.out.grown hgf HBR_4.out.size (fun z e => (World.ownsRow.lt HR_4.out z e).1))
                  clear hof hgf HM HR_4 HBR_4
                  refine hK.out _ _ (fun _ => (CS _ HBR_5.out)) ?_
                  clear hK K
                  try simp only [Act.put]
                  refine wpLate_take (i := 14) (v := ?v14aEaEaaa) rfl (by kernel_rfl) (by kernel_rfl) (by kernel_rfl) (by kernel_rfl) (by kernel_rfl) (fun _ _ _ h => h) (CS _ HBR_5.out) (by rfl) ?hy14aEaEaaa ?r14aEaEaaa
                  case hy14aEaEaaa =>
                    rintro wz ⟨z0, z1⟩
                    go_simp
                    try with_reducible rfl
                  try simp only [Act.put]
                  refine wpLate_one (i := 15) (by kernel_rfl) rfl (fun K hK => ?_)
                  refine name_nat v4p.heap.size (fun F hF => ?_)
                  refine name_wd (v4p.alloc (.cells #[.int .i64 0, .slice none 0 0] 31)) (fun v5c hv5c => ?_)
                  have HFL : Hid (wv.heap.size ≤ F) := Lib.hid (by rw [← hF]; exact HBR_5.out.size)
                  have hbc : Below v4p.heap.size v4p v5c := by rw [← hv5c]; exact below_newq v4p _ _
                  have HFN := Lib.hid (show Whole v5c F 31 #[.int .i64 0, .slice none 0 0] by rw [← hv5c, ← hF]; exact Whole.made _ _ _)
                  have HBR_6 := Lib.hid (HBR_5.out.trans (hbc.mono HBR_5.out.size))
                  have HR_6 := Lib.hid (HR_5.out.kept hbc)
                  clear HR_5 HBR_5
                  clear hbc
                  go_simp
                  refine hK.out _ _ (fun _ => (CS _ HBR_6.out)) ?_
                  clear hK K
                  try simp only [Act.put]
                  have HBs := Lib.hid (show Below wv.heap.size wv ((v5c.setCell ⟨F, 0, none⟩ (.int .i64 n)).setCell ⟨F, 1, none⟩ (.slice A5 N5 c5)) from ((HBR_6.out.setCell (p := ⟨F, 0, none⟩) HFL.out _).setCell (p := ⟨F, 1, none⟩) HFL.out _))
                  have HFs : Hid (Whole ((v5c.setCell ⟨F, 0, none⟩ (.int .i64 n)).setCell ⟨F, 1, none⟩ (.slice A5 N5 c5)) F 31 #[.int .i64 n, .slice A5 N5 c5]) := Lib.hid ((HFN.out.store 0 _).store 1 _)
                  have HIs : Hid (ROwn qiR ((v5c.setCell ⟨F, 0, none⟩ (.int .i64 n)).setCell ⟨F, 1, none⟩ (.slice A5 N5 c5)) wv.heap.size (.slice A5 N5 c5) (L.take r ++ (L.drop N))) := Lib.hid ((HR_6.out.store (p := ⟨F, 0, none⟩) (HR_6.out.whole HFN.out (by decide)) _).store (p := ⟨F, 1, none⟩) (HR_6.out.whole HFN.out (by decide)) _)
                  have f0 := HFN.out.cell 0
                  have f1 := HFN.out.cell 1
                  have j0 := HFN.out.free 0
                  have j1 := HFN.out.free 1
                  simp only [List.getElem?_toArray, List.getElem?_cons_zero, List.getElem?_cons_succ] at f0 f1
                  refine wpLate_one (i := 16) (by kernel_rfl) rfl (fun K hK => ?_)
                  go_simp
                  refine hK.out _ _ (fun h => absurd rfl h) ?_
                  clear hK K
                  try simp only [Act.put]
                  refine wpLate_done (by kernel_rfl) ?_ _
                  go_wp2_with fail
                  go_meet
                  case rel => exact ⟨F, A5, N5, c5, rfl, HBs, HFs, HIs⟩
                case yaEaa =>
                  refine name_nat v3p.heap.size (fun F hF => ?_)
                  refine name_wd (v3p.alloc (.cells #[.int .i64 0, .slice none 0 0] 31)) (fun v4c hv4c => ?_)
                  have HFL : Hid (wv.heap.size ≤ F) := Lib.hid (by rw [← hF]; exact HBR_4.out.size)
                  have hbc : Below v3p.heap.size v3p v4c := by rw [← hv4c]; exact below_newq v3p _ _
                  have HFN := Lib.hid (show Whole v4c F 31 #[.int .i64 0, .slice none 0 0] by rw [← hv4c, ← hF]; exact Whole.made _ _ _)
                  have HBR_5 := Lib.hid (HBR_4.out.trans (hbc.mono HBR_4.out.size))
                  have HR_5 := Lib.hid (HR_4.out.kept hbc)
                  clear HR_4 HBR_4
                  clear hbc
                  go_simp
                  refine hK.out _ _ (fun _ => (CS _ HBR_5.out)) ?_
                  clear hK K
                  try simp only [Act.put]
                  refine wpLate_one (i := 13) (by kernel_rfl) rfl (fun K hK => ?_)
                  have HM := Lib.hid ((QIn.cutE HQ0.out).below HBR_5.out (Nat.le_refl _))
                  refine step_app_sl rfl (.tmp 54) (.tmp 59) 29 rfl qiR wv.heap.size i0 _ 64 Try.underlying29 hi0 hq0 hq1 hq2 rfl (by decide) _ (L.take r) (L.drop N) r HTK.out rfl HR_5.out (some ⟨b, o, none⟩) (0) (0) rfl HM.out.1 HM.out.2.2.1 HM.out.2.2.2.1 HM.out.2.2.2.2.1 (by unfold maxLen; omega) (by omega) HBR_5.out.size ?_
                  intro A6 N6 c6 v5p hof hgf
                  have HR_6 := Lib.hid hof
                  have HBR_6 : Hid (Below wv.heap.size wv v5p) := Lib.hid (HBR_5.out.grown hgf HBR_5.out.size (fun z e => (World.ownsRow.lt HR_5.out z e).1))
                  have HF_6 := Lib.hid (HFN.out.grown hgf (fun e => (HR_5.out.whole HFN.out (by decide)) e.symm))
                  clear hof hgf HM HFN HR_5 HBR_5
                  refine hK.out _ _ (fun _ => (CS _ HBR_6.out)) ?_
                  clear hK K
                  try simp only [Act.put]
                  refine wpLate_take (i := 14) (v := ?v14aEaEaabo) rfl (by kernel_rfl) (by kernel_rfl) (by kernel_rfl) (by kernel_rfl) (by kernel_rfl) (fun _ _ _ h => h) (CS _ HBR_6.out) (by rfl) ?hy14aEaEaabo ?r14aEaEaabo
                  case hy14aEaEaabo =>
                    rintro wz ⟨z0, z1⟩
                    go_simp
                    try with_reducible rfl
                  try simp only [Act.put]
                  have HBs := Lib.hid (show Below wv.heap.size wv ((v5p.setCell ⟨F, 0, none⟩ (.int .i64 n)).setCell ⟨F, 1, none⟩ (.slice A6 N6 c6)) from ((HBR_6.out.setCell (p := ⟨F, 0, none⟩) HFL.out _).setCell (p := ⟨F, 1, none⟩) HFL.out _))
                  have HFs : Hid (Whole ((v5p.setCell ⟨F, 0, none⟩ (.int .i64 n)).setCell ⟨F, 1, none⟩ (.slice A6 N6 c6)) F 31 #[.int .i64 n, .slice A6 N6 c6]) := Lib.hid ((HF_6.out.store 0 _).store 1 _)
                  have HIs : Hid (ROwn qiR ((v5p.setCell ⟨F, 0, none⟩ (.int .i64 n)).setCell ⟨F, 1, none⟩ (.slice A6 N6 c6)) wv.heap.size (.slice A6 N6 c6) (L.take r ++ (L.drop N))) := Lib.hid ((HR_6.out.store (p := ⟨F, 0, none⟩) (HR_6.out.whole HF_6.out (by decide)) _).store (p := ⟨F, 1, none⟩) (HR_6.out.whole HF_6.out (by decide)) _)
                  have f0 := HF_6.out.cell 0
                  have f1 := HF_6.out.cell 1
                  have j0 := HF_6.out.free 0
                  have j1 := HF_6.out.free 1
                  simp only [List.getElem?_toArray, List.getElem?_cons_zero, List.getElem?_cons_succ] at f0 f1
                  refine wpLate_one (i := 16) (by kernel_rfl) rfl (fun K hK => ?_)
                  go_simp
                  refine hK.out _ _ (fun h => absurd rfl h) ?_
                  clear hK K
                  try simp only [Act.put]
                  refine wpLate_done (by kernel_rfl) ?_ _
                  go_wp2_with fail
                  go_meet
                  case rel => exact ⟨F, A6, N6, c6, rfl, HBs, HFs, HIs⟩
              case yaEa =>
                refine name_nat v2b.heap.size (fun F hF => ?_)
                refine name_wd (v2b.alloc (.cells #[.int .i64 0, .slice none 0 0] 31)) (fun v3c hv3c => ?_)
                have HFL : Hid (wv.heap.size ≤ F) := Lib.hid (by rw [← hF]; exact HBR_3.out.size)
                have hbc : Below v2b.heap.size v2b v3c := by rw [← hv3c]; exact below_newq v2b _ _
                have HFN := Lib.hid (show Whole v3c F 31 #[.int .i64 0, .slice none 0 0] by rw [← hv3c, ← hF]; exact Whole.made _ _ _)
                have HBR_4 := Lib.hid (HBR_3.out.trans (hbc.mono HBR_3.out.size))
                have HR_4 := Lib.hid (HR0.out.kept hbc)
                clear HR0 HBR_3
                clear hbc
                go_simp
                refine hK.out _ _ (fun _ => (CS _ HBR_4.out)) ?_
                clear hK K
                try simp only [Act.put]
                refine wpLate_one (i := 7) (by kernel_rfl) rfl (fun K hK => ?_)
                have HM := Lib.hid ((QIn.takeP HQ0.out (show r ≤ N by omega)).below HBR_4.out (Nat.le_refl _))
                refine step_app_sl rfl (.tmp 49) (.tmp 53) 29 rfl qiR wv.heap.size i0 _ 64 Try.underlying29 hi0 hq0 hq1 hq2 rfl (by decide) _ ([]) (L.take r) 0 rfl rfl HR_4.out (some ⟨b, o, none⟩) (r) (N) rfl HM.out.1 HM.out.2.2.1 HM.out.2.2.2.1 HM.out.2.2.2.2.1 (by unfold maxLen; omega) (by omega) HBR_4.out.size ?_
                intro A5 N5 c5 v4p hof hgf
                rw [List.nil_append] at hof
                have HR_5 := Lib.hid hof
                have HBR_5 : Hid (Below wv.heap.size wv v4p) := Lib.hid (HBR_4.out.grown hgf HBR_4.out.size (fun z e => (World.ownsRow.lt HR_4.out z e).1))
                have HF_5 := Lib.hid (HFN.out.grown hgf (fun e => (HR_4.out.whole HFN.out (by decide)) e.symm))
                clear hof hgf HM HFN HR_4 HBR_4
                refine hK.out _ _ (fun _ => (CS _ HBR_5.out)) ?_
                clear hK K
                try simp only [Act.put]
                refine wpLate_one (i := 13) (by kernel_rfl) rfl (fun K hK => ?_)
                have HM := Lib.hid ((QIn.cutE HQ0.out).below HBR_5.out (Nat.le_refl _))
                refine step_app_sl rfl (.tmp 54) (.tmp 59) 29 rfl qiR wv.heap.size i0 _ 64 Try.underlying29 hi0 hq0 hq1 hq2 rfl (by decide) _ (L.take r) (L.drop N) r HTK.out rfl HR_5.out (some ⟨b, o, none⟩) (0) (0) rfl HM.out.1 HM.out.2.2.1 HM.out.2.2.2.1 HM.out.2.2.2.2.1 (by unfold maxLen; omega) (by omega) HBR_5.out.size ?_
                intro A6 N6 c6 v5p hof hgf
                have HR_6 := Lib.hid hof
                have HBR_6 : Hid (Below wv.heap.size wv v5p) := Lib.hid (HBR_5.out.grown hgf HBR_5.out.size (fun z e => (World.ownsRow.lt HR_5.out z e).1))
                have HF_6 := Lib.hid (HF_5.out.grown hgf (fun e => (HR_5.out.whole HF_5.out (by decide)) e.symm))
                clear hof hgf HM HF_5 HR_5 HBR_5
                refine hK.out _ _ (fun _ => (CS _ HBR_6.out)) ?_
                clear hK K
                try simp only [Act.put]
                refine wpLate_take (i := 14) (v := ?v14aEaEaboo) rfl (by kernel_rfl) (by kernel_rfl) (by kernel_rfl) (by kernel_rfl) (by kernel_rfl) (fun _ _ _ h => h) (CS _ HBR_6.out) (by rfl) ?hy14aEaEaboo ?r14aEaEaboo
                case hy14aEaEaboo =>
                  rintro wz ⟨z0, z1⟩
                  go_simp
                  try with_reducible rfl
                try simp only [Act.put]
                have HBs := Lib.hid (show Below wv.heap.size wv ((v5p.setCell ⟨F, 0, none⟩ (.int .i64 n)).setCell ⟨F, 1, none⟩ (.slice A6 N6 c6)) from ((HBR_6.out.setCell (p := ⟨F, 0, none⟩) HFL.out _).setCell (p := ⟨F, 1, none⟩) HFL.out _))
                have HFs : Hid (Whole ((v5p.setCell ⟨F, 0, none⟩ (.int .i64 n)).setCell ⟨F, 1, none⟩ (.slice A6 N6 c6)) F 31 #[.int .i64 n, .slice A6 N6 c6]) := Lib.hid ((HF_6.out.store 0 _).store 1 _)
                have HIs : Hid (ROwn qiR ((v5p.setCell ⟨F, 0, none⟩ (.int .i64 n)).setCell ⟨F, 1, none⟩ (.slice A6 N6 c6)) wv.heap.size (.slice A6 N6 c6) (L.take r ++ (L.drop N))) := Lib.hid ((HR_6.out.store (p := ⟨F, 0, none⟩) (HR_6.out.whole HF_6.out (by decide)) _).store (p := ⟨F, 1, none⟩) (HR_6.out.whole HF_6.out (by decide)) _)
                have f0 := HF_6.out.cell 0
                have f1 := HF_6.out.cell 1
                have j0 := HF_6.out.free 0
                have j1 := HF_6.out.free 1
                simp only [List.getElem?_toArray, List.getElem?_cons_zero, List.getElem?_cons_succ] at f0 f1
                refine wpLate_one (i := 16) (by kernel_rfl) rfl (fun K hK => ?_)
                go_simp
                refine hK.out _ _ (fun h => absurd rfl h) ?_
                clear hK K
                try simp only [Act.put]
                refine wpLate_done (by kernel_rfl) ?_ _
                go_wp2_with fail
                go_meet
                case rel => exact ⟨F, A6, N6, c6, rfl, HBs, HFs, HIs⟩
            case yaE =>
              refine name_nat wd.heap.size (fun F hF => ?_)
              refine name_wd (wd.alloc (.cells #[.int .i64 0, .slice none 0 0] 31)) (fun v2c hv2c => ?_)
              have HFL : Hid (wv.heap.size ≤ F) := Lib.hid (by rw [← hF]; exact HBR.out.size)
              have hbc : Below wd.heap.size wd v2c := by rw [← hv2c]; exact below_newq wd _ _
              have HFN := Lib.hid (show Whole v2c F 31 #[.int .i64 0, .slice none 0 0] by rw [← hv2c, ← hF]; exact Whole.made _ _ _)
              have HBR_3 := Lib.hid (HBR.out.trans (hbc.mono HBR.out.size))
              clear HBR
              clear hbc
              go_simp
              refine hK.out _ _ (fun _ => (CS _ HBR_3.out)) ?_
              clear hK K
              try simp only [Act.put]
              refine wpLate_one (i := 2) (by kernel_rfl) rfl (fun K hK => ?_)
              refine name_nat v2c.heap.size (fun S1 hS1 => ?_)
              refine name_wd (v2c.alloc (.cells #[] 38)) (fun v3b hv3b => ?_)
              have hbc : Below v2c.heap.size v2c v3b := by rw [← hv3b]; exact below_new _ _
              have HR0 := Lib.hid (show ROwn qiR v3b wv.heap.size (.slice (some ⟨S1, 0, none⟩) 0 0) [] by rw [← hv3b]; exact ROwn.lit v2c S1 HBR_3.out.size hS1)
              have HBR_4 := Lib.hid (HBR_3.out.trans (hbc.mono HBR_3.out.size))
              have HF'_4 := Lib.hid (HFN.out.below hbc HFN.out.lt)
              clear HFN HBR_3
              clear hbc
              go_simp
              refine hK.out _ _ (fun _ => (CS _ HBR_4.out)) ?_
              clear hK K
              try simp only [Act.put]
              refine wpLate_one (i := 7) (by kernel_rfl) rfl (fun K hK => ?_)
              have HM := Lib.hid ((QIn.takeP HQ0.out (show r ≤ N by omega)).below HBR_4.out (Nat.le_refl _))
              refine step_app_sl rfl (.tmp 49) (.tmp 53) 29 rfl qiR wv.heap.size i0 _ 64 Try.underlying29 hi0 hq0 hq1 hq2 rfl (by decide) _ ([]) (L.take r) 0 rfl rfl HR0.out (some ⟨b, o, none⟩) (r) (N) rfl HM.out.1 HM.out.2.2.1 HM.out.2.2.2.1 HM.out.2.2.2.2.1 (by unfold maxLen; omega) (by omega) HBR_4.out.size ?_
              intro A5 N5 c5 v4p hof hgf
              rw [List.nil_append] at hof
              have HR_5 := Lib.hid hof
              have HBR_5 : Hid (Below wv.heap.size wv v4p) := Lib.hid (HBR_4.out.grown hgf HBR_4.out.size (fun z e => (World.ownsRow.lt HR0.out z e).1))
              have HF_5 := Lib.hid (HF'_4.out.grown hgf (fun e => (HR0.out.whole HF'_4.out (by decide)) e.symm))
              clear hof hgf HM HF'_4 HR0 HBR_4
              refine hK.out _ _ (fun _ => (CS _ HBR_5.out)) ?_
              clear hK K
              try simp only [Act.put]
              refine wpLate_one (i := 13) (by kernel_rfl) rfl (fun K hK => ?_)
              have HM := Lib.hid ((QIn.cutE HQ0.out).below HBR_5.out (Nat.le_refl _))
              refine step_app_sl rfl (.tmp 54) (.tmp 59) 29 rfl qiR wv.heap.size i0 _ 64 Try.underlying29 hi0 hq0 hq1 hq2 rfl (by decide) _ (L.take r) (L.drop N) r HTK.out rfl HR_5.out (some ⟨b, o, none⟩) (0) (0) rfl HM.out.1 HM.out.2.2.1 HM.out.2.2.2.1 HM.out.2.2.2.2.1 (by unfold maxLen; omega) (by omega) HBR_5.out.size ?_
              intro A6 N6 c6 v5p hof hgf
              have HR_6 := Lib.hid hof
              have HBR_6 : Hid (Below wv.heap.size wv v5p) := Lib.hid (HBR_5.out.grown hgf HBR_5.out.size (fun z e => (World.ownsRow.lt HR_5.out z e).1))
              have HF_6 := Lib.hid (HF_5.out.grown hgf (fun e => (HR_5.out.whole HF_5.out (by decide)) e.symm))
              clear hof hgf HM HF_5 HR_5 HBR_5
              refine hK.out _ _ (fun _ => (CS _ HBR_6.out)) ?_
              clear hK K
              try simp only [Act.put]
              refine wpLate_take (i := 14) (v := ?v14aEaEbooo) rfl (by kernel_rfl) (by kernel_rfl) (by kernel_rfl) (by kernel_rfl) (by kernel_rfl) (fun _ _ _ h => h) (CS _ HBR_6.out) (by rfl) ?hy14aEaEbooo ?r14aEaEbooo
              case hy14aEaEbooo =>
                rintro wz ⟨z0, z1⟩
                go_simp
                try with_reducible rfl
              try simp only [Act.put]
              have HBs := Lib.hid (show Below wv.heap.size wv ((v5p.setCell ⟨F, 0, none⟩ (.int .i64 n)).setCell ⟨F, 1, none⟩ (.slice A6 N6 c6)) from ((HBR_6.out.setCell (p := ⟨F, 0, none⟩) HFL.out _).setCell (p := ⟨F, 1, none⟩) HFL.out _))
              have HFs : Hid (Whole ((v5p.setCell ⟨F, 0, none⟩ (.int .i64 n)).setCell ⟨F, 1, none⟩ (.slice A6 N6 c6)) F 31 #[.int .i64 n, .slice A6 N6 c6]) := Lib.hid ((HF_6.out.store 0 _).store 1 _)
              have HIs : Hid (ROwn qiR ((v5p.setCell ⟨F, 0, none⟩ (.int .i64 n)).setCell ⟨F, 1, none⟩ (.slice A6 N6 c6)) wv.heap.size (.slice A6 N6 c6) (L.take r ++ (L.drop N))) := Lib.hid ((HR_6.out.store (p := ⟨F, 0, none⟩) (HR_6.out.whole HF_6.out (by decide)) _).store (p := ⟨F, 1, none⟩) (HR_6.out.whole HF_6.out (by decide)) _)
              have f0 := HF_6.out.cell 0
              have f1 := HF_6.out.cell 1
              have j0 := HF_6.out.free 0
              have j1 := HF_6.out.free 1
              simp only [List.getElem?_toArray, List.getElem?_cons_zero, List.getElem?_cons_succ] at f0 f1
              refine wpLate_one (i := 16) (by kernel_rfl) rfl (fun K hK => ?_)
              go_simp
              refine hK.out _ _ (fun h => absurd rfl h) ?_
              clear hK K
              try simp only [Act.put]
              refine wpLate_done (by kernel_rfl) ?_ _
              go_wp2_with fail
              go_meet
              case rel => exact ⟨F, A6, N6, c6, rfl, HBs, HFs, HIs⟩
          case rest =>
            obtain ⟨wxa, hwx⟩ : ∃ z, z = wc := ⟨_, rfl⟩
            subst hwx
            obtain ⟨Fa, Aa, Na, ca, rfl, KB, KF, KI⟩ := hcut
            have hb := KB.out
            clear cHX0 cHX1
            have HB_3 := Lib.hid (HB_2.out.trans (hb.mono HB_2.out.size))
            have HX_3 := Lib.hid (HX_2.out.below hb HX_2.out.lt)
            have HJ_3 := Lib.hid (HJ_2.out.below hb (Nat.le_refl _))
            clear HJ_2 HX_2 HB_2
            have Ha := Lib.hid (KF.out)
            have Ra := Lib.hid (KI.out)
            clear hb KB KF KI
            have cHX0 := HX_3.out.cell 0
            have cHX1 := HX_3.out.cell 1
            simp only [List.getElem?_toArray, List.getElem?_cons_zero, List.getElem?_cons_succ] at cHX0 cHX1
            go_upto_region 10 with fail
            go_cut [10] (fun s1 wxb => ∃ (F : Nat) (A' : Option Addr) (N' c' : Nat), s1 = .pointer (some ⟨F, 0, none⟩) ∧ Hid (Below wxa.heap.size wxa wxb) ∧ Hid (Whole wxb F 31 #[.int .i64 n, .slice A' N' c']) ∧ Hid (ROwn qiR wxb wxa.heap.size (.slice A' N' c') (L.take N ++ (L.drop r))))
            case first =>
              have CS : ∀ wx, Below wxa.heap.size wxa wx → (fun w' => w'.cell? ⟨D, 0, none⟩ = some (.int .i64 n) ∧ w'.cell? ⟨D, 1, none⟩ = some (.slice (some ⟨b, o, none⟩) N N)) wx := fun wx hbx => ⟨(hbx.cell (p := ⟨D, 0, none⟩) HX_3.out.lt).trans cHX0, (hbx.cell (p := ⟨D, 1, none⟩) HX_3.out.lt).trans cHX1⟩
              have HBR := Lib.hid (below_drew1 wxa)
              have HQ0 := Lib.hid HJ_3.out
              have hcd := CS _ HBR.out
              have HTK : Hid ((L.take N).length = N) := Lib.hid (by rw [List.length_take, HQ0.out.1]; omega)
              clear cHX0 cHX1
              refine wp_region_late (fun w' => w'.cell? ⟨D, 0, none⟩ = some (.int .i64 n) ∧ w'.cell? ⟨D, 1, none⟩ = some (.slice (some ⟨b, o, none⟩) N N)) 16 (by kernel_rfl) ?_
              revert HBR hcd
              generalize wxa.drew = wd
              intro HBR hcd
              refine wpLate_take (i := 0) (v := ?v0bE) rfl (by kernel_rfl) (by kernel_rfl) (by kernel_rfl) (by kernel_rfl) (by kernel_rfl) (fun _ _ _ h => h) hcd (by rfl) ?hy0bE ?r0bE
              case hy0bE =>
                rintro wz ⟨z0, z1⟩
                go_simp
                try with_reducible rfl
              try simp only [Act.put]
              refine wpLate_take (i := 1) (v := ?v1bE) rfl (by kernel_rfl) (by kernel_rfl) (by kernel_rfl) (by kernel_rfl) (by kernel_rfl) (fun _ _ _ h => h) hcd (by rfl) ?hy1bE ?r1bE
              case hy1bE =>
                rintro wz ⟨z0, z1⟩
                go_simp
                try with_reducible rfl
              try simp only [Act.put]
              refine wpLate_take (i := 3) (v := ?v3bE) rfl (by kernel_rfl) (by kernel_rfl) (by kernel_rfl) (by kernel_rfl) (by kernel_rfl) (fun _ _ _ h => h) hcd (by rfl) ?hy3bE ?r3bE
              case hy3bE =>
                rintro wz ⟨z0, z1⟩
                go_simp
                try with_reducible rfl
              try simp only [Act.put]
              refine wpLate_take (i := 4) (v := ?v4bE) rfl (by kernel_rfl) (by kernel_rfl) (by kernel_rfl) (by kernel_rfl) (by kernel_rfl) (fun _ _ _ h => h) hcd (by rfl) ?hy4bE ?r4bE
              case hy4bE =>
                rintro wz ⟨z0, z1⟩
                go_simp
                try with_reducible rfl
              try simp only [Act.put]
              refine wpLate_take (i := 5) (v := ?v5bE) rfl (by kernel_rfl) (by kernel_rfl) (by kernel_rfl) (by kernel_rfl) (by kernel_rfl) (fun _ _ _ h => h) hcd (by rfl) ?hy5bE ?r5bE
              case hy5bE =>
                rintro wz ⟨z0, z1⟩
                go_simp
                try with_reducible rfl
              try simp only [Act.put]
              refine wpLate_take (i := 6) (v := ?v6bE) rfl (by kernel_rfl) (by kernel_rfl) (by kernel_rfl) (by kernel_rfl) (by kernel_rfl) (fun _ _ _ h => h) hcd (by rfl) ?hy6bE ?r6bE
              case hy6bE =>
                rintro wz ⟨z0, z1⟩
                go_simp
                try with_reducible rfl
              try simp only [Act.put]
              refine wpLate_take (i := 7) (v := ?v7bE) rfl (by kernel_rfl) (by kernel_rfl) (by kernel_rfl) (by kernel_rfl) (by kernel_rfl) (fun _ _ _ h => h) hcd (by rfl) ?hy7bE ?r7bE
              case hy7bE =>
                rintro wz ⟨z0, z1⟩
                go_simp
                try with_reducible rfl
              try simp only [Act.put]
              refine wpLate_take (i := 9) (v := ?v9bE) rfl (by kernel_rfl) (by kernel_rfl) (by kernel_rfl) (by kernel_rfl) (by kernel_rfl) (fun _ _ _ h => h) hcd (by rfl) ?hy9bE ?r9bE
              case hy9bE =>
                rintro wz ⟨z0, z1⟩
                go_simp
                try with_reducible rfl
              try simp only [Act.put]
              refine wpLate_take (i := 10) (v := ?v10bE) rfl (by kernel_rfl) (by kernel_rfl) (by kernel_rfl) (by kernel_rfl) (by kernel_rfl) (fun _ _ _ h => h) hcd (by rfl) ?hy10bE ?r10bE
              case hy10bE =>
                rintro wz ⟨z0, z1⟩
                go_simp
                try with_reducible rfl
              try simp only [Act.put]
              refine wpLate_take (i := 11) (v := ?v11bE) rfl (by kernel_rfl) (by kernel_rfl) (by kernel_rfl) (by kernel_rfl) (by kernel_rfl) (fun _ _ _ h => h) hcd (by rfl) ?hy11bE ?r11bE
              case hy11bE =>
                rintro wz ⟨z0, z1⟩
                go_simp
                try with_reducible rfl
              try simp only [Act.put]
              refine wpLate_take (i := 12) (v := ?v12bE) rfl (by kernel_rfl) (by kernel_rfl) (by kernel_rfl) (by kernel_rfl) (by kernel_rfl) (fun _ _ _ h => h) hcd (by rfl) ?hy12bE ?r12bE
              case hy12bE =>
                rintro wz ⟨z0, z1⟩
                go_simp
                try with_reducible rfl
              try simp only [Act.put]
              refine wpLate_two (i := 2) (k := 15) (by kernel_rfl) rfl rfl (fun K hK => ?xbE) (fun K hK => ?ybE)
              case xbE =>
                refine name_nat wd.heap.size (fun S1 hS1 => ?_)
                refine name_wd (wd.alloc (.cells #[] 38)) (fun v3b hv3b => ?_)
                have hbc : Below wd.heap.size wd v3b := by rw [← hv3b]; exact below_new _ _
                have HR0 := Lib.hid (show ROwn qiR v3b wxa.heap.size (.slice (some ⟨S1, 0, none⟩) 0 0) [] by rw [← hv3b]; exact ROwn.lit wd S1 HBR.out.size hS1)
                have HBR_4 := Lib.hid (HBR.out.trans (hbc.mono HBR.out.size))
                clear HBR
                clear hbc
                go_simp
                refine hK.out _ _ (fun _ => (CS _ HBR_4.out)) ?_
                clear hK K
                try simp only [Act.put]
                refine wpLate_two (i := 8) (k := 15) (by kernel_rfl) rfl rfl (fun K hK => ?xbEa) (fun K hK => ?ybEa)
                case xbEa =>
                  have HM := Lib.hid ((QIn.takeP HQ0.out (show N ≤ N by omega)).below HBR_4.out (Nat.le_refl _))
                  refine step_app_sl rfl (.tmp 64) (.tmp 69) 29 rfl qiR wxa.heap.size i0 _ 64 Try.underlying29 hi0 hq0 hq1 hq2 rfl (by decide) _ ([]) (L.take N) 0 rfl rfl HR0.out (some ⟨b, o, none⟩) (N) (N) rfl HM.out.1 HM.out.2.2.1 HM.out.2.2.2.1 HM.out.2.2.2.2.1 (by unfold maxLen; omega) (by omega) HBR_4.out.size ?_
                  intro A5 N5 c5 v4p hof hgf
                  rw [List.nil_append] at hof
                  have HR_5 := Lib.hid hof
                  have HBR_5 : Hid (Below wxa.heap.size wxa v4p) := Lib.hid (HBR_4.out.grown hgf HBR_4.out.size (fun z e => (World.ownsRow.lt HR0.out z e).1))
                  clear hof hgf HM HR0 HBR_4
                  refine hK.out _ _ (fun _ => (CS _ HBR_5.out)) ?_
                  clear hK K
                  try simp only [Act.put]
                  refine wpLate_two (i := 13) (k := 15) (by kernel_rfl) rfl rfl (fun K hK => ?xbEaa) (fun K hK => ?ybEaa)
                  case xbEaa =>
                    have HM := Lib.hid ((QIn.cutP (r := r) HQ0.out).below HBR_5.out (Nat.le_refl _))
                    refine step_app_sl rfl (.tmp 70) (.tmp 74) 29 rfl qiR wxa.heap.size i0 _ 64 Try.underlying29 hi0 hq0 hq1 hq2 rfl (by decide) _ (L.take N) (L.drop r) N HTK.out rfl HR_5.out (some ⟨b, o + r * 4, none⟩) (N - r) (N - r) rfl HM.out.1 HM.out.2.2.1 HM.out.2.2.2.1 HM.out.2.2.2.2.1 (by unfold maxLen; omega) (by omega) HBR_5.out.size ?_
                    intro A6 N6 c6 v5p hof hgf
                    have HR_6 := Lib.hid hof
                    have HBR_6 : Hid (Below wxa.heap.size wxa v5p) := Lib.hid (HBR_5.out.grown hgf HBR_5.out.size (fun z e => (World.ownsRow.lt HR_5.out z e).1))
                    clear hof hgf HM HR_5 HBR_5
                    refine hK.out _ _ (fun _ => (CS _ HBR_6.out)) ?_
                    clear hK K
                    try simp only [Act.put]
                    refine wpLate_take (i := 14) (v := ?v14bEbEaaa) rfl (by kernel_rfl) (by kernel_rfl) (by kernel_rfl) (by kernel_rfl) (by kernel_rfl) (fun _ _ _ h => h) (CS _ HBR_6.out) (by rfl) ?hy14bEbEaaa ?r14bEbEaaa
                    case hy14bEbEaaa =>
                      rintro wz ⟨z0, z1⟩
                      go_simp
                      try with_reducible rfl
                    try simp only [Act.put]
                    refine wpLate_one (i := 15) (by kernel_rfl) rfl (fun K hK => ?_)
                    refine name_nat v5p.heap.size (fun F hF => ?_)
                    refine name_wd (v5p.alloc (.cells #[.int .i64 0, .slice none 0 0] 31)) (fun v6c hv6c => ?_)
                    have HFL : Hid (wxa.heap.size ≤ F) := Lib.hid (by rw [← hF]; exact HBR_6.out.size)
                    have hbc : Below v5p.heap.size v5p v6c := by rw [← hv6c]; exact below_newq v5p _ _
                    have HFN := Lib.hid (show Whole v6c F 31 #[.int .i64 0, .slice none 0 0] by rw [← hv6c, ← hF]; exact Whole.made _ _ _)
                    have HBR_7 := Lib.hid (HBR_6.out.trans (hbc.mono HBR_6.out.size))
                    have HR_7 := Lib.hid (HR_6.out.kept hbc)
                    clear HR_6 HBR_6
                    clear hbc
                    go_simp
                    refine hK.out _ _ (fun _ => (CS _ HBR_7.out)) ?_
                    clear hK K
                    try simp only [Act.put]
                    have HBs := Lib.hid (show Below wxa.heap.size wxa ((v6c.setCell ⟨F, 0, none⟩ (.int .i64 n)).setCell ⟨F, 1, none⟩ (.slice A6 N6 c6)) from ((HBR_7.out.setCell (p := ⟨F, 0, none⟩) HFL.out _).setCell (p := ⟨F, 1, none⟩) HFL.out _))
                    have HFs : Hid (Whole ((v6c.setCell ⟨F, 0, none⟩ (.int .i64 n)).setCell ⟨F, 1, none⟩ (.slice A6 N6 c6)) F 31 #[.int .i64 n, .slice A6 N6 c6]) := Lib.hid ((HFN.out.store 0 _).store 1 _)
                    have HIs : Hid (ROwn qiR ((v6c.setCell ⟨F, 0, none⟩ (.int .i64 n)).setCell ⟨F, 1, none⟩ (.slice A6 N6 c6)) wxa.heap.size (.slice A6 N6 c6) (L.take N ++ (L.drop r))) := Lib.hid ((HR_7.out.store (p := ⟨F, 0, none⟩) (HR_7.out.whole HFN.out (by decide)) _).store (p := ⟨F, 1, none⟩) (HR_7.out.whole HFN.out (by decide)) _)
                    have f0 := HFN.out.cell 0
                    have f1 := HFN.out.cell 1
                    have j0 := HFN.out.free 0
                    have j1 := HFN.out.free 1
                    simp only [List.getElem?_toArray, List.getElem?_cons_zero, List.getElem?_cons_succ] at f0 f1
                    refine wpLate_one (i := 16) (by kernel_rfl) rfl (fun K hK => ?_)
                    go_simp
                    refine hK.out _ _ (fun h => absurd rfl h) ?_
                    clear hK K
                    try simp only [Act.put]
                    refine wpLate_done (by kernel_rfl) ?_ _
                    go_wp2_with fail
                    go_meet
                    case rel => exact ⟨F, A6, N6, c6, rfl, HBs, HFs, HIs⟩
                  case ybEaa =>
                    refine name_nat v4p.heap.size (fun F hF => ?_)
                    refine name_wd (v4p.alloc (.cells #[.int .i64 0, .slice none 0 0] 31)) (fun v5c hv5c => ?_)
                    have HFL : Hid (wxa.heap.size ≤ F) := Lib.hid (by rw [← hF]; exact HBR_5.out.size)
                    have hbc : Below v4p.heap.size v4p v5c := by rw [← hv5c]; exact below_newq v4p _ _
                    have HFN := Lib.hid (show Whole v5c F 31 #[.int .i64 0, .slice none 0 0] by rw [← hv5c, ← hF]; exact Whole.made _ _ _)
                    have HBR_6 := Lib.hid (HBR_5.out.trans (hbc.mono HBR_5.out.size))
                    have HR_6 := Lib.hid (HR_5.out.kept hbc)
                    clear HR_5 HBR_5
                    clear hbc
                    go_simp
                    refine hK.out _ _ (fun _ => (CS _ HBR_6.out)) ?_
                    clear hK K
                    try simp only [Act.put]
                    refine wpLate_one (i := 13) (by kernel_rfl) rfl (fun K hK => ?_)
                    have HM := Lib.hid ((QIn.cutP (r := r) HQ0.out).below HBR_6.out (Nat.le_refl _))
                    refine step_app_sl rfl (.tmp 70) (.tmp 74) 29 rfl qiR wxa.heap.size i0 _ 64 Try.underlying29 hi0 hq0 hq1 hq2 rfl (by decide) _ (L.take N) (L.drop r) N HTK.out rfl HR_6.out (some ⟨b, o + r * 4, none⟩) (N - r) (N - r) rfl HM.out.1 HM.out.2.2.1 HM.out.2.2.2.1 HM.out.2.2.2.2.1 (by unfold maxLen; omega) (by omega) HBR_6.out.size ?_
                    intro A7 N7 c7 v6p hof hgf
                    have HR_7 := Lib.hid hof
                    have HBR_7 : Hid (Below wxa.heap.size wxa v6p) := Lib.hid (HBR_6.out.grown hgf HBR_6.out.size (fun z e => (World.ownsRow.lt HR_6.out z e).1))
                    have HF_7 := Lib.hid (HFN.out.grown hgf (fun e => (HR_6.out.whole HFN.out (by decide)) e.symm))
                    clear hof hgf HM HFN HR_6 HBR_6
                    refine hK.out _ _ (fun _ => (CS _ HBR_7.out)) ?_
                    clear hK K
                    try simp only [Act.put]
                    refine wpLate_take (i := 14) (v := ?v14bEbEaabo) rfl (by kernel_rfl) (by kernel_rfl) (by kernel_rfl) (by kernel_rfl) (by kernel_rfl) (fun _ _ _ h => h) (CS _ HBR_7.out) (by rfl) ?hy14bEbEaabo ?r14bEbEaabo
                    case hy14bEbEaabo =>
                      rintro wz ⟨z0, z1⟩
                      go_simp
                      try with_reducible rfl
                    try simp only [Act.put]
                    have HBs := Lib.hid (show Below wxa.heap.size wxa ((v6p.setCell ⟨F, 0, none⟩ (.int .i64 n)).setCell ⟨F, 1, none⟩ (.slice A7 N7 c7)) from ((HBR_7.out.setCell (p := ⟨F, 0, none⟩) HFL.out _).setCell (p := ⟨F, 1, none⟩) HFL.out _))
                    have HFs : Hid (Whole ((v6p.setCell ⟨F, 0, none⟩ (.int .i64 n)).setCell ⟨F, 1, none⟩ (.slice A7 N7 c7)) F 31 #[.int .i64 n, .slice A7 N7 c7]) := Lib.hid ((HF_7.out.store 0 _).store 1 _)
                    have HIs : Hid (ROwn qiR ((v6p.setCell ⟨F, 0, none⟩ (.int .i64 n)).setCell ⟨F, 1, none⟩ (.slice A7 N7 c7)) wxa.heap.size (.slice A7 N7 c7) (L.take N ++ (L.drop r))) := Lib.hid ((HR_7.out.store (p := ⟨F, 0, none⟩) (HR_7.out.whole HF_7.out (by decide)) _).store (p := ⟨F, 1, none⟩) (HR_7.out.whole HF_7.out (by decide)) _)
                    have f0 := HF_7.out.cell 0
                    have f1 := HF_7.out.cell 1
                    have j0 := HF_7.out.free 0
                    have j1 := HF_7.out.free 1
                    simp only [List.getElem?_toArray, List.getElem?_cons_zero, List.getElem?_cons_succ] at f0 f1
                    refine wpLate_one (i := 16) (by kernel_rfl) rfl (fun K hK => ?_)
                    go_simp
                    refine hK.out _ _ (fun h => absurd rfl h) ?_
                    clear hK K
                    try simp only [Act.put]
                    refine wpLate_done (by kernel_rfl) ?_ _
                    go_wp2_with fail
                    go_meet
                    case rel => exact ⟨F, A7, N7, c7, rfl, HBs, HFs, HIs⟩
                case ybEa =>
                  refine name_nat v3b.heap.size (fun F hF => ?_)
                  refine name_wd (v3b.alloc (.cells #[.int .i64 0, .slice none 0 0] 31)) (fun v4c hv4c => ?_)
                  have HFL : Hid (wxa.heap.size ≤ F) := Lib.hid (by rw [← hF]; exact HBR_4.out.size)
                  have hbc : Below v3b.heap.size v3b v4c := by rw [← hv4c]; exact below_newq v3b _ _
                  have HFN := Lib.hid (show Whole v4c F 31 #[.int .i64 0, .slice none 0 0] by rw [← hv4c, ← hF]; exact Whole.made _ _ _)
                  have HBR_5 := Lib.hid (HBR_4.out.trans (hbc.mono HBR_4.out.size))
                  have HR_5 := Lib.hid (HR0.out.kept hbc)
                  clear HR0 HBR_4
                  clear hbc
                  go_simp
                  refine hK.out _ _ (fun _ => (CS _ HBR_5.out)) ?_
                  clear hK K
                  try simp only [Act.put]
                  refine wpLate_one (i := 8) (by kernel_rfl) rfl (fun K hK => ?_)
                  have HM := Lib.hid ((QIn.takeP HQ0.out (show N ≤ N by omega)).below HBR_5.out (Nat.le_refl _))
                  refine step_app_sl rfl (.tmp 64) (.tmp 69) 29 rfl qiR wxa.heap.size i0 _ 64 Try.underlying29 hi0 hq0 hq1 hq2 rfl (by decide) _ ([]) (L.take N) 0 rfl rfl HR_5.out (some ⟨b, o, none⟩) (N) (N) rfl HM.out.1 HM.out.2.2.1 HM.out.2.2.2.1 HM.out.2.2.2.2.1 (by unfold maxLen; omega) (by omega) HBR_5.out.size ?_
                  intro A6 N6 c6 v5p hof hgf
                  rw [List.nil_append] at hof
                  have HR_6 := Lib.hid hof
                  have HBR_6 : Hid (Below wxa.heap.size wxa v5p) := Lib.hid (HBR_5.out.grown hgf HBR_5.out.size (fun z e => (World.ownsRow.lt HR_5.out z e).1))
                  have HF_6 := Lib.hid (HFN.out.grown hgf (fun e => (HR_5.out.whole HFN.out (by decide)) e.symm))
                  clear hof hgf HM HFN HR_5 HBR_5
                  refine hK.out _ _ (fun _ => (CS _ HBR_6.out)) ?_
                  clear hK K
                  try simp only [Act.put]
                  refine wpLate_one (i := 13) (by kernel_rfl) rfl (fun K hK => ?_)
                  have HM := Lib.hid ((QIn.cutP (r := r) HQ0.out).below HBR_6.out (Nat.le_refl _))
                  refine step_app_sl rfl (.tmp 70) (.tmp 74) 29 rfl qiR wxa.heap.size i0 _ 64 Try.underlying29 hi0 hq0 hq1 hq2 rfl (by decide) _ (L.take N) (L.drop r) N HTK.out rfl HR_6.out (some ⟨b, o + r * 4, none⟩) (N - r) (N - r) rfl HM.out.1 HM.out.2.2.1 HM.out.2.2.2.1 HM.out.2.2.2.2.1 (by unfold maxLen; omega) (by omega) HBR_6.out.size ?_
                  intro A7 N7 c7 v6p hof hgf
                  have HR_7 := Lib.hid hof
                  have HBR_7 : Hid (Below wxa.heap.size wxa v6p) := Lib.hid (HBR_6.out.grown hgf HBR_6.out.size (fun z e => (World.ownsRow.lt HR_6.out z e).1))
                  have HF_7 := Lib.hid (HF_6.out.grown hgf (fun e => (HR_6.out.whole HF_6.out (by decide)) e.symm))
                  clear hof hgf HM HF_6 HR_6 HBR_6
                  refine hK.out _ _ (fun _ => (CS _ HBR_7.out)) ?_
                  clear hK K
                  try simp only [Act.put]
                  refine wpLate_take (i := 14) (v := ?v14bEbEaboo) rfl (by kernel_rfl) (by kernel_rfl) (by kernel_rfl) (by kernel_rfl) (by kernel_rfl) (fun _ _ _ h => h) (CS _ HBR_7.out) (by rfl) ?hy14bEbEaboo ?r14bEbEaboo
                  case hy14bEbEaboo =>
                    rintro wz ⟨z0, z1⟩
                    go_simp
                    try with_reducible rfl
                  try simp only [Act.put]
                  have HBs := Lib.hid (show Below wxa.heap.size wxa ((v6p.setCell ⟨F, 0, none⟩ (.int .i64 n)).setCell ⟨F, 1, none⟩ (.slice A7 N7 c7)) from ((HBR_7.out.setCell (p := ⟨F, 0, none⟩) HFL.out _).setCell (p := ⟨F, 1, none⟩) HFL.out _))
                  have HFs : Hid (Whole ((v6p.setCell ⟨F, 0, none⟩ (.int .i64 n)).setCell ⟨F, 1, none⟩ (.slice A7 N7 c7)) F 31 #[.int .i64 n, .slice A7 N7 c7]) := Lib.hid ((HF_7.out.store 0 _).store 1 _)
                  have HIs : Hid (ROwn qiR ((v6p.setCell ⟨F, 0, none⟩ (.int .i64 n)).setCell ⟨F, 1, none⟩ (.slice A7 N7 c7)) wxa.heap.size (.slice A7 N7 c7) (L.take N ++ (L.drop r))) := Lib.hid ((HR_7.out.store (p := ⟨F, 0, none⟩) (HR_7.out.whole HF_7.out (by decide)) _).store (p := ⟨F, 1, none⟩) (HR_7.out.whole HF_7.out (by decide)) _)
                  have f0 := HF_7.out.cell 0
                  have f1 := HF_7.out.cell 1
                  have j0 := HF_7.out.free 0
                  have j1 := HF_7.out.free 1
                  simp only [List.getElem?_toArray, List.getElem?_cons_zero, List.getElem?_cons_succ] at f0 f1
                  refine wpLate_one (i := 16) (by kernel_rfl) rfl (fun K hK => ?_)
                  go_simp
                  refine hK.out _ _ (fun h => absurd rfl h) ?_
                  clear hK K
                  try simp only [Act.put]
                  refine wpLate_done (by kernel_rfl) ?_ _
                  go_wp2_with fail
                  go_meet
                  case rel => exact ⟨F, A7, N7, c7, rfl, HBs, HFs, HIs⟩
              case ybE =>
                refine name_nat wd.heap.size (fun F hF => ?_)
                refine name_wd (wd.alloc (.cells #[.int .i64 0, .slice none 0 0] 31)) (fun v3c hv3c => ?_)
                have HFL : Hid (wxa.heap.size ≤ F) := Lib.hid (by rw [← hF]; exact HBR.out.size)
                have hbc : Below wd.heap.size wd v3c := by rw [← hv3c]; exact below_newq wd _ _
                have HFN := Lib.hid (show Whole v3c F 31 #[.int .i64 0, .slice none 0 0] by rw [← hv3c, ← hF]; exact Whole.made _ _ _)
                have HBR_4 := Lib.hid (HBR.out.trans (hbc.mono HBR.out.size))
                clear HBR
                clear hbc
                go_simp
                refine hK.out _ _ (fun _ => (CS _ HBR_4.out)) ?_
                clear hK K
                try simp only [Act.put]
                refine wpLate_one (i := 2) (by kernel_rfl) rfl (fun K hK => ?_)
                refine name_nat v3c.heap.size (fun S1 hS1 => ?_)
                refine name_wd (v3c.alloc (.cells #[] 38)) (fun v4b hv4b => ?_)
                have hbc : Below v3c.heap.size v3c v4b := by rw [← hv4b]; exact below_new _ _
                have HR0 := Lib.hid (show ROwn qiR v4b wxa.heap.size (.slice (some ⟨S1, 0, none⟩) 0 0) [] by rw [← hv4b]; exact ROwn.lit v3c S1 HBR_4.out.size hS1)
                have HBR_5 := Lib.hid (HBR_4.out.trans (hbc.mono HBR_4.out.size))
                have HF'_5 := Lib.hid (HFN.out.below hbc HFN.out.lt)
                clear HFN HBR_4
                clear hbc
                go_simp
                refine hK.out _ _ (fun _ => (CS _ HBR_5.out)) ?_
                clear hK K
                try simp only [Act.put]
                refine wpLate_one (i := 8) (by kernel_rfl) rfl (fun K hK => ?_)
                have HM := Lib.hid ((QIn.takeP HQ0.out (show N ≤ N by omega)).below HBR_5.out (Nat.le_refl _))
                refine step_app_sl rfl (.tmp 64) (.tmp 69) 29 rfl qiR wxa.heap.size i0 _ 64 Try.underlying29 hi0 hq0 hq1 hq2 rfl (by decide) _ ([]) (L.take N) 0 rfl rfl HR0.out (some ⟨b, o, none⟩) (N) (N) rfl HM.out.1 HM.out.2.2.1 HM.out.2.2.2.1 HM.out.2.2.2.2.1 (by unfold maxLen; omega) (by omega) HBR_5.out.size ?_
                intro A6 N6 c6 v5p hof hgf
                rw [List.nil_append] at hof
                have HR_6 := Lib.hid hof
                have HBR_6 : Hid (Below wxa.heap.size wxa v5p) := Lib.hid (HBR_5.out.grown hgf HBR_5.out.size (fun z e => (World.ownsRow.lt HR0.out z e).1))
                have HF_6 := Lib.hid (HF'_5.out.grown hgf (fun e => (HR0.out.whole HF'_5.out (by decide)) e.symm))
                clear hof hgf HM HF'_5 HR0 HBR_5
                refine hK.out _ _ (fun _ => (CS _ HBR_6.out)) ?_
                clear hK K
                try simp only [Act.put]
                refine wpLate_one (i := 13) (by kernel_rfl) rfl (fun K hK => ?_)
                have HM := Lib.hid ((QIn.cutP (r := r) HQ0.out).below HBR_6.out (Nat.le_refl _))
                refine step_app_sl rfl (.tmp 70) (.tmp 74) 29 rfl qiR wxa.heap.size i0 _ 64 Try.underlying29 hi0 hq0 hq1 hq2 rfl (by decide) _ (L.take N) (L.drop r) N HTK.out rfl HR_6.out (some ⟨b, o + r * 4, none⟩) (N - r) (N - r) rfl HM.out.1 HM.out.2.2.1 HM.out.2.2.2.1 HM.out.2.2.2.2.1 (by unfold maxLen; omega) (by omega) HBR_6.out.size ?_
                intro A7 N7 c7 v6p hof hgf
                have HR_7 := Lib.hid hof
                have HBR_7 : Hid (Below wxa.heap.size wxa v6p) := Lib.hid (HBR_6.out.grown hgf HBR_6.out.size (fun z e => (World.ownsRow.lt HR_6.out z e).1))
                have HF_7 := Lib.hid (HF_6.out.grown hgf (fun e => (HR_6.out.whole HF_6.out (by decide)) e.symm))
                clear hof hgf HM HF_6 HR_6 HBR_6
                refine hK.out _ _ (fun _ => (CS _ HBR_7.out)) ?_
                clear hK K
                try simp only [Act.put]
                refine wpLate_take (i := 14) (v := ?v14bEbEbooo) rfl (by kernel_rfl) (by kernel_rfl) (by kernel_rfl) (by kernel_rfl) (by kernel_rfl) (fun _ _ _ h => h) (CS _ HBR_7.out) (by rfl) ?hy14bEbEbooo ?r14bEbEbooo
                case hy14bEbEbooo =>
                  rintro wz ⟨z0, z1⟩
                  go_simp
                  try with_reducible rfl
                try simp only [Act.put]
                have HBs := Lib.hid (show Below wxa.heap.size wxa ((v6p.setCell ⟨F, 0, none⟩ (.int .i64 n)).setCell ⟨F, 1, none⟩ (.slice A7 N7 c7)) from ((HBR_7.out.setCell (p := ⟨F, 0, none⟩) HFL.out _).setCell (p := ⟨F, 1, none⟩) HFL.out _))
                have HFs : Hid (Whole ((v6p.setCell ⟨F, 0, none⟩ (.int .i64 n)).setCell ⟨F, 1, none⟩ (.slice A7 N7 c7)) F 31 #[.int .i64 n, .slice A7 N7 c7]) := Lib.hid ((HF_7.out.store 0 _).store 1 _)
                have HIs : Hid (ROwn qiR ((v6p.setCell ⟨F, 0, none⟩ (.int .i64 n)).setCell ⟨F, 1, none⟩ (.slice A7 N7 c7)) wxa.heap.size (.slice A7 N7 c7) (L.take N ++ (L.drop r))) := Lib.hid ((HR_7.out.store (p := ⟨F, 0, none⟩) (HR_7.out.whole HF_7.out (by decide)) _).store (p := ⟨F, 1, none⟩) (HR_7.out.whole HF_7.out (by decide)) _)
                have f0 := HF_7.out.cell 0
                have f1 := HF_7.out.cell 1
                have j0 := HF_7.out.free 0
                have j1 := HF_7.out.free 1
                simp only [List.getElem?_toArray, List.getElem?_cons_zero, List.getElem?_cons_succ] at f0 f1
                refine wpLate_one (i := 16) (by kernel_rfl) rfl (fun K hK => ?_)
                go_simp
                refine hK.out _ _ (fun h => absurd rfl h) ?_
                clear hK K
                try simp only [Act.put]
                refine wpLate_done (by kernel_rfl) ?_ _
                go_wp2_with fail
                go_meet
                case rel => exact ⟨F, A7, N7, c7, rfl, HBs, HFs, HIs⟩
            case rest =>
              obtain ⟨wxb, hwx⟩ : ∃ z, z = wc := ⟨_, rfl⟩
              subst hwx
              obtain ⟨Fb, Ab, Nb, cb, rfl, KB, KF, KI⟩ := hcut
              have hb := KB.out
              clear cHX0 cHX1
              have HB_4 := Lib.hid (HB_3.out.trans (hb.mono HB_3.out.size))
              have HX_4 := Lib.hid (HX_3.out.below hb HX_3.out.lt)
              have HJ_4 := Lib.hid (HJ_3.out.below hb (Nat.le_refl _))
              have Ha_4 := Lib.hid (Ha.out.below hb Ha.out.lt)
              have Ra_4 := Lib.hid (Ra.out.kept hb)
              clear Ra Ha HJ_3 HX_3 HB_3
              have Hb := Lib.hid (KF.out)
              have Rb := Lib.hid (KI.out)
              clear hb KB KF KI
              have HL1 : Hid ((L.take r ++ L.drop N).length ≤ 4194304) := Lib.hid (by rw [List.length_append, List.length_take, List.length_drop, HJ_4.out.1]; omega)
              have HL2 : Hid ((L.take N ++ L.drop r).length ≤ 4194304) := Lib.hid (by rw [List.length_append, List.length_take, List.length_drop, HJ_4.out.1]; omega)
              have HI1 := Lib.hid (QIn.part HJ_4.out Ra_4.out HL1.out (fun g hg => (List.mem_append.1 hg).elim List.mem_of_mem_take List.mem_of_mem_drop))
              have HI2 := Lib.hid (QIn.part HJ_4.out Rb.out HL2.out (fun g hg => (List.mem_append.1 hg).elim List.mem_of_mem_take List.mem_of_mem_drop))
              have cHa0 := Ha_4.out.cell 0
              have cHa1 := Ha_4.out.cell 1
              have cHb0 := Hb.out.cell 0
              have cHb1 := Hb.out.cell 1
              simp only [List.getElem?_toArray, List.getElem?_cons_zero, List.getElem?_cons_succ] at cHa0 cHa1 cHb0 cHb1
              go_wp2_with fail
              refine (iqv_at HLESS.out wxb HI1.out).mono ?_
              rintro e w8 ⟨rfl, hb⟩
              clear cHa0 cHa1 cHb0 cHb1
              have HB_5 := Lib.hid (HB_4.out.trans (hb.mono HB_4.out.size))
              have HX_5 := Lib.hid (HX_4.out.below hb HX_4.out.lt)
              have HJ_5 := Lib.hid (HJ_4.out.below hb (Nat.le_refl _))
              have Ha_5 := Lib.hid (Ha_4.out.below hb Ha_4.out.lt)
              have Ra_5 := Lib.hid (Ra_4.out.kept hb)
              have Hb_5 := Lib.hid (Hb.out.below hb Hb.out.lt)
              have Rb_5 := Lib.hid (Rb.out.kept hb)
              have HI1_5 := Lib.hid (HI1.out.below hb (Nat.le_refl _))
              have HI2_5 := Lib.hid (HI2.out.below hb (Nat.le_refl _))
              clear HI2 HI1 Rb Hb Ra_4 Ha_4 HJ_4 HX_4 HB_4
              clear hb
              have cHb0 := Hb_5.out.cell 0
              have cHb1 := Hb_5.out.cell 1
              simp only [List.getElem?_toArray, List.getElem?_cons_zero, List.getElem?_cons_succ] at cHb0 cHb1
              go_wp2_with fail
              refine (iqv_at HMORE.out w8 HI2_5.out).mono ?_
              rintro e w9 ⟨rfl, hb⟩
              clear cHb0 cHb1
              have HB_6 := Lib.hid (HB_5.out.trans (hb.mono HB_5.out.size))
              have HX_6 := Lib.hid (HX_5.out.below hb HX_5.out.lt)
              have HJ_6 := Lib.hid (HJ_5.out.below hb (Nat.le_refl _))
              have Ha_6 := Lib.hid (Ha_5.out.below hb Ha_5.out.lt)
              have Ra_6 := Lib.hid (Ra_5.out.kept hb)
              have Hb_6 := Lib.hid (Hb_5.out.below hb Hb_5.out.lt)
              have Rb_6 := Lib.hid (Rb_5.out.kept hb)
              have HI1_6 := Lib.hid (HI1_5.out.below hb (Nat.le_refl _))
              have HI2_6 := Lib.hid (HI2_5.out.below hb (Nat.le_refl _))
              clear HI2_5 HI1_5 Rb_5 Hb_5 Ra_5 Ha_5 HJ_5 HX_5 HB_5
              clear hb
              go_wp2
              go_ret
              exact ⟨rfl, HB_6.out⟩
        · have e1 : ¬ cT - r1 = 0 := by omega
          have e2 : ¬ cT = r1 := hce
          clear cHX0 cHX1
          have cHX0 := HX_2.out.cell 0
          have cHX1 := HX_2.out.cell 1
          simp only [List.getElem?_toArray, List.getElem?_cons_zero, List.getElem?_cons_succ] at cHX0 cHX1
          go_upto_region 9 with fail
          go_cut [9] (fun s1 wxa => ∃ (F : Nat) (A' : Option Addr) (N' c' : Nat), s1 = .pointer (some ⟨F, 0, none⟩) ∧ Hid (Below wv.heap.size wv wxa) ∧ Hid (Whole wxa F 31 #[.int .i64 n, .slice A' N' c']) ∧ Hid (ROwn qiR wxa wv.heap.size (.slice A' N' c') (L.take r ++ (L.drop r1))))
          case first =>
            have CS : ∀ wx, Below wv.heap.size wv wx → (fun w' => w'.cell? ⟨D, 0, none⟩ = some (.int .i64 n) ∧ w'.cell? ⟨D, 1, none⟩ = some (.slice (some ⟨b, o, none⟩) N cT)) wx := fun wx hbx => ⟨(hbx.cell (p := ⟨D, 0, none⟩) HX_2.out.lt).trans cHX0, (hbx.cell (p := ⟨D, 1, none⟩) HX_2.out.lt).trans cHX1⟩
            have HBR := Lib.hid (below_drew1 wv)
            have HQ0 := Lib.hid HJ_2.out
            have hcd := CS _ HBR.out
            have HTK : Hid ((L.take r).length = r) := Lib.hid (by rw [List.length_take, HQ0.out.1]; omega)
            clear cHX0 cHX1
            refine wp_region_late (fun w' => w'.cell? ⟨D, 0, none⟩ = some (.int .i64 n) ∧ w'.cell? ⟨D, 1, none⟩ = some (.slice (some ⟨b, o, none⟩) N cT)) 16 (by kernel_rfl) ?_
            revert HBR hcd
            generalize wv.drew = wd
            intro HBR hcd
            refine wpLate_take (i := 0) (v := ?v0aC) rfl (by kernel_rfl) (by kernel_rfl) (by kernel_rfl) (by kernel_rfl) (by kernel_rfl) (fun _ _ _ h => h) hcd (by rfl) ?hy0aC ?r0aC
            case hy0aC =>
              rintro wz ⟨z0, z1⟩
              go_simp
              try with_reducible rfl
            try simp only [Act.put]
            refine wpLate_take (i := 1) (v := ?v1aC) rfl (by kernel_rfl) (by kernel_rfl) (by kernel_rfl) (by kernel_rfl) (by kernel_rfl) (fun _ _ _ h => h) hcd (by rfl) ?hy1aC ?r1aC
            case hy1aC =>
              rintro wz ⟨z0, z1⟩
              go_simp
              try with_reducible rfl
            try simp only [Act.put]
            refine wpLate_take (i := 3) (v := ?v3aC) rfl (by kernel_rfl) (by kernel_rfl) (by kernel_rfl) (by kernel_rfl) (by kernel_rfl) (fun _ _ _ h => h) hcd (by rfl) ?hy3aC ?r3aC
            case hy3aC =>
              rintro wz ⟨z0, z1⟩
              go_simp
              try with_reducible rfl
            try simp only [Act.put]
            refine wpLate_take (i := 4) (v := ?v4aC) rfl (by kernel_rfl) (by kernel_rfl) (by kernel_rfl) (by kernel_rfl) (by kernel_rfl) (fun _ _ _ h => h) hcd (by rfl) ?hy4aC ?r4aC
            case hy4aC =>
              rintro wz ⟨z0, z1⟩
              go_simp
              try with_reducible rfl
            try simp only [Act.put]
            refine wpLate_take (i := 5) (v := ?v5aC) rfl (by kernel_rfl) (by kernel_rfl) (by kernel_rfl) (by kernel_rfl) (by kernel_rfl) (fun _ _ _ h => h) hcd (by rfl) ?hy5aC ?r5aC
            case hy5aC =>
              rintro wz ⟨z0, z1⟩
              go_simp
              try with_reducible rfl
            try simp only [Act.put]
            refine wpLate_take (i := 6) (v := ?v6aC) rfl (by kernel_rfl) (by kernel_rfl) (by kernel_rfl) (by kernel_rfl) (by kernel_rfl) (fun _ _ _ h => h) hcd (by rfl) ?hy6aC ?r6aC
            case hy6aC =>
              rintro wz ⟨z0, z1⟩
              go_simp
              try with_reducible rfl
            try simp only [Act.put]
            refine wpLate_take (i := 8) (v := ?v8aC) rfl (by kernel_rfl) (by kernel_rfl) (by kernel_rfl) (by kernel_rfl) (by kernel_rfl) (fun _ _ _ h => h) hcd (by rfl) ?hy8aC ?r8aC
            case hy8aC =>
              rintro wz ⟨z0, z1⟩
              go_simp
              try with_reducible rfl
            try simp only [Act.put]
            refine wpLate_take (i := 9) (v := ?v9aC) rfl (by kernel_rfl) (by kernel_rfl) (by kernel_rfl) (by kernel_rfl) (by kernel_rfl) (fun _ _ _ h => h) hcd (by rfl) ?hy9aC ?r9aC
            case hy9aC =>
              rintro wz ⟨z0, z1⟩
              go_simp
              try with_reducible rfl
            try simp only [Act.put]
            refine wpLate_take (i := 10) (v := ?v10aC) rfl (by kernel_rfl) (by kernel_rfl) (by kernel_rfl) (by kernel_rfl) (by kernel_rfl) (fun _ _ _ h => h) hcd (by rfl) ?hy10aC ?r10aC
            case hy10aC =>
              rintro wz ⟨z0, z1⟩
              go_simp
              try with_reducible rfl
            try simp only [Act.put]
            refine wpLate_take (i := 11) (v := ?v11aC) rfl (by kernel_rfl) (by kernel_rfl) (by kernel_rfl) (by kernel_rfl) (by kernel_rfl) (fun _ _ _ h => h) hcd (by rfl) ?hy11aC ?r11aC
            case hy11aC =>
              rintro wz ⟨z0, z1⟩
              go_simp
              try with_reducible rfl
            try simp only [Act.put]
            refine wpLate_take (i := 12) (v := ?v12aC) rfl (by kernel_rfl) (by kernel_rfl) (by kernel_rfl) (by kernel_rfl) (by kernel_rfl) (fun _ _ _ h => h) hcd (by rfl) ?hy12aC ?r12aC
            case hy12aC =>
              rintro wz ⟨z0, z1⟩
              go_simp
              try with_reducible rfl
            try simp only [Act.put]
            refine wpLate_two (i := 2) (k := 15) (by kernel_rfl) rfl rfl (fun K hK => ?xaC) (fun K hK => ?yaC)
            case xaC =>
              refine name_nat wd.heap.size (fun S1 hS1 => ?_)
              refine name_wd (wd.alloc (.cells #[] 38)) (fun v2b hv2b => ?_)
              have hbc : Below wd.heap.size wd v2b := by rw [← hv2b]; exact below_new _ _
              have HR0 := Lib.hid (show ROwn qiR v2b wv.heap.size (.slice (some ⟨S1, 0, none⟩) 0 0) [] by rw [← hv2b]; exact ROwn.lit wd S1 HBR.out.size hS1)
              have HBR_3 := Lib.hid (HBR.out.trans (hbc.mono HBR.out.size))
              clear HBR
              clear hbc
              go_simp
              refine hK.out _ _ (fun _ => (CS _ HBR_3.out)) ?_
              clear hK K
              try simp only [Act.put]
              refine wpLate_two (i := 7) (k := 15) (by kernel_rfl) rfl rfl (fun K hK => ?xaCa) (fun K hK => ?yaCa)
              case xaCa =>
                have HM := Lib.hid ((QIn.takeP HQ0.out (show r ≤ N by omega)).below HBR_3.out (Nat.le_refl _))
                refine step_app_sl rfl (.tmp 49) (.tmp 53) 29 rfl qiR wv.heap.size i0 _ 64 Try.underlying29 hi0 hq0 hq1 hq2 rfl (by decide) _ ([]) (L.take r) 0 rfl rfl HR0.out (some ⟨b, o, none⟩) (r) (cT) rfl HM.out.1 HM.out.2.2.1 HM.out.2.2.2.1 HM.out.2.2.2.2.1 (by unfold maxLen; omega) (by omega) HBR_3.out.size ?_
                intro A4 N4 c4 v3p hof hgf
                rw [List.nil_append] at hof
                have HR_4 := Lib.hid hof
                have HBR_4 : Hid (Below wv.heap.size wv v3p) := Lib.hid (HBR_3.out.grown hgf HBR_3.out.size (fun z e => (World.ownsRow.lt HR0.out z e).1))
                clear hof hgf HM HR0 HBR_3
                refine hK.out _ _ (fun _ => (CS _ HBR_4.out)) ?_
                clear hK K
                try simp only [Act.put]
                refine wpLate_two (i := 13) (k := 15) (by kernel_rfl) rfl rfl (fun K hK => ?xaCaa) (fun K hK => ?yaCaa)
                case xaCaa =>
                  have HM := Lib.hid ((QIn.cutP (r := r1) HQ0.out).below HBR_4.out (Nat.le_refl _))
                  refine step_app_sl rfl (.tmp 54) (.tmp 59) 29 rfl qiR wv.heap.size i0 _ 64 Try.underlying29 hi0 hq0 hq1 hq2 rfl (by decide) _ (L.take r) (L.drop r1) r HTK.out rfl HR_4.out (some ⟨b, o + r1 * 4, none⟩) (N - r1) (cT - r1) rfl HM.out.1 HM.out.2.2.1 HM.out.2.2.2.1 HM.out.2.2.2.2.1 (by unfold maxLen; omega) (by omega) HBR_4.out.size ?_
                  intro A5 N5 c5 v4p hof hgf
                  have HR_5 := Lib.hid hof
                  have HBR_5 : Hid (Below wv.heap.size wv v4p) := Lib.hid (HBR_4.out.grown hgf HBR_4.out.size (fun z e => (World.ownsRow.lt HR_4.out z e).1))
                  clear hof hgf HM HR_4 HBR_4
                  refine hK.out _ _ (fun _ => (CS _ HBR_5.out)) ?_
                  clear hK K
                  try simp only [Act.put]
                  refine wpLate_take (i := 14) (v := ?v14aCaCaaa) rfl (by kernel_rfl) (by kernel_rfl) (by kernel_rfl) (by kernel_rfl) (by kernel_rfl) (fun _ _ _ h => h) (CS _ HBR_5.out) (by rfl) ?hy14aCaCaaa ?r14aCaCaaa
                  case hy14aCaCaaa =>
                    rintro wz ⟨z0, z1⟩
                    go_simp
                    try with_reducible rfl
                  try simp only [Act.put]
                  refine wpLate_one (i := 15) (by kernel_rfl) rfl (fun K hK => ?_)
                  refine name_nat v4p.heap.size (fun F hF => ?_)
                  refine name_wd (v4p.alloc (.cells #[.int .i64 0, .slice none 0 0] 31)) (fun v5c hv5c => ?_)
                  have HFL : Hid (wv.heap.size ≤ F) := Lib.hid (by rw [← hF]; exact HBR_5.out.size)
                  have hbc : Below v4p.heap.size v4p v5c := by rw [← hv5c]; exact below_newq v4p _ _
                  have HFN := Lib.hid (show Whole v5c F 31 #[.int .i64 0, .slice none 0 0] by rw [← hv5c, ← hF]; exact Whole.made _ _ _)
                  have HBR_6 := Lib.hid (HBR_5.out.trans (hbc.mono HBR_5.out.size))
                  have HR_6 := Lib.hid (HR_5.out.kept hbc)
                  clear HR_5 HBR_5
                  clear hbc
                  go_simp
                  refine hK.out _ _ (fun _ => (CS _ HBR_6.out)) ?_
                  clear hK K
                  try simp only [Act.put]
                  have HBs := Lib.hid (show Below wv.heap.size wv ((v5c.setCell ⟨F, 0, none⟩ (.int .i64 n)).setCell ⟨F, 1, none⟩ (.slice A5 N5 c5)) from ((HBR_6.out.setCell (p := ⟨F, 0, none⟩) HFL.out _).setCell (p := ⟨F, 1, none⟩) HFL.out _))
                  have HFs : Hid (Whole ((v5c.setCell ⟨F, 0, none⟩ (.int .i64 n)).setCell ⟨F, 1, none⟩ (.slice A5 N5 c5)) F 31 #[.int .i64 n, .slice A5 N5 c5]) := Lib.hid ((HFN.out.store 0 _).store 1 _)
                  have HIs : Hid (ROwn qiR ((v5c.setCell ⟨F, 0, none⟩ (.int .i64 n)).setCell ⟨F, 1, none⟩ (.slice A5 N5 c5)) wv.heap.size (.slice A5 N5 c5) (L.take r ++ (L.drop r1))) := Lib.hid ((HR_6.out.store (p := ⟨F, 0, none⟩) (HR_6.out.whole HFN.out (by decide)) _).store (p := ⟨F, 1, none⟩) (HR_6.out.whole HFN.out (by decide)) _)
                  have f0 := HFN.out.cell 0
                  have f1 := HFN.out.cell 1
                  have j0 := HFN.out.free 0
                  have j1 := HFN.out.free 1
                  simp only [List.getElem?_toArray, List.getElem?_cons_zero, List.getElem?_cons_succ] at f0 f1
                  refine wpLate_one (i := 16) (by kernel_rfl) rfl (fun K hK => ?_)
                  go_simp
                  refine hK.out _ _ (fun h => absurd rfl h) ?_
                  clear hK K
                  try simp only [Act.put]
                  refine wpLate_done (by kernel_rfl) ?_ _
                  go_wp2_with fail
                  go_meet
                  case rel => exact ⟨F, A5, N5, c5, rfl, HBs, HFs, HIs⟩
                case yaCaa =>
                  refine name_nat v3p.heap.size (fun F hF => ?_)
                  refine name_wd (v3p.alloc (.cells #[.int .i64 0, .slice none 0 0] 31)) (fun v4c hv4c => ?_)
                  have HFL : Hid (wv.heap.size ≤ F) := Lib.hid (by rw [← hF]; exact HBR_4.out.size)
                  have hbc : Below v3p.heap.size v3p v4c := by rw [← hv4c]; exact below_newq v3p _ _
                  have HFN := Lib.hid (show Whole v4c F 31 #[.int .i64 0, .slice none 0 0] by rw [← hv4c, ← hF]; exact Whole.made _ _ _)
                  have HBR_5 := Lib.hid (HBR_4.out.trans (hbc.mono HBR_4.out.size))
                  have HR_5 := Lib.hid (HR_4.out.kept hbc)
                  clear HR_4 HBR_4
                  clear hbc
                  go_simp
                  refine hK.out _ _ (fun _ => (CS _ HBR_5.out)) ?_
                  clear hK K
                  try simp only [Act.put]
                  refine wpLate_one (i := 13) (by kernel_rfl) rfl (fun K hK => ?_)
                  have HM := Lib.hid ((QIn.cutP (r := r1) HQ0.out).below HBR_5.out (Nat.le_refl _))
                  refine step_app_sl rfl (.tmp 54) (.tmp 59) 29 rfl qiR wv.heap.size i0 _ 64 Try.underlying29 hi0 hq0 hq1 hq2 rfl (by decide) _ (L.take r) (L.drop r1) r HTK.out rfl HR_5.out (some ⟨b, o + r1 * 4, none⟩) (N - r1) (cT - r1) rfl HM.out.1 HM.out.2.2.1 HM.out.2.2.2.1 HM.out.2.2.2.2.1 (by unfold maxLen; omega) (by omega) HBR_5.out.size ?_
                  intro A6 N6 c6 v5p hof hgf
                  have HR_6 := Lib.hid hof
                  have HBR_6 : Hid (Below wv.heap.size wv v5p) := Lib.hid (HBR_5.out.grown hgf HBR_5.out.size (fun z e => (World.ownsRow.lt HR_5.out z e).1))
                  have HF_6 := Lib.hid (HFN.out.grown hgf (fun e => (HR_5.out.whole HFN.out (by decide)) e.symm))
                  clear hof hgf HM HFN HR_5 HBR_5
                  refine hK.out _ _ (fun _ => (CS _ HBR_6.out)) ?_
                  clear hK K
                  try simp only [Act.put]
                  refine wpLate_take (i := 14) (v := ?v14aCaCaabo) rfl (by kernel_rfl) (by kernel_rfl) (by kernel_rfl) (by kernel_rfl) (by kernel_rfl) (fun _ _ _ h => h) (CS _ HBR_6.out) (by rfl) ?hy14aCaCaabo ?r14aCaCaabo
                  case hy14aCaCaabo =>
                    rintro wz ⟨z0, z1⟩
                    go_simp
                    try with_reducible rfl
                  try simp only [Act.put]
                  have HBs := Lib.hid (show Below wv.heap.size wv ((v5p.setCell ⟨F, 0, none⟩ (.int .i64 n)).setCell ⟨F, 1, none⟩ (.slice A6 N6 c6)) from ((HBR_6.out.setCell (p := ⟨F, 0, none⟩) HFL.out _).setCell (p := ⟨F, 1, none⟩) HFL.out _))
                  have HFs : Hid (Whole ((v5p.setCell ⟨F, 0, none⟩ (.int .i64 n)).setCell ⟨F, 1, none⟩ (.slice A6 N6 c6)) F 31 #[.int .i64 n, .slice A6 N6 c6]) := Lib.hid ((HF_6.out.store 0 _).store 1 _)
                  have HIs : Hid (ROwn qiR ((v5p.setCell ⟨F, 0, none⟩ (.int .i64 n)).setCell ⟨F, 1, none⟩ (.slice A6 N6 c6)) wv.heap.size (.slice A6 N6 c6) (L.take r ++ (L.drop r1))) := Lib.hid ((HR_6.out.store (p := ⟨F, 0, none⟩) (HR_6.out.whole HF_6.out (by decide)) _).store (p := ⟨F, 1, none⟩) (HR_6.out.whole HF_6.out (by decide)) _)
                  have f0 := HF_6.out.cell 0
                  have f1 := HF_6.out.cell 1
                  have j0 := HF_6.out.free 0
                  have j1 := HF_6.out.free 1
                  simp only [List.getElem?_toArray, List.getElem?_cons_zero, List.getElem?_cons_succ] at f0 f1
                  refine wpLate_one (i := 16) (by kernel_rfl) rfl (fun K hK => ?_)
                  go_simp
                  refine hK.out _ _ (fun h => absurd rfl h) ?_
                  clear hK K
                  try simp only [Act.put]
                  refine wpLate_done (by kernel_rfl) ?_ _
                  go_wp2_with fail
                  go_meet
                  case rel => exact ⟨F, A6, N6, c6, rfl, HBs, HFs, HIs⟩
              case yaCa =>
                refine name_nat v2b.heap.size (fun F hF => ?_)
                refine name_wd (v2b.alloc (.cells #[.int .i64 0, .slice none 0 0] 31)) (fun v3c hv3c => ?_)
                have HFL : Hid (wv.heap.size ≤ F) := Lib.hid (by rw [← hF]; exact HBR_3.out.size)
                have hbc : Below v2b.heap.size v2b v3c := by rw [← hv3c]; exact below_newq v2b _ _
                have HFN := Lib.hid (show Whole v3c F 31 #[.int .i64 0, .slice none 0 0] by rw [← hv3c, ← hF]; exact Whole.made _ _ _)
                have HBR_4 := Lib.hid (HBR_3.out.trans (hbc.mono HBR_3.out.size))
                have HR_4 := Lib.hid (HR0.out.kept hbc)
                clear HR0 HBR_3
                clear hbc
                go_simp
                refine hK.out _ _ (fun _ => (CS _ HBR_4.out)) ?_
                clear hK K
                try simp only [Act.put]
                refine wpLate_one (i := 7) (by kernel_rfl) rfl (fun K hK => ?_)
                have HM := Lib.hid ((QIn.takeP HQ0.out (show r ≤ N by omega)).below HBR_4.out (Nat.le_refl _))
                refine step_app_sl rfl (.tmp 49) (.tmp 53) 29 rfl qiR wv.heap.size i0 _ 64 Try.underlying29 hi0 hq0 hq1 hq2 rfl (by decide) _ ([]) (L.take r) 0 rfl rfl HR_4.out (some ⟨b, o, none⟩) (r) (cT) rfl HM.out.1 HM.out.2.2.1 HM.out.2.2.2.1 HM.out.2.2.2.2.1 (by unfold maxLen; omega) (by omega) HBR_4.out.size ?_
                intro A5 N5 c5 v4p hof hgf
                rw [List.nil_append] at hof
                have HR_5 := Lib.hid hof
                have HBR_5 : Hid (Below wv.heap.size wv v4p) := Lib.hid (HBR_4.out.grown hgf HBR_4.out.size (fun z e => (World.ownsRow.lt HR_4.out z e).1))
                have HF_5 := Lib.hid (HFN.out.grown hgf (fun e => (HR_4.out.whole HFN.out (by decide)) e.symm))
                clear hof hgf HM HFN HR_4 HBR_4
                refine hK.out _ _ (fun _ => (CS _ HBR_5.out)) ?_
                clear hK K
                try simp only [Act.put]
                refine wpLate_one (i := 13) (by kernel_rfl) rfl (fun K hK => ?_)
                have HM := Lib.hid ((QIn.cutP (r := r1) HQ0.out).below HBR_5.out (Nat.le_refl _))
                refine step_app_sl rfl (.tmp 54) (.tmp 59) 29 rfl qiR wv.heap.size i0 _ 64 Try.underlying29 hi0 hq0 hq1 hq2 rfl (by decide) _ (L.take r) (L.drop r1) r HTK.out rfl HR_5.out (some ⟨b, o + r1 * 4, none⟩) (N - r1) (cT - r1) rfl HM.out.1 HM.out.2.2.1 HM.out.2.2.2.1 HM.out.2.2.2.2.1 (by unfold maxLen; omega) (by omega) HBR_5.out.size ?_
                intro A6 N6 c6 v5p hof hgf
                have HR_6 := Lib.hid hof
                have HBR_6 : Hid (Below wv.heap.size wv v5p) := Lib.hid (HBR_5.out.grown hgf HBR_5.out.size (fun z e => (World.ownsRow.lt HR_5.out z e).1))
                have HF_6 := Lib.hid (HF_5.out.grown hgf (fun e => (HR_5.out.whole HF_5.out (by decide)) e.symm))
                clear hof hgf HM HF_5 HR_5 HBR_5
                refine hK.out _ _ (fun _ => (CS _ HBR_6.out)) ?_
                clear hK K
                try simp only [Act.put]
                refine wpLate_take (i := 14) (v := ?v14aCaCaboo) rfl (by kernel_rfl) (by kernel_rfl) (by kernel_rfl) (by kernel_rfl) (by kernel_rfl) (fun _ _ _ h => h) (CS _ HBR_6.out) (by rfl) ?hy14aCaCaboo ?r14aCaCaboo
                case hy14aCaCaboo =>
                  rintro wz ⟨z0, z1⟩
                  go_simp
                  try with_reducible rfl
                try simp only [Act.put]
                have HBs := Lib.hid (show Below wv.heap.size wv ((v5p.setCell ⟨F, 0, none⟩ (.int .i64 n)).setCell ⟨F, 1, none⟩ (.slice A6 N6 c6)) from ((HBR_6.out.setCell (p := ⟨F, 0, none⟩) HFL.out _).setCell (p := ⟨F, 1, none⟩) HFL.out _))
                have HFs : Hid (Whole ((v5p.setCell ⟨F, 0, none⟩ (.int .i64 n)).setCell ⟨F, 1, none⟩ (.slice A6 N6 c6)) F 31 #[.int .i64 n, .slice A6 N6 c6]) := Lib.hid ((HF_6.out.store 0 _).store 1 _)
                have HIs : Hid (ROwn qiR ((v5p.setCell ⟨F, 0, none⟩ (.int .i64 n)).setCell ⟨F, 1, none⟩ (.slice A6 N6 c6)) wv.heap.size (.slice A6 N6 c6) (L.take r ++ (L.drop r1))) := Lib.hid ((HR_6.out.store (p := ⟨F, 0, none⟩) (HR_6.out.whole HF_6.out (by decide)) _).store (p := ⟨F, 1, none⟩) (HR_6.out.whole HF_6.out (by decide)) _)
                have f0 := HF_6.out.cell 0
                have f1 := HF_6.out.cell 1
                have j0 := HF_6.out.free 0
                have j1 := HF_6.out.free 1
                simp only [List.getElem?_toArray, List.getElem?_cons_zero, List.getElem?_cons_succ] at f0 f1
                refine wpLate_one (i := 16) (by kernel_rfl) rfl (fun K hK => ?_)
                go_simp
                refine hK.out _ _ (fun h => absurd rfl h) ?_
                clear hK K
                try simp only [Act.put]
                refine wpLate_done (by kernel_rfl) ?_ _
                go_wp2_with fail
                go_meet
                case rel => exact ⟨F, A6, N6, c6, rfl, HBs, HFs, HIs⟩
            case yaC =>
              refine name_nat wd.heap.size (fun F hF => ?_)
              refine name_wd (wd.alloc (.cells #[.int .i64 0, .slice none 0 0] 31)) (fun v2c hv2c => ?_)
              have HFL : Hid (wv.heap.size ≤ F) := Lib.hid (by rw [← hF]; exact HBR.out.size)
              have hbc : Below wd.heap.size wd v2c := by rw [← hv2c]; exact below_newq wd _ _
              have HFN := Lib.hid (show Whole v2c F 31 #[.int .i64 0, .slice none 0 0] by rw [← hv2c, ← hF]; exact Whole.made _ _ _)
              have HBR_3 := Lib.hid (HBR.out.trans (hbc.mono HBR.out.size))
              clear HBR
              clear hbc
              go_simp
              refine hK.out _ _ (fun _ => (CS _ HBR_3.out)) ?_
              clear hK K
              try simp only [Act.put]
              refine wpLate_one (i := 2) (by kernel_rfl) rfl (fun K hK => ?_)
              refine name_nat v2c.heap.size (fun S1 hS1 => ?_)
              refine name_wd (v2c.alloc (.cells #[] 38)) (fun v3b hv3b => ?_)
              have hbc : Below v2c.heap.size v2c v3b := by rw [← hv3b]; exact below_new _ _
              have HR0 := Lib.hid (show ROwn qiR v3b wv.heap.size (.slice (some ⟨S1, 0, none⟩) 0 0) [] by rw [← hv3b]; exact ROwn.lit v2c S1 HBR_3.out.size hS1)
              have HBR_4 := Lib.hid (HBR_3.out.trans (hbc.mono HBR_3.out.size))
              have HF'_4 := Lib.hid (HFN.out.below hbc HFN.out.lt)
              clear HFN HBR_3
              clear hbc
              go_simp
              refine hK.out _ _ (fun _ => (CS _ HBR_4.out)) ?_
              clear hK K
              try simp only [Act.put]
              refine wpLate_one (i := 7) (by kernel_rfl) rfl (fun K hK => ?_)
              have HM := Lib.hid ((QIn.takeP HQ0.out (show r ≤ N by omega)).below HBR_4.out (Nat.le_refl _))
              refine step_app_sl rfl (.tmp 49) (.tmp 53) 29 rfl qiR wv.heap.size i0 _ 64 Try.underlying29 hi0 hq0 hq1 hq2 rfl (by decide) _ ([]) (L.take r) 0 rfl rfl HR0.out (some ⟨b, o, none⟩) (r) (cT) rfl HM.out.1 HM.out.2.2.1 HM.out.2.2.2.1 HM.out.2.2.2.2.1 (by unfold maxLen; omega) (by omega) HBR_4.out.size ?_
              intro A5 N5 c5 v4p hof hgf
              rw [List.nil_append] at hof
              have HR_5 := Lib.hid hof
              have HBR_5 : Hid (Below wv.heap.size wv v4p) := Lib.hid (HBR_4.out.grown hgf HBR_4.out.size (fun z e => (World.ownsRow.lt HR0.out z e).1))
              have HF_5 := Lib.hid (HF'_4.out.grown hgf (fun e => (HR0.out.whole HF'_4.out (by decide)) e.symm))
              clear hof hgf HM HF'_4 HR0 HBR_4
              refine hK.out _ _ (fun _ => (CS _ HBR_5.out)) ?_
              clear hK K
              try simp only [Act.put]
              refine wpLate_one (i := 13) (by kernel_rfl) rfl (fun K hK => ?_)
              have HM := Lib.hid ((QIn.cutP (r := r1) HQ0.out).below HBR_5.out (Nat.le_refl _))
              refine step_app_sl rfl (.tmp 54) (.tmp 59) 29 rfl qiR wv.heap.size i0 _ 64 Try.underlying29 hi0 hq0 hq1 hq2 rfl (by decide) _ (L.take r) (L.drop r1) r HTK.out rfl HR_5.out (some ⟨b, o + r1 * 4, none⟩) (N - r1) (cT - r1) rfl HM.out.1 HM.out.2.2.1 HM.out.2.2.2.1 HM.out.2.2.2.2.1 (by unfold maxLen; omega) (by omega) HBR_5.out.size ?_
              intro A6 N6 c6 v5p hof hgf
              have HR_6 := Lib.hid hof
              have HBR_6 : Hid (Below wv.heap.size wv v5p) := Lib.hid (HBR_5.out.grown hgf HBR_5.out.size (fun z e => (World.ownsRow.lt HR_5.out z e).1))
              have HF_6 := Lib.hid (HF_5.out.grown hgf (fun e => (HR_5.out.whole HF_5.out (by decide)) e.symm))
              clear hof hgf HM HF_5 HR_5 HBR_5
              refine hK.out _ _ (fun _ => (CS _ HBR_6.out)) ?_
              clear hK K
              try simp only [Act.put]
              refine wpLate_take (i := 14) (v := ?v14aCaCbooo) rfl (by kernel_rfl) (by kernel_rfl) (by kernel_rfl) (by kernel_rfl) (by kernel_rfl) (fun _ _ _ h => h) (CS _ HBR_6.out) (by rfl) ?hy14aCaCbooo ?r14aCaCbooo
              case hy14aCaCbooo =>
                rintro wz ⟨z0, z1⟩
                go_simp
                try with_reducible rfl
              try simp only [Act.put]
              have HBs := Lib.hid (show Below wv.heap.size wv ((v5p.setCell ⟨F, 0, none⟩ (.int .i64 n)).setCell ⟨F, 1, none⟩ (.slice A6 N6 c6)) from ((HBR_6.out.setCell (p := ⟨F, 0, none⟩) HFL.out _).setCell (p := ⟨F, 1, none⟩) HFL.out _))
              have HFs : Hid (Whole ((v5p.setCell ⟨F, 0, none⟩ (.int .i64 n)).setCell ⟨F, 1, none⟩ (.slice A6 N6 c6)) F 31 #[.int .i64 n, .slice A6 N6 c6]) := Lib.hid ((HF_6.out.store 0 _).store 1 _)
              have HIs : Hid (ROwn qiR ((v5p.setCell ⟨F, 0, none⟩ (.int .i64 n)).setCell ⟨F, 1, none⟩ (.slice A6 N6 c6)) wv.heap.size (.slice A6 N6 c6) (L.take r ++ (L.drop r1))) := Lib.hid ((HR_6.out.store (p := ⟨F, 0, none⟩) (HR_6.out.whole HF_6.out (by decide)) _).store (p := ⟨F, 1, none⟩) (HR_6.out.whole HF_6.out (by decide)) _)
              have f0 := HF_6.out.cell 0
              have f1 := HF_6.out.cell 1
              have j0 := HF_6.out.free 0
              have j1 := HF_6.out.free 1
              simp only [List.getElem?_toArray, List.getElem?_cons_zero, List.getElem?_cons_succ] at f0 f1
              refine wpLate_one (i := 16) (by kernel_rfl) rfl (fun K hK => ?_)
              go_simp
              refine hK.out _ _ (fun h => absurd rfl h) ?_
              clear hK K
              try simp only [Act.put]
              refine wpLate_done (by kernel_rfl) ?_ _
              go_wp2_with fail
              go_meet
              case rel => exact ⟨F, A6, N6, c6, rfl, HBs, HFs, HIs⟩
          case rest =>
            obtain ⟨wxa, hwx⟩ : ∃ z, z = wc := ⟨_, rfl⟩
            subst hwx
            obtain ⟨Fa, Aa, Na, ca, rfl, KB, KF, KI⟩ := hcut
            have hb := KB.out
            clear cHX0 cHX1
            have HB_3 := Lib.hid (HB_2.out.trans (hb.mono HB_2.out.size))
            have HX_3 := Lib.hid (HX_2.out.below hb HX_2.out.lt)
            have HJ_3 := Lib.hid (HJ_2.out.below hb (Nat.le_refl _))
            clear HJ_2 HX_2 HB_2
            have Ha := Lib.hid (KF.out)
            have Ra := Lib.hid (KI.out)
            clear hb KB KF KI
            have cHX0 := HX_3.out.cell 0
            have cHX1 := HX_3.out.cell 1
            simp only [List.getElem?_toArray, List.getElem?_cons_zero, List.getElem?_cons_succ] at cHX0 cHX1
            go_upto_region 10 with fail
            go_cut [10] (fun s1 wxb => ∃ (F : Nat) (A' : Option Addr) (N' c' : Nat), s1 = .pointer (some ⟨F, 0, none⟩) ∧ Hid (Below wxa.heap.size wxa wxb) ∧ Hid (Whole wxb F 31 #[.int .i64 n, .slice A' N' c']) ∧ Hid (ROwn qiR wxb wxa.heap.size (.slice A' N' c') (L.take r1 ++ (L.drop r))))
            case first =>
              have CS : ∀ wx, Below wxa.heap.size wxa wx → (fun w' => w'.cell? ⟨D, 0, none⟩ = some (.int .i64 n) ∧ w'.cell? ⟨D, 1, none⟩ = some (.slice (some ⟨b, o, none⟩) N cT)) wx := fun wx hbx => ⟨(hbx.cell (p := ⟨D, 0, none⟩) HX_3.out.lt).trans cHX0, (hbx.cell (p := ⟨D, 1, none⟩) HX_3.out.lt).trans cHX1⟩
              have HBR := Lib.hid (below_drew1 wxa)
              have HQ0 := Lib.hid HJ_3.out
              have hcd := CS _ HBR.out
              have HTK : Hid ((L.take r1).length = r1) := Lib.hid (by rw [List.length_take, HQ0.out.1]; omega)
              clear cHX0 cHX1
              refine wp_region_late (fun w' => w'.cell? ⟨D, 0, none⟩ = some (.int .i64 n) ∧ w'.cell? ⟨D, 1, none⟩ = some (.slice (some ⟨b, o, none⟩) N cT)) 16 (by kernel_rfl) ?_
              revert HBR hcd
              generalize wxa.drew = wd
              intro HBR hcd
              refine wpLate_take (i := 0) (v := ?v0bC) rfl (by kernel_rfl) (by kernel_rfl) (by kernel_rfl) (by kernel_rfl) (by kernel_rfl) (fun _ _ _ h => h) hcd (by rfl) ?hy0bC ?r0bC
              case hy0bC =>
                rintro wz ⟨z0, z1⟩
                go_simp
                try with_reducible rfl
              try simp only [Act.put]
              refine wpLate_take (i := 1) (v := ?v1bC) rfl (by kernel_rfl) (by kernel_rfl) (by kernel_rfl) (by kernel_rfl) (by kernel_rfl) (fun _ _ _ h => h) hcd (by rfl) ?hy1bC ?r1bC
              case hy1bC =>
                rintro wz ⟨z0, z1⟩
                go_simp
                try with_reducible rfl
              try simp only [Act.put]
              refine wpLate_take (i := 3) (v := ?v3bC) rfl (by kernel_rfl) (by kernel_rfl) (by kernel_rfl) (by kernel_rfl) (by kernel_rfl) (fun _ _ _ h => h) hcd (by rfl) ?hy3bC ?r3bC
              case hy3bC =>
                rintro wz ⟨z0, z1⟩
                go_simp
                try with_reducible rfl
              try simp only [Act.put]
              refine wpLate_take (i := 4) (v := ?v4bC) rfl (by kernel_rfl) (by kernel_rfl) (by kernel_rfl) (by kernel_rfl) (by kernel_rfl) (fun _ _ _ h => h) hcd (by rfl) ?hy4bC ?r4bC
              case hy4bC =>
                rintro wz ⟨z0, z1⟩
                go_simp
                try with_reducible rfl
              try simp only [Act.put]
              refine wpLate_take (i := 5) (v := ?v5bC) rfl (by kernel_rfl) (by kernel_rfl) (by kernel_rfl) (by kernel_rfl) (by kernel_rfl) (fun _ _ _ h => h) hcd (by rfl) ?hy5bC ?r5bC
              case hy5bC =>
                rintro wz ⟨z0, z1⟩
                go_simp
                try with_reducible rfl
              try simp only [Act.put]
              refine wpLate_take (i := 6) (v := ?v6bC) rfl (by kernel_rfl) (by kernel_rfl) (by kernel_rfl) (by kernel_rfl) (by kernel_rfl) (fun _ _ _ h => h) hcd (by rfl) ?hy6bC ?r6bC
              case hy6bC =>
                rintro wz ⟨z0, z1⟩
                go_simp
                try with_reducible rfl
              try simp only [Act.put]
              refine wpLate_take (i := 7) (v := ?v7bC) rfl (by kernel_rfl) (by kernel_rfl) (by kernel_rfl) (by kernel_rfl) (by kernel_rfl) (fun _ _ _ h => h) hcd (by rfl) ?hy7bC ?r7bC
              case hy7bC =>
                rintro wz ⟨z0, z1⟩
                go_simp
                try with_reducible rfl
              try simp only [Act.put]
              refine wpLate_take (i := 9) (v := ?v9bC) rfl (by kernel_rfl) (by kernel_rfl) (by kernel_rfl) (by kernel_rfl) (by kernel_rfl) (fun _ _ _ h => h) hcd (by rfl) ?hy9bC ?r9bC
              case hy9bC =>
                rintro wz ⟨z0, z1⟩
                go_simp
                try with_reducible rfl
              try simp only [Act.put]
              refine wpLate_take (i := 10) (v := ?v10bC) rfl (by kernel_rfl) (by kernel_rfl) (by kernel_rfl) (by kernel_rfl) (by kernel_rfl) (fun _ _ _ h => h) hcd (by rfl) ?hy10bC ?r10bC
              case hy10bC =>
                rintro wz ⟨z0, z1⟩
                go_simp
                try with_reducible rfl
              try simp only [Act.put]
              refine wpLate_take (i := 11) (v := ?v11bC) rfl (by kernel_rfl) (by kernel_rfl) (by kernel_rfl) (by kernel_rfl) (by kernel_rfl) (fun _ _ _ h => h) hcd (by rfl) ?hy11bC ?r11bC
              case hy11bC =>
                rintro wz ⟨z0, z1⟩
                go_simp
                try with_reducible rfl
              try simp only [Act.put]
              refine wpLate_take (i := 12) (v := ?v12bC) rfl (by kernel_rfl) (by kernel_rfl) (by kernel_rfl) (by kernel_rfl) (by kernel_rfl) (fun _ _ _ h => h) hcd (by rfl) ?hy12bC ?r12bC
              case hy12bC =>
                rintro wz ⟨z0, z1⟩
                go_simp
                try with_reducible rfl
              try simp only [Act.put]
              refine wpLate_two (i := 2) (k := 15) (by kernel_rfl) rfl rfl (fun K hK => ?xbC) (fun K hK => ?ybC)
              case xbC =>
                refine name_nat wd.heap.size (fun S1 hS1 => ?_)
                refine name_wd (wd.alloc (.cells #[] 38)) (fun v3b hv3b => ?_)
                have hbc : Below wd.heap.size wd v3b := by rw [← hv3b]; exact below_new _ _
                have HR0 := Lib.hid (show ROwn qiR v3b wxa.heap.size (.slice (some ⟨S1, 0, none⟩) 0 0) [] by rw [← hv3b]; exact ROwn.lit wd S1 HBR.out.size hS1)
                have HBR_4 := Lib.hid (HBR.out.trans (hbc.mono HBR.out.size))
                clear HBR
                clear hbc
                go_simp
                refine hK.out _ _ (fun _ => (CS _ HBR_4.out)) ?_
                clear hK K
                try simp only [Act.put]
                refine wpLate_two (i := 8) (k := 15) (by kernel_rfl) rfl rfl (fun K hK => ?xbCa) (fun K hK => ?ybCa)
                case xbCa =>
                  have HM := Lib.hid ((QIn.takeP HQ0.out (show r1 ≤ N by omega)).below HBR_4.out (Nat.le_refl _))
                  refine step_app_sl rfl (.tmp 64) (.tmp 69) 29 rfl qiR wxa.heap.size i0 _ 64 Try.underlying29 hi0 hq0 hq1 hq2 rfl (by decide) _ ([]) (L.take r1) 0 rfl rfl HR0.out (some ⟨b, o, none⟩) (r1) (cT) rfl HM.out.1 HM.out.2.2.1 HM.out.2.2.2.1 HM.out.2.2.2.2.1 (by unfold maxLen; omega) (by omega) HBR_4.out.size ?_
                  intro A5 N5 c5 v4p hof hgf
                  rw [List.nil_append] at hof
                  have HR_5 := Lib.hid hof
                  have HBR_5 : Hid (Below wxa.heap.size wxa v4p) := Lib.hid (HBR_4.out.grown hgf HBR_4.out.size (fun z e => (World.ownsRow.lt HR0.out z e).1))
                  clear hof hgf HM HR0 HBR_4
                  refine hK.out _ _ (fun _ => (CS _ HBR_5.out)) ?_
                  clear hK K
                  try simp only [Act.put]
                  refine wpLate_two (i := 13) (k := 15) (by kernel_rfl) rfl rfl (fun K hK => ?xbCaa) (fun K hK => ?ybCaa)
                  case xbCaa =>
                    have HM := Lib.hid ((QIn.cutP (r := r) HQ0.out).below HBR_5.out (Nat.le_refl _))
                    refine step_app_sl rfl (.tmp 70) (.tmp 74) 29 rfl qiR wxa.heap.size i0 _ 64 Try.underlying29 hi0 hq0 hq1 hq2 rfl (by decide) _ (L.take r1) (L.drop r) r1 HTK.out rfl HR_5.out (some ⟨b, o + r * 4, none⟩) (N - r) (cT - r) rfl HM.out.1 HM.out.2.2.1 HM.out.2.2.2.1 HM.out.2.2.2.2.1 (by unfold maxLen; omega) (by omega) HBR_5.out.size ?_
                    intro A6 N6 c6 v5p hof hgf
                    have HR_6 := Lib.hid hof
                    have HBR_6 : Hid (Below wxa.heap.size wxa v5p) := Lib.hid (HBR_5.out.grown hgf HBR_5.out.size (fun z e => (World.ownsRow.lt HR_5.out z e).1))
                    clear hof hgf HM HR_5 HBR_5
                    refine hK.out _ _ (fun _ => (CS _ HBR_6.out)) ?_
                    clear hK K
                    try simp only [Act.put]
                    refine wpLate_take (i := 14) (v := ?v14bCbCaaa) rfl (by kernel_rfl) (by kernel_rfl) (by kernel_rfl) (by kernel_rfl) (by kernel_rfl) (fun _ _ _ h => h) (CS _ HBR_6.out) (by rfl) ?hy14bCbCaaa ?r14bCbCaaa
                    case hy14bCbCaaa =>
                      rintro wz ⟨z0, z1⟩
                      go_simp
                      try with_reducible rfl
                    try simp only [Act.put]
                    refine wpLate_one (i := 15) (by kernel_rfl) rfl (fun K hK => ?_)
                    refine name_nat v5p.heap.size (fun F hF => ?_)
                    refine name_wd (v5p.alloc (.cells #[.int .i64 0, .slice none 0 0] 31)) (fun v6c hv6c => ?_)
                    have HFL : Hid (wxa.heap.size ≤ F) := Lib.hid (by rw [← hF]; exact HBR_6.out.size)
                    have hbc : Below v5p.heap.size v5p v6c := by rw [← hv6c]; exact below_newq v5p _ _
                    have HFN := Lib.hid (show Whole v6c F 31 #[.int .i64 0, .slice none 0 0] by rw [← hv6c, ← hF]; exact Whole.made _ _ _)
                    have HBR_7 := Lib.hid (HBR_6.out.trans (hbc.mono HBR_6.out.size))
                    have HR_7 := Lib.hid (HR_6.out.kept hbc)
                    clear HR_6 HBR_6
                    clear hbc
                    go_simp
                    refine hK.out _ _ (fun _ => (CS _ HBR_7.out)) ?_
                    clear hK K
                    try simp only [Act.put]
                    have HBs := Lib.hid (show Below wxa.heap.size wxa ((v6c.setCell ⟨F, 0, none⟩ (.int .i64 n)).setCell ⟨F, 1, none⟩ (.slice A6 N6 c6)) from ((HBR_7.out.setCell (p := ⟨F, 0, none⟩) HFL.out _).setCell (p := ⟨F, 1, none⟩) HFL.out _))
                    have HFs : Hid (Whole ((v6c.setCell ⟨F, 0, none⟩ (.int .i64 n)).setCell ⟨F, 1, none⟩ (.slice A6 N6 c6)) F 31 #[.int .i64 n, .slice A6 N6 c6]) := Lib.hid ((HFN.out.store 0 _).store 1 _)
                    have HIs : Hid (ROwn qiR ((v6c.setCell ⟨F, 0, none⟩ (.int .i64 n)).setCell ⟨F, 1, none⟩ (.slice A6 N6 c6)) wxa.heap.size (.slice A6 N6 c6) (L.take r1 ++ (L.drop r))) := Lib.hid ((HR_7.out.store (p := ⟨F, 0, none⟩) (HR_7.out.whole HFN.out (by decide)) _).store (p := ⟨F, 1, none⟩) (HR_7.out.whole HFN.out (by decide)) _)
                    have f0 := HFN.out.cell 0
                    have f1 := HFN.out.cell 1
                    have j0 := HFN.out.free 0
                    have j1 := HFN.out.free 1
                    simp only [List.getElem?_toArray, List.getElem?_cons_zero, List.getElem?_cons_succ] at f0 f1
                    refine wpLate_one (i := 16) (by kernel_rfl) rfl (fun K hK => ?_)
                    go_simp
                    refine hK.out _ _ (fun h => absurd rfl h) ?_
                    clear hK K
                    try simp only [Act.put]
                    refine wpLate_done (by kernel_rfl) ?_ _
                    go_wp2_with fail
                    go_meet
                    case rel => exact ⟨F, A6, N6, c6, rfl, HBs, HFs, HIs⟩
                  case ybCaa =>
                    refine name_nat v4p.heap.size (fun F hF => ?_)
                    refine name_wd (v4p.alloc (.cells #[.int .i64 0, .slice none 0 0] 31)) (fun v5c hv5c => ?_)
                    have HFL : Hid (wxa.heap.size ≤ F) := Lib.hid (by rw [← hF]; exact HBR_5.out.size)
                    have hbc : Below v4p.heap.size v4p v5c := by rw [← hv5c]; exact below_newq v4p _ _
                    have HFN := Lib.hid (show Whole v5c F 31 #[.int .i64 0, .slice none 0 0] by rw [← hv5c, ← hF]; exact Whole.made _ _ _)
                    have HBR_6 := Lib.hid (HBR_5.out.trans (hbc.mono HBR_5.out.size))
                    have HR_6 := Lib.hid (HR_5.out.kept hbc)
                    clear HR_5 HBR_5
                    clear hbc
                    go_simp
                    refine hK.out _ _ (fun _ => (CS _ HBR_6.out)) ?_
                    clear hK K
                    try simp only [Act.put]
                    refine wpLate_one (i := 13) (by kernel_rfl) rfl (fun K hK => ?_)
                    have HM := Lib.hid ((QIn.cutP (r := r) HQ0.out).below HBR_6.out (Nat.le_refl _))
                    refine step_app_sl rfl (.tmp 70) (.tmp 74) 29 rfl qiR wxa.heap.size i0 _ 64 Try.underlying29 hi0 hq0 hq1 hq2 rfl (by decide) _ (L.take r1) (L.drop r) r1 HTK.out rfl HR_6.out (some ⟨b, o + r * 4, none⟩) (N - r) (cT - r) rfl HM.out.1 HM.out.2.2.1 HM.out.2.2.2.1 HM.out.2.2.2.2.1 (by unfold maxLen; omega) (by omega) HBR_6.out.size ?_
                    intro A7 N7 c7 v6p hof hgf
                    have HR_7 := Lib.hid hof
                    have HBR_7 : Hid (Below wxa.heap.size wxa v6p) := Lib.hid (HBR_6.out.grown hgf HBR_6.out.size (fun z e => (World.ownsRow.lt HR_6.out z e).1))
                    have HF_7 := Lib.hid (HFN.out.grown hgf (fun e => (HR_6.out.whole HFN.out (by decide)) e.symm))
                    clear hof hgf HM HFN HR_6 HBR_6
                    refine hK.out _ _ (fun _ => (CS _ HBR_7.out)) ?_
                    clear hK K
                    try simp only [Act.put]
                    refine wpLate_take (i := 14) (v := ?v14bCbCaabo) rfl (by kernel_rfl) (by kernel_rfl) (by kernel_rfl) (by kernel_rfl) (by kernel_rfl) (fun _ _ _ h => h) (CS _ HBR_7.out) (by rfl) ?hy14bCbCaabo ?r14bCbCaabo
                    case hy14bCbCaabo =>
                      rintro wz ⟨z0, z1⟩
                      go_simp
                      try with_reducible rfl
                    try simp only [Act.put]
                    have HBs := Lib.hid (show Below wxa.heap.size wxa ((v6p.setCell ⟨F, 0, none⟩ (.int .i64 n)).setCell ⟨F, 1, none⟩ (.slice A7 N7 c7)) from ((HBR_7.out.setCell (p := ⟨F, 0, none⟩) HFL.out _).setCell (p := ⟨F, 1, none⟩) HFL.out _))
                    have HFs : Hid (Whole ((v6p.setCell ⟨F, 0, none⟩ (.int .i64 n)).setCell ⟨F, 1, none⟩ (.slice A7 N7 c7)) F 31 #[.int .i64 n, .slice A7 N7 c7]) := Lib.hid ((HF_7.out.store 0 _).store 1 _)
                    have HIs : Hid (ROwn qiR ((v6p.setCell ⟨F, 0, none⟩ (.int .i64 n)).setCell ⟨F, 1, none⟩ (.slice A7 N7 c7)) wxa.heap.size (.slice A7 N7 c7) (L.take r1 ++ (L.drop r))) := Lib.hid ((HR_7.out.store (p := ⟨F, 0, none⟩) (HR_7.out.whole HF_7.out (by decide)) _).store (p := ⟨F, 1, none⟩) (HR_7.out.whole HF_7.out (by decide)) _)
                    have f0 := HF_7.out.cell 0
                    have f1 := HF_7.out.cell 1
                    have j0 := HF_7.out.free 0
                    have j1 := HF_7.out.free 1
                    simp only [List.getElem?_toArray, List.getElem?_cons_zero, List.getElem?_cons_succ] at f0 f1
                    refine wpLate_one (i := 16) (by kernel_rfl) rfl (fun K hK => ?_)
                    go_simp
                    refine hK.out _ _ (fun h => absurd rfl h) ?_
                    clear hK K
                    try simp only [Act.put]
                    refine wpLate_done (by kernel_rfl) ?_ _
                    go_wp2_with fail
                    go_meet
                    case rel => exact ⟨F, A7, N7, c7, rfl, HBs, HFs, HIs⟩
                case ybCa =>
                  refine name_nat v3b.heap.size (fun F hF => ?_)
                  refine name_wd (v3b.alloc (.cells #[.int .i64 0, .slice none 0 0] 31)) (fun v4c hv4c => ?_)
                  have HFL : Hid (wxa.heap.size ≤ F) := Lib.hid (by rw [← hF]; exact HBR_4.out.size)
                  have hbc : Below v3b.heap.size v3b v4c := by rw [← hv4c]; exact below_newq v3b _ _
                  have HFN := Lib.hid (show Whole v4c F 31 #[.int .i64 0, .slice none 0 0] by rw [← hv4c, ← hF]; exact Whole.made _ _ _)
                  have HBR_5 := Lib.hid (HBR_4.out.trans (hbc.mono HBR_4.out.size))
                  have HR_5 := Lib.hid (HR0.out.kept hbc)
                  clear HR0 HBR_4
                  clear hbc
                  go_simp
                  refine hK.out _ _ (fun _ => (CS _ HBR_5.out)) ?_
                  clear hK K
                  try simp only [Act.put]
                  refine wpLate_one (i := 8) (by kernel_rfl) rfl (fun K hK => ?_)
                  have HM := Lib.hid ((QIn.takeP HQ0.out (show r1 ≤ N by omega)).below HBR_5.out (Nat.le_refl _))
                  refine step_app_sl rfl (.tmp 64) (.tmp 69) 29 rfl qiR wxa.heap.size i0 _ 64 Try.underlying29 hi0 hq0 hq1 hq2 rfl (by decide) _ ([]) (L.take r1) 0 rfl rfl HR_5.out (some ⟨b, o, none⟩) (r1) (cT) rfl HM.out.1 HM.out.2.2.1 HM.out.2.2.2.1 HM.out.2.2.2.2.1 (by unfold maxLen; omega) (by omega) HBR_5.out.size ?_
                  intro A6 N6 c6 v5p hof hgf
                  rw [List.nil_append] at hof
                  have HR_6 := Lib.hid hof
                  have HBR_6 : Hid (Below wxa.heap.size wxa v5p) := Lib.hid (HBR_5.out.grown hgf HBR_5.out.size (fun z e => (World.ownsRow.lt HR_5.out z e).1))
                  have HF_6 := Lib.hid (HFN.out.grown hgf (fun e => (HR_5.out.whole HFN.out (by decide)) e.symm))
                  clear hof hgf HM HFN HR_5 HBR_5
                  refine hK.out _ _ (fun _ => (CS _ HBR_6.out)) ?_
                  clear hK K
                  try simp only [Act.put]
                  refine wpLate_one (i := 13) (by kernel_rfl) rfl (fun K hK => ?_)
                  have HM := Lib.hid ((QIn.cutP (r := r) HQ0.out).below HBR_6.out (Nat.le_refl _))
                  refine step_app_sl rfl (.tmp 70) (.tmp 74) 29 rfl qiR wxa.heap.size i0 _ 64 Try.underlying29 hi0 hq0 hq1 hq2 rfl (by decide) _ (L.take r1) (L.drop r) r1 HTK.out rfl HR_6.out (some ⟨b, o + r * 4, none⟩) (N - r) (cT - r) rfl HM.out.1 HM.out.2.2.1 HM.out.2.2.2.1 HM.out.2.2.2.2.1 (by unfold maxLen; omega) (by omega) HBR_6.out.size ?_
                  intro A7 N7 c7 v6p hof hgf
                  have HR_7 := Lib.hid hof
                  have HBR_7 : Hid (Below wxa.heap.size wxa v6p) := Lib.hid (HBR_6.out.grown hgf HBR_6.out.size (fun z e => (World.ownsRow.lt HR_6.out z e).1))
                  have HF_7 := Lib.hid (HF_6.out.grown hgf (fun e => (HR_6.out.whole HF_6.out (by decide)) e.symm))
                  clear hof hgf HM HF_6 HR_6 HBR_6
                  refine hK.out _ _ (fun _ => (CS _ HBR_7.out)) ?_
                  clear hK K
                  try simp only [Act.put]
                  refine wpLate_take (i := 14) (v := ?v14bCbCaboo) rfl (by kernel_rfl) (by kernel_rfl) (by kernel_rfl) (by kernel_rfl) (by kernel_rfl) (fun _ _ _ h => h) (CS _ HBR_7.out) (by rfl) ?hy14bCbCaboo ?r14bCbCaboo
                  case hy14bCbCaboo =>
                    rintro wz ⟨z0, z1⟩
                    go_simp
                    try with_reducible rfl
                  try simp only [Act.put]
                  have HBs := Lib.hid (show Below wxa.heap.size wxa ((v6p.setCell ⟨F, 0, none⟩ (.int .i64 n)).setCell ⟨F, 1, none⟩ (.slice A7 N7 c7)) from ((HBR_7.out.setCell (p := ⟨F, 0, none⟩) HFL.out _).setCell (p := ⟨F, 1, none⟩) HFL.out _))
                  have HFs : Hid (Whole ((v6p.setCell ⟨F, 0, none⟩ (.int .i64 n)).setCell ⟨F, 1, none⟩ (.slice A7 N7 c7)) F 31 #[.int .i64 n, .slice A7 N7 c7]) := Lib.hid ((HF_7.out.store 0 _).store 1 _)
                  have HIs : Hid (ROwn qiR ((v6p.setCell ⟨F, 0, none⟩ (.int .i64 n)).setCell ⟨F, 1, none⟩ (.slice A7 N7 c7)) wxa.heap.size (.slice A7 N7 c7) (L.take r1 ++ (L.drop r))) := Lib.hid ((HR_7.out.store (p := ⟨F, 0, none⟩) (HR_7.out.whole HF_7.out (by decide)) _).store (p := ⟨F, 1, none⟩) (HR_7.out.whole HF_7.out (by decide)) _)
                  have f0 := HF_7.out.cell 0
                  have f1 := HF_7.out.cell 1
                  have j0 := HF_7.out.free 0
                  have j1 := HF_7.out.free 1
                  simp only [List.getElem?_toArray, List.getElem?_cons_zero, List.getElem?_cons_succ] at f0 f1
                  refine wpLate_one (i := 16) (by kernel_rfl) rfl (fun K hK => ?_)
                  go_simp
                  refine hK.out _ _ (fun h => absurd rfl h) ?_
                  clear hK K
                  try simp only [Act.put]
                  refine wpLate_done (by kernel_rfl) ?_ _
                  go_wp2_with fail
                  go_meet
                  case rel => exact ⟨F, A7, N7, c7, rfl, HBs, HFs, HIs⟩
              case ybC =>
                refine name_nat wd.heap.size (fun F hF => ?_)
                refine name_wd (wd.alloc (.cells #[.int .i64 0, .slice none 0 0] 31)) (fun v3c hv3c => ?_)
                have HFL : Hid (wxa.heap.size ≤ F) := Lib.hid (by rw [← hF]; exact HBR.out.size)
                have hbc : Below wd.heap.size wd v3c := by rw [← hv3c]; exact below_newq wd _ _
                have HFN := Lib.hid (show Whole v3c F 31 #[.int .i64 0, .slice none 0 0] by rw [← hv3c, ← hF]; exact Whole.made _ _ _)
                have HBR_4 := Lib.hid (HBR.out.trans (hbc.mono HBR.out.size))
                clear HBR
                clear hbc
                go_simp
                refine hK.out _ _ (fun _ => (CS _ HBR_4.out)) ?_
                clear hK K
                try simp only [Act.put]
                refine wpLate_one (i := 2) (by kernel_rfl) rfl (fun K hK => ?_)
                refine name_nat v3c.heap.size (fun S1 hS1 => ?_)
                refine name_wd (v3c.alloc (.cells #[] 38)) (fun v4b hv4b => ?_)
                have hbc : Below v3c.heap.size v3c v4b := by rw [← hv4b]; exact below_new _ _
                have HR0 := Lib.hid (show ROwn qiR v4b wxa.heap.size (.slice (some ⟨S1, 0, none⟩) 0 0) [] by rw [← hv4b]; exact ROwn.lit v3c S1 HBR_4.out.size hS1)
                have HBR_5 := Lib.hid (HBR_4.out.trans (hbc.mono HBR_4.out.size))
                have HF'_5 := Lib.hid (HFN.out.below hbc HFN.out.lt)
                clear HFN HBR_4
                clear hbc
                go_simp
                refine hK.out _ _ (fun _ => (CS _ HBR_5.out)) ?_
                clear hK K
                try simp only [Act.put]
                refine wpLate_one (i := 8) (by kernel_rfl) rfl (fun K hK => ?_)
                have HM := Lib.hid ((QIn.takeP HQ0.out (show r1 ≤ N by omega)).below HBR_5.out (Nat.le_refl _))
                refine step_app_sl rfl (.tmp 64) (.tmp 69) 29 rfl qiR wxa.heap.size i0 _ 64 Try.underlying29 hi0 hq0 hq1 hq2 rfl (by decide) _ ([]) (L.take r1) 0 rfl rfl HR0.out (some ⟨b, o, none⟩) (r1) (cT) rfl HM.out.1 HM.out.2.2.1 HM.out.2.2.2.1 HM.out.2.2.2.2.1 (by unfold maxLen; omega) (by omega) HBR_5.out.size ?_
                intro A6 N6 c6 v5p hof hgf
                rw [List.nil_append] at hof
                have HR_6 := Lib.hid hof
                have HBR_6 : Hid (Below wxa.heap.size wxa v5p) := Lib.hid (HBR_5.out.grown hgf HBR_5.out.size (fun z e => (World.ownsRow.lt HR0.out z e).1))
                have HF_6 := Lib.hid (HF'_5.out.grown hgf (fun e => (HR0.out.whole HF'_5.out (by decide)) e.symm))
                clear hof hgf HM HF'_5 HR0 HBR_5
                refine hK.out _ _ (fun _ => (CS _ HBR_6.out)) ?_
                clear hK K
                try simp only [Act.put]
                refine wpLate_one (i := 13) (by kernel_rfl) rfl (fun K hK => ?_)
                have HM := Lib.hid ((QIn.cutP (r := r) HQ0.out).below HBR_6.out (Nat.le_refl _))
                refine step_app_sl rfl (.tmp 70) (.tmp 74) 29 rfl qiR wxa.heap.size i0 _ 64 Try.underlying29 hi0 hq0 hq1 hq2 rfl (by decide) _ (L.take r1) (L.drop r) r1 HTK.out rfl HR_6.out (some ⟨b, o + r * 4, none⟩) (N - r) (cT - r) rfl HM.out.1 HM.out.2.2.1 HM.out.2.2.2.1 HM.out.2.2.2.2.1 (by unfold maxLen; omega) (by omega) HBR_6.out.size ?_
                intro A7 N7 c7 v6p hof hgf
                have HR_7 := Lib.hid hof
                have HBR_7 : Hid (Below wxa.heap.size wxa v6p) := Lib.hid (HBR_6.out.grown hgf HBR_6.out.size (fun z e => (World.ownsRow.lt HR_6.out z e).1))
                have HF_7 := Lib.hid (HF_6.out.grown hgf (fun e => (HR_6.out.whole HF_6.out (by decide)) e.symm))
                clear hof hgf HM HF_6 HR_6 HBR_6
                refine hK.out _ _ (fun _ => (CS _ HBR_7.out)) ?_
                clear hK K
                try simp only [Act.put]
                refine wpLate_take (i := 14) (v := ?v14bCbCbooo) rfl (by kernel_rfl) (by kernel_rfl) (by kernel_rfl) (by kernel_rfl) (by kernel_rfl) (fun _ _ _ h => h) (CS _ HBR_7.out) (by rfl) ?hy14bCbCbooo ?r14bCbCbooo
                case hy14bCbCbooo =>
                  rintro wz ⟨z0, z1⟩
                  go_simp
                  try with_reducible rfl
                try simp only [Act.put]
                have HBs := Lib.hid (show Below wxa.heap.size wxa ((v6p.setCell ⟨F, 0, none⟩ (.int .i64 n)).setCell ⟨F, 1, none⟩ (.slice A7 N7 c7)) from ((HBR_7.out.setCell (p := ⟨F, 0, none⟩) HFL.out _).setCell (p := ⟨F, 1, none⟩) HFL.out _))
                have HFs : Hid (Whole ((v6p.setCell ⟨F, 0, none⟩ (.int .i64 n)).setCell ⟨F, 1, none⟩ (.slice A7 N7 c7)) F 31 #[.int .i64 n, .slice A7 N7 c7]) := Lib.hid ((HF_7.out.store 0 _).store 1 _)
                have HIs : Hid (ROwn qiR ((v6p.setCell ⟨F, 0, none⟩ (.int .i64 n)).setCell ⟨F, 1, none⟩ (.slice A7 N7 c7)) wxa.heap.size (.slice A7 N7 c7) (L.take r1 ++ (L.drop r))) := Lib.hid ((HR_7.out.store (p := ⟨F, 0, none⟩) (HR_7.out.whole HF_7.out (by decide)) _).store (p := ⟨F, 1, none⟩) (HR_7.out.whole HF_7.out (by decide)) _)
                have f0 := HF_7.out.cell 0
                have f1 := HF_7.out.cell 1
                have j0 := HF_7.out.free 0
                have j1 := HF_7.out.free 1
                simp only [List.getElem?_toArray, List.getElem?_cons_zero, List.getElem?_cons_succ] at f0 f1
                refine wpLate_one (i := 16) (by kernel_rfl) rfl (fun K hK => ?_)
                go_simp
                refine hK.out _ _ (fun h => absurd rfl h) ?_
                clear hK K
                try simp only [Act.put]
                refine wpLate_done (by kernel_rfl) ?_ _
                go_wp2_with fail
                go_meet
                case rel => exact ⟨F, A7, N7, c7, rfl, HBs, HFs, HIs⟩
            case rest =>
              obtain ⟨wxb, hwx⟩ : ∃ z, z = wc := ⟨_, rfl⟩
              subst hwx
              obtain ⟨Fb, Ab, Nb, cb, rfl, KB, KF, KI⟩ := hcut
              have hb := KB.out
              clear cHX0 cHX1
              have HB_4 := Lib.hid (HB_3.out.trans (hb.mono HB_3.out.size))
              have HX_4 := Lib.hid (HX_3.out.below hb HX_3.out.lt)
              have HJ_4 := Lib.hid (HJ_3.out.below hb (Nat.le_refl _))
              have Ha_4 := Lib.hid (Ha.out.below hb Ha.out.lt)
              have Ra_4 := Lib.hid (Ra.out.kept hb)
              clear Ra Ha HJ_3 HX_3 HB_3
              have Hb := Lib.hid (KF.out)
              have Rb := Lib.hid (KI.out)
              clear hb KB KF KI
              have HL1 : Hid ((L.take r ++ L.drop r1).length ≤ 4194304) := Lib.hid (by rw [List.length_append, List.length_take, List.length_drop, HJ_4.out.1]; omega)
              have HL2 : Hid ((L.take r1 ++ L.drop r).length ≤ 4194304) := Lib.hid (by rw [List.length_append, List.length_take, List.length_drop, HJ_4.out.1]; omega)
              have HI1 := Lib.hid (QIn.part HJ_4.out Ra_4.out HL1.out (fun g hg => (List.mem_append.1 hg).elim List.mem_of_mem_take List.mem_of_mem_drop))
              have HI2 := Lib.hid (QIn.part HJ_4.out Rb.out HL2.out (fun g hg => (List.mem_append.1 hg).elim List.mem_of_mem_take List.mem_of_mem_drop))
              have cHa0 := Ha_4.out.cell 0
              have cHa1 := Ha_4.out.cell 1
              have cHb0 := Hb.out.cell 0
              have cHb1 := Hb.out.cell 1
              simp only [List.getElem?_toArray, List.getElem?_cons_zero, List.getElem?_cons_succ] at cHa0 cHa1 cHb0 cHb1
              go_wp2_with fail
              refine (iqv_at HLESS.out wxb HI1.out).mono ?_
              rintro e w8 ⟨rfl, hb⟩
              clear cHa0 cHa1 cHb0 cHb1
              have HB_5 := Lib.hid (HB_4.out.trans (hb.mono HB_4.out.size))
              have HX_5 := Lib.hid (HX_4.out.below hb HX_4.out.lt)
              have HJ_5 := Lib.hid (HJ_4.out.below hb (Nat.le_refl _))
              have Ha_5 := Lib.hid (Ha_4.out.below hb Ha_4.out.lt)
              have Ra_5 := Lib.hid (Ra_4.out.kept hb)
              have Hb_5 := Lib.hid (Hb.out.below hb Hb.out.lt)
              have Rb_5 := Lib.hid (Rb.out.kept hb)
              have HI1_5 := Lib.hid (HI1.out.below hb (Nat.le_refl _))
              have HI2_5 := Lib.hid (HI2.out.below hb (Nat.le_refl _))
              clear HI2 HI1 Rb Hb Ra_4 Ha_4 HJ_4 HX_4 HB_4
              clear hb
              have cHb0 := Hb_5.out.cell 0
              have cHb1 := Hb_5.out.cell 1
              simp only [List.getElem?_toArray, List.getElem?_cons_zero, List.getElem?_cons_succ] at cHb0 cHb1
              go_wp2_with fail
              refine (iqv_at HMORE.out w8 HI2_5.out).mono ?_
              rintro e w9 ⟨rfl, hb⟩
              clear cHb0 cHb1
              have HB_6 := Lib.hid (HB_5.out.trans (hb.mono HB_5.out.size))
              have HX_6 := Lib.hid (HX_5.out.below hb HX_5.out.lt)
              have HJ_6 := Lib.hid (HJ_5.out.below hb (Nat.le_refl _))
              have Ha_6 := Lib.hid (Ha_5.out.below hb Ha_5.out.lt)
              have Ra_6 := Lib.hid (Ra_5.out.kept hb)
              have Hb_6 := Lib.hid (Hb_5.out.below hb Hb_5.out.lt)
              have Rb_6 := Lib.hid (Rb_5.out.kept hb)
              have HI1_6 := Lib.hid (HI1_5.out.below hb (Nat.le_refl _))
              have HI2_6 := Lib.hid (HI2_5.out.below hb (Nat.le_refl _))
              clear HI2_5 HI1_5 Rb_5 Hb_5 Ra_5 Ha_5 HJ_5 HX_5 HB_5
              clear hb
              go_wp2
              go_ret
              exact ⟨rfl, HB_6.out⟩
    · have hlenK : (1048576 : Int) < (len1 : Int) := by omega
      go_enter Try.func14, Try.ntmps14
      go_wp2
      go_ret
      exact ⟨rfl, Below.refl _ _⟩
  · have hlenI : (1048576 : Int) < (len : Int) := by omega
    go_enter Try.func14, Try.ntmps14
    go_wp2
    go_ret
    exact ⟨rfl, Below.refl _ _⟩
end Go.Proofs.Ytinbdibenbplnaa
