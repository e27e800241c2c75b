/-
  The walks of the laws FnBoxPart. Condition: the code can be read.
-/
import Derived.Test.YtmljdbbbfpmbcaaLu
import Derived.BigQuiet
import Derived.Deep.RegionHeld3
import Derived.Outline
import Derived.Deep.RegionWith
namespace Go.Proofs.Ytmljdbbbfpmbcaa
open Go.RowKit
set_option linter.unusedVariables false

/-- A slice of messages of the call's own, in a world that keeps the early blocks. -/
def ApM (S : Nat) (w0 w : World) (v : Value) (L : List ML) : Prop := Below S w0 w ∧ ROwn mailR w S v L
theorem ApM.lit {S : Nat} {w0 w : World} (h : Below S w0 w) (N : Nat) (hS : S ≤ w.heap.size) (hN : w.heap.size = N) : ApM S w0 (w.alloc (.cells #[] 30)) (.slice (some ⟨N, 0, none⟩) 0 0) [] := ⟨h.alloc hS _, ROwn.lit w N hS hN⟩
theorem ApM.alloc {S : Nat} {w0 w : World} {v : Value} {L : List ML} (h : ApM S w0 w v L) (hS : S ≤ w.heap.size) (o : Obj) : ApM S w0 (w.alloc o) v L := ⟨h.1.alloc hS o, h.2.alloc o⟩
theorem ApM.drew {S : Nat} {w0 w : World} {v : Value} {L : List ML} (h : ApM S w0 w v L) : ApM S w0 w.drew v L := ⟨h.1.drew, h.2⟩
/-- One append of messages inside a region that draws. -/
theorem step_app_mail {ops : Array Oper} {o : Oper} {a : Act} {K : Act → World → Prop} {Q : Exit → Act → World → Prop} {E : Prop} (hg : o.guard = none) (s x : Operand)
    (ho : o.op = .call { callee := .builtin .append, args := #[s, x], argTypes := #[23, 23] }) {S : Nat} {w0 w : World}
    (v : Value) (L M : List ML) (n : Nat) (hA : ApM S w0 w v L) (hw0 : w0.heap.size = S) (hn : L.length = n) (hs : a.eval s = v) (A : Option Addr) (m c : Nat) (hx : a.eval x = .slice A m c) (hM : MIn w A m c M) (hl : n + m ≤ 1000) (N : Nat) (hN : n + m = N)
    (h : ∀ A' c' w', ApM S w0 w' (.slice A' N c') (L ++ M) → w.grownBy w' v.ownBlock → w.heap.size ≤ w'.heap.size → K (a.put o.dst (.slice A' N c')) w') :
    if Region.wanted o (yielded ops a.tmps) = true then Oper.wp Try.prog o a w K Q else E := by
  obtain ⟨j0, hj, hp0, hp1, hp2⟩ := info_parts Try.infoMail
  have hS : S ≤ w.heap.size := hw0 ▸ hA.1.size
  refine step_append_rows hg s x 23 ho mailR S j0 _ 32 Try.underlying23 hj hp0 hp1 hp2 rfl (by decide) v L M n hn hs hA.2 A m c hx hM.1 hM.2.2.1 hM.2.2.2.1 hM.2.2.2.2 (by unfold maxLen; omega) (by omega) hS ?_
  intro v' w' hown hgr _
  obtain ⟨A', N', c', rfl⟩ := hown.val
  have hN' : N' = N := by have := hown.len.1; rw [List.length_append, hn, hM.1] at this; omega
  subst hN'
  exact h A' c' w' ⟨hA.1.grown hgr hS (fun z hz => (World.ownsRow.lt hA.2 z hz).1), hown⟩ hgr hgr.size

theorem part_less {n : Int} {L : List ML} (h : bOk n L = true) (k : Nat) : bOk n (L.take k ++ L.drop (k + 1)) = true := by
  rw [← List.eraseIdx_eq_take_drop_succ]
  exact bOk_sub h (List.eraseIdx_sublist _ _)
theorem part_more {n : Int} {L : List ML} {k : Nat} {x : ML} (hx : L[k]? = some x) : bOk n (L.take (k + 1) ++ L.drop k) = false := by
  cases hb : bOk n (L.take (k + 1) ++ L.drop k) with
  | false => rfl
  | true =>
    obtain ⟨hk, rfl⟩ := List.getElem?_eq_some_iff.1 hx
    have h2 := (bOk_iff.1 hb).2.1
    have h3 := (List.pairwise_append.1 h2).2.2 L[k] (by rw [List.take_add_one, List.getElem?_eq_getElem hk]; exact List.mem_append_right _ (List.mem_singleton.2 rfl)) L[k] (by rw [List.drop_eq_getElem_cons hk]; exact List.mem_cons_self)
    omega
theorem MIn.cut {w : World} {b o N cap r : Nat} {L : List ML} (h : MIn w (some ⟨b, o, none⟩) N cap L) (hr : r ≤ N) : MIn w (some ⟨b, o + r * 3, none⟩) (N - r) (cap - r) (L.drop r) := ⟨by rw [List.length_drop, h.1], by have := h.2.1; omega, h.2.2.1.drop r, (fun e => by cases e), (fun q e => by cases e; rfl)⟩
theorem MIn.cutE {w : World} {b o N cap r : Nat} {L : List ML} (h : MIn w (some ⟨b, o, none⟩) N cap L) (hr : r = N) : MIn w (some ⟨b, o, none⟩) 0 0 (L.drop r) := by
  subst hr
  refine ⟨by rw [List.length_drop, h.1]; omega, by omega, ?_, (fun e => by cases e), (fun q e => by cases e; rfl)⟩
  rw [← h.1, List.drop_length]
  exact RAt.nil w _
theorem kp_wholeP {w : World} {D : Nat} {t : TypeId} {cs : Array Value} (h : Whole w D t cs) : Kp w fun w' => Whole w' D t cs := fun w2 h2 => h.below h2 h.lt
theorem name_world {B : Nat} {a w : World} (h : Below B a w) : ∃ w2, w2 = w := ⟨w, rfl⟩

set_option maxRecDepth 20000 in
set_option maxHeartbeats 2000000 in
theorem law_FnBoxPart (A : Option Addr) (len cap : Nat) (A0 : Option Addr) (len0 cap0 : Nat) (w : World) (h : Coded w A len cap) (h0 : Coded w A0 len0 cap0) : Calls Try.prog 3 #[.slice A len cap, .slice A0 len0 cap0] w (Holds1 w) := by
  have HC := Lib.hid h
  clear h h0
  by_cases hl : len ≤ 1048576
  · have hl' : (len : Int) ≤ 1048576 := by omega
    by_cases hl0 : len0 ≤ 1048576
    · have hl0' : (len0 : Int) ≤ 1048576 := by omega
      go_enter Try.func3, Try.ntmps3
      go_wp2_with fail
      refine (draw_bvalid A len cap _ HC.out).mono ?_
      rintro e w1 ⟨n, A1, N1, cap1, L, rfl, hN1, hn1, hn2, hown, hb⟩
      have HNL := Lib.hid hown.len.1
      have HCAP := Lib.hid hown.len.2.1
      obtain ⟨D1, hD1⟩ : ∃ D, w1.heap.size = D := ⟨_, rfl⟩
      have K1 := Lib.hid (((((kp_start w).move hb).and (MIn.of hown (by omega)).keep).alloc (.cells #[.int .i64 n, .slice A1 N1 cap1] 25)).and (kp_one w1 25 #[.int .i64 n, .slice A1 N1 cap1] hD1))
      clear hb hown
      have zD10 := K1.out.here.2.2.1.cell 0
      have zD11 := K1.out.here.2.2.1.cell 1
      simp at zD10 zD11
      obtain ⟨bv, hbv⟩ : ∃ b, bOk n L = b := ⟨_, rfl⟩
      go_wp2_with fail
      refine (implvalid_at hbv A1 N1 cap1 _ K1.out.here.1.2).mono ?_
      rintro e w2 ⟨rfl, hb⟩
      have K2 := Lib.hid (K1.out.move hb)
      clear hb
      clear zD10 zD11
      have zD10 := K2.out.here.2.2.1.cell 0
      have zD11 := K2.out.here.2.2.1.cell 1
      simp at zD10 zD11
      go_wp2_with fail
      refine (boxvalid_at hbv A1 N1 cap1 _ K2.out.here.1.2).mono ?_
      rintro e w3 ⟨rfl, hb⟩
      have K3 := Lib.hid (K2.out.move hb)
      clear hb
      clear zD10 zD11
      have zD10 := K3.out.here.2.2.1.cell 0
      have zD11 := K3.out.here.2.2.1.cell 1
      simp at zD10 zD11
      have HBV := Lib.hid hbv
      clear hbv
      cases bv with
      | false =>
        go_wp2
        go_ret
        exact ⟨rfl, K3.out.here.1.1⟩
      | true =>
        by_cases hN0 : N1 = 0
        · subst hN0
          go_wp2
          go_ret
          exact ⟨rfl, K3.out.here.1.1⟩
        · have hN0' : ((N1 : Int) == 0) = false := beq_eq_false_iff_ne.2 (by omega)
          have hN0f : ¬ (N1 : Int) = 0 := by omega
          obtain ⟨r, hr⟩ : ∃ r, len0 % N1 = r := ⟨_, rfl⟩
          have hrN : r < N1 := by rw [← hr]; exact Nat.mod_lt _ (by omega)
          have E1 : (len0 : Int).tmod (N1 : Int) = (r : Int) := by rw [← hr]; exact IntWalk.up_tmod rfl rfl
          have W1 : IntKind.i64.wrap ((len0 : Int).tmod (N1 : Int)) = (r : Int) := by rw [E1]; exact IntWalk.i64_in _ (by omega)
          have W2 : IntKind.i64.wrap (r : Int) = (r : Int) := IntWalk.i64_in _ (by omega)
          obtain ⟨r1, hr1⟩ : ∃ q, r + 1 = q := ⟨_, rfl⟩
          have E3 : (r : Int) + 1 = (r1 : Int) := by omega
          have W3 : IntKind.i64.wrap ((r : Int) + 1) = (r1 : Int) := (IntWalk.i64_in _ (by omega)).trans E3
          have W4 : IntKind.i64.wrap (r1 : Int) = (r1 : Int) := IntWalk.i64_in _ (by omega)
          have hcap : N1 ≤ cap1 := HCAP.out
          have i0 : (0 : Int) ≤ (r : Int) := by omega
          have i1 : (r : Int) ≤ (N1 : Int) := by omega
          have i2 : (r : Int) ≤ (cap1 : Int) := by omega
          have i3 : (0 : Int) ≤ (r1 : Int) := by omega
          have i4 : (r1 : Int) ≤ (N1 : Int) := by omega
          have i5 : (r1 : Int) ≤ (cap1 : Int) := by omega
          have i6 : ¬ cap1 = 0 := by omega
          have i7 : ¬ cap1 = r := by omega
          have i8 : ¬ cap1 - r = 0 := by omega
          have hN14 : N1 ≤ 14 := hN1
          obtain ⟨x, hx⟩ : ∃ x, L[r]? = some x := ⟨_, List.getElem?_eq_getElem (by rw [← HNL.out]; exact hrN)⟩
          obtain ⟨b, o, hAe, hbb, -, -, -⟩ := mail_at K3.out.here.1.2.2.2.1 (show L[r]? = some (x.1, x.2.1, x.2.2) from hx)
          subst hAe
          have hlt : (L.take r).length = r := by rw [List.length_take, ← HNL.out]; omega
          have hlt1 : (L.take r1).length = r1 := by rw [List.length_take, ← HNL.out]; omega
          have HT := Lib.hid hlt
          have HT1 := Lib.hid hlt1
          have HX1 : Hid (bOk n (L.take r ++ L.drop r1) = true) := by rw [← hr1]; exact part_less HBV.out r
          have HX2 : Hid (bOk n (L.take r1 ++ L.drop r) = false) := by rw [← hr1]; exact part_more hx
          have HR1 := Lib.hid hr1
          have HRN := Lib.hid hrN
          have q1 : r + (N1 - r1) ≤ 14 := by omega
          have q2 : r1 + (N1 - r) ≤ 20 := by omega
          have Q1 := Lib.hid q1
          have Q2 := Lib.hid q2
          clear hx hr hlt hlt1 hr1 hrN q1 q2
          obtain ⟨S, hS⟩ : ∃ S, w3.heap.size = S := ⟨_, rfl⟩
          have HS := Lib.hid hS
          by_cases hce : cap1 = r1
          · have e0 : N1 = r1 := by omega
            subst hce
            subst e0
            have e1 : N1 - N1 = 0 := Nat.sub_self _
            go_wp2_with fail
            go_upto_region 9 with fail
            go_cut [9] (fun sx wx => ∃ (DX : Nat) (AX : Option Addr) (NX cX : Nat), sx = .pointer (some ⟨DX, 0, none⟩) ∧ NX ≤ 20 ∧ Hid (Below S w3 wx) ∧ Hid (Whole wx DX 25 #[.int .i64 n, .slice AX NX cX]) ∧ Hid (MIn wx AX NX cX (L.take r ++ L.drop N1)))
            case first =>
              clear zD10 zD11
              have hbD : Below S w3 w3.drew := (Below.refl _ _).drew
              have hzD : w3.drew.heap.size = S := HS.out
              have HPA : Hid (ApM S w3 (w3.drew.alloc (.cells #[] 30)) (.slice (some ⟨S, 0, none⟩) 0 0) []) := ApM.lit hbD S (Nat.le_of_eq hzD.symm) hzD
              have hzA : (w3.drew.alloc (.cells #[] 30)).heap.size = S + 1 := by simp; exact HS.out
              have HPB : Hid (ApM S w3 ((w3.drew.alloc (.cells #[] 30)).alloc (.cells #[.int .i64 0, .slice none 0 0] 25)) (.slice (some ⟨S, 0, none⟩) 0 0) []) := HPA.out.alloc (by omega) _
              have HFB : Hid (Whole ((w3.drew.alloc (.cells #[] 30)).alloc (.cells #[.int .i64 0, .slice none 0 0] 25)) (S + 1) 25 #[.int .i64 0, .slice none 0 0]) := by have h := Whole.made (w3.drew.alloc (.cells #[] 30)) 25 #[.int .i64 0, .slice none 0 0]; rw [hzA] at h; exact h
              have hzC : (w3.drew.alloc (.cells #[.int .i64 0, .slice none 0 0] 25)).heap.size = S + 1 := by simp; exact HS.out
              have HPC : Hid (ApM S w3 ((w3.drew.alloc (.cells #[.int .i64 0, .slice none 0 0] 25)).alloc (.cells #[] 30)) (.slice (some ⟨S + 1, 0, none⟩) 0 0) []) := ApM.lit (hbD.alloc (Nat.le_of_eq hzD.symm) _) (S + 1) (by omega) hzC
              have HFC : Hid (Whole ((w3.drew.alloc (.cells #[.int .i64 0, .slice none 0 0] 25)).alloc (.cells #[] 30)) S 25 #[.int .i64 0, .slice none 0 0]) := by have h := (Whole.made w3.drew 25 #[.int .i64 0, .slice none 0 0]).alloc (.cells #[] 30); rw [hzD] at h; exact h
              have KD := Lib.hid (K3.out.move (show Below w3.heap.size w3 w3.drew from HS.out.symm ▸ hbD))
              have KA := Lib.hid (K3.out.move (show Below w3.heap.size w3 (w3.drew.alloc (.cells #[] 30)) from HS.out.symm ▸ HPA.out.1))
              have KC0 := Lib.hid (K3.out.move (show Below w3.heap.size w3 (w3.drew.alloc (.cells #[.int .i64 0, .slice none 0 0] 25)) from HS.out.symm ▸ (hbD.alloc (Nat.le_of_eq hzD.symm) (.cells #[.int .i64 0, .slice none 0 0] 25))))
              have KB := Lib.hid (K3.out.move (show Below w3.heap.size w3 ((w3.drew.alloc (.cells #[] 30)).alloc (.cells #[.int .i64 0, .slice none 0 0] 25)) from HS.out.symm ▸ HPB.out.1))
              have KC := Lib.hid (K3.out.move (show Below w3.heap.size w3 ((w3.drew.alloc (.cells #[.int .i64 0, .slice none 0 0] 25)).alloc (.cells #[] 30)) from HS.out.symm ▸ HPC.out.1))
              clear hbD hzD hzA hzC
              go_region_held3 (fun w' => w'.cell? ⟨D1, 0, none⟩ = some (.int .i64 n) ∧ w'.cell? ⟨D1, 1, none⟩ = some (.slice (some ⟨b, o, none⟩) N1 N1)) (first | exact ⟨KD.out.here.2.2.1.cell 0, KD.out.here.2.2.1.cell 1⟩ | exact ⟨KA.out.here.2.2.1.cell 0, KA.out.here.2.2.1.cell 1⟩ | exact ⟨KC0.out.here.2.2.1.cell 0, KC0.out.here.2.2.1.cell 1⟩ | exact ⟨KB.out.here.2.2.1.cell 0, KB.out.here.2.2.1.cell 1⟩ | exact ⟨KC.out.here.2.2.1.cell 0, KC.out.here.2.2.1.cell 1⟩ | exact ⟨K6.out.here.2.2.1.cell 0, K6.out.here.2.2.1.cell 1⟩ | exact ⟨K6Z.out.here.2.2.1.cell 0, K6Z.out.here.2.2.1.cell 1⟩ | exact ⟨K7.out.here.2.2.1.cell 0, K7.out.here.2.2.1.cell 1⟩ | exact ⟨(K7.out.alloc _).here.2.2.1.cell 0, (K7.out.alloc _).here.2.2.1.cell 1⟩ | exact ⟨(K3.out.move (show Below w3.heap.size w3 _ from HS.out.symm ▸ ((H7.out.1.setCell (Nat.le_refl _) _).setCell (Nat.le_refl _) _))).here.2.2.1.cell 0, (K3.out.move (show Below w3.heap.size w3 _ from HS.out.symm ▸ ((H7.out.1.setCell (Nat.le_refl _) _).setCell (Nat.le_refl _) _))).here.2.2.1.cell 1⟩ | exact ⟨(K3.out.move (show Below w3.heap.size w3 _ from HS.out.symm ▸ ((H7.out.1.setCell (Nat.le_succ _) _).setCell (Nat.le_succ _) _))).here.2.2.1.cell 0, (K3.out.move (show Below w3.heap.size w3 _ from HS.out.symm ▸ ((H7.out.1.setCell (Nat.le_succ _) _).setCell (Nat.le_succ _) _))).here.2.2.1.cell 1⟩ | exact ⟨(K3.out.move (show Below w3.heap.size w3 _ from HS.out.symm ▸ ((H7.out.1.setCell HZ6.out _).setCell HZ6.out _))).here.2.2.1.cell 0, (K3.out.move (show Below w3.heap.size w3 _ from HS.out.symm ▸ ((H7.out.1.setCell HZ6.out _).setCell HZ6.out _))).here.2.2.1.cell 1⟩ | exact ⟨K3.out.here.2.2.1.cell 0, K3.out.here.2.2.1.cell 1⟩) (first
                | (refine step_app_mail rfl (.tmp 49) (.tmp 53) rfl (.slice (some ⟨S, 0, none⟩) 0 0) [] (L.take r) 0 HPA.out HS.out rfl rfl (some ⟨b, o, none⟩) r N1 rfl (MIn.take KA.out.here.1.2 (by omega)) (by omega) r (Nat.zero_add _) ?_
                   intro A6 cap6 w6 hq hgr hsz
                   rw [List.nil_append] at hq
                   have H6 := Lib.hid hq
                   have K6 := Lib.hid (K3.out.move (show Below w3.heap.size w3 w6 from HS.out.symm ▸ hq.1))
                   have hz6 : S ≤ w6.heap.size := HS.out ▸ hq.1.size
                   have HZ6 := Lib.hid hz6
                   have H6Z := Lib.hid (hq.alloc hz6 (.cells #[.int .i64 0, .slice none 0 0] 25))
                   have HF6Z : Hid (Whole (w6.alloc (.cells #[.int .i64 0, .slice none 0 0] 25)) w6.heap.size 25 #[.int .i64 0, .slice none 0 0]) := Whole.made w6 25 _
                   have K6Z := Lib.hid (K3.out.move (show Below w3.heap.size w3 (w6.alloc (.cells #[.int .i64 0, .slice none 0 0] 25)) from HS.out.symm ▸ (hq.1.alloc hz6 (.cells #[.int .i64 0, .slice none 0 0] 25))))
                   clear hq hgr hsz hz6)
                | (refine step_app_mail rfl (.tmp 49) (.tmp 53) rfl (.slice (some ⟨S, 0, none⟩) 0 0) [] (L.take r) 0 HPB.out HS.out rfl rfl (some ⟨b, o, none⟩) r N1 rfl (MIn.take KB.out.here.1.2 (by omega)) (by omega) r (Nat.zero_add _) ?_
                   intro A6 cap6 w6 hq hgr hsz
                   rw [List.nil_append] at hq
                   have H6 := Lib.hid hq
                   have K6 := Lib.hid (K3.out.move (show Below w3.heap.size w3 w6 from HS.out.symm ▸ hq.1))
                   have hz6 : S ≤ w6.heap.size := HS.out ▸ hq.1.size
                   have HZ6 := Lib.hid hz6
                   have HF6 : Hid (Whole w6 (S + 1) 25 #[.int .i64 0, .slice none 0 0]) := Whole.grown HFB.out hgr (by simp [Value.ownBlock])
                   clear hq hgr hsz hz6)
                | (refine step_app_mail rfl (.tmp 49) (.tmp 53) rfl (.slice (some ⟨S + 1, 0, none⟩) 0 0) [] (L.take r) 0 HPC.out HS.out rfl rfl (some ⟨b, o, none⟩) r N1 rfl (MIn.take KC.out.here.1.2 (by omega)) (by omega) r (Nat.zero_add _) ?_
                   intro A6 cap6 w6 hq hgr hsz
                   rw [List.nil_append] at hq
                   have H6 := Lib.hid hq
                   have K6 := Lib.hid (K3.out.move (show Below w3.heap.size w3 w6 from HS.out.symm ▸ hq.1))
                   have hz6 : S ≤ w6.heap.size := HS.out ▸ hq.1.size
                   have HZ6 := Lib.hid hz6
                   have HF6 : Hid (Whole w6 (S) 25 #[.int .i64 0, .slice none 0 0]) := Whole.grown HFC.out hgr (by simp [Value.ownBlock])
                   clear hq hgr hsz hz6)
                | (refine step_app_mail rfl (.tmp 54) (.tmp 59) rfl (.slice A6 r cap6) (L.take r) (L.drop N1) r H6.out HS.out HT.out rfl (some ⟨b, o, none⟩) 0 0 rfl (MIn.cutE K6.out.here.1.2 rfl) (by omega) (r + 0) rfl ?_
                   intro A7 cap7 w7 hq hgr hsz
                   have H7 := Lib.hid hq
                   have K7 := Lib.hid (K3.out.move (show Below w3.heap.size w3 w7 from HS.out.symm ▸ hq.1))
                   have hz7 : S ≤ w7.heap.size := HS.out ▸ hq.1.size
                   have HZ7 := Lib.hid hz7
                   have HF7 := Lib.hid (Whole.grown HF6.out hgr (fun e => (ROwn.whole H6.out.2 HF6.out (by decide)) e.symm))
                   have f60 := HF7.out.cell 0
                   have f61 := HF7.out.cell 1
                   simp at f60 f61
                   have f6f := HF7.out.free 0
                   have f6g := HF7.out.free 1
                   clear hq hgr hsz hz7)
                | (refine step_app_mail rfl (.tmp 54) (.tmp 59) rfl (.slice A6 r cap6) (L.take r) (L.drop N1) r H6.out HS.out HT.out rfl (some ⟨b, o, none⟩) 0 0 rfl (MIn.cutE K6.out.here.1.2 rfl) (by omega) (r + 0) rfl ?_
                   intro A7 cap7 w7 hq hgr hsz
                   have H7 := Lib.hid hq
                   have K7 := Lib.hid (K3.out.move (show Below w3.heap.size w3 w7 from HS.out.symm ▸ hq.1))
                   have hz7 : S ≤ w7.heap.size := HS.out ▸ hq.1.size
                   have HZ7 := Lib.hid hz7
                   clear hq hgr hsz hz7)
                | (refine step_app_mail rfl (.tmp 54) (.tmp 59) rfl (.slice A6 r cap6) (L.take r) (L.drop N1) r H6Z.out HS.out HT.out rfl (some ⟨b, o, none⟩) 0 0 rfl (MIn.cutE K6Z.out.here.1.2 rfl) (by omega) (r + 0) rfl ?_
                   intro A7 cap7 w7 hq hgr hsz
                   have H7 := Lib.hid hq
                   have K7 := Lib.hid (K3.out.move (show Below w3.heap.size w3 w7 from HS.out.symm ▸ hq.1))
                   have hz7 : S ≤ w7.heap.size := HS.out ▸ hq.1.size
                   have HZ7 := Lib.hid hz7
                   have HF7 := Lib.hid (Whole.grown HF6Z.out hgr (fun e => (ROwn.whole H6Z.out.2 HF6Z.out (by decide)) e.symm))
                   have f60 := HF7.out.cell 0
                   have f61 := HF7.out.cell 1
                   simp at f60 f61
                   have f6f := HF7.out.free 0
                   have f6g := HF7.out.free 1
                   clear hq hgr hsz hz7))
              all_goals
                go_wp2_with fail
                go_meet
                case rel =>
                  first
                    | exact ⟨_, A7, (r + 0), cap7, rfl, by omega, (H7.out.1.setCell (Nat.le_succ _) _).setCell (Nat.le_succ _) _, (HF7.out.store 0 _).store 1 _, MIn.of ((H7.out.2.store (H7.out.2.whole HF7.out (by decide)) _).store (H7.out.2.whole HF7.out (by decide)) _) (by omega)⟩
                    | exact ⟨_, A7, (r + 0), cap7, rfl, by omega, (H7.out.1.setCell (Nat.le_refl _) _).setCell (Nat.le_refl _) _, (HF7.out.store 0 _).store 1 _, MIn.of ((H7.out.2.store (H7.out.2.whole HF7.out (by decide)) _).store (H7.out.2.whole HF7.out (by decide)) _) (by omega)⟩
                    | exact ⟨_, A7, (r + 0), cap7, rfl, by omega, (H7.out.1.setCell HZ6.out _).setCell HZ6.out _, (HF7.out.store 0 _).store 1 _, MIn.of ((H7.out.2.store (H7.out.2.whole HF7.out (by decide)) _).store (H7.out.2.whole HF7.out (by decide)) _) (by omega)⟩
                    | exact ⟨_, A7, (r + 0), cap7, rfl, by omega, H7.out.1.alloc HZ7.out _, Whole.made _ _ _, MIn.of (H7.out.2.alloc _) (by omega)⟩
            case rest =>
              obtain ⟨Dx9, A4, N4, cap4, rfl, hN4, HBX, HWX, HMX⟩ := hcut
              obtain ⟨wA, hwn⟩ := name_world HBX.out
              subst hwn
              clear zD10 zD11
              have K4 := Lib.hid (((K3.out.move (show Below w3.heap.size w3 _ from HS.out.symm ▸ HBX.out)).and HMX.out.keep).and (kp_wholeP HWX.out))
              clear HBX HWX HMX
              obtain ⟨S2, hS2⟩ : ∃ S, wA.heap.size = S := ⟨_, rfl⟩
              have HS2 := Lib.hid hS2
              go_upto_region 10 with fail
              go_cut [10] (fun sx wx => ∃ (DX : Nat) (AX : Option Addr) (NX cX : Nat), sx = .pointer (some ⟨DX, 0, none⟩) ∧ NX ≤ 20 ∧ Hid (Below S2 wA wx) ∧ Hid (Whole wx DX 25 #[.int .i64 n, .slice AX NX cX]) ∧ Hid (MIn wx AX NX cX (L.take N1 ++ L.drop r)))
              case first =>
                have hbD : Below S2 wA wA.drew := (Below.refl _ _).drew
                have hzD : wA.drew.heap.size = S2 := HS2.out
                have HPA : Hid (ApM S2 wA (wA.drew.alloc (.cells #[] 30)) (.slice (some ⟨S2, 0, none⟩) 0 0) []) := ApM.lit hbD S2 (Nat.le_of_eq hzD.symm) hzD
                have hzA : (wA.drew.alloc (.cells #[] 30)).heap.size = S2 + 1 := by simp; exact HS2.out
                have HPB : Hid (ApM S2 wA ((wA.drew.alloc (.cells #[] 30)).alloc (.cells #[.int .i64 0, .slice none 0 0] 25)) (.slice (some ⟨S2, 0, none⟩) 0 0) []) := HPA.out.alloc (by omega) _
                have HFB : Hid (Whole ((wA.drew.alloc (.cells #[] 30)).alloc (.cells #[.int .i64 0, .slice none 0 0] 25)) (S2 + 1) 25 #[.int .i64 0, .slice none 0 0]) := by have h := Whole.made (wA.drew.alloc (.cells #[] 30)) 25 #[.int .i64 0, .slice none 0 0]; rw [hzA] at h; exact h
                have hzC : (wA.drew.alloc (.cells #[.int .i64 0, .slice none 0 0] 25)).heap.size = S2 + 1 := by simp; exact HS2.out
                have HPC : Hid (ApM S2 wA ((wA.drew.alloc (.cells #[.int .i64 0, .slice none 0 0] 25)).alloc (.cells #[] 30)) (.slice (some ⟨S2 + 1, 0, none⟩) 0 0) []) := ApM.lit (hbD.alloc (Nat.le_of_eq hzD.symm) _) (S2 + 1) (by omega) hzC
                have HFC : Hid (Whole ((wA.drew.alloc (.cells #[.int .i64 0, .slice none 0 0] 25)).alloc (.cells #[] 30)) S2 25 #[.int .i64 0, .slice none 0 0]) := by have h := (Whole.made wA.drew 25 #[.int .i64 0, .slice none 0 0]).alloc (.cells #[] 30); rw [hzD] at h; exact h
                have KD := Lib.hid (K4.out.move (show Below wA.heap.size wA wA.drew from HS2.out.symm ▸ hbD))
                have KA := Lib.hid (K4.out.move (show Below wA.heap.size wA (wA.drew.alloc (.cells #[] 30)) from HS2.out.symm ▸ HPA.out.1))
                have KC0 := Lib.hid (K4.out.move (show Below wA.heap.size wA (wA.drew.alloc (.cells #[.int .i64 0, .slice none 0 0] 25)) from HS2.out.symm ▸ (hbD.alloc (Nat.le_of_eq hzD.symm) (.cells #[.int .i64 0, .slice none 0 0] 25))))
                have KB := Lib.hid (K4.out.move (show Below wA.heap.size wA ((wA.drew.alloc (.cells #[] 30)).alloc (.cells #[.int .i64 0, .slice none 0 0] 25)) from HS2.out.symm ▸ HPB.out.1))
                have KC := Lib.hid (K4.out.move (show Below wA.heap.size wA ((wA.drew.alloc (.cells #[.int .i64 0, .slice none 0 0] 25)).alloc (.cells #[] 30)) from HS2.out.symm ▸ HPC.out.1))
                clear hbD hzD hzA hzC
                go_region_held3 (fun w' => w'.cell? ⟨D1, 0, none⟩ = some (.int .i64 n) ∧ w'.cell? ⟨D1, 1, none⟩ = some (.slice (some ⟨b, o, none⟩) N1 N1)) (first | exact ⟨KD.out.here.1.1.2.2.1.cell 0, KD.out.here.1.1.2.2.1.cell 1⟩ | exact ⟨KA.out.here.1.1.2.2.1.cell 0, KA.out.here.1.1.2.2.1.cell 1⟩ | exact ⟨KC0.out.here.1.1.2.2.1.cell 0, KC0.out.here.1.1.2.2.1.cell 1⟩ | exact ⟨KB.out.here.1.1.2.2.1.cell 0, KB.out.here.1.1.2.2.1.cell 1⟩ | exact ⟨KC.out.here.1.1.2.2.1.cell 0, KC.out.here.1.1.2.2.1.cell 1⟩ | exact ⟨K6.out.here.1.1.2.2.1.cell 0, K6.out.here.1.1.2.2.1.cell 1⟩ | exact ⟨K6Z.out.here.1.1.2.2.1.cell 0, K6Z.out.here.1.1.2.2.1.cell 1⟩ | exact ⟨K7.out.here.1.1.2.2.1.cell 0, K7.out.here.1.1.2.2.1.cell 1⟩ | exact ⟨(K7.out.alloc _).here.1.1.2.2.1.cell 0, (K7.out.alloc _).here.1.1.2.2.1.cell 1⟩ | exact ⟨(K4.out.move (show Below wA.heap.size wA _ from HS2.out.symm ▸ ((H7.out.1.setCell (Nat.le_refl _) _).setCell (Nat.le_refl _) _))).here.1.1.2.2.1.cell 0, (K4.out.move (show Below wA.heap.size wA _ from HS2.out.symm ▸ ((H7.out.1.setCell (Nat.le_refl _) _).setCell (Nat.le_refl _) _))).here.1.1.2.2.1.cell 1⟩ | exact ⟨(K4.out.move (show Below wA.heap.size wA _ from HS2.out.symm ▸ ((H7.out.1.setCell (Nat.le_succ _) _).setCell (Nat.le_succ _) _))).here.1.1.2.2.1.cell 0, (K4.out.move (show Below wA.heap.size wA _ from HS2.out.symm ▸ ((H7.out.1.setCell (Nat.le_succ _) _).setCell (Nat.le_succ _) _))).here.1.1.2.2.1.cell 1⟩ | exact ⟨(K4.out.move (show Below wA.heap.size wA _ from HS2.out.symm ▸ ((H7.out.1.setCell HZ6.out _).setCell HZ6.out _))).here.1.1.2.2.1.cell 0, (K4.out.move (show Below wA.heap.size wA _ from HS2.out.symm ▸ ((H7.out.1.setCell HZ6.out _).setCell HZ6.out _))).here.1.1.2.2.1.cell 1⟩ | exact ⟨K4.out.here.1.1.2.2.1.cell 0, K4.out.here.1.1.2.2.1.cell 1⟩) (first
                  | (refine step_app_mail rfl (.tmp 64) (.tmp 69) rfl (.slice (some ⟨S2, 0, none⟩) 0 0) [] (L.take N1) 0 HPA.out HS2.out rfl rfl (some ⟨b, o, none⟩) N1 N1 rfl (MIn.take KA.out.here.1.1.1.2 (by omega)) (by omega) N1 (Nat.zero_add _) ?_
                     intro A6 cap6 w6 hq hgr hsz
                     rw [List.nil_append] at hq
                     have H6 := Lib.hid hq
                     have K6 := Lib.hid (K4.out.move (show Below wA.heap.size wA w6 from HS2.out.symm ▸ hq.1))
                     have hz6 : S2 ≤ w6.heap.size := HS2.out ▸ hq.1.size
                     have HZ6 := Lib.hid hz6
                     have H6Z := Lib.hid (hq.alloc hz6 (.cells #[.int .i64 0, .slice none 0 0] 25))
                     have HF6Z : Hid (Whole (w6.alloc (.cells #[.int .i64 0, .slice none 0 0] 25)) w6.heap.size 25 #[.int .i64 0, .slice none 0 0]) := Whole.made w6 25 _
                     have K6Z := Lib.hid (K4.out.move (show Below wA.heap.size wA (w6.alloc (.cells #[.int .i64 0, .slice none 0 0] 25)) from HS2.out.symm ▸ (hq.1.alloc hz6 (.cells #[.int .i64 0, .slice none 0 0] 25))))
                     clear hq hgr hsz hz6)
                  | (refine step_app_mail rfl (.tmp 64) (.tmp 69) rfl (.slice (some ⟨S2, 0, none⟩) 0 0) [] (L.take N1) 0 HPB.out HS2.out rfl rfl (some ⟨b, o, none⟩) N1 N1 rfl (MIn.take KB.out.here.1.1.1.2 (by omega)) (by omega) N1 (Nat.zero_add _) ?_
                     intro A6 cap6 w6 hq hgr hsz
                     rw [List.nil_append] at hq
                     have H6 := Lib.hid hq
                     have K6 := Lib.hid (K4.out.move (show Below wA.heap.size wA w6 from HS2.out.symm ▸ hq.1))
                     have hz6 : S2 ≤ w6.heap.size := HS2.out ▸ hq.1.size
                     have HZ6 := Lib.hid hz6
                     have HF6 : Hid (Whole w6 (S2 + 1) 25 #[.int .i64 0, .slice none 0 0]) := Whole.grown HFB.out hgr (by simp [Value.ownBlock])
                     clear hq hgr hsz hz6)
                  | (refine step_app_mail rfl (.tmp 64) (.tmp 69) rfl (.slice (some ⟨S2 + 1, 0, none⟩) 0 0) [] (L.take N1) 0 HPC.out HS2.out rfl rfl (some ⟨b, o, none⟩) N1 N1 rfl (MIn.take KC.out.here.1.1.1.2 (by omega)) (by omega) N1 (Nat.zero_add _) ?_
                     intro A6 cap6 w6 hq hgr hsz
                     rw [List.nil_append] at hq
                     have H6 := Lib.hid hq
                     have K6 := Lib.hid (K4.out.move (show Below wA.heap.size wA w6 from HS2.out.symm ▸ hq.1))
                     have hz6 : S2 ≤ w6.heap.size := HS2.out ▸ hq.1.size
                     have HZ6 := Lib.hid hz6
                     have HF6 : Hid (Whole w6 (S2) 25 #[.int .i64 0, .slice none 0 0]) := Whole.grown HFC.out hgr (by simp [Value.ownBlock])
                     clear hq hgr hsz hz6)
                  | (refine step_app_mail rfl (.tmp 70) (.tmp 74) rfl (.slice A6 N1 cap6) (L.take N1) (L.drop r) N1 H6.out HS2.out HT1.out rfl (some ⟨b, o + r * 3, none⟩) (N1 - r) (N1 - r) rfl (MIn.cut K6.out.here.1.1.1.2 (by omega)) (by omega) (N1 + (N1 - r)) rfl ?_
                     intro A7 cap7 w7 hq hgr hsz
                     have H7 := Lib.hid hq
                     have K7 := Lib.hid (K4.out.move (show Below wA.heap.size wA w7 from HS2.out.symm ▸ hq.1))
                     have hz7 : S2 ≤ w7.heap.size := HS2.out ▸ hq.1.size
                     have HZ7 := Lib.hid hz7
                     have HF7 := Lib.hid (Whole.grown HF6.out hgr (fun e => (ROwn.whole H6.out.2 HF6.out (by decide)) e.symm))
                     have f60 := HF7.out.cell 0
                     have f61 := HF7.out.cell 1
                     simp at f60 f61
                     have f6f := HF7.out.free 0
                     have f6g := HF7.out.free 1
                     clear hq hgr hsz hz7)
                  | (refine step_app_mail rfl (.tmp 70) (.tmp 74) rfl (.slice A6 N1 cap6) (L.take N1) (L.drop r) N1 H6.out HS2.out HT1.out rfl (some ⟨b, o + r * 3, none⟩) (N1 - r) (N1 - r) rfl (MIn.cut K6.out.here.1.1.1.2 (by omega)) (by omega) (N1 + (N1 - r)) rfl ?_
                     intro A7 cap7 w7 hq hgr hsz
                     have H7 := Lib.hid hq
                     have K7 := Lib.hid (K4.out.move (show Below wA.heap.size wA w7 from HS2.out.symm ▸ hq.1))
                     have hz7 : S2 ≤ w7.heap.size := HS2.out ▸ hq.1.size
                     have HZ7 := Lib.hid hz7
                     clear hq hgr hsz hz7)
                  | (refine step_app_mail rfl (.tmp 70) (.tmp 74) rfl (.slice A6 N1 cap6) (L.take N1) (L.drop r) N1 H6Z.out HS2.out HT1.out rfl (some ⟨b, o + r * 3, none⟩) (N1 - r) (N1 - r) rfl (MIn.cut K6Z.out.here.1.1.1.2 (by omega)) (by omega) (N1 + (N1 - r)) rfl ?_
                     intro A7 cap7 w7 hq hgr hsz
                     have H7 := Lib.hid hq
                     have K7 := Lib.hid (K4.out.move (show Below wA.heap.size wA w7 from HS2.out.symm ▸ hq.1))
                     have hz7 : S2 ≤ w7.heap.size := HS2.out ▸ hq.1.size
                     have HZ7 := Lib.hid hz7
                     have HF7 := Lib.hid (Whole.grown HF6Z.out hgr (fun e => (ROwn.whole H6Z.out.2 HF6Z.out (by decide)) e.symm))
                     have f60 := HF7.out.cell 0
                     have f61 := HF7.out.cell 1
                     simp at f60 f61
                     have f6f := HF7.out.free 0
                     have f6g := HF7.out.free 1
                     clear hq hgr hsz hz7))
                all_goals
                  go_wp2_with fail
                  go_meet
                  case rel =>
                    first
                      | exact ⟨_, A7, (N1 + (N1 - r)), cap7, rfl, by omega, (H7.out.1.setCell (Nat.le_succ _) _).setCell (Nat.le_succ _) _, (HF7.out.store 0 _).store 1 _, MIn.of ((H7.out.2.store (H7.out.2.whole HF7.out (by decide)) _).store (H7.out.2.whole HF7.out (by decide)) _) (by omega)⟩
                      | exact ⟨_, A7, (N1 + (N1 - r)), cap7, rfl, by omega, (H7.out.1.setCell (Nat.le_refl _) _).setCell (Nat.le_refl _) _, (HF7.out.store 0 _).store 1 _, MIn.of ((H7.out.2.store (H7.out.2.whole HF7.out (by decide)) _).store (H7.out.2.whole HF7.out (by decide)) _) (by omega)⟩
                      | exact ⟨_, A7, (N1 + (N1 - r)), cap7, rfl, by omega, (H7.out.1.setCell HZ6.out _).setCell HZ6.out _, (HF7.out.store 0 _).store 1 _, MIn.of ((H7.out.2.store (H7.out.2.whole HF7.out (by decide)) _).store (H7.out.2.whole HF7.out (by decide)) _) (by omega)⟩
                      | exact ⟨_, A7, (N1 + (N1 - r)), cap7, rfl, by omega, H7.out.1.alloc HZ7.out _, Whole.made _ _ _, MIn.of (H7.out.2.alloc _) (by omega)⟩
              case rest =>
                obtain ⟨Dx10, A5, N5, cap5, rfl, hN5, HBX, HWX, HMX⟩ := hcut
                obtain ⟨wB, hwn⟩ := name_world HBX.out
                subst hwn
                have K5 := Lib.hid (((K4.out.move (show Below wA.heap.size wA _ from HS2.out.symm ▸ HBX.out)).and HMX.out.keep).and (kp_wholeP HWX.out))
                clear HBX HWX HMX
                have zD10 := K5.out.here.1.1.1.1.2.2.1.cell 0
                have zD11 := K5.out.here.1.1.1.1.2.2.1.cell 1
                simp at zD10 zD11
                have x9c0 := K5.out.here.1.1.2.cell 0
                have x9c1 := K5.out.here.1.1.2.cell 1
                simp at x9c0 x9c1
                have x10c0 := K5.out.here.2.cell 0
                have x10c1 := K5.out.here.2.cell 1
                simp at x10c0 x10c1
                go_wp2_with fail
                refine (implvalid_at HX1.out A4 N4 cap4 _ K5.out.here.1.1.1.2).mono ?_
                rintro e w5 ⟨rfl, hb⟩
                have K6 := Lib.hid (K5.out.move hb)
                clear hb
                clear zD10 zD11 x9c0 x9c1 x10c0 x10c1
                have zD10 := K6.out.here.1.1.1.1.2.2.1.cell 0
                have zD11 := K6.out.here.1.1.1.1.2.2.1.cell 1
                simp at zD10 zD11
                have x9c0 := K6.out.here.1.1.2.cell 0
                have x9c1 := K6.out.here.1.1.2.cell 1
                simp at x9c0 x9c1
                have x10c0 := K6.out.here.2.cell 0
                have x10c1 := K6.out.here.2.cell 1
                simp at x10c0 x10c1
                go_wp2_with fail
                refine (implvalid_at HX2.out A5 N5 cap5 _ K6.out.here.1.2).mono ?_
                rintro e w6 ⟨rfl, hb⟩
                have K7 := Lib.hid (K6.out.move hb)
                clear hb
                clear zD10 zD11 x9c0 x9c1 x10c0 x10c1
                have zD10 := K7.out.here.1.1.1.1.2.2.1.cell 0
                have zD11 := K7.out.here.1.1.1.1.2.2.1.cell 1
                simp at zD10 zD11
                have x9c0 := K7.out.here.1.1.2.cell 0
                have x9c1 := K7.out.here.1.1.2.cell 1
                simp at x9c0 x9c1
                have x10c0 := K7.out.here.2.cell 0
                have x10c1 := K7.out.here.2.cell 1
                simp at x10c0 x10c1
                go_wp2
                go_ret
                exact ⟨rfl, K7.out.here.1.1.1.1.1.1⟩
          · have e1 : ¬ cap1 - r1 = 0 := by omega
            have e2 : ¬ cap1 = r1 := hce
            go_wp2_with fail
            go_upto_region 9 with fail
            go_cut [9] (fun sx wx => ∃ (DX : Nat) (AX : Option Addr) (NX cX : Nat), sx = .pointer (some ⟨DX, 0, none⟩) ∧ NX ≤ 20 ∧ Hid (Below S w3 wx) ∧ Hid (Whole wx DX 25 #[.int .i64 n, .slice AX NX cX]) ∧ Hid (MIn wx AX NX cX (L.take r ++ L.drop r1)))
            case first =>
              clear zD10 zD11
              have hbD : Below S w3 w3.drew := (Below.refl _ _).drew
              have hzD : w3.drew.heap.size = S := HS.out
              have HPA : Hid (ApM S w3 (w3.drew.alloc (.cells #[] 30)) (.slice (some ⟨S, 0, none⟩) 0 0) []) := ApM.lit hbD S (Nat.le_of_eq hzD.symm) hzD
              have hzA : (w3.drew.alloc (.cells #[] 30)).heap.size = S + 1 := by simp; exact HS.out
              have HPB : Hid (ApM S w3 ((w3.drew.alloc (.cells #[] 30)).alloc (.cells #[.int .i64 0, .slice none 0 0] 25)) (.slice (some ⟨S, 0, none⟩) 0 0) []) := HPA.out.alloc (by omega) _
              have HFB : Hid (Whole ((w3.drew.alloc (.cells #[] 30)).alloc (.cells #[.int .i64 0, .slice none 0 0] 25)) (S + 1) 25 #[.int .i64 0, .slice none 0 0]) := by have h := Whole.made (w3.drew.alloc (.cells #[] 30)) 25 #[.int .i64 0, .slice none 0 0]; rw [hzA] at h; exact h
              have hzC : (w3.drew.alloc (.cells #[.int .i64 0, .slice none 0 0] 25)).heap.size = S + 1 := by simp; exact HS.out
              have HPC : Hid (ApM S w3 ((w3.drew.alloc (.cells #[.int .i64 0, .slice none 0 0] 25)).alloc (.cells #[] 30)) (.slice (some ⟨S + 1, 0, none⟩) 0 0) []) := ApM.lit (hbD.alloc (Nat.le_of_eq hzD.symm) _) (S + 1) (by omega) hzC
              have HFC : Hid (Whole ((w3.drew.alloc (.cells #[.int .i64 0, .slice none 0 0] 25)).alloc (.cells #[] 30)) S 25 #[.int .i64 0, .slice none 0 0]) := by have h := (Whole.made w3.drew 25 #[.int .i64 0, .slice none 0 0]).alloc (.cells #[] 30); rw [hzD] at h; exact h
              have KD := Lib.hid (K3.out.move (show Below w3.heap.size w3 w3.drew from HS.out.symm ▸ hbD))
              have KA := Lib.hid (K3.out.move (show Below w3.heap.size w3 (w3.drew.alloc (.cells #[] 30)) from HS.out.symm ▸ HPA.out.1))
              have KC0 := Lib.hid (K3.out.move (show Below w3.heap.size w3 (w3.drew.alloc (.cells #[.int .i64 0, .slice none 0 0] 25)) from HS.out.symm ▸ (hbD.alloc (Nat.le_of_eq hzD.symm) (.cells #[.int .i64 0, .slice none 0 0] 25))))
              have KB := Lib.hid (K3.out.move (show Below w3.heap.size w3 ((w3.drew.alloc (.cells #[] 30)).alloc (.cells #[.int .i64 0, .slice none 0 0] 25)) from HS.out.symm ▸ HPB.out.1))
              have KC := Lib.hid (K3.out.move (show Below w3.heap.size w3 ((w3.drew.alloc (.cells #[.int .i64 0, .slice none 0 0] 25)).alloc (.cells #[] 30)) from HS.out.symm ▸ HPC.out.1))
              clear hbD hzD hzA hzC
              go_region_held3 (fun w' => w'.cell? ⟨D1, 0, none⟩ = some (.int .i64 n) ∧ w'.cell? ⟨D1, 1, none⟩ = some (.slice (some ⟨b, o, none⟩) N1 cap1)) (first | exact ⟨KD.out.here.2.2.1.cell 0, KD.out.here.2.2.1.cell 1⟩ | exact ⟨KA.out.here.2.2.1.cell 0, KA.out.here.2.2.1.cell 1⟩ | exact ⟨KC0.out.here.2.2.1.cell 0, KC0.out.here.2.2.1.cell 1⟩ | exact ⟨KB.out.here.2.2.1.cell 0, KB.out.here.2.2.1.cell 1⟩ | exact ⟨KC.out.here.2.2.1.cell 0, KC.out.here.2.2.1.cell 1⟩ | exact ⟨K6.out.here.2.2.1.cell 0, K6.out.here.2.2.1.cell 1⟩ | exact ⟨K6Z.out.here.2.2.1.cell 0, K6Z.out.here.2.2.1.cell 1⟩ | exact ⟨K7.out.here.2.2.1.cell 0, K7.out.here.2.2.1.cell 1⟩ | exact ⟨(K7.out.alloc _).here.2.2.1.cell 0, (K7.out.alloc _).here.2.2.1.cell 1⟩ | exact ⟨(K3.out.move (show Below w3.heap.size w3 _ from HS.out.symm ▸ ((H7.out.1.setCell (Nat.le_refl _) _).setCell (Nat.le_refl _) _))).here.2.2.1.cell 0, (K3.out.move (show Below w3.heap.size w3 _ from HS.out.symm ▸ ((H7.out.1.setCell (Nat.le_refl _) _).setCell (Nat.le_refl _) _))).here.2.2.1.cell 1⟩ | exact ⟨(K3.out.move (show Below w3.heap.size w3 _ from HS.out.symm ▸ ((H7.out.1.setCell (Nat.le_succ _) _).setCell (Nat.le_succ _) _))).here.2.2.1.cell 0, (K3.out.move (show Below w3.heap.size w3 _ from HS.out.symm ▸ ((H7.out.1.setCell (Nat.le_succ _) _).setCell (Nat.le_succ _) _))).here.2.2.1.cell 1⟩ | exact ⟨(K3.out.move (show Below w3.heap.size w3 _ from HS.out.symm ▸ ((H7.out.1.setCell HZ6.out _).setCell HZ6.out _))).here.2.2.1.cell 0, (K3.out.move (show Below w3.heap.size w3 _ from HS.out.symm ▸ ((H7.out.1.setCell HZ6.out _).setCell HZ6.out _))).here.2.2.1.cell 1⟩ | exact ⟨K3.out.here.2.2.1.cell 0, K3.out.here.2.2.1.cell 1⟩) (first
                | (refine step_app_mail rfl (.tmp 49) (.tmp 53) rfl (.slice (some ⟨S, 0, none⟩) 0 0) [] (L.take r) 0 HPA.out HS.out rfl rfl (some ⟨b, o, none⟩) r cap1 rfl (MIn.take KA.out.here.1.2 (by omega)) (by omega) r (Nat.zero_add _) ?_
                   intro A6 cap6 w6 hq hgr hsz
                   rw [List.nil_append] at hq
                   have H6 := Lib.hid hq
                   have K6 := Lib.hid (K3.out.move (show Below w3.heap.size w3 w6 from HS.out.symm ▸ hq.1))
                   have hz6 : S ≤ w6.heap.size := HS.out ▸ hq.1.size
                   have HZ6 := Lib.hid hz6
                   have H6Z := Lib.hid (hq.alloc hz6 (.cells #[.int .i64 0, .slice none 0 0] 25))
                   have HF6Z : Hid (Whole (w6.alloc (.cells #[.int .i64 0, .slice none 0 0] 25)) w6.heap.size 25 #[.int .i64 0, .slice none 0 0]) := Whole.made w6 25 _
                   have K6Z := Lib.hid (K3.out.move (show Below w3.heap.size w3 (w6.alloc (.cells #[.int .i64 0, .slice none 0 0] 25)) from HS.out.symm ▸ (hq.1.alloc hz6 (.cells #[.int .i64 0, .slice none 0 0] 25))))
                   clear hq hgr hsz hz6)
                | (refine step_app_mail rfl (.tmp 49) (.tmp 53) rfl (.slice (some ⟨S, 0, none⟩) 0 0) [] (L.take r) 0 HPB.out HS.out rfl rfl (some ⟨b, o, none⟩) r cap1 rfl (MIn.take KB.out.here.1.2 (by omega)) (by omega) r (Nat.zero_add _) ?_
                   intro A6 cap6 w6 hq hgr hsz
                   rw [List.nil_append] at hq
                   have H6 := Lib.hid hq
                   have K6 := Lib.hid (K3.out.move (show Below w3.heap.size w3 w6 from HS.out.symm ▸ hq.1))
                   have hz6 : S ≤ w6.heap.size := HS.out ▸ hq.1.size
                   have HZ6 := Lib.hid hz6
                   have HF6 : Hid (Whole w6 (S + 1) 25 #[.int .i64 0, .slice none 0 0]) := Whole.grown HFB.out hgr (by simp [Value.ownBlock])
                   clear hq hgr hsz hz6)
                | (refine step_app_mail rfl (.tmp 49) (.tmp 53) rfl (.slice (some ⟨S + 1, 0, none⟩) 0 0) [] (L.take r) 0 HPC.out HS.out rfl rfl (some ⟨b, o, none⟩) r cap1 rfl (MIn.take KC.out.here.1.2 (by omega)) (by omega) r (Nat.zero_add _) ?_
                   intro A6 cap6 w6 hq hgr hsz
                   rw [List.nil_append] at hq
                   have H6 := Lib.hid hq
                   have K6 := Lib.hid (K3.out.move (show Below w3.heap.size w3 w6 from HS.out.symm ▸ hq.1))
                   have hz6 : S ≤ w6.heap.size := HS.out ▸ hq.1.size
                   have HZ6 := Lib.hid hz6
                   have HF6 : Hid (Whole w6 (S) 25 #[.int .i64 0, .slice none 0 0]) := Whole.grown HFC.out hgr (by simp [Value.ownBlock])
                   clear hq hgr hsz hz6)
                | (refine step_app_mail rfl (.tmp 54) (.tmp 59) rfl (.slice A6 r cap6) (L.take r) (L.drop r1) r H6.out HS.out HT.out rfl (some ⟨b, o + r1 * 3, none⟩) (N1 - r1) (cap1 - r1) rfl (MIn.cut K6.out.here.1.2 (by omega)) (by omega) (r + (N1 - r1)) rfl ?_
                   intro A7 cap7 w7 hq hgr hsz
                   have H7 := Lib.hid hq
                   have K7 := Lib.hid (K3.out.move (show Below w3.heap.size w3 w7 from HS.out.symm ▸ hq.1))
                   have hz7 : S ≤ w7.heap.size := HS.out ▸ hq.1.size
                   have HZ7 := Lib.hid hz7
                   have HF7 := Lib.hid (Whole.grown HF6.out hgr (fun e => (ROwn.whole H6.out.2 HF6.out (by decide)) e.symm))
                   have f60 := HF7.out.cell 0
                   have f61 := HF7.out.cell 1
                   simp at f60 f61
                   have f6f := HF7.out.free 0
                   have f6g := HF7.out.free 1
                   clear hq hgr hsz hz7)
                | (refine step_app_mail rfl (.tmp 54) (.tmp 59) rfl (.slice A6 r cap6) (L.take r) (L.drop r1) r H6.out HS.out HT.out rfl (some ⟨b, o + r1 * 3, none⟩) (N1 - r1) (cap1 - r1) rfl (MIn.cut K6.out.here.1.2 (by omega)) (by omega) (r + (N1 - r1)) rfl ?_
                   intro A7 cap7 w7 hq hgr hsz
                   have H7 := Lib.hid hq
                   have K7 := Lib.hid (K3.out.move (show Below w3.heap.size w3 w7 from HS.out.symm ▸ hq.1))
                   have hz7 : S ≤ w7.heap.size := HS.out ▸ hq.1.size
                   have HZ7 := Lib.hid hz7
                   clear hq hgr hsz hz7)
                | (refine step_app_mail rfl (.tmp 54) (.tmp 59) rfl (.slice A6 r cap6) (L.take r) (L.drop r1) r H6Z.out HS.out HT.out rfl (some ⟨b, o + r1 * 3, none⟩) (N1 - r1) (cap1 - r1) rfl (MIn.cut K6Z.out.here.1.2 (by omega)) (by omega) (r + (N1 - r1)) rfl ?_
                   intro A7 cap7 w7 hq hgr hsz
                   have H7 := Lib.hid hq
                   have K7 := Lib.hid (K3.out.move (show Below w3.heap.size w3 w7 from HS.out.symm ▸ hq.1))
                   have hz7 : S ≤ w7.heap.size := HS.out ▸ hq.1.size
                   have HZ7 := Lib.hid hz7
                   have HF7 := Lib.hid (Whole.grown HF6Z.out hgr (fun e => (ROwn.whole H6Z.out.2 HF6Z.out (by decide)) e.symm))
                   have f60 := HF7.out.cell 0
                   have f61 := HF7.out.cell 1
                   simp at f60 f61
                   have f6f := HF7.out.free 0
                   have f6g := HF7.out.free 1
                   clear hq hgr hsz hz7))
              all_goals
                go_wp2_with fail
                go_meet
                case rel =>
                  first
                    | exact ⟨_, A7, (r + (N1 - r1)), cap7, rfl, by omega, (H7.out.1.setCell (Nat.le_succ _) _).setCell (Nat.le_succ _) _, (HF7.out.store 0 _).store 1 _, MIn.of ((H7.out.2.store (H7.out.2.whole HF7.out (by decide)) _).store (H7.out.2.whole HF7.out (by decide)) _) (by omega)⟩
                    | exact ⟨_, A7, (r + (N1 - r1)), cap7, rfl, by omega, (H7.out.1.setCell (Nat.le_refl _) _).setCell (Nat.le_refl _) _, (HF7.out.store 0 _).store 1 _, MIn.of ((H7.out.2.store (H7.out.2.whole HF7.out (by decide)) _).store (H7.out.2.whole HF7.out (by decide)) _) (by omega)⟩
                    | exact ⟨_, A7, (r + (N1 - r1)), cap7, rfl, by omega, (H7.out.1.setCell HZ6.out _).setCell HZ6.out _, (HF7.out.store 0 _).store 1 _, MIn.of ((H7.out.2.store (H7.out.2.whole HF7.out (by decide)) _).store (H7.out.2.whole HF7.out (by decide)) _) (by omega)⟩
                    | exact ⟨_, A7, (r + (N1 - r1)), cap7, rfl, by omega, H7.out.1.alloc HZ7.out _, Whole.made _ _ _, MIn.of (H7.out.2.alloc _) (by omega)⟩
            case rest =>
              obtain ⟨Dx9, A4, N4, cap4, rfl, hN4, HBX, HWX, HMX⟩ := hcut
              obtain ⟨wA, hwn⟩ := name_world HBX.out
              subst hwn
              clear zD10 zD11
              have K4 := Lib.hid (((K3.out.move (show Below w3.heap.size w3 _ from HS.out.symm ▸ HBX.out)).and HMX.out.keep).and (kp_wholeP HWX.out))
              clear HBX HWX HMX
              obtain ⟨S2, hS2⟩ : ∃ S, wA.heap.size = S := ⟨_, rfl⟩
              have HS2 := Lib.hid hS2
              go_upto_region 10 with fail
              go_cut [10] (fun sx wx => ∃ (DX : Nat) (AX : Option Addr) (NX cX : Nat), sx = .pointer (some ⟨DX, 0, none⟩) ∧ NX ≤ 20 ∧ Hid (Below S2 wA wx) ∧ Hid (Whole wx DX 25 #[.int .i64 n, .slice AX NX cX]) ∧ Hid (MIn wx AX NX cX (L.take r1 ++ L.drop r)))
              case first =>
                have hbD : Below S2 wA wA.drew := (Below.refl _ _).drew
                have hzD : wA.drew.heap.size = S2 := HS2.out
                have HPA : Hid (ApM S2 wA (wA.drew.alloc (.cells #[] 30)) (.slice (some ⟨S2, 0, none⟩) 0 0) []) := ApM.lit hbD S2 (Nat.le_of_eq hzD.symm) hzD
                have hzA : (wA.drew.alloc (.cells #[] 30)).heap.size = S2 + 1 := by simp; exact HS2.out
                have HPB : Hid (ApM S2 wA ((wA.drew.alloc (.cells #[] 30)).alloc (.cells #[.int .i64 0, .slice none 0 0] 25)) (.slice (some ⟨S2, 0, none⟩) 0 0) []) := HPA.out.alloc (by omega) _
                have HFB : Hid (Whole ((wA.drew.alloc (.cells #[] 30)).alloc (.cells #[.int .i64 0, .slice none 0 0] 25)) (S2 + 1) 25 #[.int .i64 0, .slice none 0 0]) := by have h := Whole.made (wA.drew.alloc (.cells #[] 30)) 25 #[.int .i64 0, .slice none 0 0]; rw [hzA] at h; exact h
                have hzC : (wA.drew.alloc (.cells #[.int .i64 0, .slice none 0 0] 25)).heap.size = S2 + 1 := by simp; exact HS2.out
                have HPC : Hid (ApM S2 wA ((wA.drew.alloc (.cells #[.int .i64 0, .slice none 0 0] 25)).alloc (.cells #[] 30)) (.slice (some ⟨S2 + 1, 0, none⟩) 0 0) []) := ApM.lit (hbD.alloc (Nat.le_of_eq hzD.symm) _) (S2 + 1) (by omega) hzC
                have HFC : Hid (Whole ((wA.drew.alloc (.cells #[.int .i64 0, .slice none 0 0] 25)).alloc (.cells #[] 30)) S2 25 #[.int .i64 0, .slice none 0 0]) := by have h := (Whole.made wA.drew 25 #[.int .i64 0, .slice none 0 0]).alloc (.cells #[] 30); rw [hzD] at h; exact h
                have KD := Lib.hid (K4.out.move (show Below wA.heap.size wA wA.drew from HS2.out.symm ▸ hbD))
                have KA := Lib.hid (K4.out.move (show Below wA.heap.size wA (wA.drew.alloc (.cells #[] 30)) from HS2.out.symm ▸ HPA.out.1))
                have KC0 := Lib.hid (K4.out.move (show Below wA.heap.size wA (wA.drew.alloc (.cells #[.int .i64 0, .slice none 0 0] 25)) from HS2.out.symm ▸ (hbD.alloc (Nat.le_of_eq hzD.symm) (.cells #[.int .i64 0, .slice none 0 0] 25))))
                have KB := Lib.hid (K4.out.move (show Below wA.heap.size wA ((wA.drew.alloc (.cells #[] 30)).alloc (.cells #[.int .i64 0, .slice none 0 0] 25)) from HS2.out.symm ▸ HPB.out.1))
                have KC := Lib.hid (K4.out.move (show Below wA.heap.size wA ((wA.drew.alloc (.cells #[.int .i64 0, .slice none 0 0] 25)).alloc (.cells #[] 30)) from HS2.out.symm ▸ HPC.out.1))
                clear hbD hzD hzA hzC
                go_region_held3 (fun w' => w'.cell? ⟨D1, 0, none⟩ = some (.int .i64 n) ∧ w'.cell? ⟨D1, 1, none⟩ = some (.slice (some ⟨b, o, none⟩) N1 cap1)) (first | exact ⟨KD.out.here.1.1.2.2.1.cell 0, KD.out.here.1.1.2.2.1.cell 1⟩ | exact ⟨KA.out.here.1.1.2.2.1.cell 0, KA.out.here.1.1.2.2.1.cell 1⟩ | exact ⟨KC0.out.here.1.1.2.2.1.cell 0, KC0.out.here.1.1.2.2.1.cell 1⟩ | exact ⟨KB.out.here.1.1.2.2.1.cell 0, KB.out.here.1.1.2.2.1.cell 1⟩ | exact ⟨KC.out.here.1.1.2.2.1.cell 0, KC.out.here.1.1.2.2.1.cell 1⟩ | exact ⟨K6.out.here.1.1.2.2.1.cell 0, K6.out.here.1.1.2.2.1.cell 1⟩ | exact ⟨K6Z.out.here.1.1.2.2.1.cell 0, K6Z.out.here.1.1.2.2.1.cell 1⟩ | exact ⟨K7.out.here.1.1.2.2.1.cell 0, K7.out.here.1.1.2.2.1.cell 1⟩ | exact ⟨(K7.out.alloc _).here.1.1.2.2.1.cell 0, (K7.out.alloc _).here.1.1.2.2.1.cell 1⟩ | exact ⟨(K4.out.move (show Below wA.heap.size wA _ from HS2.out.symm ▸ ((H7.out.1.setCell (Nat.le_refl _) _).setCell (Nat.le_refl _) _))).here.1.1.2.2.1.cell 0, (K4.out.move (show Below wA.heap.size wA _ from HS2.out.symm ▸ ((H7.out.1.setCell (Nat.le_refl _) _).setCell (Nat.le_refl _) _))).here.1.1.2.2.1.cell 1⟩ | exact ⟨(K4.out.move (show Below wA.heap.size wA _ from HS2.out.symm ▸ ((H7.out.1.setCell (Nat.le_succ _) _).setCell (Nat.le_succ _) _))).here.1.1.2.2.1.cell 0, (K4.out.move (show Below wA.heap.size wA _ from HS2.out.symm ▸ ((H7.out.1.setCell (Nat.le_succ _) _).setCell (Nat.le_succ _) _))).here.1.1.2.2.1.cell 1⟩ | exact ⟨(K4.out.move (show Below wA.heap.size wA _ from HS2.out.symm ▸ ((H7.out.1.setCell HZ6.out _).setCell HZ6.out _))).here.1.1.2.2.1.cell 0, (K4.out.move (show Below wA.heap.size wA _ from HS2.out.symm ▸ ((H7.out.1.setCell HZ6.out _).setCell HZ6.out _))).here.1.1.2.2.1.cell 1⟩ | exact ⟨K4.out.here.1.1.2.2.1.cell 0, K4.out.here.1.1.2.2.1.cell 1⟩) (first
                  | (refine step_app_mail rfl (.tmp 64) (.tmp 69) rfl (.slice (some ⟨S2, 0, none⟩) 0 0) [] (L.take r1) 0 HPA.out HS2.out rfl rfl (some ⟨b, o, none⟩) r1 cap1 rfl (MIn.take KA.out.here.1.1.1.2 (by omega)) (by omega) r1 (Nat.zero_add _) ?_
                     intro A6 cap6 w6 hq hgr hsz
                     rw [List.nil_append] at hq
                     have H6 := Lib.hid hq
                     have K6 := Lib.hid (K4.out.move (show Below wA.heap.size wA w6 from HS2.out.symm ▸ hq.1))
                     have hz6 : S2 ≤ w6.heap.size := HS2.out ▸ hq.1.size
                     have HZ6 := Lib.hid hz6
                     have H6Z := Lib.hid (hq.alloc hz6 (.cells #[.int .i64 0, .slice none 0 0] 25))
                     have HF6Z : Hid (Whole (w6.alloc (.cells #[.int .i64 0, .slice none 0 0] 25)) w6.heap.size 25 #[.int .i64 0, .slice none 0 0]) := Whole.made w6 25 _
                     have K6Z := Lib.hid (K4.out.move (show Below wA.heap.size wA (w6.alloc (.cells #[.int .i64 0, .slice none 0 0] 25)) from HS2.out.symm ▸ (hq.1.alloc hz6 (.cells #[.int .i64 0, .slice none 0 0] 25))))
                     clear hq hgr hsz hz6)
                  | (refine step_app_mail rfl (.tmp 64) (.tmp 69) rfl (.slice (some ⟨S2, 0, none⟩) 0 0) [] (L.take r1) 0 HPB.out HS2.out rfl rfl (some ⟨b, o, none⟩) r1 cap1 rfl (MIn.take KB.out.here.1.1.1.2 (by omega)) (by omega) r1 (Nat.zero_add _) ?_
                     intro A6 cap6 w6 hq hgr hsz
                     rw [List.nil_append] at hq
                     have H6 := Lib.hid hq
                     have K6 := Lib.hid (K4.out.move (show Below wA.heap.size wA w6 from HS2.out.symm ▸ hq.1))
                     have hz6 : S2 ≤ w6.heap.size := HS2.out ▸ hq.1.size
                     have HZ6 := Lib.hid hz6
                     have HF6 : Hid (Whole w6 (S2 + 1) 25 #[.int .i64 0, .slice none 0 0]) := Whole.grown HFB.out hgr (by simp [Value.ownBlock])
                     clear hq hgr hsz hz6)
                  | (refine step_app_mail rfl (.tmp 64) (.tmp 69) rfl (.slice (some ⟨S2 + 1, 0, none⟩) 0 0) [] (L.take r1) 0 HPC.out HS2.out rfl rfl (some ⟨b, o, none⟩) r1 cap1 rfl (MIn.take KC.out.here.1.1.1.2 (by omega)) (by omega) r1 (Nat.zero_add _) ?_
                     intro A6 cap6 w6 hq hgr hsz
                     rw [List.nil_append] at hq
                     have H6 := Lib.hid hq
                     have K6 := Lib.hid (K4.out.move (show Below wA.heap.size wA w6 from HS2.out.symm ▸ hq.1))
                     have hz6 : S2 ≤ w6.heap.size := HS2.out ▸ hq.1.size
                     have HZ6 := Lib.hid hz6
                     have HF6 : Hid (Whole w6 (S2) 25 #[.int .i64 0, .slice none 0 0]) := Whole.grown HFC.out hgr (by simp [Value.ownBlock])
                     clear hq hgr hsz hz6)
                  | (refine step_app_mail rfl (.tmp 70) (.tmp 74) rfl (.slice A6 r1 cap6) (L.take r1) (L.drop r) r1 H6.out HS2.out HT1.out rfl (some ⟨b, o + r * 3, none⟩) (N1 - r) (cap1 - r) rfl (MIn.cut K6.out.here.1.1.1.2 (by omega)) (by omega) (r1 + (N1 - r)) rfl ?_
                     intro A7 cap7 w7 hq hgr hsz
                     have H7 := Lib.hid hq
                     have K7 := Lib.hid (K4.out.move (show Below wA.heap.size wA w7 from HS2.out.symm ▸ hq.1))
                     have hz7 : S2 ≤ w7.heap.size := HS2.out ▸ hq.1.size
                     have HZ7 := Lib.hid hz7
                     have HF7 := Lib.hid (Whole.grown HF6.out hgr (fun e => (ROwn.whole H6.out.2 HF6.out (by decide)) e.symm))
                     have f60 := HF7.out.cell 0
                     have f61 := HF7.out.cell 1
                     simp at f60 f61
                     have f6f := HF7.out.free 0
                     have f6g := HF7.out.free 1
                     clear hq hgr hsz hz7)
                  | (refine step_app_mail rfl (.tmp 70) (.tmp 74) rfl (.slice A6 r1 cap6) (L.take r1) (L.drop r) r1 H6.out HS2.out HT1.out rfl (some ⟨b, o + r * 3, none⟩) (N1 - r) (cap1 - r) rfl (MIn.cut K6.out.here.1.1.1.2 (by omega)) (by omega) (r1 + (N1 - r)) rfl ?_
                     intro A7 cap7 w7 hq hgr hsz
                     have H7 := Lib.hid hq
                     have K7 := Lib.hid (K4.out.move (show Below wA.heap.size wA w7 from HS2.out.symm ▸ hq.1))
                     have hz7 : S2 ≤ w7.heap.size := HS2.out ▸ hq.1.size
                     have HZ7 := Lib.hid hz7
                     clear hq hgr hsz hz7)
                  | (refine step_app_mail rfl (.tmp 70) (.tmp 74) rfl (.slice A6 r1 cap6) (L.take r1) (L.drop r) r1 H6Z.out HS2.out HT1.out rfl (some ⟨b, o + r * 3, none⟩) (N1 - r) (cap1 - r) rfl (MIn.cut K6Z.out.here.1.1.1.2 (by omega)) (by omega) (r1 + (N1 - r)) rfl ?_
                     intro A7 cap7 w7 hq hgr hsz
                     have H7 := Lib.hid hq
                     have K7 := Lib.hid (K4.out.move (show Below wA.heap.size wA w7 from HS2.out.symm ▸ hq.1))
                     have hz7 : S2 ≤ w7.heap.size := HS2.out ▸ hq.1.size
                     have HZ7 := Lib.hid hz7
                     have HF7 := Lib.hid (Whole.grown HF6Z.out hgr (fun e => (ROwn.whole H6Z.out.2 HF6Z.out (by decide)) e.symm))
                     have f60 := HF7.out.cell 0
                     have f61 := HF7.out.cell 1
                     simp at f60 f61
                     have f6f := HF7.out.free 0
                     have f6g := HF7.out.free 1
                     clear hq hgr hsz hz7))
                all_goals
                  go_wp2_with fail
                  go_meet
                  case rel =>
                    first
                      | exact ⟨_, A7, (r1 + (N1 - r)), cap7, rfl, by omega, (H7.out.1.setCell (Nat.le_succ _) _).setCell (Nat.le_succ _) _, (HF7.out.store 0 _).store 1 _, MIn.of ((H7.out.2.store (H7.out.2.whole HF7.out (by decide)) _).store (H7.out.2.whole HF7.out (by decide)) _) (by omega)⟩
                      | exact ⟨_, A7, (r1 + (N1 - r)), cap7, rfl, by omega, (H7.out.1.setCell (Nat.le_refl _) _).setCell (Nat.le_refl _) _, (HF7.out.store 0 _).store 1 _, MIn.of ((H7.out.2.store (H7.out.2.whole HF7.out (by decide)) _).store (H7.out.2.whole HF7.out (by decide)) _) (by omega)⟩
                      | exact ⟨_, A7, (r1 + (N1 - r)), cap7, rfl, by omega, (H7.out.1.setCell HZ6.out _).setCell HZ6.out _, (HF7.out.store 0 _).store 1 _, MIn.of ((H7.out.2.store (H7.out.2.whole HF7.out (by decide)) _).store (H7.out.2.whole HF7.out (by decide)) _) (by omega)⟩
                      | exact ⟨_, A7, (r1 + (N1 - r)), cap7, rfl, by omega, H7.out.1.alloc HZ7.out _, Whole.made _ _ _, MIn.of (H7.out.2.alloc _) (by omega)⟩
              case rest =>
                obtain ⟨Dx10, A5, N5, cap5, rfl, hN5, HBX, HWX, HMX⟩ := hcut
                obtain ⟨wB, hwn⟩ := name_world HBX.out
                subst hwn
                have K5 := Lib.hid (((K4.out.move (show Below wA.heap.size wA _ from HS2.out.symm ▸ HBX.out)).and HMX.out.keep).and (kp_wholeP HWX.out))
                clear HBX HWX HMX
                have zD10 := K5.out.here.1.1.1.1.2.2.1.cell 0
                have zD11 := K5.out.here.1.1.1.1.2.2.1.cell 1
                simp at zD10 zD11
                have x9c0 := K5.out.here.1.1.2.cell 0
                have x9c1 := K5.out.here.1.1.2.cell 1
                simp at x9c0 x9c1
                have x10c0 := K5.out.here.2.cell 0
                have x10c1 := K5.out.here.2.cell 1
                simp at x10c0 x10c1
                go_wp2_with fail
                refine (implvalid_at HX1.out A4 N4 cap4 _ K5.out.here.1.1.1.2).mono ?_
                rintro e w5 ⟨rfl, hb⟩
                have K6 := Lib.hid (K5.out.move hb)
                clear hb
                clear zD10 zD11 x9c0 x9c1 x10c0 x10c1
                have zD10 := K6.out.here.1.1.1.1.2.2.1.cell 0
                have zD11 := K6.out.here.1.1.1.1.2.2.1.cell 1
                simp at zD10 zD11
                have x9c0 := K6.out.here.1.1.2.cell 0
                have x9c1 := K6.out.here.1.1.2.cell 1
                simp at x9c0 x9c1
                have x10c0 := K6.out.here.2.cell 0
                have x10c1 := K6.out.here.2.cell 1
                simp at x10c0 x10c1
                go_wp2_with fail
                refine (implvalid_at HX2.out A5 N5 cap5 _ K6.out.here.1.2).mono ?_
                rintro e w6 ⟨rfl, hb⟩
                have K7 := Lib.hid (K6.out.move hb)
                clear hb
                clear zD10 zD11 x9c0 x9c1 x10c0 x10c1
                have zD10 := K7.out.here.1.1.1.1.2.2.1.cell 0
                have zD11 := K7.out.here.1.1.1.1.2.2.1.cell 1
                simp at zD10 zD11
                have x9c0 := K7.out.here.1.1.2.cell 0
                have x9c1 := K7.out.here.1.1.2.cell 1
                simp at x9c0 x9c1
                have x10c0 := K7.out.here.2.cell 0
                have x10c1 := K7.out.here.2.cell 1
                simp at x10c0 x10c1
                go_wp2
                go_ret
                exact ⟨rfl, K7.out.here.1.1.1.1.1.1⟩
    · have hl0' : (1048576 : Int) < (len0 : Int) := by omega
      go_enter Try.func3, Try.ntmps3
      go_wp2
      go_ret
      exact ⟨rfl, Below.refl _ _⟩
  · have hl' : (1048576 : Int) < (len : Int) := by omega
    go_enter Try.func3, Try.ntmps3
    go_wp2
    go_ret
    exact ⟨rfl, Below.refl _ _⟩
end Go.Proofs.Ytmljdbbbfpmbcaa
