/-
  The contract of the drawer l91Key: it leaves a key in new memory. Condition: the code can be read.
-/
import Derived.Test.YtpihibconbejlaaDoorKc
namespace Go.Proofs.YtpihibconbejlaaDoor
open Go.RowKit
set_option linter.unusedVariables false

set_option maxRecDepth 20000 in
set_option maxHeartbeats 16000000 in
theorem key_step (d b p : Nat) (w : World) (hd : d ≤ 3) (hr : Rd w b p) (hp : p + cD d ≤ 500000) (ih : ∀ (e q : Nat) (w' : World), e + 1 = d → Rd w' b q → q + cD e ≤ 500000 → Calls Tryd.prog 68 #[.pointer (some ⟨b, 0, none⟩), .int .i64 (e : Int)] w' (DrewK w' b q e)) :
    Calls Tryd.prog 68 #[.pointer (some ⟨b, 0, none⟩), .int .i64 (d : Int)] w (DrewK w b p d) := by
    have HIH0 := Lib.hid ih
    clear ih
    have hcp := cD_pos d
    have hbl := hr.lt
    obtain ⟨S, hS⟩ : ∃ S, w.heap.size = S := ⟨_, rfl⟩
    have HSS := Lib.hid hS
    have hbS : b < S := by omega
    obtain ⟨w1, hw1⟩ : ∃ w1, w.alloc (.cells #[.int .i64 0, .int .i64 0, .string ⟨#[]⟩, .slice none 0 0, .slice none 0 0] 26) = w1 := ⟨_, rfl⟩
    have HW1 := Lib.hid hw1
    have HZ1 : Hid (Whole w1 S 26 #[.int .i64 0, .int .i64 0, .string ⟨#[]⟩, .slice none 0 0, .slice none 0 0]) := Lib.hid (by rw [← hw1, ← hS]; exact Whole.made w _ _)
    have HB1 : Hid (Below w.heap.size w w1) := Lib.hid (by rw [← hw1]; exact (Below.refl _ _).alloc (Nat.le_refl _) _)
    have HR1 := Lib.hid (hr.below HB1.out hbl)
    have HG1 := Lib.hid (gr_below HB1.out (some b))
    have hneS : some S ≠ some b := fun e => by cases e; omega
    clear hr hw1 hS hbl
    rcases Nat.eq_zero_or_pos d with hz | hpos
    · subst hz
      have hc0 : cD 0 = 60 := rfl
      go_enter Tryd.func68, Tryd.ntmps68
      go_wp2_with fail
      rw [HW1.out, HSS.out]
      refine (pick_any b p 9 _ HR1.out (by omega) (by omega) (by omega)).mono ?_
      rintro ee w3 ⟨x, hx, hee, hr, hg⟩
      have HR3 := Lib.hid hr
      have HG3 := Lib.hid (gr_trans HG1.out hg)
      have HZ3 := Lib.hid (HZ1.out.grown hg hneS)
      clear hr hg
      obtain ⟨y, hy⟩ : ∃ y : Int, (x : Int) = y := ⟨_, rfl⟩
      rw [hy] at hee
      subst hee
      have hyy : y = 0 ∨ (y = 1 ∨ y = 2) ∨ (y = 3 ∨ y = 4) ∨ (y = 5 ∨ y = 6) ∨ (y = 7 ∨ y = 8) := by omega
      clear hx hy
      rcases hyy with rfl | hy | hy | hy | hy
      · have r0 := HZ3.out.cell 0
        have r1 := HZ3.out.cell 1
        have r2 := HZ3.out.cell 2
        have r3 := HZ3.out.cell 3
        have r4 := HZ3.out.cell 4
        simp at r0 r1 r2 r3 r4
        have f0 := HZ3.out.free 0
        have f1 := HZ3.out.free 1
        have f2 := HZ3.out.free 2
        have f3 := HZ3.out.free 3
        have f4 := HZ3.out.free 4
        go_wp2
        refine bodyPost_ret (v := kval (0, 0, ⟨#[]⟩, (none, 0, 0), (none, 0, 0))) (by simp [results, Tryd.results68, go_sem, r0, r1, r2, r3, r4]) rfl ?_
        exact drewk_end HSS.out hbS (ka_leaf (by decide) rfl (by omega) (SpA.nil _ _)) (nodes_leaf _ _ _ _ _) (by omega) HR3.out HG3.out ⟨fun _ => rfl, fun q e => by cases e⟩
      · rcases hy with rfl | rfl
        all_goals (
          go_wp2_with fail
          refine (of_new b (p + 1) [[98, 111, 98], [120], [97, 109, 121], [111]] w3 HR3.out (by omega) (by decide) (by decide)).mono ?_
          rintro ee w4 ⟨l, hl, rfl, hr2, hg2⟩
          have HR4 := Lib.hid hr2
          have HG4 := Lib.hid (gr_trans HG3.out hg2)
          have HZ4 := Lib.hid (HZ3.out.grown hg2 hneS)
          have hlz : (⟨l.toArray⟩ : ByteArray).size ≤ 30 := text_le (by decide) hl
          clear hr2 hg2 hl
          unfold str
          obtain ⟨tx, htx⟩ : ∃ tx : ByteArray, ⟨l.toArray⟩ = tx := ⟨_, rfl⟩
          rw [htx] at hlz ⊢
          clear htx
          have r0 := HZ4.out.cell 0
          have r1 := HZ4.out.cell 1
          have r2 := HZ4.out.cell 2
          have r3 := HZ4.out.cell 3
          have r4 := HZ4.out.cell 4
          simp at r0 r1 r2 r3 r4
          have f0 := HZ4.out.free 0
          have f1 := HZ4.out.free 1
          have f2 := HZ4.out.free 2
          have f3 := HZ4.out.free 3
          have f4 := HZ4.out.free 4
          go_wp2
          refine bodyPost_ret (v := kval (2, 0, tx, (none, 0, 0), (none, 0, 0))) (by simp [results, Tryd.results68, go_sem, r0, r1, r2, r3, r4]) rfl ?_
          exact drewk_end HSS.out hbS (ka_leaf (by omega) rfl (by omega) (SpA.nil _ _)) (nodes_leaf _ _ _ _ _) (by omega) HR4.out HG4.out ⟨fun _ => rfl, fun q e => by cases e⟩)
      · rcases hy with rfl | rfl
        all_goals (
          go_wp2_with fail
          refine (set_draw b (p + 1) w3 HR3.out (by omega)).mono ?_
          rintro ee w4 ⟨v, L, q, hL, hq, rfl, hr2, hg2, ho⟩
          obtain ⟨A, n, c, rfl⟩ := own_slice ho
          have HR4 := Lib.hid hr2
          have HG4 := Lib.hid (gr_trans HG3.out hg2)
          have HZ4 := Lib.hid (HZ3.out.grown hg2 hneS)
          have HO4 := Lib.hid ho
          have hS3 : S + 1 ≤ w3.heap.size := HZ3.out.lt
          clear hr2 hg2 ho
          have r0 := HZ4.out.cell 0
          have r1 := HZ4.out.cell 1
          have r2 := HZ4.out.cell 2
          have r3 := HZ4.out.cell 3
          have r4 := HZ4.out.cell 4
          simp at r0 r1 r2 r3 r4
          have f0 := HZ4.out.free 0
          have f1 := HZ4.out.free 1
          have f2 := HZ4.out.free 2
          have f3 := HZ4.out.free 3
          have f4 := HZ4.out.free 4
          go_wp2
          refine bodyPost_ret (v := kval (3, 0, ⟨#[]⟩, (A, n, c), (none, 0, 0))) (by simp [results, Tryd.results68, go_sem, r0, r1, r2, r3, r4]) rfl ?_
          obtain ⟨hs1, hs2⟩ := spa_own1 HO4.out hS3
          exact drewk_end HSS.out hbS (ka_leaf (by decide) hs2 (by omega) hs1) (nodes_leaf _ _ _ _ _) (by omega) HR4.out HG4.out ⟨fun _ => rfl, fun q e => by cases e⟩)
      · rcases hy with rfl | rfl
        all_goals (
          go_wp2_with fail
          refine (set_draw b (p + 1) w3 HR3.out (by omega)).mono ?_
          rintro ee w4 ⟨v, L, q, hL, hq, rfl, hr2, hg2, ho⟩
          obtain ⟨A, n, c, rfl⟩ := own_slice ho
          have HR4 := Lib.hid hr2
          have HG4 := Lib.hid (gr_trans HG3.out hg2)
          have HZ4 := Lib.hid (HZ3.out.grown hg2 hneS)
          have HO4 := Lib.hid ho
          have hS3 : S + 1 ≤ w3.heap.size := HZ3.out.lt
          clear hr2 hg2 ho
          have r0 := HZ4.out.cell 0
          have r1 := HZ4.out.cell 1
          have r2 := HZ4.out.cell 2
          have r3 := HZ4.out.cell 3
          have r4 := HZ4.out.cell 4
          simp at r0 r1 r2 r3 r4
          have f0 := HZ4.out.free 0
          have f1 := HZ4.out.free 1
          have f2 := HZ4.out.free 2
          have f3 := HZ4.out.free 3
          have f4 := HZ4.out.free 4
          go_wp2
          refine bodyPost_ret (v := kval (4, 0, ⟨#[]⟩, (A, n, c), (none, 0, 0))) (by simp [results, Tryd.results68, go_sem, r0, r1, r2, r3, r4]) rfl ?_
          obtain ⟨hs1, hs2⟩ := spa_own1 HO4.out hS3
          exact drewk_end HSS.out hbS (ka_leaf (by decide) hs2 (by omega) hs1) (nodes_leaf _ _ _ _ _) (by omega) HR4.out HG4.out ⟨fun _ => rfl, fun q e => by cases e⟩)
      · rcases hy with rfl | rfl
        all_goals (
          go_wp2_with fail
          refine (pick_any b (p + 1) 5 _ HR3.out (by omega) (by omega) (by omega)).mono ?_
          rintro ee w4 ⟨z, hz5, rfl, hr2, hg2⟩
          have HR4 := Lib.hid hr2
          have HG4 := Lib.hid (gr_trans HG3.out hg2)
          have HZ4 := Lib.hid (HZ3.out.grown hg2 hneS)
          clear hr2 hg2
          go_wp2_with fail
          refine (spec_bit z w4 hz5).mono ?_
          rintro ee w5 ⟨fl, rfl, hb5⟩
          have HR5 := Lib.hid (HR4.out.below hb5 HR4.out.lt)
          have HG5 := Lib.hid (gr_trans HG4.out (gr_below hb5 (some b)))
          have HZ5 := Lib.hid (HZ4.out.below hb5 HZ4.out.lt)
          clear hb5
          have r0 := HZ5.out.cell 0
          have r1 := HZ5.out.cell 1
          have r2 := HZ5.out.cell 2
          have r3 := HZ5.out.cell 3
          have r4 := HZ5.out.cell 4
          simp at r0 r1 r2 r3 r4
          have f0 := HZ5.out.free 0
          have f1 := HZ5.out.free 1
          have f2 := HZ5.out.free 2
          have f3 := HZ5.out.free 3
          have f4 := HZ5.out.free 4
          go_wp2
          refine bodyPost_ret (v := kval (1, fl, ⟨#[]⟩, (none, 0, 0), (none, 0, 0))) (by simp [results, Tryd.results68, go_sem, r0, r1, r2, r3, r4]) rfl ?_
          exact drewk_end HSS.out hbS (ka_leaf (by decide) rfl (by omega) (SpA.nil _ _)) (nodes_leaf _ _ _ _ _) (by omega) HR5.out HG5.out ⟨fun _ => rfl, fun q e => by cases e⟩)
    · obtain ⟨e, he⟩ : ∃ e, e + 1 = d := ⟨d - 1, by omega⟩
      have hcd : cD d = 2 * cD e + 60 := by rw [← he]; rfl
      have hmd : mD d = 2 * mD e + 1 := by rw [← he]; rfl
      have he3 : e ≤ 3 := by omega
      have hce := cD_pos e
      have hd0 : (0 : Int) < (d : Int) := by omega
      have WD : IntKind.i64.wrap ((d : Int) - 1) = (e : Int) := (IntWalk.i64_in _ (by omega)).trans (by omega)
      have IH := Lib.hid (fun (q : Nat) (w' : World) (h1 : Rd w' b q) (h2 : q + cD e ≤ 500000) => HIH0.out e q w' he h1 h2)
      go_enter Tryd.func68, Tryd.ntmps68
      go_wp2_with fail
      rw [HW1.out, HSS.out]
      refine (pick_any b p 2 _ HR1.out (by omega) (by omega) (by omega)).mono ?_
      rintro ee w2 ⟨x, hx, hee, hr, hg⟩
      have HR2 := Lib.hid hr
      have HG2 := Lib.hid (gr_trans HG1.out hg)
      have HZ2 := Lib.hid (HZ1.out.grown hg hneS)
      clear hr hg
      obtain ⟨y, hy⟩ : ∃ y : Int, (x : Int) = y := ⟨_, rfl⟩
      rw [hy] at hee
      subst hee
      have hyy : y = 0 ∨ y = 1 := by omega
      clear hx hy
      rcases hyy with rfl | rfl
      · skip
        go_wp2_with fail
        refine (pick_any b (p + 1) 3 _ HR2.out (by omega) (by omega) (by omega)).mono ?_
        rintro ee w3 ⟨x, hx, hee, hr, hg⟩
        have HR3 := Lib.hid hr
        have HG3 := Lib.hid (gr_trans HG2.out hg)
        have HZ3 := Lib.hid (HZ2.out.grown hg hneS)
        clear hr hg
        obtain ⟨y, hy⟩ : ∃ y : Int, (x : Int) = y := ⟨_, rfl⟩
        rw [hy] at hee
        subst hee
        have hyy : y = 0 ∨ y = 1 ∨ y = 2 := by omega
        clear hx hy
        obtain ⟨i0, hi, hq0, hq1, hq2⟩ := info_parts Tryd.infoKey
        obtain ⟨D, hD⟩ : ∃ D, w3.heap.size = D := ⟨_, rfl⟩
        have HDD := Lib.hid hD
        have hSD : S + 1 ≤ D := by have := HZ3.out.lt; omega
        have hSle : S ≤ w3.heap.size := by omega
        clear hD
        rcases hyy with rfl | rfl | rfl
        · obtain ⟨w4, hw4⟩ : ∃ w4, w3.alloc (.cells #[.int .i64 5, .int .i64 0, .string ⟨#[]⟩, .slice none 0 0, .slice none 0 0] 26) = w4 := ⟨_, rfl⟩
          have HW4 := Lib.hid hw4
          have HX4 : Hid (Whole w4 D 26 #[.int .i64 5, .int .i64 0, .string ⟨#[]⟩, .slice none 0 0, .slice none 0 0]) := Lib.hid (by rw [← hw4, ← HDD.out]; exact Whole.made w3 _ _)
          have HZ4 : Hid (Whole w4 S 26 #[.int .i64 0, .int .i64 0, .string ⟨#[]⟩, .slice none 0 0, .slice none 0 0]) := Lib.hid (by rw [← hw4]; exact HZ3.out.alloc _)
          have HG4 : Hid (w.grownBy w4 (some b)) := Lib.hid (by rw [← hw4]; exact gr_alloc HG3.out _)
          have HR4 : Hid (Rd w4 b (p + 1 + 1)) := Lib.hid (by rw [← hw4]; exact HR3.out.below (below_newK w3 _) HR3.out.lt)
          have hD4 : D + 1 ≤ w4.heap.size := HX4.out.lt
          clear hw4
          go_wp2
          rw [HW4.out, HDD.out]
          go_loopw [6] (fun iv wr => ∃ (i q : Nat) (A : Option Addr) (cap base h : Nat) (ks : List KT) (rs : List KR), i ≤ 1 ∧ iv = .int .i64 (i : Int) ∧ q ≤ p + 3 + i * cD e ∧ D + 1 ≤ base ∧ D + 1 ≤ h ∧ h ≤ wr.heap.size ∧ Hid (i = 0 → A = none ∧ cap = 0) ∧ Hid (i < 2 → ∀ g, Value.ownBlock (.slice A i cap) = some g → h ≤ g) ∧ Hid (Rd wr b q) ∧ Hid (w.grownBy wr (some b)) ∧ Hid (Whole wr S 26 #[.int .i64 0, .int .i64 0, .string ⟨#[]⟩, .slice none 0 0, .slice none 0 0]) ∧ Hid (Whole wr D 26 #[.int .i64 5, .int .i64 0, .string ⟨#[]⟩, .slice none 0 0, .slice A i cap]) ∧ Hid (ROwn keyR wr base (.slice A i cap) rs) ∧ Hid (KRs (KA (D + 1) h wr) ks rs) ∧ Hid (nodesL ks ≤ i * mD e)) (fun iv _ => 1 - (intOf iv).toNat)
          case atStart => exact ⟨0, p + 1 + 1, none, 0, D + 1, D + 1, [], [], Nat.zero_le _, by go_num, by omega, Nat.le_refl _, Nat.le_refl _, hD4, fun _ => ⟨rfl, rfl⟩, fun _ g hg => (by cases hg), HR4.out, HG4.out, HZ4.out, HX4.out, ROwn.nil _ _, rfl, by rw [nodesL]; exact Nat.zero_le _⟩
          case round =>
            obtain ⟨i, q, A, cap, base, h, ks, rs, hin, rfl, hq, hba, hDh, hhw, HA0, HOB, HR, HG, HZ, HX, HO, HK, HNL⟩ := hrel
            have x0 := HX.out.cell 0
            have x1 := HX.out.cell 1
            have x2 := HX.out.cell 2
            have x3 := HX.out.cell 3
            have x4 := HX.out.cell 4
            simp at x0 x1 x2 x3 x4
            by_cases hlt : i < 1
            · have h5 : (i : Int) < 1 := by omega
              have hqe : q + cD e ≤ 500000 := by
                have h1 : i * cD e ≤ 1 * cD e := Nat.mul_le_mul_right _ (by omega)
                omega
              have HLN : Hid (rs.length = i) := Lib.hid HO.out.len.1.symm
              have HIC := Lib.hid (IH.out q wr.drew (show Rd wr.drew b q from HR.out) hqe)
              have hml : i + 1 ≤ maxLen := by unfold maxLen; omega
              have hby : (i + 1) * 80 ≤ 140737488355328 := by omega
              go_wp2
              clear x0 x1 x2 x3
              go_region_law (first
                | (refine step_append_rows rfl (.tmp 28) (.tmp 33) 24 rfl keyR base2 i0 _ 80 Tryd.underlying24 hi hq0 hq1 hq2 rfl (by decide) _ rs [(a0, a1, a2, (a3, a4, a5), (a6, a7, a8))] i HLN.out rfl (HO6.out.alloc (.cells #[.int .i64 a0, .int .i64 a1, .string a2, .slice a3 a4 a5, .slice a6 a7 a8] 26)) (some ⟨w6.heap.size, 0, none⟩) 1 1 rfl rfl (RAt.made keyR w6 [(a0, a1, a2, (a3, a4, a5), (a6, a7, a8))] _ rfl) (fun e => by cases e) (fun q e => by cases e; rfl) hml hby (by simp; omega) ?_
                   intro v' w7 hown hgrow hnn
                   obtain ⟨A7, N7, cap7, rfl⟩ := hown.val
                   have hN7 : N7 = i + 1 := by
                     have := hown.len.1
                     rw [List.length_append, HLN.out] at this
                     exact this
                   subst hN7
                   have HOW := Lib.hid hown
                   have HGW := Lib.hid hgrow
                   have hx7 := (HX6.out.alloc (.cells #[.int .i64 a0, .int .i64 a1, .string a2, .slice a3 a4 a5, .slice a6 a7 a8] 26)).grown hgrow (fun e => by have := (World.ownsRow.lt HO6.out D e.symm).1; omega)
                   have HX7 := Lib.hid hx7
                   have x47 := hx7.cell 4
                   simp at x47
                   have f47 := hx7.free 4
                   clear hown hgrow hnn hx7)
                | (go_simp
                   go_at_call 68
                   refine HIC.out.mono ?_
                   rintro ee w6 ⟨k6, ⟨a0, a1, a2, ⟨a3, a4, a5⟩, ⟨a6, a7, a8⟩⟩, q6, rfl, hk6, -, hn6, hq6, hr6, hg6⟩
                   have HK6 := Lib.hid hk6
                   have HN6 := Lib.hid hn6
                   have HR6 := Lib.hid hr6
                   have HGR6 := Lib.hid hg6
                   have hx6 := HX.out.drew.grown hg6 (fun e => by cases e; omega)
                   have HX6 := Lib.hid hx6
                   have x46 := hx6.cell 4
                   simp at x46
                   have x46a := (hx6.alloc (.cells #[.int .i64 a0, .int .i64 a1, .string a2, .slice a3 a4 a5, .slice a6 a7 a8] 26)).cell 4
                   simp at x46a
                   have hle6 : wr.heap.size ≤ w6.heap.size := hg6.size
                   obtain ⟨base2, hO6, hb61, hb62, hb63⟩ := own_base (i := i) HO.out HA0.out hg6 (by omega) hba (by have := HX.out.lt; omega)
                   have HO6 := Lib.hid hO6
                   clear hk6 hn6 hr6 hg6 hx6 hO6))
              all_goals (
                go_wp2
                go_roundw
                case rel => exact loop_rel hSD hbS HSS.out hin hlt (by omega) hq hba hDh hhw HOB.out HR6.out HG.out HZ.out HX.out HO.out HK.out HNL.out HGR6.out HK6.out HN6.out hq6 HO6.out hb61 hb62 hb63 HGW.out HX7.out HOW.out HLN.out
                case measure => simp [intOf]; omega)
            · have h5 : ¬ (i : Int) < 1 := by omega
              obtain rfl : i = 1 := by omega
              have r0 := HZ.out.cell 0
              have r1 := HZ.out.cell 1
              have r2 := HZ.out.cell 2
              have r3 := HZ.out.cell 3
              have r4 := HZ.out.cell 4
              simp at r0 r1 r2 r3 r4
              have f0 := HZ.out.free 0
              have f1 := HZ.out.free 1
              have f2 := HZ.out.free 2
              have f3 := HZ.out.free 3
              have f4 := HZ.out.free 4
              go_wp2
              refine bodyPost_ret (v := kval (5, 0, ⟨#[]⟩, (none, 0, 0), (A, 1, cap))) (by simp [results, Tryd.results68, go_sem, r0, r1, r2, r3, r4]) rfl ?_
              exact drewk_end HSS.out hbS (ka_node HO.out (by omega) HK.out (by omega) hhw) (by rw [nodesT]; have := HNL.out; omega) (by omega) HR.out HG.out ⟨fun e => HO.out.nilcap e, fun q e => HO.out.spot q e⟩
        · obtain ⟨w4, hw4⟩ : ∃ w4, w3.alloc (.cells #[.int .i64 6, .int .i64 0, .string ⟨#[]⟩, .slice none 0 0, .slice none 0 0] 26) = w4 := ⟨_, rfl⟩
          have HW4 := Lib.hid hw4
          have HX4 : Hid (Whole w4 D 26 #[.int .i64 6, .int .i64 0, .string ⟨#[]⟩, .slice none 0 0, .slice none 0 0]) := Lib.hid (by rw [← hw4, ← HDD.out]; exact Whole.made w3 _ _)
          have HZ4 : Hid (Whole w4 S 26 #[.int .i64 0, .int .i64 0, .string ⟨#[]⟩, .slice none 0 0, .slice none 0 0]) := Lib.hid (by rw [← hw4]; exact HZ3.out.alloc _)
          have HG4 : Hid (w.grownBy w4 (some b)) := Lib.hid (by rw [← hw4]; exact gr_alloc HG3.out _)
          have HR4 : Hid (Rd w4 b (p + 1 + 1)) := Lib.hid (by rw [← hw4]; exact HR3.out.below (below_newK w3 _) HR3.out.lt)
          have hD4 : D + 1 ≤ w4.heap.size := HX4.out.lt
          clear hw4
          go_wp2
          rw [HW4.out, HDD.out]
          go_loopw [6] (fun iv wr => ∃ (i q : Nat) (A : Option Addr) (cap base h : Nat) (ks : List KT) (rs : List KR), i ≤ 2 ∧ iv = .int .i64 (i : Int) ∧ q ≤ p + 3 + i * cD e ∧ D + 1 ≤ base ∧ D + 1 ≤ h ∧ h ≤ wr.heap.size ∧ Hid (i = 0 → A = none ∧ cap = 0) ∧ Hid (i < 2 → ∀ g, Value.ownBlock (.slice A i cap) = some g → h ≤ g) ∧ Hid (Rd wr b q) ∧ Hid (w.grownBy wr (some b)) ∧ Hid (Whole wr S 26 #[.int .i64 0, .int .i64 0, .string ⟨#[]⟩, .slice none 0 0, .slice none 0 0]) ∧ Hid (Whole wr D 26 #[.int .i64 6, .int .i64 0, .string ⟨#[]⟩, .slice none 0 0, .slice A i cap]) ∧ Hid (ROwn keyR wr base (.slice A i cap) rs) ∧ Hid (KRs (KA (D + 1) h wr) ks rs) ∧ Hid (nodesL ks ≤ i * mD e)) (fun iv _ => 2 - (intOf iv).toNat)
          case atStart => exact ⟨0, p + 1 + 1, none, 0, D + 1, D + 1, [], [], Nat.zero_le _, by go_num, by omega, Nat.le_refl _, Nat.le_refl _, hD4, fun _ => ⟨rfl, rfl⟩, fun _ g hg => (by cases hg), HR4.out, HG4.out, HZ4.out, HX4.out, ROwn.nil _ _, rfl, by rw [nodesL]; exact Nat.zero_le _⟩
          case round =>
            obtain ⟨i, q, A, cap, base, h, ks, rs, hin, rfl, hq, hba, hDh, hhw, HA0, HOB, HR, HG, HZ, HX, HO, HK, HNL⟩ := hrel
            have x0 := HX.out.cell 0
            have x1 := HX.out.cell 1
            have x2 := HX.out.cell 2
            have x3 := HX.out.cell 3
            have x4 := HX.out.cell 4
            simp at x0 x1 x2 x3 x4
            by_cases hlt : i < 2
            · have h5 : (i : Int) < 2 := by omega
              have hqe : q + cD e ≤ 500000 := by
                have h1 : i * cD e ≤ 1 * cD e := Nat.mul_le_mul_right _ (by omega)
                omega
              have HLN : Hid (rs.length = i) := Lib.hid HO.out.len.1.symm
              have HIC := Lib.hid (IH.out q wr.drew (show Rd wr.drew b q from HR.out) hqe)
              have hml : i + 1 ≤ maxLen := by unfold maxLen; omega
              have hby : (i + 1) * 80 ≤ 140737488355328 := by omega
              go_wp2
              clear x0 x1 x2 x3
              go_region_law (first
                | (refine step_append_rows rfl (.tmp 28) (.tmp 33) 24 rfl keyR base2 i0 _ 80 Tryd.underlying24 hi hq0 hq1 hq2 rfl (by decide) _ rs [(a0, a1, a2, (a3, a4, a5), (a6, a7, a8))] i HLN.out rfl (HO6.out.alloc (.cells #[.int .i64 a0, .int .i64 a1, .string a2, .slice a3 a4 a5, .slice a6 a7 a8] 26)) (some ⟨w6.heap.size, 0, none⟩) 1 1 rfl rfl (RAt.made keyR w6 [(a0, a1, a2, (a3, a4, a5), (a6, a7, a8))] _ rfl) (fun e => by cases e) (fun q e => by cases e; rfl) hml hby (by simp; omega) ?_
                   intro v' w7 hown hgrow hnn
                   obtain ⟨A7, N7, cap7, rfl⟩ := hown.val
                   have hN7 : N7 = i + 1 := by
                     have := hown.len.1
                     rw [List.length_append, HLN.out] at this
                     exact this
                   subst hN7
                   have HOW := Lib.hid hown
                   have HGW := Lib.hid hgrow
                   have hx7 := (HX6.out.alloc (.cells #[.int .i64 a0, .int .i64 a1, .string a2, .slice a3 a4 a5, .slice a6 a7 a8] 26)).grown hgrow (fun e => by have := (World.ownsRow.lt HO6.out D e.symm).1; omega)
                   have HX7 := Lib.hid hx7
                   have x47 := hx7.cell 4
                   simp at x47
                   have f47 := hx7.free 4
                   clear hown hgrow hnn hx7)
                | (go_simp
                   go_at_call 68
                   refine HIC.out.mono ?_
                   rintro ee w6 ⟨k6, ⟨a0, a1, a2, ⟨a3, a4, a5⟩, ⟨a6, a7, a8⟩⟩, q6, rfl, hk6, -, hn6, hq6, hr6, hg6⟩
                   have HK6 := Lib.hid hk6
                   have HN6 := Lib.hid hn6
                   have HR6 := Lib.hid hr6
                   have HGR6 := Lib.hid hg6
                   have hx6 := HX.out.drew.grown hg6 (fun e => by cases e; omega)
                   have HX6 := Lib.hid hx6
                   have x46 := hx6.cell 4
                   simp at x46
                   have x46a := (hx6.alloc (.cells #[.int .i64 a0, .int .i64 a1, .string a2, .slice a3 a4 a5, .slice a6 a7 a8] 26)).cell 4
                   simp at x46a
                   have hle6 : wr.heap.size ≤ w6.heap.size := hg6.size
                   obtain ⟨base2, hO6, hb61, hb62, hb63⟩ := own_base (i := i) HO.out HA0.out hg6 (by omega) hba (by have := HX.out.lt; omega)
                   have HO6 := Lib.hid hO6
                   clear hk6 hn6 hr6 hg6 hx6 hO6))
              all_goals (
                go_wp2
                go_roundw
                case rel => exact loop_rel hSD hbS HSS.out hin hlt (by omega) hq hba hDh hhw HOB.out HR6.out HG.out HZ.out HX.out HO.out HK.out HNL.out HGR6.out HK6.out HN6.out hq6 HO6.out hb61 hb62 hb63 HGW.out HX7.out HOW.out HLN.out
                case measure => simp [intOf]; omega)
            · have h5 : ¬ (i : Int) < 2 := by omega
              obtain rfl : i = 2 := by omega
              have r0 := HZ.out.cell 0
              have r1 := HZ.out.cell 1
              have r2 := HZ.out.cell 2
              have r3 := HZ.out.cell 3
              have r4 := HZ.out.cell 4
              simp at r0 r1 r2 r3 r4
              have f0 := HZ.out.free 0
              have f1 := HZ.out.free 1
              have f2 := HZ.out.free 2
              have f3 := HZ.out.free 3
              have f4 := HZ.out.free 4
              go_wp2
              refine bodyPost_ret (v := kval (6, 0, ⟨#[]⟩, (none, 0, 0), (A, 2, cap))) (by simp [results, Tryd.results68, go_sem, r0, r1, r2, r3, r4]) rfl ?_
              exact drewk_end HSS.out hbS (ka_node HO.out (by omega) HK.out (by omega) hhw) (by rw [nodesT]; have := HNL.out; omega) (by omega) HR.out HG.out ⟨fun e => HO.out.nilcap e, fun q e => HO.out.spot q e⟩
        · obtain ⟨w4, hw4⟩ : ∃ w4, w3.alloc (.cells #[.int .i64 7, .int .i64 0, .string ⟨#[]⟩, .slice none 0 0, .slice none 0 0] 26) = w4 := ⟨_, rfl⟩
          have HW4 := Lib.hid hw4
          have HX4 : Hid (Whole w4 D 26 #[.int .i64 7, .int .i64 0, .string ⟨#[]⟩, .slice none 0 0, .slice none 0 0]) := Lib.hid (by rw [← hw4, ← HDD.out]; exact Whole.made w3 _ _)
          have HZ4 : Hid (Whole w4 S 26 #[.int .i64 0, .int .i64 0, .string ⟨#[]⟩, .slice none 0 0, .slice none 0 0]) := Lib.hid (by rw [← hw4]; exact HZ3.out.alloc _)
          have HG4 : Hid (w.grownBy w4 (some b)) := Lib.hid (by rw [← hw4]; exact gr_alloc HG3.out _)
          have HR4 : Hid (Rd w4 b (p + 1 + 1)) := Lib.hid (by rw [← hw4]; exact HR3.out.below (below_newK w3 _) HR3.out.lt)
          have hD4 : D + 1 ≤ w4.heap.size := HX4.out.lt
          clear hw4
          go_wp2
          rw [HW4.out, HDD.out]
          go_loopw [6] (fun iv wr => ∃ (i q : Nat) (A : Option Addr) (cap base h : Nat) (ks : List KT) (rs : List KR), i ≤ 2 ∧ iv = .int .i64 (i : Int) ∧ q ≤ p + 3 + i * cD e ∧ D + 1 ≤ base ∧ D + 1 ≤ h ∧ h ≤ wr.heap.size ∧ Hid (i = 0 → A = none ∧ cap = 0) ∧ Hid (i < 2 → ∀ g, Value.ownBlock (.slice A i cap) = some g → h ≤ g) ∧ Hid (Rd wr b q) ∧ Hid (w.grownBy wr (some b)) ∧ Hid (Whole wr S 26 #[.int .i64 0, .int .i64 0, .string ⟨#[]⟩, .slice none 0 0, .slice none 0 0]) ∧ Hid (Whole wr D 26 #[.int .i64 7, .int .i64 0, .string ⟨#[]⟩, .slice none 0 0, .slice A i cap]) ∧ Hid (ROwn keyR wr base (.slice A i cap) rs) ∧ Hid (KRs (KA (D + 1) h wr) ks rs) ∧ Hid (nodesL ks ≤ i * mD e)) (fun iv _ => 2 - (intOf iv).toNat)
          case atStart => exact ⟨0, p + 1 + 1, none, 0, D + 1, D + 1, [], [], Nat.zero_le _, by go_num, by omega, Nat.le_refl _, Nat.le_refl _, hD4, fun _ => ⟨rfl, rfl⟩, fun _ g hg => (by cases hg), HR4.out, HG4.out, HZ4.out, HX4.out, ROwn.nil _ _, rfl, by rw [nodesL]; exact Nat.zero_le _⟩
          case round =>
            obtain ⟨i, q, A, cap, base, h, ks, rs, hin, rfl, hq, hba, hDh, hhw, HA0, HOB, HR, HG, HZ, HX, HO, HK, HNL⟩ := hrel
            have x0 := HX.out.cell 0
            have x1 := HX.out.cell 1
            have x2 := HX.out.cell 2
            have x3 := HX.out.cell 3
            have x4 := HX.out.cell 4
            simp at x0 x1 x2 x3 x4
            by_cases hlt : i < 2
            · have h5 : (i : Int) < 2 := by omega
              have hqe : q + cD e ≤ 500000 := by
                have h1 : i * cD e ≤ 1 * cD e := Nat.mul_le_mul_right _ (by omega)
                omega
              have HLN : Hid (rs.length = i) := Lib.hid HO.out.len.1.symm
              have HIC := Lib.hid (IH.out q wr.drew (show Rd wr.drew b q from HR.out) hqe)
              have hml : i + 1 ≤ maxLen := by unfold maxLen; omega
              have hby : (i + 1) * 80 ≤ 140737488355328 := by omega
              go_wp2
              clear x0 x1 x2 x3
              go_region_law (first
                | (refine step_append_rows rfl (.tmp 28) (.tmp 33) 24 rfl keyR base2 i0 _ 80 Tryd.underlying24 hi hq0 hq1 hq2 rfl (by decide) _ rs [(a0, a1, a2, (a3, a4, a5), (a6, a7, a8))] i HLN.out rfl (HO6.out.alloc (.cells #[.int .i64 a0, .int .i64 a1, .string a2, .slice a3 a4 a5, .slice a6 a7 a8] 26)) (some ⟨w6.heap.size, 0, none⟩) 1 1 rfl rfl (RAt.made keyR w6 [(a0, a1, a2, (a3, a4, a5), (a6, a7, a8))] _ rfl) (fun e => by cases e) (fun q e => by cases e; rfl) hml hby (by simp; omega) ?_
                   intro v' w7 hown hgrow hnn
                   obtain ⟨A7, N7, cap7, rfl⟩ := hown.val
                   have hN7 : N7 = i + 1 := by
                     have := hown.len.1
                     rw [List.length_append, HLN.out] at this
                     exact this
                   subst hN7
                   have HOW := Lib.hid hown
                   have HGW := Lib.hid hgrow
                   have hx7 := (HX6.out.alloc (.cells #[.int .i64 a0, .int .i64 a1, .string a2, .slice a3 a4 a5, .slice a6 a7 a8] 26)).grown hgrow (fun e => by have := (World.ownsRow.lt HO6.out D e.symm).1; omega)
                   have HX7 := Lib.hid hx7
                   have x47 := hx7.cell 4
                   simp at x47
                   have f47 := hx7.free 4
                   clear hown hgrow hnn hx7)
                | (go_simp
                   go_at_call 68
                   refine HIC.out.mono ?_
                   rintro ee w6 ⟨k6, ⟨a0, a1, a2, ⟨a3, a4, a5⟩, ⟨a6, a7, a8⟩⟩, q6, rfl, hk6, -, hn6, hq6, hr6, hg6⟩
                   have HK6 := Lib.hid hk6
                   have HN6 := Lib.hid hn6
                   have HR6 := Lib.hid hr6
                   have HGR6 := Lib.hid hg6
                   have hx6 := HX.out.drew.grown hg6 (fun e => by cases e; omega)
                   have HX6 := Lib.hid hx6
                   have x46 := hx6.cell 4
                   simp at x46
                   have x46a := (hx6.alloc (.cells #[.int .i64 a0, .int .i64 a1, .string a2, .slice a3 a4 a5, .slice a6 a7 a8] 26)).cell 4
                   simp at x46a
                   have hle6 : wr.heap.size ≤ w6.heap.size := hg6.size
                   obtain ⟨base2, hO6, hb61, hb62, hb63⟩ := own_base (i := i) HO.out HA0.out hg6 (by omega) hba (by have := HX.out.lt; omega)
                   have HO6 := Lib.hid hO6
                   clear hk6 hn6 hr6 hg6 hx6 hO6))
              all_goals (
                go_wp2
                go_roundw
                case rel => exact loop_rel hSD hbS HSS.out hin hlt (by omega) hq hba hDh hhw HOB.out HR6.out HG.out HZ.out HX.out HO.out HK.out HNL.out HGR6.out HK6.out HN6.out hq6 HO6.out hb61 hb62 hb63 HGW.out HX7.out HOW.out HLN.out
                case measure => simp [intOf]; omega)
            · have h5 : ¬ (i : Int) < 2 := by omega
              obtain rfl : i = 2 := by omega
              have r0 := HZ.out.cell 0
              have r1 := HZ.out.cell 1
              have r2 := HZ.out.cell 2
              have r3 := HZ.out.cell 3
              have r4 := HZ.out.cell 4
              simp at r0 r1 r2 r3 r4
              have f0 := HZ.out.free 0
              have f1 := HZ.out.free 1
              have f2 := HZ.out.free 2
              have f3 := HZ.out.free 3
              have f4 := HZ.out.free 4
              go_wp2
              refine bodyPost_ret (v := kval (7, 0, ⟨#[]⟩, (none, 0, 0), (A, 2, cap))) (by simp [results, Tryd.results68, go_sem, r0, r1, r2, r3, r4]) rfl ?_
              exact drewk_end HSS.out hbS (ka_node HO.out (by omega) HK.out (by omega) hhw) (by rw [nodesT]; have := HNL.out; omega) (by omega) HR.out HG.out ⟨fun e => HO.out.nilcap e, fun q e => HO.out.spot q e⟩

      · skip
        go_wp2_with fail
        refine (pick_any b (p + 1) 9 _ HR2.out (by omega) (by omega) (by omega)).mono ?_
        rintro ee w3 ⟨x, hx, hee, hr, hg⟩
        have HR3 := Lib.hid hr
        have HG3 := Lib.hid (gr_trans HG2.out hg)
        have HZ3 := Lib.hid (HZ2.out.grown hg hneS)
        clear hr hg
        obtain ⟨y, hy⟩ : ∃ y : Int, (x : Int) = y := ⟨_, rfl⟩
        rw [hy] at hee
        subst hee
        have hyy : y = 0 ∨ (y = 1 ∨ y = 2) ∨ (y = 3 ∨ y = 4) ∨ (y = 5 ∨ y = 6) ∨ (y = 7 ∨ y = 8) := by omega
        clear hx hy
        rcases hyy with rfl | hy | hy | hy | hy
        · have r0 := HZ3.out.cell 0
          have r1 := HZ3.out.cell 1
          have r2 := HZ3.out.cell 2
          have r3 := HZ3.out.cell 3
          have r4 := HZ3.out.cell 4
          simp at r0 r1 r2 r3 r4
          have f0 := HZ3.out.free 0
          have f1 := HZ3.out.free 1
          have f2 := HZ3.out.free 2
          have f3 := HZ3.out.free 3
          have f4 := HZ3.out.free 4
          go_wp2
          refine bodyPost_ret (v := kval (0, 0, ⟨#[]⟩, (none, 0, 0), (none, 0, 0))) (by simp [results, Tryd.results68, go_sem, r0, r1, r2, r3, r4]) rfl ?_
          exact drewk_end HSS.out hbS (ka_leaf (by decide) rfl (by omega) (SpA.nil _ _)) (nodes_leaf _ _ _ _ _) (by omega) HR3.out HG3.out ⟨fun _ => rfl, fun q e => by cases e⟩
        · rcases hy with rfl | rfl
          all_goals (
            go_wp2_with fail
            refine (of_new b ((p + 1) + 1) [[98, 111, 98], [120], [97, 109, 121], [111]] w3 HR3.out (by omega) (by decide) (by decide)).mono ?_
            rintro ee w4 ⟨l, hl, rfl, hr2, hg2⟩
            have HR4 := Lib.hid hr2
            have HG4 := Lib.hid (gr_trans HG3.out hg2)
            have HZ4 := Lib.hid (HZ3.out.grown hg2 hneS)
            have hlz : (⟨l.toArray⟩ : ByteArray).size ≤ 30 := text_le (by decide) hl
            clear hr2 hg2 hl
            unfold str
            obtain ⟨tx, htx⟩ : ∃ tx : ByteArray, ⟨l.toArray⟩ = tx := ⟨_, rfl⟩
            rw [htx] at hlz ⊢
            clear htx
            have r0 := HZ4.out.cell 0
            have r1 := HZ4.out.cell 1
            have r2 := HZ4.out.cell 2
            have r3 := HZ4.out.cell 3
            have r4 := HZ4.out.cell 4
            simp at r0 r1 r2 r3 r4
            have f0 := HZ4.out.free 0
            have f1 := HZ4.out.free 1
            have f2 := HZ4.out.free 2
            have f3 := HZ4.out.free 3
            have f4 := HZ4.out.free 4
            go_wp2
            refine bodyPost_ret (v := kval (2, 0, tx, (none, 0, 0), (none, 0, 0))) (by simp [results, Tryd.results68, go_sem, r0, r1, r2, r3, r4]) rfl ?_
            exact drewk_end HSS.out hbS (ka_leaf (by omega) rfl (by omega) (SpA.nil _ _)) (nodes_leaf _ _ _ _ _) (by omega) HR4.out HG4.out ⟨fun _ => rfl, fun q e => by cases e⟩)
        · rcases hy with rfl | rfl
          all_goals (
            go_wp2_with fail
            refine (set_draw b ((p + 1) + 1) w3 HR3.out (by omega)).mono ?_
            rintro ee w4 ⟨v, L, q, hL, hq, rfl, hr2, hg2, ho⟩
            obtain ⟨A, n, c, rfl⟩ := own_slice ho
            have HR4 := Lib.hid hr2
            have HG4 := Lib.hid (gr_trans HG3.out hg2)
            have HZ4 := Lib.hid (HZ3.out.grown hg2 hneS)
            have HO4 := Lib.hid ho
            have hS3 : S + 1 ≤ w3.heap.size := HZ3.out.lt
            clear hr2 hg2 ho
            have r0 := HZ4.out.cell 0
            have r1 := HZ4.out.cell 1
            have r2 := HZ4.out.cell 2
            have r3 := HZ4.out.cell 3
            have r4 := HZ4.out.cell 4
            simp at r0 r1 r2 r3 r4
            have f0 := HZ4.out.free 0
            have f1 := HZ4.out.free 1
            have f2 := HZ4.out.free 2
            have f3 := HZ4.out.free 3
            have f4 := HZ4.out.free 4
            go_wp2
            refine bodyPost_ret (v := kval (3, 0, ⟨#[]⟩, (A, n, c), (none, 0, 0))) (by simp [results, Tryd.results68, go_sem, r0, r1, r2, r3, r4]) rfl ?_
            obtain ⟨hs1, hs2⟩ := spa_own1 HO4.out hS3
            exact drewk_end HSS.out hbS (ka_leaf (by decide) hs2 (by omega) hs1) (nodes_leaf _ _ _ _ _) (by omega) HR4.out HG4.out ⟨fun _ => rfl, fun q e => by cases e⟩)
        · rcases hy with rfl | rfl
          all_goals (
            go_wp2_with fail
            refine (set_draw b ((p + 1) + 1) w3 HR3.out (by omega)).mono ?_
            rintro ee w4 ⟨v, L, q, hL, hq, rfl, hr2, hg2, ho⟩
            obtain ⟨A, n, c, rfl⟩ := own_slice ho
            have HR4 := Lib.hid hr2
            have HG4 := Lib.hid (gr_trans HG3.out hg2)
            have HZ4 := Lib.hid (HZ3.out.grown hg2 hneS)
            have HO4 := Lib.hid ho
            have hS3 : S + 1 ≤ w3.heap.size := HZ3.out.lt
            clear hr2 hg2 ho
            have r0 := HZ4.out.cell 0
            have r1 := HZ4.out.cell 1
            have r2 := HZ4.out.cell 2
            have r3 := HZ4.out.cell 3
            have r4 := HZ4.out.cell 4
            simp at r0 r1 r2 r3 r4
            have f0 := HZ4.out.free 0
            have f1 := HZ4.out.free 1
            have f2 := HZ4.out.free 2
            have f3 := HZ4.out.free 3
            have f4 := HZ4.out.free 4
            go_wp2
            refine bodyPost_ret (v := kval (4, 0, ⟨#[]⟩, (A, n, c), (none, 0, 0))) (by simp [results, Tryd.results68, go_sem, r0, r1, r2, r3, r4]) rfl ?_
            obtain ⟨hs1, hs2⟩ := spa_own1 HO4.out hS3
            exact drewk_end HSS.out hbS (ka_leaf (by decide) hs2 (by omega) hs1) (nodes_leaf _ _ _ _ _) (by omega) HR4.out HG4.out ⟨fun _ => rfl, fun q e => by cases e⟩)
        · rcases hy with rfl | rfl
          all_goals (
            go_wp2_with fail
            refine (pick_any b ((p + 1) + 1) 5 _ HR3.out (by omega) (by omega) (by omega)).mono ?_
            rintro ee w4 ⟨z, hz5, rfl, hr2, hg2⟩
            have HR4 := Lib.hid hr2
            have HG4 := Lib.hid (gr_trans HG3.out hg2)
            have HZ4 := Lib.hid (HZ3.out.grown hg2 hneS)
            clear hr2 hg2
            go_wp2_with fail
            refine (spec_bit z w4 hz5).mono ?_
            rintro ee w5 ⟨fl, rfl, hb5⟩
            have HR5 := Lib.hid (HR4.out.below hb5 HR4.out.lt)
            have HG5 := Lib.hid (gr_trans HG4.out (gr_below hb5 (some b)))
            have HZ5 := Lib.hid (HZ4.out.below hb5 HZ4.out.lt)
            clear hb5
            have r0 := HZ5.out.cell 0
            have r1 := HZ5.out.cell 1
            have r2 := HZ5.out.cell 2
            have r3 := HZ5.out.cell 3
            have r4 := HZ5.out.cell 4
            simp at r0 r1 r2 r3 r4
            have f0 := HZ5.out.free 0
            have f1 := HZ5.out.free 1
            have f2 := HZ5.out.free 2
            have f3 := HZ5.out.free 3
            have f4 := HZ5.out.free 4
            go_wp2
            refine bodyPost_ret (v := kval (1, fl, ⟨#[]⟩, (none, 0, 0), (none, 0, 0))) (by simp [results, Tryd.results68, go_sem, r0, r1, r2, r3, r4]) rfl ?_
            exact drewk_end HSS.out hbS (ka_leaf (by decide) rfl (by omega) (SpA.nil _ _)) (nodes_leaf _ _ _ _ _) (by omega) HR5.out HG5.out ⟨fun _ => rfl, fun q e => by cases e⟩)
theorem key_draw : ∀ (d : Nat) (b p : Nat) (w : World), d ≤ 3 → Rd w b p → p + cD d ≤ 500000 → Calls Tryd.prog 68 #[.pointer (some ⟨b, 0, none⟩), .int .i64 (d : Int)] w (DrewK w b p d)
  | 0, b, p, w, hd, hr, hp => key_step 0 b p w hd hr hp fun e q w' h => by omega
  | d + 1, b, p, w, hd, hr, hp => key_step (d + 1) b p w hd hr hp fun e q w' h h1 h2 => by
    obtain rfl : e = d := by omega
    exact key_draw e b q w' (by omega) h1 h2
end Go.Proofs.YtpihibconbejlaaDoor
