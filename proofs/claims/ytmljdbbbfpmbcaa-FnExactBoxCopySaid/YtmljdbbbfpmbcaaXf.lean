/-
  The walks of the laws FnExactBoxCopy. Condition: the code can be read.
-/
import Derived.Test.YtmljdbbbfpmbcaaEz
import Derived.Test.YtmljdbbbfpmbcaaLu
import Derived.BigQuiet
import Derived.Deep.RegionHeld3
import Derived.Outline
import Derived.Deep.RegionWith
import Derived.Deep.DeepCutAuto
namespace Go.Proofs.Ytmljdbbbfpmbcaa
open Go.RowKit
set_option linter.unusedVariables false

theorem name_worldC {B : Nat} {a w : World} (h : Below B a w) : ∃ w2, w2 = w := ⟨w, rfl⟩
set_option maxRecDepth 20000 in
set_option maxHeartbeats 40000000 in
theorem law_FnExactBoxCopy (n0 : Int) (A : Option Addr) (len cap : Nat) (AP : Option Addr) (lenP capP : Nat) (m0 : Int) (A9 : Option Addr) (len9 cap9 : Nat) (w : World) (h : BoxArg w A len cap) (hp : NumArg w AP lenP capP) (h9 : BoxArg w A9 len9 cap9) : Calls Try.prog 12 #[.agg #[.int .i64 n0, .slice A len cap], .slice AP lenP capP, .agg #[.int .i64 m0, .slice A9 len9 cap9]] w (Holds1 w) := by
  by_cases hlenP : lenP ≤ 1048576
  · have hs' : (lenP : Int) ≤ 1048576 := by omega
    obtain ⟨L, hA⟩ := h
    have HA := Lib.hid hA
    have HN := Lib.hid hA.1
    obtain ⟨r, hr⟩ : ∃ q, szB len L 1048576 = q := ⟨_, rfl⟩
    have hrc : r = -1 ∨ (0 ≤ r ∧ r ≤ 1048576 ∧ (len : Int) ≤ 1048576) := by
      by_cases h0 : r < 0
      · exact .inl (by rw [← hr]; exact szB_neg (by rw [hr]; exact h0))
      · have h1 := szB_le (n := len) (L := L) (left := 1048576) (by rw [hr]; omega)
        rw [hr] at h1
        exact .inr ⟨by omega, h1.2, h1.1⟩
    have HR := Lib.hid hr
    clear hA hr
    obtain ⟨P, hP⟩ := hp
    have HP := Lib.hid hP
    have HNP := Lib.hid hP.1
    clear hP
    obtain ⟨L9, hA⟩ := h9
    have HA9 := Lib.hid hA
    have HN9 := Lib.hid hA.1
    obtain ⟨r9, hr⟩ : ∃ q, szB len9 L9 r = q := ⟨_, rfl⟩
    have hrc9 : r9 = -1 ∨ (0 ≤ r9 ∧ r9 ≤ r ∧ (len9 : Int) ≤ r) := by
      by_cases h0 : r9 < 0
      · exact .inl (by rw [← hr]; exact szB_neg (by rw [hr]; exact h0))
      · have h1 := szB_le (n := len9) (L := L9) (left := r) (by rw [hr]; omega)
        rw [hr] at h1
        exact .inr ⟨by omega, h1.2, h1.1⟩
    have HR9 := Lib.hid hr
    clear hA hr
    obtain ⟨⟨n2, L2, ok⟩, hr⟩ : ∃ r, bxCp n0 L P m0 L9 = r := ⟨_, rfl⟩
    have hl2 := bxCp_len hr
    have HRR := Lib.hid hr
    have hoo : (ok != ok) = false := by simp
    clear hr
    rcases hrc with rfl | ⟨hr0, hr1, hlen0⟩
    · obtain ⟨Da, hDa⟩ : ∃ D, w.heap.size = D := ⟨_, rfl⟩
      have hDb : (w.alloc (.cells #[.int .i64 n0, .slice A len cap] 45)).heap.size = Da + 1 := by simp; exact hDa
      have K1 := Lib.hid ((((((((kp_start w).and HA.out.keep).and HA9.out.keep).and HP.out.keep).alloc (.cells #[.int .i64 n0, .slice A len cap] 45)).and (kp_one w 45 #[.int .i64 n0, .slice A len cap] hDa)).alloc (.cells #[.int .i64 m0, .slice A9 len9 cap9] 45)).and (kp_one (w.alloc (.cells #[.int .i64 n0, .slice A len cap] 45)) 45 #[.int .i64 m0, .slice A9 len9 cap9] hDb))
      clear hDb
      have zDa0 := K1.out.here.1.2.2.1.cell 0
      have zDa1 := K1.out.here.1.2.2.1.cell 1
      have zDb0 := K1.out.here.2.2.1.cell 0
      have zDb1 := K1.out.here.2.2.1.cell 1
      simp at zDa0 zDa1 zDb0 zDb1
      go_enter Try.func12, Try.ntmps12
      go_wp2_with fail
      refine (sz_box n0 A len cap 1048576 (-1) L _ K1.out.here.1.1.1.1.2 (by omega) (by omega) HR.out).mono ?_
      rintro e w1 ⟨rfl, hb⟩
      have K2 := Lib.hid (K1.out.move hb)
      clear hb
      clear zDa0 zDa1 zDb0 zDb1
      have zDa0 := K2.out.here.1.2.2.1.cell 0
      have zDa1 := K2.out.here.1.2.2.1.cell 1
      have zDb0 := K2.out.here.2.2.1.cell 0
      have zDb1 := K2.out.here.2.2.1.cell 1
      simp at zDa0 zDa1 zDb0 zDb1
      go_wp2
      go_ret
      exact ⟨rfl, K2.out.here.1.1.1.1.1⟩
    · have hlen : len ≤ 1048576 := by omega
      have hrf : ¬ r < 0 := by omega
      have hrd : decide (r < 0) = false := decide_eq_false hrf
      rcases hrc9 with rfl | ⟨hr90, hr91, hlen90⟩
      · obtain ⟨Da, hDa⟩ : ∃ D, w.heap.size = D := ⟨_, rfl⟩
        have hDb : (w.alloc (.cells #[.int .i64 n0, .slice A len cap] 45)).heap.size = Da + 1 := by simp; exact hDa
        have K1 := Lib.hid ((((((((kp_start w).and HA.out.keep).and HA9.out.keep).and HP.out.keep).alloc (.cells #[.int .i64 n0, .slice A len cap] 45)).and (kp_one w 45 #[.int .i64 n0, .slice A len cap] hDa)).alloc (.cells #[.int .i64 m0, .slice A9 len9 cap9] 45)).and (kp_one (w.alloc (.cells #[.int .i64 n0, .slice A len cap] 45)) 45 #[.int .i64 m0, .slice A9 len9 cap9] hDb))
        clear hDb
        have zDa0 := K1.out.here.1.2.2.1.cell 0
        have zDa1 := K1.out.here.1.2.2.1.cell 1
        have zDb0 := K1.out.here.2.2.1.cell 0
        have zDb1 := K1.out.here.2.2.1.cell 1
        simp at zDa0 zDa1 zDb0 zDb1
        go_enter Try.func12, Try.ntmps12
        go_wp2_with fail
        refine (sz_box n0 A len cap 1048576 r L _ K1.out.here.1.1.1.1.2 (by omega) (by omega) HR.out).mono ?_
        rintro e w1 ⟨rfl, hb⟩
        have K2 := Lib.hid (K1.out.move hb)
        clear hb
        clear zDa0 zDa1 zDb0 zDb1
        have zDa0 := K2.out.here.1.2.2.1.cell 0
        have zDa1 := K2.out.here.1.2.2.1.cell 1
        have zDb0 := K2.out.here.2.2.1.cell 0
        have zDb1 := K2.out.here.2.2.1.cell 1
        simp at zDa0 zDa1 zDb0 zDb1
        go_wp2_with fail
        refine (sz_box m0 A9 len9 cap9 r (-1) L9 _ K2.out.here.1.1.1.2 (by omega) (by omega) HR9.out).mono ?_
        rintro e w1b ⟨rfl, hb⟩
        have K3 := Lib.hid (K2.out.move hb)
        clear hb
        clear zDa0 zDa1 zDb0 zDb1
        have zDa0 := K3.out.here.1.2.2.1.cell 0
        have zDa1 := K3.out.here.1.2.2.1.cell 1
        have zDb0 := K3.out.here.2.2.1.cell 0
        have zDb1 := K3.out.here.2.2.1.cell 1
        simp at zDa0 zDa1 zDb0 zDb1
        go_wp2
        go_ret
        exact ⟨rfl, K3.out.here.1.1.1.1.1⟩
      · have hlen9 : len9 ≤ 1048576 := by omega
        have hr9f : ¬ r9 < 0 := by omega
        have hr9d : decide (r9 < 0) = false := decide_eq_false hr9f
        have HL2 : Hid (L2.length ≤ 2100000) := by show _ ≤ _; have := HN9.out; have := HNP.out; omega
        clear hl2
        obtain ⟨r1, hr1⟩ : ∃ q, 1 + 3 * len = q := ⟨_, rfl⟩
        have hr1f : ¬ (r1 : Int) < 0 := by omega
        have hr1d : decide ((r1 : Int) < 0) = false := decide_eq_false hr1f
        have hr1e : ((r1 : Int) != (r1 : Int)) = false := by simp
        have Hr1 := Lib.hid hr1
        clear hr1
        obtain ⟨rp, hrp⟩ : ∃ q, r1 + lenP = q := ⟨_, rfl⟩
        have hrpf : ¬ (rp : Int) < 0 := by omega
        have hrpd : decide ((rp : Int) < 0) = false := decide_eq_false hrpf
        have hrpe : ((rp : Int) != (rp : Int)) = false := by simp
        have Hrp := Lib.hid hrp
        clear hrp
        obtain ⟨rz, hrz⟩ : ∃ q, rp + 3 * len9 = q := ⟨_, rfl⟩
        have hrzf : ¬ (rz : Int) < 0 := by omega
        have hrzd : decide ((rz : Int) < 0) = false := decide_eq_false hrzf
        have hrze : ((rz : Int) != (rz : Int)) = false := by simp
        have Hrz := Lib.hid hrz
        clear hrz
        obtain ⟨r2, hr2⟩ : ∃ q, 1 + 3 * L2.length = q := ⟨_, rfl⟩
        have hr2f : ¬ (r2 : Int) < 0 := by omega
        have hr2d : decide ((r2 : Int) < 0) = false := decide_eq_false hr2f
        have hr2e : ((r2 : Int) != (r2 : Int)) = false := by simp
        have Hr2 := Lib.hid hr2
        clear hr2
        have hr1b : r1 ≤ 4000000 := by have := Hr1.out; omega
        have hr1p : 0 < r1 := by have := Hr1.out; omega
        have hrpb : rp ≤ 8000000 := by have := Hrp.out; omega
        have hrpp : 0 < rp := by have := Hrp.out; omega
        obtain ⟨Da, hDa⟩ : ∃ D, w.heap.size = D := ⟨_, rfl⟩
        have hDb : (w.alloc (.cells #[.int .i64 n0, .slice A len cap] 45)).heap.size = Da + 1 := by simp; exact hDa
        have K1 := Lib.hid ((((((((kp_start w).and HA.out.keep).and HA9.out.keep).and HP.out.keep).alloc (.cells #[.int .i64 n0, .slice A len cap] 45)).and (kp_one w 45 #[.int .i64 n0, .slice A len cap] hDa)).alloc (.cells #[.int .i64 m0, .slice A9 len9 cap9] 45)).and (kp_one (w.alloc (.cells #[.int .i64 n0, .slice A len cap] 45)) 45 #[.int .i64 m0, .slice A9 len9 cap9] hDb))
        clear hDb
        have zDa0 := K1.out.here.1.2.2.1.cell 0
        have zDa1 := K1.out.here.1.2.2.1.cell 1
        have zDb0 := K1.out.here.2.2.1.cell 0
        have zDb1 := K1.out.here.2.2.1.cell 1
        simp at zDa0 zDa1 zDb0 zDb1
        go_enter Try.func12, Try.ntmps12
        go_wp2_with fail
        refine (sz_box n0 A len cap 1048576 r L _ K1.out.here.1.1.1.1.2 (by omega) (by omega) HR.out).mono ?_
        rintro e w1 ⟨rfl, hb⟩
        have K2 := Lib.hid (K1.out.move hb)
        clear K1
        clear hb
        clear zDa0 zDa1 zDb0 zDb1
        have zDa0 := K2.out.here.1.2.2.1.cell 0
        have zDa1 := K2.out.here.1.2.2.1.cell 1
        have zDb0 := K2.out.here.2.2.1.cell 0
        have zDb1 := K2.out.here.2.2.1.cell 1
        simp at zDa0 zDa1 zDb0 zDb1
        go_wp2_with fail
        refine (sz_box m0 A9 len9 cap9 r r9 L9 _ K2.out.here.1.1.1.2 (by omega) (by omega) HR9.out).mono ?_
        rintro e w1b ⟨rfl, hb⟩
        have K3 := Lib.hid (K2.out.move hb)
        clear K2
        clear hb
        clear zDa0 zDa1 zDb0 zDb1
        have zDa0 := K3.out.here.1.2.2.1.cell 0
        have zDa1 := K3.out.here.1.2.2.1.cell 1
        have zDb0 := K3.out.here.2.2.1.cell 0
        have zDb1 := K3.out.here.2.2.1.cell 1
        simp at zDa0 zDa1 zDb0 zDb1
        go_wp2_with fail
        go_upto_region 10 with fail
        go_cut [8, 9] (fun sx sy wx => ∃ (DX : Nat) (AX : Option Addr) (NX cX : Nat), sx = .pointer (some ⟨DX, 0, none⟩) ∧ sy = .bool ok ∧ NX = L2.length ∧ Hid (Below w1b.heap.size w1b wx) ∧ Hid (Whole wx DX 25 #[.int .i64 n2, .slice AX NX cX]) ∧ Hid (MIn wx AX NX cX L2))
        case first =>
          clear zDa0 zDa1 zDb0 zDb1
          have KQ := Lib.hid K3.out.drew
          have hq0 : w1b.heap.size ≤ w1b.drew.heap.size := Nat.le_refl _
          have HQ0 := Lib.hid (Below.refl w1b.heap.size w1b).drew
          clear hq0
          go_region_held3 (fun w' => w'.cell? ⟨Da, 0, none⟩ = some (.int .i64 n0) ∧ w'.cell? ⟨Da, 1, none⟩ = some (.slice A len cap) ∧ w'.cell? ⟨Da + 1, 0, none⟩ = some (.int .i64 m0) ∧ w'.cell? ⟨Da + 1, 1, none⟩ = some (.slice A9 len9 cap9)) (first | exact ⟨KR4.out.here.1.1.1.1.2.2.1.cell 0, KR4.out.here.1.1.1.1.2.2.1.cell 1, KR4.out.here.1.1.1.2.2.1.cell 0, KR4.out.here.1.1.1.2.2.1.cell 1⟩ | exact ⟨(KR4.out.alloc _).here.1.1.1.1.2.2.1.cell 0, (KR4.out.alloc _).here.1.1.1.1.2.2.1.cell 1, (KR4.out.alloc _).here.1.1.1.2.2.1.cell 0, (KR4.out.alloc _).here.1.1.1.2.2.1.cell 1⟩ | exact ⟨KR3.out.here.1.1.1.1.2.2.1.cell 0, KR3.out.here.1.1.1.1.2.2.1.cell 1, KR3.out.here.1.1.1.2.2.1.cell 0, KR3.out.here.1.1.1.2.2.1.cell 1⟩ | exact ⟨(KR3.out.alloc _).here.1.1.1.1.2.2.1.cell 0, (KR3.out.alloc _).here.1.1.1.1.2.2.1.cell 1, (KR3.out.alloc _).here.1.1.1.2.2.1.cell 0, (KR3.out.alloc _).here.1.1.1.2.2.1.cell 1⟩ | exact ⟨KR2.out.here.1.1.1.2.2.1.cell 0, KR2.out.here.1.1.1.2.2.1.cell 1, KR2.out.here.1.1.2.2.1.cell 0, KR2.out.here.1.1.2.2.1.cell 1⟩ | exact ⟨(KR2.out.alloc _).here.1.1.1.2.2.1.cell 0, (KR2.out.alloc _).here.1.1.1.2.2.1.cell 1, (KR2.out.alloc _).here.1.1.2.2.1.cell 0, (KR2.out.alloc _).here.1.1.2.2.1.cell 1⟩ | exact ⟨KR1.out.here.1.1.2.2.1.cell 0, KR1.out.here.1.1.2.2.1.cell 1, KR1.out.here.1.2.2.1.cell 0, KR1.out.here.1.2.2.1.cell 1⟩ | exact ⟨(KR1.out.alloc _).here.1.1.2.2.1.cell 0, (KR1.out.alloc _).here.1.1.2.2.1.cell 1, (KR1.out.alloc _).here.1.2.2.1.cell 0, (KR1.out.alloc _).here.1.2.2.1.cell 1⟩ | exact ⟨KQ.out.here.1.2.2.1.cell 0, KQ.out.here.1.2.2.1.cell 1, KQ.out.here.2.2.1.cell 0, KQ.out.here.2.2.1.cell 1⟩ | exact ⟨(KQ.out.alloc _).here.1.2.2.1.cell 0, (KQ.out.alloc _).here.1.2.2.1.cell 1, (KQ.out.alloc _).here.2.2.1.cell 0, (KQ.out.alloc _).here.2.2.1.cell 1⟩ | exact ⟨(K3.out.move ((HB4.out.setCell HZB.out _).setCell HZB.out _)).here.1.2.2.1.cell 0, (K3.out.move ((HB4.out.setCell HZB.out _).setCell HZB.out _)).here.1.2.2.1.cell 1, (K3.out.move ((HB4.out.setCell HZB.out _).setCell HZB.out _)).here.2.2.1.cell 0, (K3.out.move ((HB4.out.setCell HZB.out _).setCell HZB.out _)).here.2.2.1.cell 1⟩ | go_keep) (first
            | (go_at_call 41; refine (spec_copy_at HRR.out (some ⟨q1, 0, none⟩) len len (some ⟨q2, 0, none⟩) lenP lenP (some ⟨q3, 0, none⟩) len9 len9 _ (by first | exact KR3.out.here.1.1.2 | exact (KR3.out.alloc _).here.1.1.2) (by first | exact KR3.out.here.1.2 | exact (KR3.out.alloc _).here.1.2) (by first | exact KR3.out.here.2 | exact (KR3.out.alloc _).here.2)).mono ?_; rintro e u4 ⟨AR, NR, capR, rfl, hown, hb⟩
               first
                 | (guard_hyp hb : Below u3.heap.size u3 u4
                    have HB4 : Hid (Below w1b.heap.size w1b u4) := HB3.out.trans (hb.mono HB3.out.size)
                    have HOR : Hid (ROwn mailR u4 w1b.heap.size (.slice AR NR capR) L2) := hown.from HB3.out.size
                    first
                      | (have HFZ := Lib.hid (HFZ.out.below hb HFZ.out.lt))
                      | skip)
                 | (guard_hyp hb : Below (u3.alloc (.cells #[.int .i64 0, .slice none 0 0] 25)).heap.size (u3.alloc (.cells #[.int .i64 0, .slice none 0 0] 25)) u4
                    have HB4 : Hid (Below w1b.heap.size w1b u4) := (HB3.out.alloc HB3.out.size (.cells #[.int .i64 0, .slice none 0 0] 25)).trans (hb.mono (HB3.out.alloc HB3.out.size (.cells #[.int .i64 0, .slice none 0 0] 25)).size)
                    have HOR : Hid (ROwn mailR u4 w1b.heap.size (.slice AR NR capR) L2) := hown.from (HB3.out.alloc HB3.out.size (.cells #[.int .i64 0, .slice none 0 0] 25)).size
                    have HFZ : Hid (Whole u4 u3.heap.size 25 #[.int .i64 0, .slice none 0 0]) := (Whole.made u3 25 #[.int .i64 0, .slice none 0 0]).below hb (by simp)
                    have HZB : Hid (w1b.heap.size ≤ u3.heap.size) := HB3.out.size)
               have KR4 := Lib.hid ((((K3.out.move HB4.out).and (kp_pure trivial)).and (kp_pure trivial)).and (kp_pure trivial))
               have hNR := hown.len.1
               have HNR := Lib.hid hNR
               first
                 | (have f60 := HFZ.out.cell 0
                    have f61 := HFZ.out.cell 1
                    simp at f60 f61
                    have f6f := HFZ.out.free 0
                    have f6g := HFZ.out.free 1)
                 | skip
               clear hb hown hNR)
            | (go_at_call_of 31 (A9); refine (to_box m0 A9 len9 cap9 L9 _ (by first | exact KR2.out.here.1.1.1.1.1.2 | exact (KR2.out.alloc _).here.1.1.1.1.1.2) hlen9).mono ?_; rintro e u3 ⟨q3, rfl, hown, hb⟩
               first
                 | (guard_hyp hb : Below u2.heap.size u2 u3
                    have HB3 : Hid (Below w1b.heap.size w1b u3) := HB2.out.trans (hb.mono HB2.out.size)
                    have KT2 := Lib.hid (KR2.out.l.r.move hb)
                    have KT3 := Lib.hid (KR2.out.r.move hb)
                    first
                      | (have HFZ := Lib.hid (HFZ.out.below hb HFZ.out.lt))
                      | skip)
                 | (guard_hyp hb : Below (u2.alloc (.cells #[.int .i64 0, .slice none 0 0] 25)).heap.size (u2.alloc (.cells #[.int .i64 0, .slice none 0 0] 25)) u3
                    have HB3 : Hid (Below w1b.heap.size w1b u3) := (HB2.out.alloc HB2.out.size (.cells #[.int .i64 0, .slice none 0 0] 25)).trans (hb.mono (HB2.out.alloc HB2.out.size (.cells #[.int .i64 0, .slice none 0 0] 25)).size)
                    have KT2 := Lib.hid ((KR2.out.l.r.alloc (.cells #[.int .i64 0, .slice none 0 0] 25)).move hb)
                    have KT3 := Lib.hid ((KR2.out.r.alloc (.cells #[.int .i64 0, .slice none 0 0] 25)).move hb)
                    have HFZ : Hid (Whole u3 u2.heap.size 25 #[.int .i64 0, .slice none 0 0]) := (Whole.made u2 25 #[.int .i64 0, .slice none 0 0]).below hb (by simp)
                    have HZB : Hid (w1b.heap.size ≤ u2.heap.size) := HB2.out.size)
               have KR3 := Lib.hid ((((K3.out.move HB3.out).and KT2.out).and KT3.out).and (MIn.of hown (by omega)).keep)
               clear hb hown)
            | (go_at_call_of 31 (A); refine (to_box n0 A len cap L _ (by first | exact KQ.out.here.1.1.1.1.2 | exact (KQ.out.alloc _).here.1.1.1.1.2) hlen).mono ?_; rintro e u1 ⟨q1, rfl, hown, hb⟩
               first
                 | (guard_hyp hb : Below w1b.drew.heap.size w1b.drew u1
                    have HB1 : Hid (Below w1b.heap.size w1b u1) := HQ0.out.trans (hb.mono HQ0.out.size)
                    first
                      | (have HFZ := Lib.hid (HFZ.out.below hb HFZ.out.lt))
                      | skip)
                 | (guard_hyp hb : Below (w1b.drew.alloc (.cells #[.int .i64 0, .slice none 0 0] 25)).heap.size (w1b.drew.alloc (.cells #[.int .i64 0, .slice none 0 0] 25)) u1
                    have HB1 : Hid (Below w1b.heap.size w1b u1) := (HQ0.out.alloc HQ0.out.size (.cells #[.int .i64 0, .slice none 0 0] 25)).trans (hb.mono (HQ0.out.alloc HQ0.out.size (.cells #[.int .i64 0, .slice none 0 0] 25)).size)
                    have HFZ : Hid (Whole u1 w1b.heap.size 25 #[.int .i64 0, .slice none 0 0]) := (Whole.made w1b.drew 25 #[.int .i64 0, .slice none 0 0]).below hb (by simp)
                    have HZB : Hid (w1b.heap.size ≤ w1b.heap.size) := HQ0.out.size)
                 | (have hbq : Below (w1b.drew.alloc (.cells #[.int .i64 0, .slice none 0 0] 25)).heap.size (w1b.drew.alloc (.cells #[.int .i64 0, .slice none 0 0] 25)) u1 := hb
                    have HB1 : Hid (Below w1b.heap.size w1b u1) := (HQ0.out.alloc HQ0.out.size (.cells #[.int .i64 0, .slice none 0 0] 25)).trans (hbq.mono (HQ0.out.alloc HQ0.out.size (.cells #[.int .i64 0, .slice none 0 0] 25)).size)
                    have HFZ : Hid (Whole u1 w1b.heap.size 25 #[.int .i64 0, .slice none 0 0]) := (Whole.made w1b.drew 25 #[.int .i64 0, .slice none 0 0]).below hbq (by simp)
                    have HZB : Hid (w1b.heap.size ≤ w1b.heap.size) := HQ0.out.size
                    clear hbq)
               have KR1 := Lib.hid ((K3.out.move HB1.out).and (MIn.of hown (by omega)).keep)
               clear hb hown)
            | (go_at_call 37; refine (to_ints AP lenP capP P _ HNP.out (by first | exact KR1.out.here.1.1.1.2.2.2.2 | exact (KR1.out.alloc _).here.1.1.1.2.2.2.2) hlenP).mono ?_; rintro e u2 ⟨q2, rfl, hown, hb⟩
               first
                 | (guard_hyp hb : Below u1.heap.size u1 u2
                    have HB2 : Hid (Below w1b.heap.size w1b u2) := HB1.out.trans (hb.mono HB1.out.size)
                    have KT1 := Lib.hid (KR1.out.r.move hb)
                    first
                      | (have HFZ := Lib.hid (HFZ.out.below hb HFZ.out.lt))
                      | skip)
                 | (guard_hyp hb : Below (u1.alloc (.cells #[.int .i64 0, .slice none 0 0] 25)).heap.size (u1.alloc (.cells #[.int .i64 0, .slice none 0 0] 25)) u2
                    have HB2 : Hid (Below w1b.heap.size w1b u2) := (HB1.out.alloc HB1.out.size (.cells #[.int .i64 0, .slice none 0 0] 25)).trans (hb.mono (HB1.out.alloc HB1.out.size (.cells #[.int .i64 0, .slice none 0 0] 25)).size)
                    have KT1 := Lib.hid ((KR1.out.r.alloc (.cells #[.int .i64 0, .slice none 0 0] 25)).move hb)
                    have HFZ : Hid (Whole u2 u1.heap.size 25 #[.int .i64 0, .slice none 0 0]) := (Whole.made u1 25 #[.int .i64 0, .slice none 0 0]).below hb (by simp)
                    have HZB : Hid (w1b.heap.size ≤ u1.heap.size) := HB1.out.size)
               have KR2 := Lib.hid (((K3.out.move HB2.out).and KT1.out).and (IIn.of hown (by omega)).keep)
               clear hb hown))
          all_goals
            go_wp2_with fail
            go_meet
            case rel =>
              have HN4 : Hid (NR ≤ 3000000) := by show _ ≤ _; have := HNR.out; have := HL2.out; omega
              first
                | exact ⟨_, AR, NR, capR, rfl, rfl, HNR.out, (HB4.out.setCell HZB.out _).setCell HZB.out _, (HFZ.out.store 0 _).store 1 _, MIn.of ((HOR.out.store (HOR.out.whole HFZ.out (by decide)) _).store (HOR.out.whole HFZ.out (by decide)) _) (Nat.le_trans HN4.out (by decide))⟩
                | exact ⟨_, AR, NR, capR, rfl, rfl, HNR.out, HB4.out.alloc HB4.out.size _, Whole.made _ _ _, MIn.of (HOR.out.alloc _) (Nat.le_trans HN4.out (by decide))⟩
        case rest =>
          obtain ⟨D3, A3, N3, cap3, rfl, rfl, hN3, HBX, HWX, HMX⟩ := hcut
          obtain ⟨w3, hwn⟩ := name_worldC HBX.out
          subst hwn
          clear zDa0 zDa1 zDb0 zDb1
          have K4 := Lib.hid (((K3.out.move HBX.out).and HMX.out.keep).and (kp_tri HWX.out))
          clear HBX HWX HMX
          have zDa0 := K4.out.here.1.1.1.2.2.1.cell 0
          have zDa1 := K4.out.here.1.1.1.2.2.1.cell 1
          have zDb0 := K4.out.here.1.1.2.2.1.cell 0
          have zDb1 := K4.out.here.1.1.2.2.1.cell 1
          have zD30 := K4.out.here.2.2.1.cell 0
          have zD31 := K4.out.here.2.2.1.cell 1
          simp at zDa0 zDa1 zDb0 zDb1 zD30 zD31
          clear K3
          have hN3b : N3 ≤ 2100000 := by have := HL2.out; omega
          have HN3 := Lib.hid hN3
          clear hN3
          go_wp2_with fail
          have hwc : ∃ q, w3 = q := ⟨_, rfl⟩
          obtain ⟨wcc, hq⟩ := hwc
          subst hq
          refine (to_box n0 A len cap L _ K4.out.here.1.1.1.1.1.1.2 hlen).mono ?_
          rintro e w4 ⟨gx, rfl, hown, hb⟩
          obtain ⟨Dx, hDx⟩ : ∃ D, w4.heap.size = D := ⟨_, rfl⟩
          have hgx := World.ownsRow.lt hown gx rfl
          have HX0 := Lib.hid (show gx < (w4.alloc (.cells #[.int .i64 n0, .slice (some ⟨gx, 0, none⟩) len len] 25)).heap.size by simp; omega)
          have K5 := Lib.hid (((((K4.out.and (kp_start w3)).move hb).and (kp_own hown)).alloc (.cells #[.int .i64 n0, .slice (some ⟨gx, 0, none⟩) len len] 25)).and (kp_one w4 25 #[.int .i64 n0, .slice (some ⟨gx, 0, none⟩) len len] hDx))
          clear hgx hb hown
          clear zDa0 zDa1 zDb0 zDb1 zD30 zD31
          have zDa0 := K5.out.here.1.1.1.1.1.1.2.2.1.cell 0
          have zDa1 := K5.out.here.1.1.1.1.1.1.2.2.1.cell 1
          have zDb0 := K5.out.here.1.1.1.1.1.2.2.1.cell 0
          have zDb1 := K5.out.here.1.1.1.1.1.2.2.1.cell 1
          have zD30 := K5.out.here.1.1.1.2.2.1.cell 0
          have zD31 := K5.out.here.1.1.1.2.2.1.cell 1
          have zDx0 := K5.out.here.2.2.1.cell 0
          have zDx1 := K5.out.here.2.2.1.cell 1
          simp at zDa0 zDa1 zDb0 zDb1 zD30 zD31 zDx0 zDx1
          have HCP := Lib.hid K5.out.here.1.1.2.size
          go_wp2_with fail
          refine (to_ints AP lenP capP P _ HNP.out K5.out.here.1.1.1.1.1.1.1.2.2.2.2 hlenP).mono ?_
          rintro e w5 ⟨gp, rfl, hown, hb⟩
          have hgp := World.ownsRow.lt hown gp rfl
          have HP0 := Lib.hid hgp.2
          have HX5 : Hid (gx < w5.heap.size) := Nat.lt_of_lt_of_le HX0.out hb.size
          clear hgp
          have K6 := Lib.hid ((K5.out.move hb).and (kp_own hown))
          clear K5
          clear hb hown
          clear zDa0 zDa1 zDb0 zDb1 zD30 zD31 zDx0 zDx1
          have zDa0 := K6.out.here.1.1.1.1.1.1.1.2.2.1.cell 0
          have zDa1 := K6.out.here.1.1.1.1.1.1.1.2.2.1.cell 1
          have zDb0 := K6.out.here.1.1.1.1.1.1.2.2.1.cell 0
          have zDb1 := K6.out.here.1.1.1.1.1.1.2.2.1.cell 1
          have zD30 := K6.out.here.1.1.1.1.2.2.1.cell 0
          have zD31 := K6.out.here.1.1.1.1.2.2.1.cell 1
          have zDx0 := K6.out.here.1.2.2.1.cell 0
          have zDx1 := K6.out.here.1.2.2.1.cell 1
          simp at zDa0 zDa1 zDb0 zDb1 zD30 zD31 zDx0 zDx1
          have HCQ := Lib.hid K6.out.here.1.1.1.2.size
          go_wp2_with fail
          refine (to_box m0 A9 len9 cap9 L9 _ K6.out.here.1.1.1.1.1.1.1.1.1.2 hlen9).mono ?_
          rintro e w6 ⟨gz, rfl, hown, hb⟩
          obtain ⟨Dz, hDz⟩ : ∃ D, w6.heap.size = D := ⟨_, rfl⟩
          have hgz := World.ownsRow.lt hown gz rfl
          have HZ7 := Lib.hid (show gz < (w6.alloc (.cells #[.int .i64 m0, .slice (some ⟨gz, 0, none⟩) len9 len9] 25)).heap.size by simp; omega)
          have HX7 : Hid (gx < (w6.alloc (.cells #[.int .i64 m0, .slice (some ⟨gz, 0, none⟩) len9 len9] 25)).heap.size) := by show gx < _; have := HX5.out; have := hb.size; simp; omega
          have HP7 : Hid (gp < (w6.alloc (.cells #[.int .i64 m0, .slice (some ⟨gz, 0, none⟩) len9 len9] 25)).heap.size) := by show gp < _; have := HP0.out; have := hb.size; simp; omega
          have HXZ : Hid (gx < Dz) := by show gx < Dz; have := HX5.out; have := hb.size; omega
          have HPZ : Hid (gp < Dz) := by show gp < Dz; have := HP0.out; have := hb.size; omega
          clear hgz
          have K7 := Lib.hid ((((K6.out.move hb).and (kp_own hown)).alloc (.cells #[.int .i64 m0, .slice (some ⟨gz, 0, none⟩) len9 len9] 25)).and (kp_one w6 25 #[.int .i64 m0, .slice (some ⟨gz, 0, none⟩) len9 len9] hDz))
          clear K6
          clear hb hown
          clear zDa0 zDa1 zDb0 zDb1 zD30 zD31 zDx0 zDx1
          have zDa0 := K7.out.here.1.1.1.1.1.1.1.1.1.2.2.1.cell 0
          have zDa1 := K7.out.here.1.1.1.1.1.1.1.1.1.2.2.1.cell 1
          have zDb0 := K7.out.here.1.1.1.1.1.1.1.1.2.2.1.cell 0
          have zDb1 := K7.out.here.1.1.1.1.1.1.1.1.2.2.1.cell 1
          have zD30 := K7.out.here.1.1.1.1.1.1.2.2.1.cell 0
          have zD31 := K7.out.here.1.1.1.1.1.1.2.2.1.cell 1
          have zDx0 := K7.out.here.1.1.1.2.2.1.cell 0
          have zDx1 := K7.out.here.1.1.1.2.2.1.cell 1
          have zDz0 := K7.out.here.2.2.1.cell 0
          have zDz1 := K7.out.here.2.2.1.cell 1
          simp at zDa0 zDa1 zDb0 zDb1 zD30 zD31 zDx0 zDx1 zDz0 zDz1
          have HCB := Lib.hid K7.out.here.1.1.1.1.1.2.size
          go_wp2_with fail
          refine (impl_copy_at HRR.out (some ⟨gx, 0, none⟩) len len (some ⟨gp, 0, none⟩) lenP lenP (some ⟨gz, 0, none⟩) len9 len9 _ (MIn.of K7.out.here.1.1.1.1.2 (by omega)) (IIn.of K7.out.here.1.1.2 (by omega)) (MIn.of K7.out.here.1.2 (by omega))).mono ?_
          rintro e w7 ⟨A5, N5, cap5, rfl, hown, hb⟩
          obtain rfl : N5 = N3 := by rw [HN3.out]; exact hown.len.1
          obtain ⟨D5, hD5⟩ : ∃ D, w7.heap.size = D := ⟨_, rfl⟩
          have K8 := Lib.hid ((((K7.out.move hb).and (kp_own hown)).alloc (.cells #[.int .i64 n2, .slice A5 N5 cap5] 25)).and (kp_one w7 25 #[.int .i64 n2, .slice A5 N5 cap5] hD5))
          clear K7
          have HGD : Hid (gx < D5) := by show gx < D5; have := HX7.out; have := hb.size; omega
          have HPD : Hid (gp < D5) := by show gp < D5; have := HP7.out; have := hb.size; omega
          have HZD : Hid (gz < D5) := by show gz < D5; have := HZ7.out; have := hb.size; omega
          clear hb hown
          clear zDa0 zDa1 zDb0 zDb1 zD30 zD31 zDx0 zDx1 zDz0 zDz1
          have zDa0 := K8.out.here.1.1.1.1.1.1.1.1.1.1.1.2.2.1.cell 0
          have zDa1 := K8.out.here.1.1.1.1.1.1.1.1.1.1.1.2.2.1.cell 1
          have zDb0 := K8.out.here.1.1.1.1.1.1.1.1.1.1.2.2.1.cell 0
          have zDb1 := K8.out.here.1.1.1.1.1.1.1.1.1.1.2.2.1.cell 1
          have zD30 := K8.out.here.1.1.1.1.1.1.1.1.2.2.1.cell 0
          have zD31 := K8.out.here.1.1.1.1.1.1.1.1.2.2.1.cell 1
          have zDx0 := K8.out.here.1.1.1.1.1.2.2.1.cell 0
          have zDx1 := K8.out.here.1.1.1.1.1.2.2.1.cell 1
          have zDz0 := K8.out.here.1.1.2.2.1.cell 0
          have zDz1 := K8.out.here.1.1.2.2.1.cell 1
          have zD50 := K8.out.here.2.2.1.cell 0
          have zD51 := K8.out.here.2.2.1.cell 1
          simp at zDa0 zDa1 zDb0 zDb1 zD30 zD31 zDx0 zDx1 zDz0 zDz1 zD50 zD51
          go_wp2_with fail
          refine (eq_box n2 A5 A3 N5 cap5 cap3 L2 _ (MIn.of K8.out.here.1.2 (by omega)) K8.out.here.1.1.1.1.1.1.1.1.1.2).mono ?_
          rintro e v1 ⟨rfl, hb⟩
          have K9 := Lib.hid (K8.out.move hb)
          clear K8
          clear hb
          clear zDa0 zDa1 zDb0 zDb1 zD30 zD31 zDx0 zDx1 zDz0 zDz1 zD50 zD51
          have zDa0 := K9.out.here.1.1.1.1.1.1.1.1.1.1.1.2.2.1.cell 0
          have zDa1 := K9.out.here.1.1.1.1.1.1.1.1.1.1.1.2.2.1.cell 1
          have zDb0 := K9.out.here.1.1.1.1.1.1.1.1.1.1.2.2.1.cell 0
          have zDb1 := K9.out.here.1.1.1.1.1.1.1.1.1.1.2.2.1.cell 1
          have zD30 := K9.out.here.1.1.1.1.1.1.1.1.2.2.1.cell 0
          have zD31 := K9.out.here.1.1.1.1.1.1.1.1.2.2.1.cell 1
          have zDx0 := K9.out.here.1.1.1.1.1.2.2.1.cell 0
          have zDx1 := K9.out.here.1.1.1.1.1.2.2.1.cell 1
          have zDz0 := K9.out.here.1.1.2.2.1.cell 0
          have zDz1 := K9.out.here.1.1.2.2.1.cell 1
          have zD50 := K9.out.here.2.2.1.cell 0
          have zD51 := K9.out.here.2.2.1.cell 1
          simp at zDa0 zDa1 zDb0 zDb1 zD30 zD31 zDx0 zDx1 zDz0 zDz1 zD50 zD51
          go_wp2_with fail
          have K10 := Lib.hid K9.out.drew
          clear K9
          clear zDa0 zDa1 zDb0 zDb1 zD30 zD31 zDx0 zDx1 zDz0 zDz1 zD50 zD51
          go_region_held3 (fun w' => w'.cell? ⟨Da, 0, none⟩ = some (.int .i64 n0) ∧ w'.cell? ⟨Da, 1, none⟩ = some (.slice A len cap) ∧ w'.cell? ⟨Dx, 0, none⟩ = some (.int .i64 n0) ∧ w'.cell? ⟨Dx, 1, none⟩ = some (.slice (some ⟨gx, 0, none⟩) len len)) (first | exact ⟨KCp.out.here.1.1.1.1.1.1.1.1.1.1.1.1.2.2.1.cell 0, KCp.out.here.1.1.1.1.1.1.1.1.1.1.1.1.2.2.1.cell 1, KCp.out.here.1.1.1.1.1.1.2.2.1.cell 0, KCp.out.here.1.1.1.1.1.1.2.2.1.cell 1⟩ | exact ⟨KBp.out.here.1.1.1.1.1.1.1.1.1.1.1.1.2.2.1.cell 0, KBp.out.here.1.1.1.1.1.1.1.1.1.1.1.1.2.2.1.cell 1, KBp.out.here.1.1.1.1.1.1.2.2.1.cell 0, KBp.out.here.1.1.1.1.1.1.2.2.1.cell 1⟩ | exact ⟨K10.out.here.1.1.1.1.1.1.1.1.1.1.1.2.2.1.cell 0, K10.out.here.1.1.1.1.1.1.1.1.1.1.1.2.2.1.cell 1, K10.out.here.1.1.1.1.1.2.2.1.cell 0, K10.out.here.1.1.1.1.1.2.2.1.cell 1⟩ | go_keep) (first
            | (go_at_call 31; refine (to_box n0 A len cap L _ K10.out.here.1.1.1.1.1.1.1.1.1.1.1.1.1.1.2 hlen).mono ?_; rintro e w8 ⟨gy, rfl, hown, hb⟩; have KBp := Lib.hid ((K10.out.move hb).and (MIn.of hown (by omega)).keep); clear hb hown)
            | (go_at_call 32; refine (eq_box n0 (some ⟨gx, 0, none⟩) (some ⟨gy, 0, none⟩) len len len L _ (MIn.of KBp.out.here.1.1.1.1.1.1.1.2 (by omega)) KBp.out.here.2).mono ?_; rintro e w9 ⟨rfl, hb⟩; have KCp := Lib.hid (KBp.out.move hb); clear hb))
          all_goals
            have K11 := Lib.hid KCp.out.l
            have zDa0 := K11.out.here.1.1.1.1.1.1.1.1.1.1.1.2.2.1.cell 0
            have zDa1 := K11.out.here.1.1.1.1.1.1.1.1.1.1.1.2.2.1.cell 1
            have zDb0 := K11.out.here.1.1.1.1.1.1.1.1.1.1.2.2.1.cell 0
            have zDb1 := K11.out.here.1.1.1.1.1.1.1.1.1.1.2.2.1.cell 1
            have zD30 := K11.out.here.1.1.1.1.1.1.1.1.2.2.1.cell 0
            have zD31 := K11.out.here.1.1.1.1.1.1.1.1.2.2.1.cell 1
            have zDx0 := K11.out.here.1.1.1.1.1.2.2.1.cell 0
            have zDx1 := K11.out.here.1.1.1.1.1.2.2.1.cell 1
            have zDz0 := K11.out.here.1.1.2.2.1.cell 0
            have zDz1 := K11.out.here.1.1.2.2.1.cell 1
            have zD50 := K11.out.here.2.2.1.cell 0
            have zD51 := K11.out.here.2.2.1.cell 1
            simp at zDa0 zDa1 zDb0 zDb1 zD30 zD31 zDx0 zDx1 zDz0 zDz1 zD50 zD51
            clear KBp KCp K10
            go_wp2_with fail
            refine (to_ints AP lenP capP P _ HNP.out K11.out.here.1.1.1.1.1.1.1.1.1.1.1.1.2.2.2.2 hlenP).mono ?_
            rintro e v2 ⟨gy2, rfl, hown, hb⟩
            have K12 := Lib.hid ((K11.out.move hb).and (IIn.of hown (by omega)).keep)
            clear K11
            clear hb hown
            clear zDa0 zDa1 zDb0 zDb1 zD30 zD31 zDx0 zDx1 zDz0 zDz1 zD50 zD51
            have zDa0 := K12.out.here.1.1.1.1.1.1.1.1.1.1.1.1.2.2.1.cell 0
            have zDa1 := K12.out.here.1.1.1.1.1.1.1.1.1.1.1.1.2.2.1.cell 1
            have zDb0 := K12.out.here.1.1.1.1.1.1.1.1.1.1.1.2.2.1.cell 0
            have zDb1 := K12.out.here.1.1.1.1.1.1.1.1.1.1.1.2.2.1.cell 1
            have zD30 := K12.out.here.1.1.1.1.1.1.1.1.1.2.2.1.cell 0
            have zD31 := K12.out.here.1.1.1.1.1.1.1.1.1.2.2.1.cell 1
            have zDx0 := K12.out.here.1.1.1.1.1.1.2.2.1.cell 0
            have zDx1 := K12.out.here.1.1.1.1.1.1.2.2.1.cell 1
            have zDz0 := K12.out.here.1.1.1.2.2.1.cell 0
            have zDz1 := K12.out.here.1.1.1.2.2.1.cell 1
            have zD50 := K12.out.here.1.2.2.1.cell 0
            have zD51 := K12.out.here.1.2.2.1.cell 1
            simp at zDa0 zDa1 zDb0 zDb1 zD30 zD31 zDx0 zDx1 zDz0 zDz1 zD50 zD51
            go_wp2_with fail
            refine (eq_nums (some ⟨gp, 0, none⟩) (some ⟨gy2, 0, none⟩) lenP lenP lenP P _ (IIn.of K12.out.here.1.1.1.1.1.2 (by omega)) K12.out.here.2).mono ?_
            rintro e v3 ⟨rfl, hb⟩
            have K13 := Lib.hid (K12.out.move hb)
            clear K12
            clear hb
            clear zDa0 zDa1 zDb0 zDb1 zD30 zD31 zDx0 zDx1 zDz0 zDz1 zD50 zD51
            have zDa0 := K13.out.here.1.1.1.1.1.1.1.1.1.1.1.1.2.2.1.cell 0
            have zDa1 := K13.out.here.1.1.1.1.1.1.1.1.1.1.1.1.2.2.1.cell 1
            have zDb0 := K13.out.here.1.1.1.1.1.1.1.1.1.1.1.2.2.1.cell 0
            have zDb1 := K13.out.here.1.1.1.1.1.1.1.1.1.1.1.2.2.1.cell 1
            have zD30 := K13.out.here.1.1.1.1.1.1.1.1.1.2.2.1.cell 0
            have zD31 := K13.out.here.1.1.1.1.1.1.1.1.1.2.2.1.cell 1
            have zDx0 := K13.out.here.1.1.1.1.1.1.2.2.1.cell 0
            have zDx1 := K13.out.here.1.1.1.1.1.1.2.2.1.cell 1
            have zDz0 := K13.out.here.1.1.1.2.2.1.cell 0
            have zDz1 := K13.out.here.1.1.1.2.2.1.cell 1
            have zD50 := K13.out.here.1.2.2.1.cell 0
            have zD51 := K13.out.here.1.2.2.1.cell 1
            simp at zDa0 zDa1 zDb0 zDb1 zD30 zD31 zDx0 zDx1 zDz0 zDz1 zD50 zD51
            go_wp2_with fail
            have K14 := Lib.hid K13.out.drew
            clear K13
            clear zDa0 zDa1 zDb0 zDb1 zD30 zD31 zDx0 zDx1 zDz0 zDz1 zD50 zD51
            go_region_held3 (fun w' => w'.cell? ⟨(Da + 1), 0, none⟩ = some (.int .i64 m0) ∧ w'.cell? ⟨(Da + 1), 1, none⟩ = some (.slice A9 len9 cap9) ∧ w'.cell? ⟨Dz, 0, none⟩ = some (.int .i64 m0) ∧ w'.cell? ⟨Dz, 1, none⟩ = some (.slice (some ⟨gz, 0, none⟩) len9 len9)) (first | exact ⟨KCz.out.here.1.1.1.1.1.1.1.1.1.1.1.1.2.2.1.cell 0, KCz.out.here.1.1.1.1.1.1.1.1.1.1.1.1.2.2.1.cell 1, KCz.out.here.1.1.1.1.2.2.1.cell 0, KCz.out.here.1.1.1.1.2.2.1.cell 1⟩ | exact ⟨KBz.out.here.1.1.1.1.1.1.1.1.1.1.1.1.2.2.1.cell 0, KBz.out.here.1.1.1.1.1.1.1.1.1.1.1.1.2.2.1.cell 1, KBz.out.here.1.1.1.1.2.2.1.cell 0, KBz.out.here.1.1.1.1.2.2.1.cell 1⟩ | exact ⟨K14.out.here.1.1.1.1.1.1.1.1.1.1.1.2.2.1.cell 0, K14.out.here.1.1.1.1.1.1.1.1.1.1.1.2.2.1.cell 1, K14.out.here.1.1.1.2.2.1.cell 0, K14.out.here.1.1.1.2.2.1.cell 1⟩ | go_keep) (first
              | (go_at_call 31; refine (to_box m0 A9 len9 cap9 L9 _ K14.out.here.1.1.1.1.1.1.1.1.1.1.1.1.1.1.2 hlen9).mono ?_; rintro e w10 ⟨gy, rfl, hown, hb⟩; have KBz := Lib.hid ((K14.out.move hb).and (MIn.of hown (by omega)).keep); clear hb hown)
              | (go_at_call 32; refine (eq_box m0 (some ⟨gz, 0, none⟩) (some ⟨gy, 0, none⟩) len9 len9 len9 L9 _ (MIn.of KBz.out.here.1.1.1.1.1.2 (by omega)) KBz.out.here.2).mono ?_; rintro e w11 ⟨rfl, hb⟩; have KCz := Lib.hid (KBz.out.move hb); clear hb))
            all_goals
              have K15 := Lib.hid KCz.out.l
              have zDa0 := K15.out.here.1.1.1.1.1.1.1.1.1.1.1.1.2.2.1.cell 0
              have zDa1 := K15.out.here.1.1.1.1.1.1.1.1.1.1.1.1.2.2.1.cell 1
              have zDb0 := K15.out.here.1.1.1.1.1.1.1.1.1.1.1.2.2.1.cell 0
              have zDb1 := K15.out.here.1.1.1.1.1.1.1.1.1.1.1.2.2.1.cell 1
              have zD30 := K15.out.here.1.1.1.1.1.1.1.1.1.2.2.1.cell 0
              have zD31 := K15.out.here.1.1.1.1.1.1.1.1.1.2.2.1.cell 1
              have zDx0 := K15.out.here.1.1.1.1.1.1.2.2.1.cell 0
              have zDx1 := K15.out.here.1.1.1.1.1.1.2.2.1.cell 1
              have zDz0 := K15.out.here.1.1.1.2.2.1.cell 0
              have zDz1 := K15.out.here.1.1.1.2.2.1.cell 1
              have zD50 := K15.out.here.1.2.2.1.cell 0
              have zD51 := K15.out.here.1.2.2.1.cell 1
              simp at zDa0 zDa1 zDb0 zDb1 zD30 zD31 zDx0 zDx1 zDz0 zDz1 zD50 zD51
              clear KBz KCz K14
              go_wp2_with fail
              refine (mark_box 1 r1 n0 (some ⟨gx, 0, none⟩) len len _ L _ HN.out K15.out.here.1.1.1.1.1.1.1.2 (by omega) (by omega) (by omega) Hr1.out).mono ?_
              rintro e v4 ⟨rfl, hownm, hg⟩
              have K16 := Lib.hid (((((((K4.out.and (kp_start w3)).move (below_mark K15.out.here.1.1.1.1.1.1.1.1.2 rfl K15.out.here.1.1.1.1.1.1.1.2 hg (Nat.le_refl _))).and (kp_own (K15.out.here.1.1.1.1.1.2.grown hg HX0.out))).and (kp_own (K15.out.here.1.1.1.1.2.grown hg HX5.out))).and (kp_tri (Whole.grown K15.out.here.1.1.1.2.2.1 hg (by intro e; have h : Dz = gx := Option.some.inj e; have h2 : gx < Dz := HXZ.out; omega)))).and (kp_own (K15.out.here.1.1.2.grown hg HX7.out))).and (kp_tri (Whole.grown K15.out.here.1.2.2.1 hg (by intro e; have h : D5 = gx := Option.some.inj e; have h2 : gx < D5 := HGD.out; omega))))
              clear hownm hg
              clear zDa0 zDa1 zDb0 zDb1 zD30 zD31 zDx0 zDx1 zDz0 zDz1 zD50 zD51
              have zDa0 := K16.out.here.1.1.1.1.1.1.1.1.1.2.2.1.cell 0
              have zDa1 := K16.out.here.1.1.1.1.1.1.1.1.1.2.2.1.cell 1
              have zDb0 := K16.out.here.1.1.1.1.1.1.1.1.2.2.1.cell 0
              have zDb1 := K16.out.here.1.1.1.1.1.1.1.1.2.2.1.cell 1
              have zD30 := K16.out.here.1.1.1.1.1.1.2.2.1.cell 0
              have zD31 := K16.out.here.1.1.1.1.1.1.2.2.1.cell 1
              have zDz0 := K16.out.here.1.1.2.2.1.cell 0
              have zDz1 := K16.out.here.1.1.2.2.1.cell 1
              have zD50 := K16.out.here.2.2.1.cell 0
              have zD51 := K16.out.here.2.2.1.cell 1
              simp at zDa0 zDa1 zDb0 zDb1 zD30 zD31 zDz0 zDz1 zD50 zD51
              clear K15
              go_wp2_with fail
              refine (mark_nums r1 rp (some ⟨gp, 0, none⟩) lenP lenP _ P _ HNP.out K16.out.here.1.1.1.1.2 (by omega) (by omega) Hrp.out).mono ?_
              rintro e v5 ⟨rfl, hownm, hg⟩
              have K17 := Lib.hid ((((((K4.out.and (kp_start w3)).move (below_mark K16.out.here.1.1.1.1.1.2 rfl K16.out.here.1.1.1.1.2 hg HCP.out)).and (kp_own (K16.out.here.1.1.1.2.grown hg HP0.out))).and (kp_tri (Whole.grown K16.out.here.1.1.2.2.1 hg (by intro e; have h : Dz = gp := Option.some.inj e; have h2 : gp < Dz := HPZ.out; omega)))).and (kp_own (K16.out.here.1.2.grown hg HP7.out))).and (kp_tri (Whole.grown K16.out.here.2.2.1 hg (by intro e; have h : D5 = gp := Option.some.inj e; have h2 : gp < D5 := HPD.out; omega))))
              clear hownm hg
              clear zDa0 zDa1 zDb0 zDb1 zD30 zD31 zDz0 zDz1 zD50 zD51
              have zDa0 := K17.out.here.1.1.1.1.1.1.1.1.2.2.1.cell 0
              have zDa1 := K17.out.here.1.1.1.1.1.1.1.1.2.2.1.cell 1
              have zDb0 := K17.out.here.1.1.1.1.1.1.1.2.2.1.cell 0
              have zDb1 := K17.out.here.1.1.1.1.1.1.1.2.2.1.cell 1
              have zD30 := K17.out.here.1.1.1.1.1.2.2.1.cell 0
              have zD31 := K17.out.here.1.1.1.1.1.2.2.1.cell 1
              have zDz0 := K17.out.here.1.1.2.2.1.cell 0
              have zDz1 := K17.out.here.1.1.2.2.1.cell 1
              have zD50 := K17.out.here.2.2.1.cell 0
              have zD51 := K17.out.here.2.2.1.cell 1
              simp at zDa0 zDa1 zDb0 zDb1 zD30 zD31 zDz0 zDz1 zD50 zD51
              clear K16
              go_wp2_with fail
              refine (mark_box rp rz m0 (some ⟨gz, 0, none⟩) len9 len9 _ L9 _ HN9.out K17.out.here.1.1.1.2 (by omega) (by omega) (by omega) Hrz.out).mono ?_
              rintro e v6 ⟨rfl, hownm, hg⟩
              have K18 := Lib.hid ((((K4.out.and (kp_start w3)).move (below_mark K17.out.here.1.1.1.1.2 rfl K17.out.here.1.1.1.2 hg HCQ.out)).and (kp_own (K17.out.here.1.2.grown hg HZ7.out))).and (kp_tri (Whole.grown K17.out.here.2.2.1 hg (by intro e; have h : D5 = gz := Option.some.inj e; have h2 : gz < D5 := HZD.out; omega))))
              clear hownm hg
              clear zDa0 zDa1 zDb0 zDb1 zD30 zD31 zDz0 zDz1 zD50 zD51
              have zDa0 := K18.out.here.1.1.1.1.1.1.2.2.1.cell 0
              have zDa1 := K18.out.here.1.1.1.1.1.1.2.2.1.cell 1
              have zDb0 := K18.out.here.1.1.1.1.1.2.2.1.cell 0
              have zDb1 := K18.out.here.1.1.1.1.1.2.2.1.cell 1
              have zD30 := K18.out.here.1.1.1.2.2.1.cell 0
              have zD31 := K18.out.here.1.1.1.2.2.1.cell 1
              have zD50 := K18.out.here.2.2.1.cell 0
              have zD51 := K18.out.here.2.2.1.cell 1
              simp at zDa0 zDa1 zDb0 zDb1 zD30 zD31 zD50 zD51
              clear K17
              go_wp2_with fail
              refine (eq_box n2 A5 A3 N5 cap5 cap3 L2 _ (MIn.of K18.out.here.1.2 (by omega)) K18.out.here.1.1.1.1.2).mono ?_
              rintro e v7 ⟨rfl, hb⟩
              have K19 := Lib.hid (K18.out.move hb)
              clear K18
              clear hb
              clear zDa0 zDa1 zDb0 zDb1 zD30 zD31 zD50 zD51
              have zDa0 := K19.out.here.1.1.1.1.1.1.2.2.1.cell 0
              have zDa1 := K19.out.here.1.1.1.1.1.1.2.2.1.cell 1
              have zDb0 := K19.out.here.1.1.1.1.1.2.2.1.cell 0
              have zDb1 := K19.out.here.1.1.1.1.1.2.2.1.cell 1
              have zD30 := K19.out.here.1.1.1.2.2.1.cell 0
              have zD31 := K19.out.here.1.1.1.2.2.1.cell 1
              have zD50 := K19.out.here.2.2.1.cell 0
              have zD51 := K19.out.here.2.2.1.cell 1
              simp at zDa0 zDa1 zDb0 zDb1 zD30 zD31 zD50 zD51
              have HR2 : Hid (1 + 3 * N5 = r2) := by show _ = _; rw [HN3.out]; exact Hr2.out
              go_wp2_with fail
              refine (mark_box 1 r2 n2 A5 cap5 N5 _ L2 _ HN3.out.symm K19.out.here.1.2 (by omega) (by omega) (by omega) HR2.out).mono ?_
              rintro e v8 ⟨rfl, hownm, hg⟩
              have K20 := Lib.hid ((((K4.out.and (kp_start w3)).move (below_mark K19.out.here.1.1.2 rfl K19.out.here.1.2 hg HCB.out)).and (kp_tri (Whole.grown K19.out.here.2.2.1 hg (fun e => (ROwn.whole K19.out.here.1.2 K19.out.here.2.2.1 (by decide)) e.symm)))).and (kp_own hownm))
              clear hownm hg
              clear zDa0 zDa1 zDb0 zDb1 zD30 zD31 zD50 zD51
              have zDa0 := K20.out.here.1.1.1.1.1.1.2.2.1.cell 0
              have zDa1 := K20.out.here.1.1.1.1.1.1.2.2.1.cell 1
              have zDb0 := K20.out.here.1.1.1.1.1.2.2.1.cell 0
              have zDb1 := K20.out.here.1.1.1.1.1.2.2.1.cell 1
              have zD30 := K20.out.here.1.1.1.2.2.1.cell 0
              have zD31 := K20.out.here.1.1.1.2.2.1.cell 1
              have zD50 := K20.out.here.1.2.2.1.cell 0
              have zD51 := K20.out.here.1.2.2.1.cell 1
              simp at zDa0 zDa1 zDb0 zDb1 zD30 zD31 zD50 zD51
              clear K19
              go_wp2_with fail
              refine (held_box 1 r2 n2 A5 cap5 N5 _ K20.out.here.2.at (by omega) (by omega) (by omega) HR2.out).mono ?_
              rintro e wh8 ⟨rfl, hb⟩
              have K21 := Lib.hid (K20.out.move hb)
              clear K20
              clear hb
              clear zDa0 zDa1 zDb0 zDb1 zD30 zD31 zD50 zD51
              have zDa0 := K21.out.here.1.1.1.1.1.1.2.2.1.cell 0
              have zDa1 := K21.out.here.1.1.1.1.1.1.2.2.1.cell 1
              have zDb0 := K21.out.here.1.1.1.1.1.2.2.1.cell 0
              have zDb1 := K21.out.here.1.1.1.1.1.2.2.1.cell 1
              have zD30 := K21.out.here.1.1.1.2.2.1.cell 0
              have zD31 := K21.out.here.1.1.1.2.2.1.cell 1
              have zD50 := K21.out.here.1.2.2.1.cell 0
              have zD51 := K21.out.here.1.2.2.1.cell 1
              simp at zDa0 zDa1 zDb0 zDb1 zD30 zD31 zD50 zD51
              go_wp2_with fail
              go_upto_region 37 with fail
              go_cut [18, 19] (fun sx sy wx => ∃ (DX : Nat) (AX : Option Addr) (NX cX : Nat), sx = .pointer (some ⟨DX, 0, none⟩) ∧ sy = .bool ok ∧ NX = L2.length ∧ Hid (Below wh8.heap.size wh8 wx) ∧ Hid (Whole wx DX 25 #[.int .i64 n2, .slice AX NX cX]) ∧ Hid (MIn wx AX NX cX L2))
              case first =>
                clear zDa0 zDa1 zDb0 zDb1 zD30 zD31 zD50 zD51
                have KQ := Lib.hid K21.out.drew
                have hq0 : wh8.heap.size ≤ wh8.drew.heap.size := Nat.le_refl _
                have HQ0 := Lib.hid (Below.refl wh8.heap.size wh8).drew
                clear hq0
                go_region_held3 (fun w' => w'.cell? ⟨Da, 0, none⟩ = some (.int .i64 n0) ∧ w'.cell? ⟨Da, 1, none⟩ = some (.slice A len cap) ∧ w'.cell? ⟨Da + 1, 0, none⟩ = some (.int .i64 m0) ∧ w'.cell? ⟨Da + 1, 1, none⟩ = some (.slice A9 len9 cap9)) (first | exact ⟨KR4.out.here.1.1.1.1.1.1.1.1.1.2.2.1.cell 0, KR4.out.here.1.1.1.1.1.1.1.1.1.2.2.1.cell 1, KR4.out.here.1.1.1.1.1.1.1.1.2.2.1.cell 0, KR4.out.here.1.1.1.1.1.1.1.1.2.2.1.cell 1⟩ | exact ⟨(KR4.out.alloc _).here.1.1.1.1.1.1.1.1.1.2.2.1.cell 0, (KR4.out.alloc _).here.1.1.1.1.1.1.1.1.1.2.2.1.cell 1, (KR4.out.alloc _).here.1.1.1.1.1.1.1.1.2.2.1.cell 0, (KR4.out.alloc _).here.1.1.1.1.1.1.1.1.2.2.1.cell 1⟩ | exact ⟨KR3.out.here.1.1.1.1.1.1.1.1.1.2.2.1.cell 0, KR3.out.here.1.1.1.1.1.1.1.1.1.2.2.1.cell 1, KR3.out.here.1.1.1.1.1.1.1.1.2.2.1.cell 0, KR3.out.here.1.1.1.1.1.1.1.1.2.2.1.cell 1⟩ | exact ⟨(KR3.out.alloc _).here.1.1.1.1.1.1.1.1.1.2.2.1.cell 0, (KR3.out.alloc _).here.1.1.1.1.1.1.1.1.1.2.2.1.cell 1, (KR3.out.alloc _).here.1.1.1.1.1.1.1.1.2.2.1.cell 0, (KR3.out.alloc _).here.1.1.1.1.1.1.1.1.2.2.1.cell 1⟩ | exact ⟨KR2.out.here.1.1.1.1.1.1.1.1.2.2.1.cell 0, KR2.out.here.1.1.1.1.1.1.1.1.2.2.1.cell 1, KR2.out.here.1.1.1.1.1.1.1.2.2.1.cell 0, KR2.out.here.1.1.1.1.1.1.1.2.2.1.cell 1⟩ | exact ⟨(KR2.out.alloc _).here.1.1.1.1.1.1.1.1.2.2.1.cell 0, (KR2.out.alloc _).here.1.1.1.1.1.1.1.1.2.2.1.cell 1, (KR2.out.alloc _).here.1.1.1.1.1.1.1.2.2.1.cell 0, (KR2.out.alloc _).here.1.1.1.1.1.1.1.2.2.1.cell 1⟩ | exact ⟨KR1.out.here.1.1.1.1.1.1.1.2.2.1.cell 0, KR1.out.here.1.1.1.1.1.1.1.2.2.1.cell 1, KR1.out.here.1.1.1.1.1.1.2.2.1.cell 0, KR1.out.here.1.1.1.1.1.1.2.2.1.cell 1⟩ | exact ⟨(KR1.out.alloc _).here.1.1.1.1.1.1.1.2.2.1.cell 0, (KR1.out.alloc _).here.1.1.1.1.1.1.1.2.2.1.cell 1, (KR1.out.alloc _).here.1.1.1.1.1.1.2.2.1.cell 0, (KR1.out.alloc _).here.1.1.1.1.1.1.2.2.1.cell 1⟩ | exact ⟨KQ.out.here.1.1.1.1.1.1.2.2.1.cell 0, KQ.out.here.1.1.1.1.1.1.2.2.1.cell 1, KQ.out.here.1.1.1.1.1.2.2.1.cell 0, KQ.out.here.1.1.1.1.1.2.2.1.cell 1⟩ | exact ⟨(KQ.out.alloc _).here.1.1.1.1.1.1.2.2.1.cell 0, (KQ.out.alloc _).here.1.1.1.1.1.1.2.2.1.cell 1, (KQ.out.alloc _).here.1.1.1.1.1.2.2.1.cell 0, (KQ.out.alloc _).here.1.1.1.1.1.2.2.1.cell 1⟩ | exact ⟨(K21.out.move ((HB4.out.setCell HZB.out _).setCell HZB.out _)).here.1.1.1.1.1.1.2.2.1.cell 0, (K21.out.move ((HB4.out.setCell HZB.out _).setCell HZB.out _)).here.1.1.1.1.1.1.2.2.1.cell 1, (K21.out.move ((HB4.out.setCell HZB.out _).setCell HZB.out _)).here.1.1.1.1.1.2.2.1.cell 0, (K21.out.move ((HB4.out.setCell HZB.out _).setCell HZB.out _)).here.1.1.1.1.1.2.2.1.cell 1⟩ | go_keep) (first
                  | (go_at_call 42; refine (impl_copy_at HRR.out (some ⟨q1, 0, none⟩) len len (some ⟨q2, 0, none⟩) lenP lenP (some ⟨q3, 0, none⟩) len9 len9 _ (by first | exact KR3.out.here.1.1.2 | exact (KR3.out.alloc _).here.1.1.2) (by first | exact KR3.out.here.1.2 | exact (KR3.out.alloc _).here.1.2) (by first | exact KR3.out.here.2 | exact (KR3.out.alloc _).here.2)).mono ?_; rintro e u4 ⟨AR, NR, capR, rfl, hown, hb⟩
                     first
                       | (guard_hyp hb : Below u3.heap.size u3 u4
                          have HB4 : Hid (Below wh8.heap.size wh8 u4) := HB3.out.trans (hb.mono HB3.out.size)
                          have HOR : Hid (ROwn mailR u4 wh8.heap.size (.slice AR NR capR) L2) := hown.from HB3.out.size
                          first
                            | (have HFZ := Lib.hid (HFZ.out.below hb HFZ.out.lt))
                            | skip)
                       | (guard_hyp hb : Below (u3.alloc (.cells #[.int .i64 0, .slice none 0 0] 25)).heap.size (u3.alloc (.cells #[.int .i64 0, .slice none 0 0] 25)) u4
                          have HB4 : Hid (Below wh8.heap.size wh8 u4) := (HB3.out.alloc HB3.out.size (.cells #[.int .i64 0, .slice none 0 0] 25)).trans (hb.mono (HB3.out.alloc HB3.out.size (.cells #[.int .i64 0, .slice none 0 0] 25)).size)
                          have HOR : Hid (ROwn mailR u4 wh8.heap.size (.slice AR NR capR) L2) := hown.from (HB3.out.alloc HB3.out.size (.cells #[.int .i64 0, .slice none 0 0] 25)).size
                          have HFZ : Hid (Whole u4 u3.heap.size 25 #[.int .i64 0, .slice none 0 0]) := (Whole.made u3 25 #[.int .i64 0, .slice none 0 0]).below hb (by simp)
                          have HZB : Hid (wh8.heap.size ≤ u3.heap.size) := HB3.out.size)
                     have KR4 := Lib.hid ((((K21.out.move HB4.out).and (kp_pure trivial)).and (kp_pure trivial)).and (kp_pure trivial))
                     have hNR := hown.len.1
                     have HNR := Lib.hid hNR
                     first
                       | (have f60 := HFZ.out.cell 0
                          have f61 := HFZ.out.cell 1
                          simp at f60 f61
                          have f6f := HFZ.out.free 0
                          have f6g := HFZ.out.free 1)
                       | skip
                     clear hb hown hNR)
                  | (go_at_call_of 31 (A9); refine (to_box m0 A9 len9 cap9 L9 _ (by first | exact KR2.out.here.1.1.1.1.1.1.1.1.1.1.2 | exact (KR2.out.alloc _).here.1.1.1.1.1.1.1.1.1.1.2) hlen9).mono ?_; rintro e u3 ⟨q3, rfl, hown, hb⟩
                     first
                       | (guard_hyp hb : Below u2.heap.size u2 u3
                          have HB3 : Hid (Below wh8.heap.size wh8 u3) := HB2.out.trans (hb.mono HB2.out.size)
                          have KT2 := Lib.hid (KR2.out.l.r.move hb)
                          have KT3 := Lib.hid (KR2.out.r.move hb)
                          first
                            | (have HFZ := Lib.hid (HFZ.out.below hb HFZ.out.lt))
                            | skip)
                       | (guard_hyp hb : Below (u2.alloc (.cells #[.int .i64 0, .slice none 0 0] 25)).heap.size (u2.alloc (.cells #[.int .i64 0, .slice none 0 0] 25)) u3
                          have HB3 : Hid (Below wh8.heap.size wh8 u3) := (HB2.out.alloc HB2.out.size (.cells #[.int .i64 0, .slice none 0 0] 25)).trans (hb.mono (HB2.out.alloc HB2.out.size (.cells #[.int .i64 0, .slice none 0 0] 25)).size)
                          have KT2 := Lib.hid ((KR2.out.l.r.alloc (.cells #[.int .i64 0, .slice none 0 0] 25)).move hb)
                          have KT3 := Lib.hid ((KR2.out.r.alloc (.cells #[.int .i64 0, .slice none 0 0] 25)).move hb)
                          have HFZ : Hid (Whole u3 u2.heap.size 25 #[.int .i64 0, .slice none 0 0]) := (Whole.made u2 25 #[.int .i64 0, .slice none 0 0]).below hb (by simp)
                          have HZB : Hid (wh8.heap.size ≤ u2.heap.size) := HB2.out.size)
                     have KR3 := Lib.hid ((((K21.out.move HB3.out).and KT2.out).and KT3.out).and (MIn.of hown (by omega)).keep)
                     clear hb hown)
                  | (go_at_call_of 31 (A); refine (to_box n0 A len cap L _ (by first | exact KQ.out.here.1.1.1.1.1.1.1.1.1.2 | exact (KQ.out.alloc _).here.1.1.1.1.1.1.1.1.1.2) hlen).mono ?_; rintro e u1 ⟨q1, rfl, hown, hb⟩
                     first
                       | (guard_hyp hb : Below wh8.drew.heap.size wh8.drew u1
                          have HB1 : Hid (Below wh8.heap.size wh8 u1) := HQ0.out.trans (hb.mono HQ0.out.size)
                          first
                            | (have HFZ := Lib.hid (HFZ.out.below hb HFZ.out.lt))
                            | skip)
                       | (guard_hyp hb : Below (wh8.drew.alloc (.cells #[.int .i64 0, .slice none 0 0] 25)).heap.size (wh8.drew.alloc (.cells #[.int .i64 0, .slice none 0 0] 25)) u1
                          have HB1 : Hid (Below wh8.heap.size wh8 u1) := (HQ0.out.alloc HQ0.out.size (.cells #[.int .i64 0, .slice none 0 0] 25)).trans (hb.mono (HQ0.out.alloc HQ0.out.size (.cells #[.int .i64 0, .slice none 0 0] 25)).size)
                          have HFZ : Hid (Whole u1 wh8.heap.size 25 #[.int .i64 0, .slice none 0 0]) := (Whole.made wh8.drew 25 #[.int .i64 0, .slice none 0 0]).below hb (by simp)
                          have HZB : Hid (wh8.heap.size ≤ wh8.heap.size) := HQ0.out.size)
                       | (have hbq : Below (wh8.drew.alloc (.cells #[.int .i64 0, .slice none 0 0] 25)).heap.size (wh8.drew.alloc (.cells #[.int .i64 0, .slice none 0 0] 25)) u1 := hb
                          have HB1 : Hid (Below wh8.heap.size wh8 u1) := (HQ0.out.alloc HQ0.out.size (.cells #[.int .i64 0, .slice none 0 0] 25)).trans (hbq.mono (HQ0.out.alloc HQ0.out.size (.cells #[.int .i64 0, .slice none 0 0] 25)).size)
                          have HFZ : Hid (Whole u1 wh8.heap.size 25 #[.int .i64 0, .slice none 0 0]) := (Whole.made wh8.drew 25 #[.int .i64 0, .slice none 0 0]).below hbq (by simp)
                          have HZB : Hid (wh8.heap.size ≤ wh8.heap.size) := HQ0.out.size
                          clear hbq)
                     have KR1 := Lib.hid ((K21.out.move HB1.out).and (MIn.of hown (by omega)).keep)
                     clear hb hown)
                  | (go_at_call 37; refine (to_ints AP lenP capP P _ HNP.out (by first | exact KR1.out.here.1.1.1.1.1.1.1.1.2.2.2.2 | exact (KR1.out.alloc _).here.1.1.1.1.1.1.1.1.2.2.2.2) hlenP).mono ?_; rintro e u2 ⟨q2, rfl, hown, hb⟩
                     first
                       | (guard_hyp hb : Below u1.heap.size u1 u2
                          have HB2 : Hid (Below wh8.heap.size wh8 u2) := HB1.out.trans (hb.mono HB1.out.size)
                          have KT1 := Lib.hid (KR1.out.r.move hb)
                          first
                            | (have HFZ := Lib.hid (HFZ.out.below hb HFZ.out.lt))
                            | skip)
                       | (guard_hyp hb : Below (u1.alloc (.cells #[.int .i64 0, .slice none 0 0] 25)).heap.size (u1.alloc (.cells #[.int .i64 0, .slice none 0 0] 25)) u2
                          have HB2 : Hid (Below wh8.heap.size wh8 u2) := (HB1.out.alloc HB1.out.size (.cells #[.int .i64 0, .slice none 0 0] 25)).trans (hb.mono (HB1.out.alloc HB1.out.size (.cells #[.int .i64 0, .slice none 0 0] 25)).size)
                          have KT1 := Lib.hid ((KR1.out.r.alloc (.cells #[.int .i64 0, .slice none 0 0] 25)).move hb)
                          have HFZ : Hid (Whole u2 u1.heap.size 25 #[.int .i64 0, .slice none 0 0]) := (Whole.made u1 25 #[.int .i64 0, .slice none 0 0]).below hb (by simp)
                          have HZB : Hid (wh8.heap.size ≤ u1.heap.size) := HB1.out.size)
                     have KR2 := Lib.hid (((K21.out.move HB2.out).and KT1.out).and (IIn.of hown (by omega)).keep)
                     clear hb hown))
                all_goals
                  go_wp2_with fail
                  go_meet
                  case rel =>
                    have HN4 : Hid (NR ≤ 3000000) := by show _ ≤ _; have := HNR.out; have := HL2.out; omega
                    first
                      | exact ⟨_, AR, NR, capR, rfl, rfl, HNR.out, (HB4.out.setCell HZB.out _).setCell HZB.out _, (HFZ.out.store 0 _).store 1 _, MIn.of ((HOR.out.store (HOR.out.whole HFZ.out (by decide)) _).store (HOR.out.whole HFZ.out (by decide)) _) (Nat.le_trans HN4.out (by decide))⟩
                      | exact ⟨_, AR, NR, capR, rfl, rfl, HNR.out, HB4.out.alloc HB4.out.size _, Whole.made _ _ _, MIn.of (HOR.out.alloc _) (Nat.le_trans HN4.out (by decide))⟩
              case rest =>
                obtain ⟨D6, A6, N6, cap6, rfl, rfl, hN6, HBX, HWX, HMX⟩ := hcut
                obtain ⟨w6, hwn⟩ := name_worldC HBX.out
                subst hwn
                clear zDa0 zDa1 zDb0 zDb1 zD30 zD31 zD50 zD51
                have K22 := Lib.hid (((K21.out.move HBX.out).and HMX.out.keep).and (kp_tri HWX.out))
                clear HBX HWX HMX
                have zDa0 := K22.out.here.1.1.1.1.1.1.1.1.2.2.1.cell 0
                have zDa1 := K22.out.here.1.1.1.1.1.1.1.1.2.2.1.cell 1
                have zDb0 := K22.out.here.1.1.1.1.1.1.1.2.2.1.cell 0
                have zDb1 := K22.out.here.1.1.1.1.1.1.1.2.2.1.cell 1
                have zD30 := K22.out.here.1.1.1.1.1.2.2.1.cell 0
                have zD31 := K22.out.here.1.1.1.1.1.2.2.1.cell 1
                have zD50 := K22.out.here.1.1.1.2.2.1.cell 0
                have zD51 := K22.out.here.1.1.1.2.2.1.cell 1
                have zD60 := K22.out.here.2.2.1.cell 0
                have zD61 := K22.out.here.2.2.1.cell 1
                simp at zDa0 zDa1 zDb0 zDb1 zD30 zD31 zD50 zD51 zD60 zD61
                clear K21
                have hN65 : N6 = N5 := hN6.trans HN3.out.symm
                clear hN6
                subst hN65
                go_wp2_with fail
                refine (eq_box n2 A6 A3 N6 cap6 cap3 L2 _ K22.out.here.1.2 K22.out.here.1.1.1.1.1.1.2).mono ?_
                rintro e v10 ⟨rfl, hb⟩
                have K23 := Lib.hid (K22.out.move hb)
                clear K22
                clear hb
                clear zDa0 zDa1 zDb0 zDb1 zD30 zD31 zD50 zD51 zD60 zD61
                have zDa0 := K23.out.here.1.1.1.1.1.1.1.1.2.2.1.cell 0
                have zDa1 := K23.out.here.1.1.1.1.1.1.1.1.2.2.1.cell 1
                have zDb0 := K23.out.here.1.1.1.1.1.1.1.2.2.1.cell 0
                have zDb1 := K23.out.here.1.1.1.1.1.1.1.2.2.1.cell 1
                have zD30 := K23.out.here.1.1.1.1.1.2.2.1.cell 0
                have zD31 := K23.out.here.1.1.1.1.1.2.2.1.cell 1
                have zD50 := K23.out.here.1.1.1.2.2.1.cell 0
                have zD51 := K23.out.here.1.1.1.2.2.1.cell 1
                have zD60 := K23.out.here.2.2.1.cell 0
                have zD61 := K23.out.here.2.2.1.cell 1
                simp at zDa0 zDa1 zDb0 zDb1 zD30 zD31 zD50 zD51 zD60 zD61
                go_wp2_with fail
                refine (held_box 1 r2 n2 A5 cap5 N6 _ K23.out.here.1.1.2.at (by omega) (by omega) (by omega) HR2.out).mono ?_
                rintro e v11 ⟨rfl, hb⟩
                have K24 := Lib.hid (K23.out.move hb)
                clear K23
                clear hb
                clear zDa0 zDa1 zDb0 zDb1 zD30 zD31 zD50 zD51 zD60 zD61
                have zDa0 := K24.out.here.1.1.1.1.1.1.1.1.2.2.1.cell 0
                have zDa1 := K24.out.here.1.1.1.1.1.1.1.1.2.2.1.cell 1
                have zDb0 := K24.out.here.1.1.1.1.1.1.1.2.2.1.cell 0
                have zDb1 := K24.out.here.1.1.1.1.1.1.1.2.2.1.cell 1
                have zD30 := K24.out.here.1.1.1.1.1.2.2.1.cell 0
                have zD31 := K24.out.here.1.1.1.1.1.2.2.1.cell 1
                have zD50 := K24.out.here.1.1.1.2.2.1.cell 0
                have zD51 := K24.out.here.1.1.1.2.2.1.cell 1
                have zD60 := K24.out.here.2.2.1.cell 0
                have zD61 := K24.out.here.2.2.1.cell 1
                simp at zDa0 zDa1 zDb0 zDb1 zD30 zD31 zD50 zD51 zD60 zD61
                go_wp2
                go_ret
                exact ⟨rfl, K24.out.here.1.1.1.1.1.1.1.1.1.1.1.1⟩
  · have hs' : (1048576 : Int) < (lenP : Int) := by omega
    go_enter Try.func12, Try.ntmps12
    go_wp2
    go_ret
    exact ⟨rfl, ((Below.refl _ _).alloc (Nat.le_refl _) _).alloc (by simp) _⟩
end Go.Proofs.Ytmljdbbbfpmbcaa
