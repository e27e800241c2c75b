/-
  The walks of the laws FnRcpt. Condition: the code can be read.
-/
import Derived.Test.YtichajalinkcdaaGreatDoorQk
namespace Go.Proofs.YtichajalinkcdaaGreatDoor
open Go.RowKit
set_option linter.unusedVariables false

set_option maxRecDepth 20000 in
set_option maxHeartbeats 8000000 in
theorem law_FnRcpt (A0 : Option Addr) (len cap0 : Nat) (A1 : Option Addr) (len1 cap1 : Nat) (w : World) (h : Coded w A0 len cap0) (h1 : Coded w A1 len1 cap1) (hm : MxS w) : Calls Tryz.prog 12 #[.slice A0 len cap0, .slice A1 len1 cap1] w (Holds1 w) := by
  have HC := Lib.hid h
  have HM := Lib.hid hm
  clear h hm
  clear h1
  by_cases hlen : 1048576 < len
  ·
    have hlenI : (1048576 : Int) < (len : Int) := by omega
    go_enter Tryz.func12, Tryz.ntmps12
    go_wp2
    go_ret
    exact ⟨rfl, Below.refl _ _⟩
  have hlenJ : ¬ (1048576 : Int) < (len : Int) := by omega
  by_cases hlen1 : 1048576 < len1
  ·
    have hlenI1 : (1048576 : Int) < (len1 : Int) := by omega
    go_enter Tryz.func12, Tryz.ntmps12
    go_wp2
    go_ret
    exact ⟨rfl, Below.refl _ _⟩
  have hlenJ1 : ¬ (1048576 : Int) < (len1 : Int) := by omega
  go_enter Tryz.func12, Tryz.ntmps12
  go_wp2_with fail
  refine (draw_subline A0 len cap0 w HC.out).mono ?_
  rintro e w1 ⟨st, us, tx, d, l, A, AU, N, cap, NU, cU, T, L, rfl, hus, htx, hl, hT, ho, hu, hd, hll⟩
  obtain ⟨D, hD⟩ : ∃ D, w1.heap.size = D := ⟨_, rfl⟩
  obtain ⟨w2, hw2⟩ : ∃ w2, w1.alloc (.cells #[.int .i64 st, .string us, .slice A N cap, .string tx] 25) = w2 := ⟨_, rfl⟩
  have hs1 : SIn w1 A N cap T := SIn.made ho (by omega) (fun g hg => by have := hT g hg; omega)
  have hb2 : Below w1.heap.size w1 w2 := by rw [← hw2]; exact below_new _ _
  have K2 := Lib.hid (((UV.made hu.2.2.2.2 hu.uin HM.out).move hb2).and (SV.made (s := ⟨st, us, T, tx⟩) hs1 hD hw2))
  have HUS : Hid (us.size ≤ 30) := Lib.hid hus
  have HDS : Hid (d.size ≤ 30) := Lib.hid hd
  have HLS : Hid (l.size ≤ 200) := Lib.hid hll
  have HNU : Hid (1 ≤ NU ∧ NU ≤ 5) := Lib.hid ⟨hu.1, hu.2.1⟩
  have HUL : Hid (∀ g ∈ L, g.1.size ≤ 30 ∧ g.2.1.size ≤ 30) := Lib.hid hu.2.2.1
  have HTX : Hid (tx.size ≤ 30) := Lib.hid htx
  clear hus htx hl hT ho hu hd hll hs1 hb2
  obtain ⟨⟨⟨st1, us1, T1, tx1⟩, n1⟩, hr, hrv⟩ := lineIs_any ⟨st, us, T, tx⟩ L d l
  have HR := Lib.hid hr
  have HRV := Lib.hid hrv
  clear hr hrv
  have zs0 := K2.out.here.2.1.cell 0
  have zs1 := K2.out.here.2.1.cell 1
  have zs2 := K2.out.here.2.1.cell 2
  have zs3 := K2.out.here.2.1.cell 3
  simp only [List.getElem?_toArray, List.getElem?_cons_zero, List.getElem?_cons_succ] at zs0 zs1 zs2 zs3
  go_wp2_with fail
  refine (line_at HR.out _ K2.out.here.2.2 K2.out.here.1.2.1 K2.out.here.1.2.2 HUS.out HDS.out (by have := HLS.out; omega)).mono ?_
  rintro e w21 ⟨A21, N21, c21, rfl, hs, hb⟩
  obtain ⟨D21, hD⟩ : ∃ D, w21.heap.size = D := ⟨_, rfl⟩
  obtain ⟨v21, hw21⟩ : ∃ v, w21.alloc (.cells #[.int .i64 st1, .string us1, .slice A21 N21 c21, .string tx1] 25) = v := ⟨_, rfl⟩
  have hb2 : Below w21.heap.size w21 v21 := by rw [← hw21]; exact below_new _ _
  have K21 := Lib.hid (((K2.out.move hb).move hb2).and (SV.made (s := ⟨st1, us1, T1, tx1⟩) hs hD hw21))
  clear hb hb2 hs
  clear zs0 zs1 zs2 zs3
  have zs0 := K21.out.here.1.2.1.cell 0
  have zs1 := K21.out.here.1.2.1.cell 1
  have zs2 := K21.out.here.1.2.1.cell 2
  have zs3 := K21.out.here.1.2.1.cell 3
  simp only [List.getElem?_toArray, List.getElem?_cons_zero, List.getElem?_cons_succ] at zs0 zs1 zs2 zs3
  go_wp2_with fail
  refine (sline_at HR.out _ K21.out.here.1.2.2 K21.out.here.1.1.2.1 HUS.out HDS.out (by have := HLS.out; omega)).mono ?_
  rintro e w22 ⟨A22, N22, c22, rfl, hs, hb⟩
  obtain ⟨D22, hD⟩ : ∃ D, w22.heap.size = D := ⟨_, rfl⟩
  obtain ⟨v22, hw22⟩ : ∃ v, w22.alloc (.cells #[.int .i64 st1, .string us1, .slice A22 N22 c22, .string tx1] 25) = v := ⟨_, rfl⟩
  have hb2 : Below w22.heap.size w22 v22 := by rw [← hw22]; exact below_new _ _
  have K22 := Lib.hid (((K21.out.move hb).move hb2).and (SV.made (s := ⟨st1, us1, T1, tx1⟩) hs hD hw22))
  clear hb hb2 hs
  clear zs0 zs1 zs2 zs3
  have zo0 := K22.out.here.1.2.1.cell 0
  have zo1 := K22.out.here.1.2.1.cell 1
  have zo2 := K22.out.here.1.2.1.cell 2
  have zo3 := K22.out.here.1.2.1.cell 3
  have zt0 := K22.out.here.2.1.cell 0
  have zt1 := K22.out.here.2.1.cell 1
  have zt2 := K22.out.here.2.1.cell 2
  have zt3 := K22.out.here.2.1.cell 3
  simp only [List.getElem?_toArray, List.getElem?_cons_zero, List.getElem?_cons_succ] at zo0 zo1 zo2 zo3 zt0 zt1 zt2 zt3
  go_wp2_with fail
  refine (same_sub _ K22.out.here.1.2.2 K22.out.here.2.2).mono ?_
  rintro e x2w ⟨rfl, hb⟩
  have K23 := Lib.hid (K22.out.move hb)
  clear hb
  clear zo0 zo1 zo2 zo3 zt0 zt1 zt2 zt3
  cases hz : (sbV ⟨st, us, T, tx⟩ && (vU L && domB (kb d))) with
  | false =>
    have e0 : n1 = -1 := congrArg Prod.snd (HR.out.off hz)
    subst e0
    clear hz
    have zo0 := K23.out.here.1.2.1.cell 0
    have zo1 := K23.out.here.1.2.1.cell 1
    have zo2 := K23.out.here.1.2.1.cell 2
    have zo3 := K23.out.here.1.2.1.cell 3
    have zt0 := K23.out.here.2.1.cell 0
    have zt1 := K23.out.here.2.1.cell 1
    have zt2 := K23.out.here.2.1.cell 2
    have zt3 := K23.out.here.2.1.cell 3
    simp only [List.getElem?_toArray, List.getElem?_cons_zero, List.getElem?_cons_succ] at zo0 zo1 zo2 zo3 zt0 zt1 zt2 zt3
    go_wp2_with fail
    refine (same_sub _ K23.out.here.1.2.2 K23.out.here.2.2).mono ?_
    rintro e x3w ⟨rfl, hb⟩
    have K24 := Lib.hid (K23.out.move hb)
    clear hb
    clear zo0 zo1 zo2 zo3 zt0 zt1 zt2 zt3
    go_wp2
    go_ret
    exact ⟨rfl, K24.out.here.1.1.1.1⟩
  | true =>
    have h0 : ¬ n1 < 0 := by have h := HR.out.on hz; simp only at h; omega
    have HZ := Lib.hid hz
    clear hz
    by_cases h34 : ¬ (st = 3 ∨ st = 4)
    ·
      have h3' : (st != 3) = true := bne_iff_ne.2 (fun e => h34 (.inl e))
      have h4' : (st != 4) = true := bne_iff_ne.2 (fun e => h34 (.inr e))
      clear h34
      have zs0 := K23.out.here.1.1.2.1.cell 0
      have zs1 := K23.out.here.1.1.2.1.cell 1
      have zs2 := K23.out.here.1.1.2.1.cell 2
      have zs3 := K23.out.here.1.1.2.1.cell 3
      simp only [List.getElem?_toArray, List.getElem?_cons_zero, List.getElem?_cons_succ] at zs0 zs1 zs2 zs3
      have yo0 := K23.out.here.1.2.1.cell 0
      have yo1 := K23.out.here.1.2.1.cell 1
      have yo2 := K23.out.here.1.2.1.cell 2
      have yo3 := K23.out.here.1.2.1.cell 3
      have yt0 := K23.out.here.2.1.cell 0
      have yt1 := K23.out.here.2.1.cell 1
      have yt2 := K23.out.here.2.1.cell 2
      have yt3 := K23.out.here.2.1.cell 3
      simp only [List.getElem?_toArray, List.getElem?_cons_zero, List.getElem?_cons_succ] at yo0 yo1 yo2 yo3 yt0 yt1 yt2 yt3
      go_wp2_with fail
      refine (same_sub _ K23.out.here.1.2.2 K23.out.here.2.2).mono ?_
      rintro e x4w ⟨rfl, hb⟩
      have K25 := Lib.hid (K23.out.move hb)
      clear hb
      go_wp2
      go_ret
      exact ⟨rfl, K25.out.here.1.1.1.1⟩
    rcases (show st = 3 ∨ st = 4 by omega) with rfl | rfl
    ·
      clear h34
      obtain ⟨kk, hkk⟩ : ∃ k, len1 % NU = k := ⟨_, rfl⟩
      have hkN : kk < NU := hkk ▸ Nat.mod_lt _ (by have := HNU.out.1; omega)
      have hNU := HNU.out
      have R1 : (len1 : Int).tmod (NU : Int) = (kk : Int) := by rw [Int.tmod_eq_emod_of_nonneg (by omega), ← hkk]; omega
      have R2 : (len1 : Int) % (NU : Int) = (kk : Int) := by rw [← hkk]; omega
      have WR : IntKind.i64.wrap (kk : Int) = (kk : Int) := IntWalk.i64_in _ (by omega)
      have hN1 : ((NU : Int) == 0) = false := beq_eq_false_iff_ne.2 (by omega)
      have hNz : ¬ (NU : Int) = 0 := by omega
      have hk0 : (0 : Int) ≤ (kk : Int) := by omega
      have hkI : (kk : Int) < (NU : Int) := by omega
      obtain ⟨⟨un, up, uq⟩, hx⟩ : ∃ u, L[kk]? = some u := ⟨_, List.getElem?_eq_getElem (by have h := K23.out.here.1.1.1.2.1.1; omega)⟩
      obtain ⟨bu, ou, hAU⟩ := user_some K23.out.here.1.1.1.2.1 hx
      subst hAU
      have HXU := Lib.hid hx
      obtain ⟨q1, q2, q3⟩ := hz_v HZ.out
      obtain ⟨m1, m2, m3, m4, m5, m6, m7⟩ := user_mem q2 hx
      have hun : un.size ≤ 30 := by omega
      have hup : up.size ≤ 30 := by omega
      have hds : d.size ≤ 30 := HDS.out
      obtain ⟨ln0, hln0⟩ : ∃ x, (⟨#[82, 67, 80, 84, 32, 84, 79, 58, 60]⟩ ++ un : ByteArray) = x := ⟨_, rfl⟩
      have hln0s : ln0.size ≤ 50 := by rw [← hln0]; exact sz_app (show (⟨#[82, 67, 80, 84, 32, 84, 79, 58, 60]⟩ : ByteArray).size ≤ 20 by decide) hun (by decide)
      have hln0c : ¬ 9223372036854775807 < 9 + un.size := by have := (show 0 ≤ 0 by decide); have := hun; omega
      have hln0d : ¬ 9223372036854775807 < (⟨#[82, 67, 80, 84, 32, 84, 79, 58, 60]⟩ : ByteArray).size + un.size := hln0c
      obtain ⟨ln1, hln1⟩ : ∃ x, (ln0 ++ ⟨#[64]⟩ : ByteArray) = x := ⟨_, rfl⟩
      have hln1s : ln1.size ≤ 80 := by rw [← hln1]; exact sz_app hln0s (show (⟨#[64]⟩ : ByteArray).size ≤ 20 by decide) (by decide)
      have hln1c : ¬ 9223372036854775807 < ln0.size + 1 := by have := hln0s; have := (show 0 ≤ 0 by decide); omega
      have hln1d : ¬ 9223372036854775807 < ln0.size + (⟨#[64]⟩ : ByteArray).size := hln1c
      obtain ⟨ln2, hln2⟩ : ∃ x, (ln1 ++ d : ByteArray) = x := ⟨_, rfl⟩
      have hln2s : ln2.size ≤ 110 := by rw [← hln2]; exact sz_app hln1s hds (by decide)
      have hln2c : ¬ 9223372036854775807 < ln1.size + d.size := by have := hln1s; have := hds; omega
      obtain ⟨ln3, hln3⟩ : ∃ x, (ln2 ++ ⟨#[62]⟩ : ByteArray) = x := ⟨_, rfl⟩
      have hln3s : ln3.size ≤ 140 := by rw [← hln3]; exact sz_app hln2s (show (⟨#[62]⟩ : ByteArray).size ≤ 20 by decide) (by decide)
      have hln3c : ¬ 9223372036854775807 < ln2.size + 1 := by have := hln2s; have := (show 0 ≤ 0 by decide); omega
      have hln3d : ¬ 9223372036854775807 < ln2.size + (⟨#[62]⟩ : ByteArray).size := hln3c
      have lne : (⟨#[82, 67, 80, 84, 32, 84, 79, 58, 60]⟩ ++ un ++ ⟨#[64]⟩ ++ d ++ ⟨#[62]⟩ : ByteArray) = ln3 := by rw [hln0, hln1, hln2, hln3]
      have HLN : Hid (ln3.size ≤ 2000) := Lib.hid (show _ ≤ _ by omega)
      have HLI : LineIs ⟨3, us, T, tx⟩ L d ln3 (if un ∈ T then (⟨3, us, T, tx⟩, 250) else if 3 ≤ T.length then (⟨3, us, T, tx⟩, 452) else (⟨4, us, T ++ [un], eB⟩, 250)) := by
        rw [show ln3 = pathT bRCPT un d from by rw [← lne]; exact kb_inj (by rw [kb_path]; simp only [kb_cat]; simp [kb, bRCPT])]
        have h := li_to (L := L) (d := d) HZ.out (by simp) (by simp) m1 q3
        rw [if_neg (by simp), if_pos ⟨rfl, m3⟩] at h
        exact h
      have HNT : Hid (N = T.length) := Lib.hid (K23.out.here.1.1.2.2.1).symm
      have HT3 : Hid (T.length ≤ 3) := Lib.hid (sbV_has q1).2.1
      have HTS8 : Hid (∀ x ∈ T, x.size ≤ 8) := Lib.hid (sbV_has q1).2.2.1
      obtain ⟨uc0, -, -⟩ := user_cells K23.out.here.1.1.1.2.1 HXU.out
      cases hm : decide (un ∈ T) with
      | true =>
        have HMM := Lib.hid hm
        have HA : Hid (LineIs ⟨3, us, T, tx⟩ L d ln3 (⟨3, us, T, tx⟩, 250)) := Lib.hid (by have h := HLI; rw [if_pos (of_decide_eq_true hm)] at h; exact h)
        clear hm
        clear HLI m1 m2 m3 m4 m5 m6 m7 q1 q2 q3 hx lne
        have zs0 := K23.out.here.1.1.2.1.cell 0
        have zs1 := K23.out.here.1.1.2.1.cell 1
        have zs2 := K23.out.here.1.1.2.1.cell 2
        have zs3 := K23.out.here.1.1.2.1.cell 3
        simp only [List.getElem?_toArray, List.getElem?_cons_zero, List.getElem?_cons_succ] at zs0 zs1 zs2 zs3
        go_wp2_with fail
        refine (line_at HA.out _ K23.out.here.1.1.2.2 K23.out.here.1.1.1.2.1 K23.out.here.1.1.1.2.2 HUS.out HDS.out HLN.out).mono ?_
        rintro e w26 ⟨A26, N26, c26, rfl, hs, hb⟩
        obtain ⟨D26, hD⟩ : ∃ D, w26.heap.size = D := ⟨_, rfl⟩
        obtain ⟨v26, hw26⟩ : ∃ v, w26.alloc (.cells #[.int .i64 3, .string us, .slice A26 N26 c26, .string tx] 25) = v := ⟨_, rfl⟩
        have hb2 : Below w26.heap.size w26 v26 := by rw [← hw26]; exact below_new _ _
        have K26 := Lib.hid (((K23.out.move hb).move hb2).and (SV.made (s := ⟨3, us, T, tx⟩) hs hD hw26))
        clear hb hb2 hs
        clear zs0 zs1 zs2 zs3
        clear uc0
        have zs0 := K26.out.here.1.1.1.2.1.cell 0
        have zs1 := K26.out.here.1.1.1.2.1.cell 1
        have zs2 := K26.out.here.1.1.1.2.1.cell 2
        have zs3 := K26.out.here.1.1.1.2.1.cell 3
        simp only [List.getElem?_toArray, List.getElem?_cons_zero, List.getElem?_cons_succ] at zs0 zs1 zs2 zs3
        go_wp2_with fail
        refine (has_at HMM.out _ K26.out.here.1.1.1.2.2).mono ?_
        rintro e xkn ⟨rfl, hkw⟩
        subst hkw
        clear zs0 zs1 zs2 zs3
        have zx0 := K26.out.here.2.1.cell 0
        have zx1 := K26.out.here.2.1.cell 1
        have zx2 := K26.out.here.2.1.cell 2
        have zx3 := K26.out.here.2.1.cell 3
        have zs0 := K26.out.here.1.1.1.2.1.cell 0
        have zs1 := K26.out.here.1.1.1.2.1.cell 1
        have zs2 := K26.out.here.1.1.1.2.1.cell 2
        have zs3 := K26.out.here.1.1.1.2.1.cell 3
        simp only [List.getElem?_toArray, List.getElem?_cons_zero, List.getElem?_cons_succ] at zx0 zx1 zx2 zx3 zs0 zs1 zs2 zs3
        go_wp2_with fail
        refine (same_sub _ K26.out.here.2.2 K26.out.here.1.1.1.2.2).mono ?_
        rintro e x6w ⟨rfl, hb⟩
        have K27 := Lib.hid (K26.out.move hb)
        clear hb
        clear zx0 zx1 zx2 zx3 zs0 zs1 zs2 zs3
        go_wp2
        go_ret
        exact ⟨rfl, K27.out.here.1.1.1.1.1⟩
      | false =>
        have HMM := Lib.hid hm
        by_cases h3 : 3 ≤ T.length
        ·
          have HA : Hid (LineIs ⟨3, us, T, tx⟩ L d ln3 (⟨3, us, T, tx⟩, 452)) := Lib.hid (by have h := HLI; rw [if_neg (of_decide_eq_false hm), if_pos h3] at h; exact h)
          have hN3 : (3 : Int) ≤ (N : Int) := by have := HNT.out; omega
          clear hm h3
          clear HLI m1 m2 m3 m4 m5 m6 m7 q1 q2 q3 hx lne
          have zs0 := K23.out.here.1.1.2.1.cell 0
          have zs1 := K23.out.here.1.1.2.1.cell 1
          have zs2 := K23.out.here.1.1.2.1.cell 2
          have zs3 := K23.out.here.1.1.2.1.cell 3
          simp only [List.getElem?_toArray, List.getElem?_cons_zero, List.getElem?_cons_succ] at zs0 zs1 zs2 zs3
          go_wp2_with fail
          refine (line_at HA.out _ K23.out.here.1.1.2.2 K23.out.here.1.1.1.2.1 K23.out.here.1.1.1.2.2 HUS.out HDS.out HLN.out).mono ?_
          rintro e w28 ⟨A28, N28, c28, rfl, hs, hb⟩
          obtain ⟨D28, hD⟩ : ∃ D, w28.heap.size = D := ⟨_, rfl⟩
          obtain ⟨v28, hw28⟩ : ∃ v, w28.alloc (.cells #[.int .i64 3, .string us, .slice A28 N28 c28, .string tx] 25) = v := ⟨_, rfl⟩
          have hb2 : Below w28.heap.size w28 v28 := by rw [← hw28]; exact below_new _ _
          have K28 := Lib.hid (((K23.out.move hb).move hb2).and (SV.made (s := ⟨3, us, T, tx⟩) hs hD hw28))
          clear hb hb2 hs
          clear zs0 zs1 zs2 zs3
          clear uc0
          have zs0 := K28.out.here.1.1.1.2.1.cell 0
          have zs1 := K28.out.here.1.1.1.2.1.cell 1
          have zs2 := K28.out.here.1.1.1.2.1.cell 2
          have zs3 := K28.out.here.1.1.1.2.1.cell 3
          simp only [List.getElem?_toArray, List.getElem?_cons_zero, List.getElem?_cons_succ] at zs0 zs1 zs2 zs3
          go_wp2_with fail
          refine (has_at HMM.out _ K28.out.here.1.1.1.2.2).mono ?_
          rintro e xkn ⟨rfl, hkw⟩
          subst hkw
          clear zs0 zs1 zs2 zs3
          have zx0 := K28.out.here.2.1.cell 0
          have zx1 := K28.out.here.2.1.cell 1
          have zx2 := K28.out.here.2.1.cell 2
          have zx3 := K28.out.here.2.1.cell 3
          have zs0 := K28.out.here.1.1.1.2.1.cell 0
          have zs1 := K28.out.here.1.1.1.2.1.cell 1
          have zs2 := K28.out.here.1.1.1.2.1.cell 2
          have zs3 := K28.out.here.1.1.1.2.1.cell 3
          simp only [List.getElem?_toArray, List.getElem?_cons_zero, List.getElem?_cons_succ] at zx0 zx1 zx2 zx3 zs0 zs1 zs2 zs3
          go_wp2_with fail
          refine (same_sub _ K28.out.here.2.2 K28.out.here.1.1.1.2.2).mono ?_
          rintro e x8w ⟨rfl, hb⟩
          have K29 := Lib.hid (K28.out.move hb)
          clear hb
          clear zx0 zx1 zx2 zx3 zs0 zs1 zs2 zs3
          go_wp2
          go_ret
          exact ⟨rfl, K29.out.here.1.1.1.1.1⟩
        have HA : Hid (LineIs ⟨3, us, T, tx⟩ L d ln3 (⟨4, us, T ++ [un], eB⟩, 250)) := Lib.hid (by have h := HLI; rw [if_neg (of_decide_eq_false hm), if_neg h3] at h; exact h)
        have hN3 : ¬ (3 : Int) ≤ (N : Int) := by have := HNT.out; omega
        have HN2 : Hid (N ≤ 2) := Lib.hid (by have := HNT.out; show _ ≤ _; omega)
        clear hm h3
        clear HLI m1 m2 m3 m4 m5 m6 m7 q1 q2 q3 hx lne
        have zs0 := K23.out.here.1.1.2.1.cell 0
        have zs1 := K23.out.here.1.1.2.1.cell 1
        have zs2 := K23.out.here.1.1.2.1.cell 2
        have zs3 := K23.out.here.1.1.2.1.cell 3
        simp only [List.getElem?_toArray, List.getElem?_cons_zero, List.getElem?_cons_succ] at zs0 zs1 zs2 zs3
        go_wp2_with fail
        refine (line_at HA.out _ K23.out.here.1.1.2.2 K23.out.here.1.1.1.2.1 K23.out.here.1.1.1.2.2 HUS.out HDS.out HLN.out).mono ?_
        rintro e w30 ⟨A30, N30, c30, rfl, hs, hb⟩
        obtain ⟨D30, hD⟩ : ∃ D, w30.heap.size = D := ⟨_, rfl⟩
        obtain ⟨v30, hw30⟩ : ∃ v, w30.alloc (.cells #[.int .i64 4, .string us, .slice A30 N30 c30, .string eB] 25) = v := ⟨_, rfl⟩
        have hb2 : Below w30.heap.size w30 v30 := by rw [← hw30]; exact below_new _ _
        have K30 := Lib.hid (((K23.out.move hb).move hb2).and (SV.made (s := ⟨4, us, (T ++ [un]), eB⟩) hs hD hw30))
        clear hb hb2 hs
        clear zs0 zs1 zs2 zs3
        clear uc0
        have zs0 := K30.out.here.1.1.1.2.1.cell 0
        have zs1 := K30.out.here.1.1.1.2.1.cell 1
        have zs2 := K30.out.here.1.1.1.2.1.cell 2
        have zs3 := K30.out.here.1.1.1.2.1.cell 3
        simp only [List.getElem?_toArray, List.getElem?_cons_zero, List.getElem?_cons_succ] at zs0 zs1 zs2 zs3
        go_wp2_with fail
        refine (has_at HMM.out _ K30.out.here.1.1.1.2.2).mono ?_
        rintro e xkn ⟨rfl, hkw⟩
        subst hkw
        clear zs0 zs1 zs2 zs3
        obtain ⟨i0, hi0, hq0, hq1, hq2⟩ := info_parts Tryz.infoString
        have hn2 := HN2.out
        have hml1 : 0 + N ≤ maxLen := by unfold maxLen; omega
        have hby1 : (0 + N) * 16 ≤ 140737488355328 := by omega
        have hml2 : N + 1 ≤ maxLen := by unfold maxLen; omega
        have hby2 : (N + 1) * 16 ≤ 140737488355328 := by omega
        have HTN : Hid (T.length = N) := Lib.hid HNT.out.symm
        have HBd : Hid (Below xkn.heap.size xkn xkn.drew) := Lib.hid (below_drew1 xkn)
        have Kd := Lib.hid (K30.out.move HBd.out)
        have HBE : Hid (Below xkn.heap.size xkn (xkn.drew.alloc (.cells #[] 9))) := Lib.hid (HBd.out.alloc HBd.out.size _)
        have KE := Lib.hid (K30.out.move HBE.out)
        have HBEU : Hid (Below xkn.heap.size xkn ((xkn.drew.alloc (.cells #[] 9)).alloc (.cells #[.string un] 9))) := Lib.hid (HBE.out.alloc HBE.out.size _)
        have KEU := Lib.hid (K30.out.move HBEU.out)
        have HBU : Hid (Below xkn.heap.size xkn (xkn.drew.alloc (.cells #[.string un] 9))) := Lib.hid (HBd.out.alloc HBd.out.size _)
        have KU := Lib.hid (K30.out.move HBU.out)
        have HBUE : Hid (Below xkn.heap.size xkn ((xkn.drew.alloc (.cells #[.string un] 9)).alloc (.cells #[] 9))) := Lib.hid (HBU.out.alloc HBU.out.size _)
        have KUE := Lib.hid (K30.out.move HBUE.out)
        have HO1 : Hid (ROwn stR (xkn.drew.alloc (.cells #[] 9)) xkn.heap.size (.slice (some ⟨xkn.heap.size, 0, none⟩) 0 0) []) := Lib.hid (ROwn.lit (R := stR) xkn.drew xkn.heap.size (Nat.le_refl _) rfl)
        have HO2 := Lib.hid (HO1.out.alloc (.cells #[.string un] 9))
        have HO3 : Hid (ROwn stR ((xkn.drew.alloc (.cells #[.string un] 9)).alloc (.cells #[] 9)) xkn.heap.size (.slice (some ⟨xkn.heap.size + 1, 0, none⟩) 0 0) []) := Lib.hid (ROwn.lit (R := stR) (xkn.drew.alloc (.cells #[.string un] 9)) (xkn.heap.size + 1) (by simp) (by simp))
        have HV2 : Hid (RAt stR ((xkn.drew.alloc (.cells #[] 9)).alloc (.cells #[.string un] 9)) (some ⟨xkn.heap.size + 1, 0, none⟩) [un]) := Lib.hid (RAt.made stR (xkn.drew.alloc (.cells #[] 9)) [un] _ (by simp))
        have HV3 : Hid (RAt stR ((xkn.drew.alloc (.cells #[.string un] 9)).alloc (.cells #[] 9)) (some ⟨xkn.heap.size, 0, none⟩) [un]) := Lib.hid (RAt.below (B := (xkn.drew.alloc (.cells #[.string un] 9)).heap.size) (RAt.made stR xkn.drew [un] _ rfl) (below_new _ _) (Nat.le_refl _))
        have zs0 := K30.out.here.1.1.1.2.1.cell 0
        have zs1 := K30.out.here.1.1.1.2.1.cell 1
        have zs2 := K30.out.here.1.1.1.2.1.cell 2
        have zs3 := K30.out.here.1.1.1.2.1.cell 3
        have zx0 := K30.out.here.2.1.cell 0
        have zx1 := K30.out.here.2.1.cell 1
        have zx2 := K30.out.here.2.1.cell 2
        have zx3 := K30.out.here.2.1.cell 3
        simp only [List.getElem?_toArray, List.getElem?_cons_zero, List.getElem?_cons_succ] at zs0 zs1 zs2 zs3 zx0 zx1 zx2 zx3
        go_upto_region 14 with fail
        go_region_held3 (fun w' => w'.cell? ⟨D30, 0, none⟩ = some (.int .i64 4) ∧ w'.cell? ⟨D30, 1, none⟩ = some (.string us) ∧ w'.cell? ⟨D30, 2, none⟩ = some (.slice A30 N30 c30) ∧ w'.cell? ⟨D30, 3, none⟩ = some (.string eB) ∧ w'.cell? ⟨D, 1, none⟩ = some (.string us) ∧ w'.cell? ⟨D, 2, none⟩ = some (.slice A N cap)) (first | exact ⟨(K9.out.here.2).1.cell 0, (K9.out.here.2).1.cell 1, (K9.out.here.2).1.cell 2, (K9.out.here.2).1.cell 3, (K9.out.here.1.1.1.2).1.cell 1, (K9.out.here.1.1.1.2).1.cell 2⟩ | exact ⟨(K8.out.here.2).1.cell 0, (K8.out.here.2).1.cell 1, (K8.out.here.2).1.cell 2, (K8.out.here.2).1.cell 3, (K8.out.here.1.1.1.2).1.cell 1, (K8.out.here.1.1.1.2).1.cell 2⟩ | exact ⟨((K16.out.alloc _).here.2).1.cell 0, ((K16.out.alloc _).here.2).1.cell 1, ((K16.out.alloc _).here.2).1.cell 2, ((K16.out.alloc _).here.2).1.cell 3, ((K16.out.alloc _).here.1.1.1.2).1.cell 1, ((K16.out.alloc _).here.1.1.1.2).1.cell 2⟩ | exact ⟨(K16.out.here.2).1.cell 0, (K16.out.here.2).1.cell 1, (K16.out.here.2).1.cell 2, (K16.out.here.2).1.cell 3, (K16.out.here.1.1.1.2).1.cell 1, (K16.out.here.1.1.1.2).1.cell 2⟩ | exact ⟨(K26.out.here.2).1.cell 0, (K26.out.here.2).1.cell 1, (K26.out.here.2).1.cell 2, (K26.out.here.2).1.cell 3, (K26.out.here.1.1.1.2).1.cell 1, (K26.out.here.1.1.1.2).1.cell 2⟩ | exact ⟨(K36.out.here.2).1.cell 0, (K36.out.here.2).1.cell 1, (K36.out.here.2).1.cell 2, (K36.out.here.2).1.cell 3, (K36.out.here.1.1.1.2).1.cell 1, (K36.out.here.1.1.1.2).1.cell 2⟩ | exact ⟨(KEU.out.here.2).1.cell 0, (KEU.out.here.2).1.cell 1, (KEU.out.here.2).1.cell 2, (KEU.out.here.2).1.cell 3, (KEU.out.here.1.1.1.2).1.cell 1, (KEU.out.here.1.1.1.2).1.cell 2⟩ | exact ⟨(KUE.out.here.2).1.cell 0, (KUE.out.here.2).1.cell 1, (KUE.out.here.2).1.cell 2, (KUE.out.here.2).1.cell 3, (KUE.out.here.1.1.1.2).1.cell 1, (KUE.out.here.1.1.1.2).1.cell 2⟩ | exact ⟨(KE.out.here.2).1.cell 0, (KE.out.here.2).1.cell 1, (KE.out.here.2).1.cell 2, (KE.out.here.2).1.cell 3, (KE.out.here.1.1.1.2).1.cell 1, (KE.out.here.1.1.1.2).1.cell 2⟩ | exact ⟨(KU.out.here.2).1.cell 0, (KU.out.here.2).1.cell 1, (KU.out.here.2).1.cell 2, (KU.out.here.2).1.cell 3, (KU.out.here.1.1.1.2).1.cell 1, (KU.out.here.1.1.1.2).1.cell 2⟩ | exact ⟨(Kd.out.here.2).1.cell 0, (Kd.out.here.2).1.cell 1, (Kd.out.here.2).1.cell 2, (Kd.out.here.2).1.cell 3, (Kd.out.here.1.1.1.2).1.cell 1, (Kd.out.here.1.1.1.2).1.cell 2⟩ | go_keep) (first
          | (have hq := HO8
             clear hq
             go_at_call 24
             refine (same_sub (st := 4) (us := us) (tx := eB) (T := T ++ [un]) w8 (K8.out.here.2).2 (SIn.made HO8.out (by rw [List.length_append, HTN.out]; simp; omega) (fun g hg => by
               rcases List.mem_append.1 hg with h1 | h1
               · exact Nat.le_trans (HTS8.out g h1) (by omega)
               · simp at h1; rw [h1]; have := hun; omega))).mono ?_
             rintro e w9 ⟨rfl, hb⟩
             have K9 := Lib.hid (K8.out.move hb)
             clear hb)
          | (have hq := HO16
             clear hq
             refine step_append_rows_g (by rfl) (.tmp 133) (.tmp 135) 23 rfl stR xkn.heap.size i0 _ 16 Tryz.underlying23 hi0 hq0 hq1 hq2 rfl (by decide) _ T [un] N HTN.out rfl (HO16.out.alloc (.cells #[.string un] 9)) (some ⟨w1.heap.size, 0, none⟩) 1 1 rfl rfl (RAt.made stR w1 [un] _ rfl) (fun e => by cases e) (fun q e => by cases e; rfl) hml2 hby2 (by have := HB16.out.size; simp; omega) ?_
             intro v' w8 hown hgrow hnn
             obtain ⟨A8, N8, c8, rfl⟩ := hown.val
             have HO8 := Lib.hid hown
             have HB8 : Hid (Below xkn.heap.size xkn w8) := Lib.hid (below_far (HB16.out.alloc HB16.out.size (.cells #[.string un] 9)) hgrow (fun g e => by have h1 := (World.ownsRow.lt (HO16.out.alloc (.cells #[.string un] 9)) _ e).1; exact h1))
             have K8 := Lib.hid (K30.out.move HB8.out)
             clear hown hgrow hnn)
          | (have hq := HO26
             clear hq
             refine step_append_rows_g (by rfl) (.tmp 133) (.tmp 135) 23 rfl stR xkn.heap.size i0 _ 16 Tryz.underlying23 hi0 hq0 hq1 hq2 rfl (by decide) _ T [un] N HTN.out rfl HO26.out (some ⟨xkn.heap.size + 1, 0, none⟩) 1 1 rfl rfl HVB.out (fun e => by cases e) (fun q e => by cases e; rfl) hml2 hby2 HB26.out.size ?_
             intro v' w8 hown hgrow hnn
             obtain ⟨A8, N8, c8, rfl⟩ := hown.val
             have HO8 := Lib.hid hown
             have HB8 : Hid (Below xkn.heap.size xkn w8) := Lib.hid (below_far HB26.out hgrow (fun g e => by have h1 := (World.ownsRow.lt HO26.out _ e).1; exact h1))
             have K8 := Lib.hid (K30.out.move HB8.out)
             clear hown hgrow hnn)
          | (have hq := HO36
             clear hq
             refine step_append_rows_g (by rfl) (.tmp 133) (.tmp 135) 23 rfl stR xkn.heap.size i0 _ 16 Tryz.underlying23 hi0 hq0 hq1 hq2 rfl (by decide) _ T [un] N HTN.out rfl HO36.out (some ⟨xkn.heap.size, 0, none⟩) 1 1 rfl rfl HVC.out (fun e => by cases e) (fun q e => by cases e; rfl) hml2 hby2 HB36.out.size ?_
             intro v' w8 hown hgrow hnn
             obtain ⟨A8, N8, c8, rfl⟩ := hown.val
             have HO8 := Lib.hid hown
             have HB8 : Hid (Below xkn.heap.size xkn w8) := Lib.hid (below_far HB36.out hgrow (fun g e => by have h1 := (World.ownsRow.lt HO36.out _ e).1; exact h1))
             have K8 := Lib.hid (K30.out.move HB8.out)
             clear hown hgrow hnn)
          | (with_reducible refine at_world ((xkn.alloc (.cells #[] 9)).drew) ?_
             refine step_append_rows_g (by rfl) (.tmp 130) (.tmp 132) 23 rfl stR xkn.heap.size i0 _ 16 Tryz.underlying23 hi0 hq0 hq1 hq2 rfl (by decide) _ [] T 0 rfl rfl HO1.out A N cap rfl HTN.out (KE.out.here.1.1.1.2).2.2.2.1 (KE.out.here.1.1.1.2).2.2.2.2.1 (KE.out.here.1.1.1.2).2.2.2.2.2.1 hml1 hby1 HBE.out.size ?_
             intro v' w1 hown hgrow hnn
             rw [List.nil_append] at hown
             obtain ⟨A6, N6, c6, rfl⟩ := hown.val
             have hN6 : N = N6 := (hown.len.1.trans HTN.out).symm
             subst hN6
             have HO16 := Lib.hid hown
             have HB16 : Hid (Below xkn.heap.size xkn w1) := Lib.hid (below_far HBE.out hgrow (fun g e => by have h2 := Option.some.inj (show some (xkn.heap.size) = some g from e); omega))
             have K16 := Lib.hid (K30.out.move HB16.out)
             clear hown hgrow hnn)
          | (with_reducible refine at_world (((xkn.alloc (.cells #[] 9)).alloc (.cells #[.string un] 9)).drew) ?_
             refine step_append_rows_g (by rfl) (.tmp 130) (.tmp 132) 23 rfl stR xkn.heap.size i0 _ 16 Tryz.underlying23 hi0 hq0 hq1 hq2 rfl (by decide) _ [] T 0 rfl rfl HO2.out A N cap rfl HTN.out (KEU.out.here.1.1.1.2).2.2.2.1 (KEU.out.here.1.1.1.2).2.2.2.2.1 (KEU.out.here.1.1.1.2).2.2.2.2.2.1 hml1 hby1 HBEU.out.size ?_
             intro v' w2 hown hgrow hnn
             rw [List.nil_append] at hown
             obtain ⟨A6, N6, c6, rfl⟩ := hown.val
             have hN6 : N = N6 := (hown.len.1.trans HTN.out).symm
             subst hN6
             have HO26 := Lib.hid hown
             have HB26 : Hid (Below xkn.heap.size xkn w2) := Lib.hid (below_far HBEU.out hgrow (fun g e => by have h2 := Option.some.inj (show some (xkn.heap.size) = some g from e); omega))
             have K26 := Lib.hid (K30.out.move HB26.out)
             have HVB := Lib.hid (HV2.out.grown hgrow (fun b o e he => by cases e; have h2 : xkn.heap.size + 1 = xkn.heap.size := he; omega))
             clear hown hgrow hnn)
          | (with_reducible refine at_world (((xkn.alloc (.cells #[.string un] 9)).alloc (.cells #[] 9)).drew) ?_
             refine step_append_rows_g (by rfl) (.tmp 130) (.tmp 132) 23 rfl stR xkn.heap.size i0 _ 16 Tryz.underlying23 hi0 hq0 hq1 hq2 rfl (by decide) _ [] T 0 rfl rfl HO3.out A N cap rfl HTN.out (KUE.out.here.1.1.1.2).2.2.2.1 (KUE.out.here.1.1.1.2).2.2.2.2.1 (KUE.out.here.1.1.1.2).2.2.2.2.2.1 hml1 hby1 HBUE.out.size ?_
             intro v' w3 hown hgrow hnn
             rw [List.nil_append] at hown
             obtain ⟨A6, N6, c6, rfl⟩ := hown.val
             have hN6 : N = N6 := (hown.len.1.trans HTN.out).symm
             subst hN6
             have HO36 := Lib.hid hown
             have HB36 : Hid (Below xkn.heap.size xkn w3) := Lib.hid (below_far HBUE.out hgrow (fun g e => by have h2 := Option.some.inj (show some (xkn.heap.size + 1) = some g from e); omega))
             have K36 := Lib.hid (K30.out.move HB36.out)
             have HVC := Lib.hid (HV3.out.grown hgrow (fun b o e he => by cases e; have h2 : xkn.heap.size = xkn.heap.size + 1 := he; omega))
             clear hown hgrow hnn))
        all_goals
          go_wp2
          go_ret
          exact ⟨rfl, (K9.out.here.1.1.1.1).1⟩
    ·
      clear h34
      obtain ⟨kk, hkk⟩ : ∃ k, len1 % NU = k := ⟨_, rfl⟩
      have hkN : kk < NU := hkk ▸ Nat.mod_lt _ (by have := HNU.out.1; omega)
      have hNU := HNU.out
      have R1 : (len1 : Int).tmod (NU : Int) = (kk : Int) := by rw [Int.tmod_eq_emod_of_nonneg (by omega), ← hkk]; omega
      have R2 : (len1 : Int) % (NU : Int) = (kk : Int) := by rw [← hkk]; omega
      have WR : IntKind.i64.wrap (kk : Int) = (kk : Int) := IntWalk.i64_in _ (by omega)
      have hN1 : ((NU : Int) == 0) = false := beq_eq_false_iff_ne.2 (by omega)
      have hNz : ¬ (NU : Int) = 0 := by omega
      have hk0 : (0 : Int) ≤ (kk : Int) := by omega
      have hkI : (kk : Int) < (NU : Int) := by omega
      obtain ⟨⟨un, up, uq⟩, hx⟩ : ∃ u, L[kk]? = some u := ⟨_, List.getElem?_eq_getElem (by have h := K23.out.here.1.1.1.2.1.1; omega)⟩
      obtain ⟨bu, ou, hAU⟩ := user_some K23.out.here.1.1.1.2.1 hx
      subst hAU
      have HXU := Lib.hid hx
      obtain ⟨q1, q2, q3⟩ := hz_v HZ.out
      obtain ⟨m1, m2, m3, m4, m5, m6, m7⟩ := user_mem q2 hx
      have hun : un.size ≤ 30 := by omega
      have hup : up.size ≤ 30 := by omega
      have hds : d.size ≤ 30 := HDS.out
      obtain ⟨ln0, hln0⟩ : ∃ x, (⟨#[82, 67, 80, 84, 32, 84, 79, 58, 60]⟩ ++ un : ByteArray) = x := ⟨_, rfl⟩
      have hln0s : ln0.size ≤ 50 := by rw [← hln0]; exact sz_app (show (⟨#[82, 67, 80, 84, 32, 84, 79, 58, 60]⟩ : ByteArray).size ≤ 20 by decide) hun (by decide)
      have hln0c : ¬ 9223372036854775807 < 9 + un.size := by have := (show 0 ≤ 0 by decide); have := hun; omega
      have hln0d : ¬ 9223372036854775807 < (⟨#[82, 67, 80, 84, 32, 84, 79, 58, 60]⟩ : ByteArray).size + un.size := hln0c
      obtain ⟨ln1, hln1⟩ : ∃ x, (ln0 ++ ⟨#[64]⟩ : ByteArray) = x := ⟨_, rfl⟩
      have hln1s : ln1.size ≤ 80 := by rw [← hln1]; exact sz_app hln0s (show (⟨#[64]⟩ : ByteArray).size ≤ 20 by decide) (by decide)
      have hln1c : ¬ 9223372036854775807 < ln0.size + 1 := by have := hln0s; have := (show 0 ≤ 0 by decide); omega
      have hln1d : ¬ 9223372036854775807 < ln0.size + (⟨#[64]⟩ : ByteArray).size := hln1c
      obtain ⟨ln2, hln2⟩ : ∃ x, (ln1 ++ d : ByteArray) = x := ⟨_, rfl⟩
      have hln2s : ln2.size ≤ 110 := by rw [← hln2]; exact sz_app hln1s hds (by decide)
      have hln2c : ¬ 9223372036854775807 < ln1.size + d.size := by have := hln1s; have := hds; omega
      obtain ⟨ln3, hln3⟩ : ∃ x, (ln2 ++ ⟨#[62]⟩ : ByteArray) = x := ⟨_, rfl⟩
      have hln3s : ln3.size ≤ 140 := by rw [← hln3]; exact sz_app hln2s (show (⟨#[62]⟩ : ByteArray).size ≤ 20 by decide) (by decide)
      have hln3c : ¬ 9223372036854775807 < ln2.size + 1 := by have := hln2s; have := (show 0 ≤ 0 by decide); omega
      have hln3d : ¬ 9223372036854775807 < ln2.size + (⟨#[62]⟩ : ByteArray).size := hln3c
      have lne : (⟨#[82, 67, 80, 84, 32, 84, 79, 58, 60]⟩ ++ un ++ ⟨#[64]⟩ ++ d ++ ⟨#[62]⟩ : ByteArray) = ln3 := by rw [hln0, hln1, hln2, hln3]
      have HLN : Hid (ln3.size ≤ 2000) := Lib.hid (show _ ≤ _ by omega)
      have HLI : LineIs ⟨4, us, T, tx⟩ L d ln3 (if un ∈ T then (⟨4, us, T, tx⟩, 250) else if 3 ≤ T.length then (⟨4, us, T, tx⟩, 452) else (⟨4, us, T ++ [un], eB⟩, 250)) := by
        rw [show ln3 = pathT bRCPT un d from by rw [← lne]; exact kb_inj (by rw [kb_path]; simp only [kb_cat]; simp [kb, bRCPT])]
        have h := li_to (L := L) (d := d) HZ.out (by simp) (by simp) m1 q3
        rw [if_neg (by simp), if_pos ⟨rfl, m3⟩] at h
        exact h
      have HNT : Hid (N = T.length) := Lib.hid (K23.out.here.1.1.2.2.1).symm
      have HT3 : Hid (T.length ≤ 3) := Lib.hid (sbV_has q1).2.1
      have HTS8 : Hid (∀ x ∈ T, x.size ≤ 8) := Lib.hid (sbV_has q1).2.2.1
      obtain ⟨uc0, -, -⟩ := user_cells K23.out.here.1.1.1.2.1 HXU.out
      cases hm : decide (un ∈ T) with
      | true =>
        have HMM := Lib.hid hm
        have HA : Hid (LineIs ⟨4, us, T, tx⟩ L d ln3 (⟨4, us, T, tx⟩, 250)) := Lib.hid (by have h := HLI; rw [if_pos (of_decide_eq_true hm)] at h; exact h)
        clear hm
        clear HLI m1 m2 m3 m4 m5 m6 m7 q1 q2 q3 hx lne
        have zs0 := K23.out.here.1.1.2.1.cell 0
        have zs1 := K23.out.here.1.1.2.1.cell 1
        have zs2 := K23.out.here.1.1.2.1.cell 2
        have zs3 := K23.out.here.1.1.2.1.cell 3
        simp only [List.getElem?_toArray, List.getElem?_cons_zero, List.getElem?_cons_succ] at zs0 zs1 zs2 zs3
        go_wp2_with fail
        refine (line_at HA.out _ K23.out.here.1.1.2.2 K23.out.here.1.1.1.2.1 K23.out.here.1.1.1.2.2 HUS.out HDS.out HLN.out).mono ?_
        rintro e w31 ⟨A31, N31, c31, rfl, hs, hb⟩
        obtain ⟨D31, hD⟩ : ∃ D, w31.heap.size = D := ⟨_, rfl⟩
        obtain ⟨v31, hw31⟩ : ∃ v, w31.alloc (.cells #[.int .i64 4, .string us, .slice A31 N31 c31, .string tx] 25) = v := ⟨_, rfl⟩
        have hb2 : Below w31.heap.size w31 v31 := by rw [← hw31]; exact below_new _ _
        have K31 := Lib.hid (((K23.out.move hb).move hb2).and (SV.made (s := ⟨4, us, T, tx⟩) hs hD hw31))
        clear hb hb2 hs
        clear zs0 zs1 zs2 zs3
        clear uc0
        have zs0 := K31.out.here.1.1.1.2.1.cell 0
        have zs1 := K31.out.here.1.1.1.2.1.cell 1
        have zs2 := K31.out.here.1.1.1.2.1.cell 2
        have zs3 := K31.out.here.1.1.1.2.1.cell 3
        simp only [List.getElem?_toArray, List.getElem?_cons_zero, List.getElem?_cons_succ] at zs0 zs1 zs2 zs3
        go_wp2_with fail
        refine (has_at HMM.out _ K31.out.here.1.1.1.2.2).mono ?_
        rintro e xkn ⟨rfl, hkw⟩
        subst hkw
        clear zs0 zs1 zs2 zs3
        have zx0 := K31.out.here.2.1.cell 0
        have zx1 := K31.out.here.2.1.cell 1
        have zx2 := K31.out.here.2.1.cell 2
        have zx3 := K31.out.here.2.1.cell 3
        have zs0 := K31.out.here.1.1.1.2.1.cell 0
        have zs1 := K31.out.here.1.1.1.2.1.cell 1
        have zs2 := K31.out.here.1.1.1.2.1.cell 2
        have zs3 := K31.out.here.1.1.1.2.1.cell 3
        simp only [List.getElem?_toArray, List.getElem?_cons_zero, List.getElem?_cons_succ] at zx0 zx1 zx2 zx3 zs0 zs1 zs2 zs3
        go_wp2_with fail
        refine (same_sub _ K31.out.here.2.2 K31.out.here.1.1.1.2.2).mono ?_
        rintro e x11w ⟨rfl, hb⟩
        have K32 := Lib.hid (K31.out.move hb)
        clear hb
        clear zx0 zx1 zx2 zx3 zs0 zs1 zs2 zs3
        go_wp2
        go_ret
        exact ⟨rfl, K32.out.here.1.1.1.1.1⟩
      | false =>
        have HMM := Lib.hid hm
        by_cases h3 : 3 ≤ T.length
        ·
          have HA : Hid (LineIs ⟨4, us, T, tx⟩ L d ln3 (⟨4, us, T, tx⟩, 452)) := Lib.hid (by have h := HLI; rw [if_neg (of_decide_eq_false hm), if_pos h3] at h; exact h)
          have hN3 : (3 : Int) ≤ (N : Int) := by have := HNT.out; omega
          clear hm h3
          clear HLI m1 m2 m3 m4 m5 m6 m7 q1 q2 q3 hx lne
          have zs0 := K23.out.here.1.1.2.1.cell 0
          have zs1 := K23.out.here.1.1.2.1.cell 1
          have zs2 := K23.out.here.1.1.2.1.cell 2
          have zs3 := K23.out.here.1.1.2.1.cell 3
          simp only [List.getElem?_toArray, List.getElem?_cons_zero, List.getElem?_cons_succ] at zs0 zs1 zs2 zs3
          go_wp2_with fail
          refine (line_at HA.out _ K23.out.here.1.1.2.2 K23.out.here.1.1.1.2.1 K23.out.here.1.1.1.2.2 HUS.out HDS.out HLN.out).mono ?_
          rintro e w33 ⟨A33, N33, c33, rfl, hs, hb⟩
          obtain ⟨D33, hD⟩ : ∃ D, w33.heap.size = D := ⟨_, rfl⟩
          obtain ⟨v33, hw33⟩ : ∃ v, w33.alloc (.cells #[.int .i64 4, .string us, .slice A33 N33 c33, .string tx] 25) = v := ⟨_, rfl⟩
          have hb2 : Below w33.heap.size w33 v33 := by rw [← hw33]; exact below_new _ _
          have K33 := Lib.hid (((K23.out.move hb).move hb2).and (SV.made (s := ⟨4, us, T, tx⟩) hs hD hw33))
          clear hb hb2 hs
          clear zs0 zs1 zs2 zs3
          clear uc0
          have zs0 := K33.out.here.1.1.1.2.1.cell 0
          have zs1 := K33.out.here.1.1.1.2.1.cell 1
          have zs2 := K33.out.here.1.1.1.2.1.cell 2
          have zs3 := K33.out.here.1.1.1.2.1.cell 3
          simp only [List.getElem?_toArray, List.getElem?_cons_zero, List.getElem?_cons_succ] at zs0 zs1 zs2 zs3
          go_wp2_with fail
          refine (has_at HMM.out _ K33.out.here.1.1.1.2.2).mono ?_
          rintro e xkn ⟨rfl, hkw⟩
          subst hkw
          clear zs0 zs1 zs2 zs3
          have zx0 := K33.out.here.2.1.cell 0
          have zx1 := K33.out.here.2.1.cell 1
          have zx2 := K33.out.here.2.1.cell 2
          have zx3 := K33.out.here.2.1.cell 3
          have zs0 := K33.out.here.1.1.1.2.1.cell 0
          have zs1 := K33.out.here.1.1.1.2.1.cell 1
          have zs2 := K33.out.here.1.1.1.2.1.cell 2
          have zs3 := K33.out.here.1.1.1.2.1.cell 3
          simp only [List.getElem?_toArray, List.getElem?_cons_zero, List.getElem?_cons_succ] at zx0 zx1 zx2 zx3 zs0 zs1 zs2 zs3
          go_wp2_with fail
          refine (same_sub _ K33.out.here.2.2 K33.out.here.1.1.1.2.2).mono ?_
          rintro e x13w ⟨rfl, hb⟩
          have K34 := Lib.hid (K33.out.move hb)
          clear hb
          clear zx0 zx1 zx2 zx3 zs0 zs1 zs2 zs3
          go_wp2
          go_ret
          exact ⟨rfl, K34.out.here.1.1.1.1.1⟩
        have HA : Hid (LineIs ⟨4, us, T, tx⟩ L d ln3 (⟨4, us, T ++ [un], eB⟩, 250)) := Lib.hid (by have h := HLI; rw [if_neg (of_decide_eq_false hm), if_neg h3] at h; exact h)
        have hN3 : ¬ (3 : Int) ≤ (N : Int) := by have := HNT.out; omega
        have HN2 : Hid (N ≤ 2) := Lib.hid (by have := HNT.out; show _ ≤ _; omega)
        clear hm h3
        clear HLI m1 m2 m3 m4 m5 m6 m7 q1 q2 q3 hx lne
        have zs0 := K23.out.here.1.1.2.1.cell 0
        have zs1 := K23.out.here.1.1.2.1.cell 1
        have zs2 := K23.out.here.1.1.2.1.cell 2
        have zs3 := K23.out.here.1.1.2.1.cell 3
        simp only [List.getElem?_toArray, List.getElem?_cons_zero, List.getElem?_cons_succ] at zs0 zs1 zs2 zs3
        go_wp2_with fail
        refine (line_at HA.out _ K23.out.here.1.1.2.2 K23.out.here.1.1.1.2.1 K23.out.here.1.1.1.2.2 HUS.out HDS.out HLN.out).mono ?_
        rintro e w35 ⟨A35, N35, c35, rfl, hs, hb⟩
        obtain ⟨D35, hD⟩ : ∃ D, w35.heap.size = D := ⟨_, rfl⟩
        obtain ⟨v35, hw35⟩ : ∃ v, w35.alloc (.cells #[.int .i64 4, .string us, .slice A35 N35 c35, .string eB] 25) = v := ⟨_, rfl⟩
        have hb2 : Below w35.heap.size w35 v35 := by rw [← hw35]; exact below_new _ _
        have K35 := Lib.hid (((K23.out.move hb).move hb2).and (SV.made (s := ⟨4, us, (T ++ [un]), eB⟩) hs hD hw35))
        clear hb hb2 hs
        clear zs0 zs1 zs2 zs3
        clear uc0
        have zs0 := K35.out.here.1.1.1.2.1.cell 0
        have zs1 := K35.out.here.1.1.1.2.1.cell 1
        have zs2 := K35.out.here.1.1.1.2.1.cell 2
        have zs3 := K35.out.here.1.1.1.2.1.cell 3
        simp only [List.getElem?_toArray, List.getElem?_cons_zero, List.getElem?_cons_succ] at zs0 zs1 zs2 zs3
        go_wp2_with fail
        refine (has_at HMM.out _ K35.out.here.1.1.1.2.2).mono ?_
        rintro e xkn ⟨rfl, hkw⟩
        subst hkw
        clear zs0 zs1 zs2 zs3
        obtain ⟨i0, hi0, hq0, hq1, hq2⟩ := info_parts Tryz.infoString
        have hn2 := HN2.out
        have hml1 : 0 + N ≤ maxLen := by unfold maxLen; omega
        have hby1 : (0 + N) * 16 ≤ 140737488355328 := by omega
        have hml2 : N + 1 ≤ maxLen := by unfold maxLen; omega
        have hby2 : (N + 1) * 16 ≤ 140737488355328 := by omega
        have HTN : Hid (T.length = N) := Lib.hid HNT.out.symm
        have HBd : Hid (Below xkn.heap.size xkn xkn.drew) := Lib.hid (below_drew1 xkn)
        have Kd := Lib.hid (K35.out.move HBd.out)
        have HBE : Hid (Below xkn.heap.size xkn (xkn.drew.alloc (.cells #[] 9))) := Lib.hid (HBd.out.alloc HBd.out.size _)
        have KE := Lib.hid (K35.out.move HBE.out)
        have HBEU : Hid (Below xkn.heap.size xkn ((xkn.drew.alloc (.cells #[] 9)).alloc (.cells #[.string un] 9))) := Lib.hid (HBE.out.alloc HBE.out.size _)
        have KEU := Lib.hid (K35.out.move HBEU.out)
        have HBU : Hid (Below xkn.heap.size xkn (xkn.drew.alloc (.cells #[.string un] 9))) := Lib.hid (HBd.out.alloc HBd.out.size _)
        have KU := Lib.hid (K35.out.move HBU.out)
        have HBUE : Hid (Below xkn.heap.size xkn ((xkn.drew.alloc (.cells #[.string un] 9)).alloc (.cells #[] 9))) := Lib.hid (HBU.out.alloc HBU.out.size _)
        have KUE := Lib.hid (K35.out.move HBUE.out)
        have HO1 : Hid (ROwn stR (xkn.drew.alloc (.cells #[] 9)) xkn.heap.size (.slice (some ⟨xkn.heap.size, 0, none⟩) 0 0) []) := Lib.hid (ROwn.lit (R := stR) xkn.drew xkn.heap.size (Nat.le_refl _) rfl)
        have HO2 := Lib.hid (HO1.out.alloc (.cells #[.string un] 9))
        have HO3 : Hid (ROwn stR ((xkn.drew.alloc (.cells #[.string un] 9)).alloc (.cells #[] 9)) xkn.heap.size (.slice (some ⟨xkn.heap.size + 1, 0, none⟩) 0 0) []) := Lib.hid (ROwn.lit (R := stR) (xkn.drew.alloc (.cells #[.string un] 9)) (xkn.heap.size + 1) (by simp) (by simp))
        have HV2 : Hid (RAt stR ((xkn.drew.alloc (.cells #[] 9)).alloc (.cells #[.string un] 9)) (some ⟨xkn.heap.size + 1, 0, none⟩) [un]) := Lib.hid (RAt.made stR (xkn.drew.alloc (.cells #[] 9)) [un] _ (by simp))
        have HV3 : Hid (RAt stR ((xkn.drew.alloc (.cells #[.string un] 9)).alloc (.cells #[] 9)) (some ⟨xkn.heap.size, 0, none⟩) [un]) := Lib.hid (RAt.below (B := (xkn.drew.alloc (.cells #[.string un] 9)).heap.size) (RAt.made stR xkn.drew [un] _ rfl) (below_new _ _) (Nat.le_refl _))
        have zs0 := K35.out.here.1.1.1.2.1.cell 0
        have zs1 := K35.out.here.1.1.1.2.1.cell 1
        have zs2 := K35.out.here.1.1.1.2.1.cell 2
        have zs3 := K35.out.here.1.1.1.2.1.cell 3
        have zx0 := K35.out.here.2.1.cell 0
        have zx1 := K35.out.here.2.1.cell 1
        have zx2 := K35.out.here.2.1.cell 2
        have zx3 := K35.out.here.2.1.cell 3
        simp only [List.getElem?_toArray, List.getElem?_cons_zero, List.getElem?_cons_succ] at zs0 zs1 zs2 zs3 zx0 zx1 zx2 zx3
        go_upto_region 14 with fail
        go_region_held3 (fun w' => w'.cell? ⟨D35, 0, none⟩ = some (.int .i64 4) ∧ w'.cell? ⟨D35, 1, none⟩ = some (.string us) ∧ w'.cell? ⟨D35, 2, none⟩ = some (.slice A35 N35 c35) ∧ w'.cell? ⟨D35, 3, none⟩ = some (.string eB) ∧ w'.cell? ⟨D, 1, none⟩ = some (.string us) ∧ w'.cell? ⟨D, 2, none⟩ = some (.slice A N cap)) (first | exact ⟨(K9.out.here.2).1.cell 0, (K9.out.here.2).1.cell 1, (K9.out.here.2).1.cell 2, (K9.out.here.2).1.cell 3, (K9.out.here.1.1.1.2).1.cell 1, (K9.out.here.1.1.1.2).1.cell 2⟩ | exact ⟨(K8.out.here.2).1.cell 0, (K8.out.here.2).1.cell 1, (K8.out.here.2).1.cell 2, (K8.out.here.2).1.cell 3, (K8.out.here.1.1.1.2).1.cell 1, (K8.out.here.1.1.1.2).1.cell 2⟩ | exact ⟨((K16.out.alloc _).here.2).1.cell 0, ((K16.out.alloc _).here.2).1.cell 1, ((K16.out.alloc _).here.2).1.cell 2, ((K16.out.alloc _).here.2).1.cell 3, ((K16.out.alloc _).here.1.1.1.2).1.cell 1, ((K16.out.alloc _).here.1.1.1.2).1.cell 2⟩ | exact ⟨(K16.out.here.2).1.cell 0, (K16.out.here.2).1.cell 1, (K16.out.here.2).1.cell 2, (K16.out.here.2).1.cell 3, (K16.out.here.1.1.1.2).1.cell 1, (K16.out.here.1.1.1.2).1.cell 2⟩ | exact ⟨(K26.out.here.2).1.cell 0, (K26.out.here.2).1.cell 1, (K26.out.here.2).1.cell 2, (K26.out.here.2).1.cell 3, (K26.out.here.1.1.1.2).1.cell 1, (K26.out.here.1.1.1.2).1.cell 2⟩ | exact ⟨(K36.out.here.2).1.cell 0, (K36.out.here.2).1.cell 1, (K36.out.here.2).1.cell 2, (K36.out.here.2).1.cell 3, (K36.out.here.1.1.1.2).1.cell 1, (K36.out.here.1.1.1.2).1.cell 2⟩ | exact ⟨(KEU.out.here.2).1.cell 0, (KEU.out.here.2).1.cell 1, (KEU.out.here.2).1.cell 2, (KEU.out.here.2).1.cell 3, (KEU.out.here.1.1.1.2).1.cell 1, (KEU.out.here.1.1.1.2).1.cell 2⟩ | exact ⟨(KUE.out.here.2).1.cell 0, (KUE.out.here.2).1.cell 1, (KUE.out.here.2).1.cell 2, (KUE.out.here.2).1.cell 3, (KUE.out.here.1.1.1.2).1.cell 1, (KUE.out.here.1.1.1.2).1.cell 2⟩ | exact ⟨(KE.out.here.2).1.cell 0, (KE.out.here.2).1.cell 1, (KE.out.here.2).1.cell 2, (KE.out.here.2).1.cell 3, (KE.out.here.1.1.1.2).1.cell 1, (KE.out.here.1.1.1.2).1.cell 2⟩ | exact ⟨(KU.out.here.2).1.cell 0, (KU.out.here.2).1.cell 1, (KU.out.here.2).1.cell 2, (KU.out.here.2).1.cell 3, (KU.out.here.1.1.1.2).1.cell 1, (KU.out.here.1.1.1.2).1.cell 2⟩ | exact ⟨(Kd.out.here.2).1.cell 0, (Kd.out.here.2).1.cell 1, (Kd.out.here.2).1.cell 2, (Kd.out.here.2).1.cell 3, (Kd.out.here.1.1.1.2).1.cell 1, (Kd.out.here.1.1.1.2).1.cell 2⟩ | go_keep) (first
          | (have hq := HO8
             clear hq
             go_at_call 24
             refine (same_sub (st := 4) (us := us) (tx := eB) (T := T ++ [un]) w8 (K8.out.here.2).2 (SIn.made HO8.out (by rw [List.length_append, HTN.out]; simp; omega) (fun g hg => by
               rcases List.mem_append.1 hg with h1 | h1
               · exact Nat.le_trans (HTS8.out g h1) (by omega)
               · simp at h1; rw [h1]; have := hun; omega))).mono ?_
             rintro e w9 ⟨rfl, hb⟩
             have K9 := Lib.hid (K8.out.move hb)
             clear hb)
          | (have hq := HO16
             clear hq
             refine step_append_rows_g (by rfl) (.tmp 133) (.tmp 135) 23 rfl stR xkn.heap.size i0 _ 16 Tryz.underlying23 hi0 hq0 hq1 hq2 rfl (by decide) _ T [un] N HTN.out rfl (HO16.out.alloc (.cells #[.string un] 9)) (some ⟨w1.heap.size, 0, none⟩) 1 1 rfl rfl (RAt.made stR w1 [un] _ rfl) (fun e => by cases e) (fun q e => by cases e; rfl) hml2 hby2 (by have := HB16.out.size; simp; omega) ?_
             intro v' w8 hown hgrow hnn
             obtain ⟨A8, N8, c8, rfl⟩ := hown.val
             have HO8 := Lib.hid hown
             have HB8 : Hid (Below xkn.heap.size xkn w8) := Lib.hid (below_far (HB16.out.alloc HB16.out.size (.cells #[.string un] 9)) hgrow (fun g e => by have h1 := (World.ownsRow.lt (HO16.out.alloc (.cells #[.string un] 9)) _ e).1; exact h1))
             have K8 := Lib.hid (K35.out.move HB8.out)
             clear hown hgrow hnn)
          | (have hq := HO26
             clear hq
             refine step_append_rows_g (by rfl) (.tmp 133) (.tmp 135) 23 rfl stR xkn.heap.size i0 _ 16 Tryz.underlying23 hi0 hq0 hq1 hq2 rfl (by decide) _ T [un] N HTN.out rfl HO26.out (some ⟨xkn.heap.size + 1, 0, none⟩) 1 1 rfl rfl HVB.out (fun e => by cases e) (fun q e => by cases e; rfl) hml2 hby2 HB26.out.size ?_
             intro v' w8 hown hgrow hnn
             obtain ⟨A8, N8, c8, rfl⟩ := hown.val
             have HO8 := Lib.hid hown
             have HB8 : Hid (Below xkn.heap.size xkn w8) := Lib.hid (below_far HB26.out hgrow (fun g e => by have h1 := (World.ownsRow.lt HO26.out _ e).1; exact h1))
             have K8 := Lib.hid (K35.out.move HB8.out)
             clear hown hgrow hnn)
          | (have hq := HO36
             clear hq
             refine step_append_rows_g (by rfl) (.tmp 133) (.tmp 135) 23 rfl stR xkn.heap.size i0 _ 16 Tryz.underlying23 hi0 hq0 hq1 hq2 rfl (by decide) _ T [un] N HTN.out rfl HO36.out (some ⟨xkn.heap.size, 0, none⟩) 1 1 rfl rfl HVC.out (fun e => by cases e) (fun q e => by cases e; rfl) hml2 hby2 HB36.out.size ?_
             intro v' w8 hown hgrow hnn
             obtain ⟨A8, N8, c8, rfl⟩ := hown.val
             have HO8 := Lib.hid hown
             have HB8 : Hid (Below xkn.heap.size xkn w8) := Lib.hid (below_far HB36.out hgrow (fun g e => by have h1 := (World.ownsRow.lt HO36.out _ e).1; exact h1))
             have K8 := Lib.hid (K35.out.move HB8.out)
             clear hown hgrow hnn)
          | (with_reducible refine at_world ((xkn.alloc (.cells #[] 9)).drew) ?_
             refine step_append_rows_g (by rfl) (.tmp 130) (.tmp 132) 23 rfl stR xkn.heap.size i0 _ 16 Tryz.underlying23 hi0 hq0 hq1 hq2 rfl (by decide) _ [] T 0 rfl rfl HO1.out A N cap rfl HTN.out (KE.out.here.1.1.1.2).2.2.2.1 (KE.out.here.1.1.1.2).2.2.2.2.1 (KE.out.here.1.1.1.2).2.2.2.2.2.1 hml1 hby1 HBE.out.size ?_
             intro v' w1 hown hgrow hnn
             rw [List.nil_append] at hown
             obtain ⟨A6, N6, c6, rfl⟩ := hown.val
             have hN6 : N = N6 := (hown.len.1.trans HTN.out).symm
             subst hN6
             have HO16 := Lib.hid hown
             have HB16 : Hid (Below xkn.heap.size xkn w1) := Lib.hid (below_far HBE.out hgrow (fun g e => by have h2 := Option.some.inj (show some (xkn.heap.size) = some g from e); omega))
             have K16 := Lib.hid (K35.out.move HB16.out)
             clear hown hgrow hnn)
          | (with_reducible refine at_world (((xkn.alloc (.cells #[] 9)).alloc (.cells #[.string un] 9)).drew) ?_
             refine step_append_rows_g (by rfl) (.tmp 130) (.tmp 132) 23 rfl stR xkn.heap.size i0 _ 16 Tryz.underlying23 hi0 hq0 hq1 hq2 rfl (by decide) _ [] T 0 rfl rfl HO2.out A N cap rfl HTN.out (KEU.out.here.1.1.1.2).2.2.2.1 (KEU.out.here.1.1.1.2).2.2.2.2.1 (KEU.out.here.1.1.1.2).2.2.2.2.2.1 hml1 hby1 HBEU.out.size ?_
             intro v' w2 hown hgrow hnn
             rw [List.nil_append] at hown
             obtain ⟨A6, N6, c6, rfl⟩ := hown.val
             have hN6 : N = N6 := (hown.len.1.trans HTN.out).symm
             subst hN6
             have HO26 := Lib.hid hown
             have HB26 : Hid (Below xkn.heap.size xkn w2) := Lib.hid (below_far HBEU.out hgrow (fun g e => by have h2 := Option.some.inj (show some (xkn.heap.size) = some g from e); omega))
             have K26 := Lib.hid (K35.out.move HB26.out)
             have HVB := Lib.hid (HV2.out.grown hgrow (fun b o e he => by cases e; have h2 : xkn.heap.size + 1 = xkn.heap.size := he; omega))
             clear hown hgrow hnn)
          | (with_reducible refine at_world (((xkn.alloc (.cells #[.string un] 9)).alloc (.cells #[] 9)).drew) ?_
             refine step_append_rows_g (by rfl) (.tmp 130) (.tmp 132) 23 rfl stR xkn.heap.size i0 _ 16 Tryz.underlying23 hi0 hq0 hq1 hq2 rfl (by decide) _ [] T 0 rfl rfl HO3.out A N cap rfl HTN.out (KUE.out.here.1.1.1.2).2.2.2.1 (KUE.out.here.1.1.1.2).2.2.2.2.1 (KUE.out.here.1.1.1.2).2.2.2.2.2.1 hml1 hby1 HBUE.out.size ?_
             intro v' w3 hown hgrow hnn
             rw [List.nil_append] at hown
             obtain ⟨A6, N6, c6, rfl⟩ := hown.val
             have hN6 : N = N6 := (hown.len.1.trans HTN.out).symm
             subst hN6
             have HO36 := Lib.hid hown
             have HB36 : Hid (Below xkn.heap.size xkn w3) := Lib.hid (below_far HBUE.out hgrow (fun g e => by have h2 := Option.some.inj (show some (xkn.heap.size + 1) = some g from e); omega))
             have K36 := Lib.hid (K35.out.move HB36.out)
             have HVC := Lib.hid (HV3.out.grown hgrow (fun b o e he => by cases e; have h2 : xkn.heap.size = xkn.heap.size + 1 := he; omega))
             clear hown hgrow hnn))
        all_goals
          go_wp2
          go_ret
          exact ⟨rfl, (K9.out.here.1.1.1.1).1⟩
end Go.Proofs.YtichajalinkcdaaGreatDoor
