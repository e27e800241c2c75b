/-
  The walks of the laws FnText. Condition: the code can be read.
-/
import Derived.Test.YtichajalinkcdaaGreatDoorQk
namespace Go.Proofs.YtichajalinkcdaaGreatDoor
open Go.RowKit
set_option linter.unusedVariables false

set_option maxRecDepth 20000 in
set_option maxHeartbeats 8000000 in
theorem law_FnText (A0 : Option Addr) (len cap0 : Nat) (w : World) (h : Coded w A0 len cap0) (hm : MxS w) : Calls Tryz.prog 16 #[.slice A0 len cap0] w (Holds1 w) := by
  have HC := Lib.hid h
  have HM := Lib.hid hm
  clear h hm
  by_cases hlen : 1048576 < len
  ·
    have hlenI : (1048576 : Int) < (len : Int) := by omega
    go_enter Tryz.func16, Tryz.ntmps16
    go_wp2
    go_ret
    exact ⟨rfl, Below.refl _ _⟩
  have hlenJ : ¬ (1048576 : Int) < (len : Int) := by omega
  go_enter Tryz.func16, Tryz.ntmps16
  go_wp2_with fail
  refine (draw_subline A0 len cap0 w HC.out).mono ?_
  rintro e w1 ⟨st, us, tx, d, l, A, AU, N, cap, NU, cU, T, L, rfl, hus, htx, hl, hT, ho, hu, hd, hll⟩
  obtain ⟨D, hD⟩ : ∃ D, w1.heap.size = D := ⟨_, rfl⟩
  obtain ⟨w2, hw2⟩ : ∃ w2, w1.alloc (.cells #[.int .i64 st, .string us, .slice A N cap, .string tx] 25) = w2 := ⟨_, rfl⟩
  have hs1 : SIn w1 A N cap T := SIn.made ho (by omega) (fun g hg => by have := hT g hg; omega)
  have hb2 : Below w1.heap.size w1 w2 := by rw [← hw2]; exact below_new _ _
  have K2 := Lib.hid (((UV.made hu.2.2.2.2 hu.uin HM.out).move hb2).and (SV.made (s := ⟨st, us, T, tx⟩) hs1 hD hw2))
  have HUS : Hid (us.size ≤ 30) := Lib.hid hus
  have HDS : Hid (d.size ≤ 30) := Lib.hid hd
  have HLS : Hid (l.size ≤ 200) := Lib.hid hll
  have HNU : Hid (1 ≤ NU ∧ NU ≤ 5) := Lib.hid ⟨hu.1, hu.2.1⟩
  have HUL : Hid (∀ g ∈ L, g.1.size ≤ 30 ∧ g.2.1.size ≤ 30) := Lib.hid hu.2.2.1
  have HTX : Hid (tx.size ≤ 30) := Lib.hid htx
  clear hus htx hl hT ho hu hd hll hs1 hb2
  obtain ⟨⟨⟨st1, us1, T1, tx1⟩, n1⟩, hr, hrv⟩ := lineIs_any ⟨st, us, T, tx⟩ L d l
  have HR := Lib.hid hr
  have HRV := Lib.hid hrv
  clear hr hrv
  have zs0 := K2.out.here.2.1.cell 0
  have zs1 := K2.out.here.2.1.cell 1
  have zs2 := K2.out.here.2.1.cell 2
  have zs3 := K2.out.here.2.1.cell 3
  simp only [List.getElem?_toArray, List.getElem?_cons_zero, List.getElem?_cons_succ] at zs0 zs1 zs2 zs3
  go_wp2_with fail
  refine (line_at HR.out _ K2.out.here.2.2 K2.out.here.1.2.1 K2.out.here.1.2.2 HUS.out HDS.out (by have := HLS.out; omega)).mono ?_
  rintro e w21 ⟨A21, N21, c21, rfl, hs, hb⟩
  obtain ⟨D21, hD⟩ : ∃ D, w21.heap.size = D := ⟨_, rfl⟩
  obtain ⟨v21, hw21⟩ : ∃ v, w21.alloc (.cells #[.int .i64 st1, .string us1, .slice A21 N21 c21, .string tx1] 25) = v := ⟨_, rfl⟩
  have hb2 : Below w21.heap.size w21 v21 := by rw [← hw21]; exact below_new _ _
  have K21 := Lib.hid (((K2.out.move hb).move hb2).and (SV.made (s := ⟨st1, us1, T1, tx1⟩) hs hD hw21))
  clear hb hb2 hs
  clear zs0 zs1 zs2 zs3
  have zs0 := K21.out.here.1.2.1.cell 0
  have zs1 := K21.out.here.1.2.1.cell 1
  have zs2 := K21.out.here.1.2.1.cell 2
  have zs3 := K21.out.here.1.2.1.cell 3
  simp only [List.getElem?_toArray, List.getElem?_cons_zero, List.getElem?_cons_succ] at zs0 zs1 zs2 zs3
  go_wp2_with fail
  refine (sline_at HR.out _ K21.out.here.1.2.2 K21.out.here.1.1.2.1 HUS.out HDS.out (by have := HLS.out; omega)).mono ?_
  rintro e w22 ⟨A22, N22, c22, rfl, hs, hb⟩
  obtain ⟨D22, hD⟩ : ∃ D, w22.heap.size = D := ⟨_, rfl⟩
  obtain ⟨v22, hw22⟩ : ∃ v, w22.alloc (.cells #[.int .i64 st1, .string us1, .slice A22 N22 c22, .string tx1] 25) = v := ⟨_, rfl⟩
  have hb2 : Below w22.heap.size w22 v22 := by rw [← hw22]; exact below_new _ _
  have K22 := Lib.hid (((K21.out.move hb).move hb2).and (SV.made (s := ⟨st1, us1, T1, tx1⟩) hs hD hw22))
  clear hb hb2 hs
  clear zs0 zs1 zs2 zs3
  have zo0 := K22.out.here.1.2.1.cell 0
  have zo1 := K22.out.here.1.2.1.cell 1
  have zo2 := K22.out.here.1.2.1.cell 2
  have zo3 := K22.out.here.1.2.1.cell 3
  have zt0 := K22.out.here.2.1.cell 0
  have zt1 := K22.out.here.2.1.cell 1
  have zt2 := K22.out.here.2.1.cell 2
  have zt3 := K22.out.here.2.1.cell 3
  simp only [List.getElem?_toArray, List.getElem?_cons_zero, List.getElem?_cons_succ] at zo0 zo1 zo2 zo3 zt0 zt1 zt2 zt3
  go_wp2_with fail
  refine (same_sub _ K22.out.here.1.2.2 K22.out.here.2.2).mono ?_
  rintro e x2w ⟨rfl, hb⟩
  have K23 := Lib.hid (K22.out.move hb)
  clear hb
  clear zo0 zo1 zo2 zo3 zt0 zt1 zt2 zt3
  cases hz : (sbV ⟨st, us, T, tx⟩ && (vU L && domB (kb d))) with
  | false =>
    have e0 : n1 = -1 := congrArg Prod.snd (HR.out.off hz)
    subst e0
    clear hz
    have zo0 := K23.out.here.1.2.1.cell 0
    have zo1 := K23.out.here.1.2.1.cell 1
    have zo2 := K23.out.here.1.2.1.cell 2
    have zo3 := K23.out.here.1.2.1.cell 3
    have zt0 := K23.out.here.2.1.cell 0
    have zt1 := K23.out.here.2.1.cell 1
    have zt2 := K23.out.here.2.1.cell 2
    have zt3 := K23.out.here.2.1.cell 3
    simp only [List.getElem?_toArray, List.getElem?_cons_zero, List.getElem?_cons_succ] at zo0 zo1 zo2 zo3 zt0 zt1 zt2 zt3
    go_wp2_with fail
    refine (same_sub _ K23.out.here.1.2.2 K23.out.here.2.2).mono ?_
    rintro e x3w ⟨rfl, hb⟩
    have K24 := Lib.hid (K23.out.move hb)
    clear hb
    clear zo0 zo1 zo2 zo3 zt0 zt1 zt2 zt3
    go_wp2
    go_ret
    exact ⟨rfl, K24.out.here.1.1.1.1⟩
  | true =>
    have h0 : ¬ n1 < 0 := by have h := HR.out.on hz; simp only at h; omega
    have HZ := Lib.hid hz
    clear hz
    by_cases hst : st ≠ 5
    ·
      have hst' : (st != 5) = true := bne_iff_ne.2 hst
      clear hst
      have zs0 := K23.out.here.1.1.2.1.cell 0
      have zs1 := K23.out.here.1.1.2.1.cell 1
      have zs2 := K23.out.here.1.1.2.1.cell 2
      have zs3 := K23.out.here.1.1.2.1.cell 3
      simp only [List.getElem?_toArray, List.getElem?_cons_zero, List.getElem?_cons_succ] at zs0 zs1 zs2 zs3
      have yo0 := K23.out.here.1.2.1.cell 0
      have yo1 := K23.out.here.1.2.1.cell 1
      have yo2 := K23.out.here.1.2.1.cell 2
      have yo3 := K23.out.here.1.2.1.cell 3
      have yt0 := K23.out.here.2.1.cell 0
      have yt1 := K23.out.here.2.1.cell 1
      have yt2 := K23.out.here.2.1.cell 2
      have yt3 := K23.out.here.2.1.cell 3
      simp only [List.getElem?_toArray, List.getElem?_cons_zero, List.getElem?_cons_succ] at yo0 yo1 yo2 yo3 yt0 yt1 yt2 yt3
      go_wp2_with fail
      refine (same_sub _ K23.out.here.1.2.2 K23.out.here.2.2).mono ?_
      rintro e x4w ⟨rfl, hb⟩
      have K25 := Lib.hid (K23.out.move hb)
      clear hb
      go_wp2
      go_ret
      exact ⟨rfl, K25.out.here.1.1.1.1⟩
    obtain rfl : st = 5 := by omega
    clear hst
    by_cases hd46 : l = ⟨#[46]⟩
    ·
      have hlit : l.toList = [46] := by rw [hd46, ByteArray.toList_eq]
      clear hd46
      have zs0 := K23.out.here.1.1.2.1.cell 0
      have zs1 := K23.out.here.1.1.2.1.cell 1
      have zs2 := K23.out.here.1.1.2.1.cell 2
      have zs3 := K23.out.here.1.1.2.1.cell 3
      simp only [List.getElem?_toArray, List.getElem?_cons_zero, List.getElem?_cons_succ] at zs0 zs1 zs2 zs3
      have yo0 := K23.out.here.1.2.1.cell 0
      have yo1 := K23.out.here.1.2.1.cell 1
      have yo2 := K23.out.here.1.2.1.cell 2
      have yo3 := K23.out.here.1.2.1.cell 3
      have yt0 := K23.out.here.2.1.cell 0
      have yt1 := K23.out.here.2.1.cell 1
      have yt2 := K23.out.here.2.1.cell 2
      have yt3 := K23.out.here.2.1.cell 3
      simp only [List.getElem?_toArray, List.getElem?_cons_zero, List.getElem?_cons_succ] at yo0 yo1 yo2 yo3 yt0 yt1 yt2 yt3
      go_wp2_with fail
      refine (same_sub _ K23.out.here.1.2.2 K23.out.here.2.2).mono ?_
      rintro e x5w ⟨rfl, hb⟩
      have K26 := Lib.hid (K23.out.move hb)
      clear hb
      go_wp2
      go_ret
      exact ⟨rfl, K26.out.here.1.1.1.1⟩
    obtain ⟨l1, l2, l3⟩ := lit_walk (xs := [46]) rfl hd46
    have e := LineIs.one (li_5 (l := l) HZ.out rfl) HR.out
    unfold dataF at e
    rw [if_neg hd46] at e
    simp only [Prod.mk.injEq, Sb.mk.injEq] at e
    obtain ⟨⟨rfl, rfl, rfl, e5⟩, rfl⟩ := e
    clear hd46
    have htx := HTX.out
    have hls := HLS.out
    by_cases he : l = ⟨#[]⟩
    ·
      subst he
      have e5' : (tx ++ ⟨#[]⟩ ++ ⟨#[10]⟩).extract 0 21 = tx1 := by rw [← e5]; rfl
      clear e5
      have hsz : (tx ++ (⟨#[]⟩ : ByteArray) ++ (⟨#[10]⟩ : ByteArray)).size = tx.size + ((⟨#[]⟩ : ByteArray)).size + 1 := by rw [ByteArray.size_append, ByteArray.size_append]; rfl
      by_cases h21 : tx.size + ((⟨#[]⟩ : ByteArray)).size + 1 ≤ 21
      ·
        have e2 : tx ++ (⟨#[]⟩ : ByteArray) ++ ⟨#[10]⟩ = tx1 := by rw [← e5']; exact (ext_full (by rw [hsz]; omega)).symm
        have h21' : ¬ (21 : Int) < (tx1.size : Int) := by rw [← e2, hsz]; omega
        clear e5'
        clear h21 hsz
        have zs0 := K23.out.here.1.1.2.1.cell 0
        have zs1 := K23.out.here.1.1.2.1.cell 1
        have zs2 := K23.out.here.1.1.2.1.cell 2
        have zs3 := K23.out.here.1.1.2.1.cell 3
        simp only [List.getElem?_toArray, List.getElem?_cons_zero, List.getElem?_cons_succ] at zs0 zs1 zs2 zs3
        obtain ⟨D27, hD⟩ : ∃ D, x2w.heap.size = D := ⟨_, rfl⟩
        obtain ⟨v27, hw27⟩ : ∃ v, x2w.alloc (.cells #[.int .i64 5, .string us, .slice A N cap, .string (tx1)] 25) = v := ⟨_, rfl⟩
        have hb2 : Below x2w.heap.size x2w v27 := by rw [← hw27]; exact below_new _ _
        have K27 := Lib.hid ((K23.out.move hb2).and (SV.made (s := ⟨5, us, T, (tx1)⟩) K23.out.here.1.1.2.2 hD hw27))
        clear hb2
        have zq27 := (K23.out.here.1.1.2.1.alloc (.cells #[.int .i64 5, .string us, .slice A N cap, .string tx] 25)).cell 3
        simp only [List.getElem?_toArray, List.getElem?_cons_zero, List.getElem?_cons_succ] at zq27
        have yo0 := K27.out.here.1.1.2.1.cell 0
        have yo1 := K27.out.here.1.1.2.1.cell 1
        have yo2 := K27.out.here.1.1.2.1.cell 2
        have yo3 := K27.out.here.1.1.2.1.cell 3
        have yq0 := K27.out.here.2.1.cell 0
        have yq1 := K27.out.here.2.1.cell 1
        have yq2 := K27.out.here.2.1.cell 2
        have yq3 := K27.out.here.2.1.cell 3
        simp only [List.getElem?_toArray, List.getElem?_cons_zero, List.getElem?_cons_succ] at yo0 yo1 yo2 yo3 yq0 yq1 yq2 yq3
        go_wp2_with fail
        refine (same_sub _ K27.out.here.1.1.2.2 K27.out.here.2.2).mono ?_
        rintro e x7w ⟨rfl, hb⟩
        have K28 := Lib.hid (K27.out.move hb)
        clear hb
        go_wp2
        go_ret
        exact ⟨rfl, K28.out.here.1.1.1.1.1⟩
      obtain ⟨fu, hfu⟩ : ∃ f, tx ++ (⟨#[]⟩ : ByteArray) ++ ⟨#[10]⟩ = f := ⟨_, rfl⟩
      rw [hfu] at e5' hsz
      have h21' : (21 : Int) < (fu.size : Int) := by omega
      have h21n : (21 : Int) ≤ (fu.size : Int) := by omega
      clear h21 hsz
      have zs0 := K23.out.here.1.1.2.1.cell 0
      have zs1 := K23.out.here.1.1.2.1.cell 1
      have zs2 := K23.out.here.1.1.2.1.cell 2
      have zs3 := K23.out.here.1.1.2.1.cell 3
      simp only [List.getElem?_toArray, List.getElem?_cons_zero, List.getElem?_cons_succ] at zs0 zs1 zs2 zs3
      obtain ⟨D29, hD⟩ : ∃ D, x2w.heap.size = D := ⟨_, rfl⟩
      obtain ⟨v29, hw29⟩ : ∃ v, x2w.alloc (.cells #[.int .i64 5, .string us, .slice A N cap, .string (tx1)] 25) = v := ⟨_, rfl⟩
      have hb2 : Below x2w.heap.size x2w v29 := by rw [← hw29]; exact below_new _ _
      have K29 := Lib.hid ((K23.out.move hb2).and (SV.made (s := ⟨5, us, T, (tx1)⟩) K23.out.here.1.1.2.2 hD hw29))
      clear hb2
      have zq29 := (K23.out.here.1.1.2.1.alloc (.cells #[.int .i64 5, .string us, .slice A N cap, .string tx] 25)).cell 3
      simp only [List.getElem?_toArray, List.getElem?_cons_zero, List.getElem?_cons_succ] at zq29
      have yo0 := K29.out.here.1.1.2.1.cell 0
      have yo1 := K29.out.here.1.1.2.1.cell 1
      have yo2 := K29.out.here.1.1.2.1.cell 2
      have yo3 := K29.out.here.1.1.2.1.cell 3
      have yq0 := K29.out.here.2.1.cell 0
      have yq1 := K29.out.here.2.1.cell 1
      have yq2 := K29.out.here.2.1.cell 2
      have yq3 := K29.out.here.2.1.cell 3
      simp only [List.getElem?_toArray, List.getElem?_cons_zero, List.getElem?_cons_succ] at yo0 yo1 yo2 yo3 yq0 yq1 yq2 yq3
      go_wp2_with fail
      refine (same_sub _ K29.out.here.1.1.2.2 K29.out.here.2.2).mono ?_
      rintro e x9w ⟨rfl, hb⟩
      have K30 := Lib.hid (K29.out.move hb)
      clear hb
      go_wp2
      go_ret
      exact ⟨rfl, K30.out.here.1.1.1.1.1⟩
    have hl0 : 0 < l.size := by
      rcases Nat.eq_zero_or_pos l.size with h | h
      · exact absurd (by cases l; rename_i a; have : a.size = 0 := h; rw [Array.eq_empty_of_size_eq_zero this]) he
      · exact h
    obtain ⟨k1, k2, k3⟩ := lit_walk (xs := []) rfl he
    have hl0' : (0 : Int) < (l.size : Int) := by omega
    clear he
    by_cases h46 : l.data.toList.head? = some 46
    ·
      have e5' : (tx ++ l.extract 1 l.size ++ ⟨#[10]⟩).extract 0 21 = tx1 := by rw [← e5]; unfold addF; rw [if_pos h46]
      clear e5
      have h1l : (1 : Int) ≤ (l.size : Int) := by omega
      have hb : (((l[0]'hl0).toNat : Int) == 46) = true := by have h := first_byte hl0; rw [h46] at h; rw [← Option.some.inj h]; rfl
      clear h46
      have hsz : (tx ++ l.extract 1 l.size ++ (⟨#[10]⟩ : ByteArray)).size = tx.size + (l.extract 1 l.size).size + 1 := by rw [ByteArray.size_append, ByteArray.size_append]; rfl
      by_cases h21 : tx.size + (l.extract 1 l.size).size + 1 ≤ 21
      ·
        have e2 : tx ++ l.extract 1 l.size ++ ⟨#[10]⟩ = tx1 := by rw [← e5']; exact (ext_full (by rw [hsz]; omega)).symm
        have h21' : ¬ (21 : Int) < (tx1.size : Int) := by rw [← e2, hsz]; omega
        clear e5'
        clear h21 hsz
        have zs0 := K23.out.here.1.1.2.1.cell 0
        have zs1 := K23.out.here.1.1.2.1.cell 1
        have zs2 := K23.out.here.1.1.2.1.cell 2
        have zs3 := K23.out.here.1.1.2.1.cell 3
        simp only [List.getElem?_toArray, List.getElem?_cons_zero, List.getElem?_cons_succ] at zs0 zs1 zs2 zs3
        obtain ⟨D31, hD⟩ : ∃ D, x2w.heap.size = D := ⟨_, rfl⟩
        obtain ⟨v31, hw31⟩ : ∃ v, x2w.alloc (.cells #[.int .i64 5, .string us, .slice A N cap, .string (tx1)] 25) = v := ⟨_, rfl⟩
        have hb2 : Below x2w.heap.size x2w v31 := by rw [← hw31]; exact below_new _ _
        have K31 := Lib.hid ((K23.out.move hb2).and (SV.made (s := ⟨5, us, T, (tx1)⟩) K23.out.here.1.1.2.2 hD hw31))
        clear hb2
        have zq31 := (K23.out.here.1.1.2.1.alloc (.cells #[.int .i64 5, .string us, .slice A N cap, .string tx] 25)).cell 3
        simp only [List.getElem?_toArray, List.getElem?_cons_zero, List.getElem?_cons_succ] at zq31
        have yo0 := K31.out.here.1.1.2.1.cell 0
        have yo1 := K31.out.here.1.1.2.1.cell 1
        have yo2 := K31.out.here.1.1.2.1.cell 2
        have yo3 := K31.out.here.1.1.2.1.cell 3
        have yq0 := K31.out.here.2.1.cell 0
        have yq1 := K31.out.here.2.1.cell 1
        have yq2 := K31.out.here.2.1.cell 2
        have yq3 := K31.out.here.2.1.cell 3
        simp only [List.getElem?_toArray, List.getElem?_cons_zero, List.getElem?_cons_succ] at yo0 yo1 yo2 yo3 yq0 yq1 yq2 yq3
        go_wp2_with fail
        refine (same_sub _ K31.out.here.1.1.2.2 K31.out.here.2.2).mono ?_
        rintro e x11w ⟨rfl, hb⟩
        have K32 := Lib.hid (K31.out.move hb)
        clear hb
        go_wp2
        go_ret
        exact ⟨rfl, K32.out.here.1.1.1.1.1⟩
      obtain ⟨fu, hfu⟩ : ∃ f, tx ++ l.extract 1 l.size ++ ⟨#[10]⟩ = f := ⟨_, rfl⟩
      rw [hfu] at e5' hsz
      have h21' : (21 : Int) < (fu.size : Int) := by omega
      have h21n : (21 : Int) ≤ (fu.size : Int) := by omega
      clear h21 hsz
      have zs0 := K23.out.here.1.1.2.1.cell 0
      have zs1 := K23.out.here.1.1.2.1.cell 1
      have zs2 := K23.out.here.1.1.2.1.cell 2
      have zs3 := K23.out.here.1.1.2.1.cell 3
      simp only [List.getElem?_toArray, List.getElem?_cons_zero, List.getElem?_cons_succ] at zs0 zs1 zs2 zs3
      obtain ⟨D33, hD⟩ : ∃ D, x2w.heap.size = D := ⟨_, rfl⟩
      obtain ⟨v33, hw33⟩ : ∃ v, x2w.alloc (.cells #[.int .i64 5, .string us, .slice A N cap, .string (tx1)] 25) = v := ⟨_, rfl⟩
      have hb2 : Below x2w.heap.size x2w v33 := by rw [← hw33]; exact below_new _ _
      have K33 := Lib.hid ((K23.out.move hb2).and (SV.made (s := ⟨5, us, T, (tx1)⟩) K23.out.here.1.1.2.2 hD hw33))
      clear hb2
      have zq33 := (K23.out.here.1.1.2.1.alloc (.cells #[.int .i64 5, .string us, .slice A N cap, .string tx] 25)).cell 3
      simp only [List.getElem?_toArray, List.getElem?_cons_zero, List.getElem?_cons_succ] at zq33
      have yo0 := K33.out.here.1.1.2.1.cell 0
      have yo1 := K33.out.here.1.1.2.1.cell 1
      have yo2 := K33.out.here.1.1.2.1.cell 2
      have yo3 := K33.out.here.1.1.2.1.cell 3
      have yq0 := K33.out.here.2.1.cell 0
      have yq1 := K33.out.here.2.1.cell 1
      have yq2 := K33.out.here.2.1.cell 2
      have yq3 := K33.out.here.2.1.cell 3
      simp only [List.getElem?_toArray, List.getElem?_cons_zero, List.getElem?_cons_succ] at yo0 yo1 yo2 yo3 yq0 yq1 yq2 yq3
      go_wp2_with fail
      refine (same_sub _ K33.out.here.1.1.2.2 K33.out.here.2.2).mono ?_
      rintro e x13w ⟨rfl, hb⟩
      have K34 := Lib.hid (K33.out.move hb)
      clear hb
      go_wp2
      go_ret
      exact ⟨rfl, K34.out.here.1.1.1.1.1⟩
    have e5' : (tx ++ l ++ ⟨#[10]⟩).extract 0 21 = tx1 := by rw [← e5]; unfold addF; rw [if_neg h46]
    clear e5
    have hb : (((l[0]'hl0).toNat : Int) == 46) = false := by
      refine beq_eq_false_iff_ne.2 fun h => h46 ?_
      rw [first_byte hl0]
      have h2 : (l[0]'hl0).toNat = 46 := by omega
      exact congrArg some (UInt8.toNat_inj.1 h2)
    clear h46
    have hsz : (tx ++ l ++ (⟨#[10]⟩ : ByteArray)).size = tx.size + (l).size + 1 := by rw [ByteArray.size_append, ByteArray.size_append]; rfl
    by_cases h21 : tx.size + (l).size + 1 ≤ 21
    ·
      have e2 : tx ++ l ++ ⟨#[10]⟩ = tx1 := by rw [← e5']; exact (ext_full (by rw [hsz]; omega)).symm
      have h21' : ¬ (21 : Int) < (tx1.size : Int) := by rw [← e2, hsz]; omega
      clear e5'
      clear h21 hsz
      have zs0 := K23.out.here.1.1.2.1.cell 0
      have zs1 := K23.out.here.1.1.2.1.cell 1
      have zs2 := K23.out.here.1.1.2.1.cell 2
      have zs3 := K23.out.here.1.1.2.1.cell 3
      simp only [List.getElem?_toArray, List.getElem?_cons_zero, List.getElem?_cons_succ] at zs0 zs1 zs2 zs3
      obtain ⟨D35, hD⟩ : ∃ D, x2w.heap.size = D := ⟨_, rfl⟩
      obtain ⟨v35, hw35⟩ : ∃ v, x2w.alloc (.cells #[.int .i64 5, .string us, .slice A N cap, .string (tx1)] 25) = v := ⟨_, rfl⟩
      have hb2 : Below x2w.heap.size x2w v35 := by rw [← hw35]; exact below_new _ _
      have K35 := Lib.hid ((K23.out.move hb2).and (SV.made (s := ⟨5, us, T, (tx1)⟩) K23.out.here.1.1.2.2 hD hw35))
      clear hb2
      have zq35 := (K23.out.here.1.1.2.1.alloc (.cells #[.int .i64 5, .string us, .slice A N cap, .string tx] 25)).cell 3
      simp only [List.getElem?_toArray, List.getElem?_cons_zero, List.getElem?_cons_succ] at zq35
      have yo0 := K35.out.here.1.1.2.1.cell 0
      have yo1 := K35.out.here.1.1.2.1.cell 1
      have yo2 := K35.out.here.1.1.2.1.cell 2
      have yo3 := K35.out.here.1.1.2.1.cell 3
      have yq0 := K35.out.here.2.1.cell 0
      have yq1 := K35.out.here.2.1.cell 1
      have yq2 := K35.out.here.2.1.cell 2
      have yq3 := K35.out.here.2.1.cell 3
      simp only [List.getElem?_toArray, List.getElem?_cons_zero, List.getElem?_cons_succ] at yo0 yo1 yo2 yo3 yq0 yq1 yq2 yq3
      go_wp2_with fail
      refine (same_sub _ K35.out.here.1.1.2.2 K35.out.here.2.2).mono ?_
      rintro e x15w ⟨rfl, hb⟩
      have K36 := Lib.hid (K35.out.move hb)
      clear hb
      go_wp2
      go_ret
      exact ⟨rfl, K36.out.here.1.1.1.1.1⟩
    obtain ⟨fu, hfu⟩ : ∃ f, tx ++ l ++ ⟨#[10]⟩ = f := ⟨_, rfl⟩
    rw [hfu] at e5' hsz
    have h21' : (21 : Int) < (fu.size : Int) := by omega
    have h21n : (21 : Int) ≤ (fu.size : Int) := by omega
    clear h21 hsz
    have zs0 := K23.out.here.1.1.2.1.cell 0
    have zs1 := K23.out.here.1.1.2.1.cell 1
    have zs2 := K23.out.here.1.1.2.1.cell 2
    have zs3 := K23.out.here.1.1.2.1.cell 3
    simp only [List.getElem?_toArray, List.getElem?_cons_zero, List.getElem?_cons_succ] at zs0 zs1 zs2 zs3
    obtain ⟨D37, hD⟩ : ∃ D, x2w.heap.size = D := ⟨_, rfl⟩
    obtain ⟨v37, hw37⟩ : ∃ v, x2w.alloc (.cells #[.int .i64 5, .string us, .slice A N cap, .string (tx1)] 25) = v := ⟨_, rfl⟩
    have hb2 : Below x2w.heap.size x2w v37 := by rw [← hw37]; exact below_new _ _
    have K37 := Lib.hid ((K23.out.move hb2).and (SV.made (s := ⟨5, us, T, (tx1)⟩) K23.out.here.1.1.2.2 hD hw37))
    clear hb2
    have zq37 := (K23.out.here.1.1.2.1.alloc (.cells #[.int .i64 5, .string us, .slice A N cap, .string tx] 25)).cell 3
    simp only [List.getElem?_toArray, List.getElem?_cons_zero, List.getElem?_cons_succ] at zq37
    have yo0 := K37.out.here.1.1.2.1.cell 0
    have yo1 := K37.out.here.1.1.2.1.cell 1
    have yo2 := K37.out.here.1.1.2.1.cell 2
    have yo3 := K37.out.here.1.1.2.1.cell 3
    have yq0 := K37.out.here.2.1.cell 0
    have yq1 := K37.out.here.2.1.cell 1
    have yq2 := K37.out.here.2.1.cell 2
    have yq3 := K37.out.here.2.1.cell 3
    simp only [List.getElem?_toArray, List.getElem?_cons_zero, List.getElem?_cons_succ] at yo0 yo1 yo2 yo3 yq0 yq1 yq2 yq3
    go_wp2_with fail
    refine (same_sub _ K37.out.here.1.1.2.2 K37.out.here.2.2).mono ?_
    rintro e x17w ⟨rfl, hb⟩
    have K38 := Lib.hid (K37.out.move hb)
    clear hb
    go_wp2
    go_ret
    exact ⟨rfl, K38.out.here.1.1.1.1.1⟩
end Go.Proofs.YtichajalinkcdaaGreatDoor
