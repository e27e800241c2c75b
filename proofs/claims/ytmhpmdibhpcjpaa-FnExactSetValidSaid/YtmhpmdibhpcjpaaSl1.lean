/-
  The walks of the laws FnSetPart and FnSetLong. Condition: the code can be read.
-/
import Derived.Test.YtmhpmdibhpcjpaaSlaw
namespace Go.Proofs.Ytmhpmdibhpcjpaa
open Go.RowKit
set_option linter.unusedVariables false

theorem spa_news {w : World} {A : Option Addr} {L : List (Int × Int)} (h : SpA w A L) (h0 : L ≠ []) :
    ∃ b o, A = some ⟨b, o, none⟩ ∧ b < w.heap.size ∧ ∀ j u, (spn L)[j]? = some u → w.cell? ((⟨b, o, none⟩ : Addr).add j) = some u := by
  have hp : 0 < L.length := List.length_pos_iff.2 h0
  obtain ⟨x, hx⟩ : ∃ x, L[0]? = some x := ⟨_, List.getElem?_eq_getElem hp⟩
  obtain ⟨b, o, rfl, hb, _, _⟩ := h 0 x hx
  refine ⟨b, o, rfl, hb, fun j u hu => ?_⟩
  have hj : j < (spn L).length := (List.getElem?_eq_some_iff.1 hu).1
  rw [spn_len] at hj
  obtain ⟨y, hy⟩ : ∃ y, L[j / 2]? = some y := ⟨_, List.getElem?_eq_getElem (by omega)⟩
  obtain ⟨b', o', he, hb', h1, h2⟩ := h (j / 2) y hy
  cases he
  obtain ⟨s1, s2⟩ := spn_get L (j / 2) y hy
  rw [add_none]
  rcases (by omega : j = j / 2 * 2 ∨ j = j / 2 * 2 + 1) with e | e
  · rw [e, s1] at hu
    rw [e, h1]
    exact hu
  · rw [e, s2] at hu
    rw [e, show o + (j / 2 * 2 + 1) = o + j / 2 * 2 + 1 by omega, h2]
    exact hu
theorem SpA.take {w : World} {A : Option Addr} {L : List (Int × Int)} (h : SpA w A L) (k : Nat) : SpA w A (L.take k) := fun i x hx => by
  rw [List.getElem?_take] at hx
  split at hx
  · exact h i x hx
  · cases hx
theorem impl_setvalid_n {A : Option Addr} {n cap : Nat} {L : List (Int × Int)} {o : Bool} (hn : L.length = n) (ho : setB L = o) (w : World) (h : SpA w A L) (hl : n ≤ 33554432) :
    Calls Try.prog 18 #[.slice A n cap] w fun e w' => e = .returned (.bool o) ∧ Below w.heap.size w w' := by
  subst hn
  exact impl_setvalid_at ho w h hl
theorem set_pos {L : List (Int × Int)} (h : setB L = true) : L ≠ [] := by
  rintro rfl
  exact absurd h (by decide)
theorem Own.cat {w : World} {B : Nat} {v : Value} {L M : List (Int × Int)} {n : Nat} (h : w.ownsRow B 27 2 v n (spn L ++ spn M)) (hn : n = L.length + M.length) : Own w B v (L ++ M) := by
  unfold Own
  rw [spn_app, List.length_append, ← hn]
  exact h

set_option maxRecDepth 20000 in
set_option maxHeartbeats 4000000 in
theorem law_FnSetPart (A : Option Addr) (len cap : Nat) (w : World) (h : Coded w A len cap) : Calls Try.prog 3 #[.slice A len cap] w (Holds1 w) := by
  have HC := Lib.hid h
  clear h
  obtain ⟨i0, hi, hq0, hq1, hq2⟩ := info_parts Try.infoSpan
  by_cases hl : len ≤ 1048576
  · have hl' : (len : Int) ≤ 1048576 := by omega
    go_enter Try.func3, Try.ntmps3
    go_wp2_with fail
    refine (draw_setvalid A len cap _ HC.out).mono ?_
    rintro e w1 ⟨A1, cap1, L, hL, rfl, hc1, hc2, hsp, hb⟩
    have HB1 := Lib.hid hb
    have HS1 := Lib.hid hsp
    clear hb hsp
    cases hs : setB L
    · have HSB := Lib.hid hs
      clear hs
      go_wp2_with fail
      refine (impl_setvalid_at HSB.out _ HS1.out (by omega)).mono ?_
      rintro e w2 ⟨rfl, hb⟩
      have HB2 := Lib.hid (HB1.out.trans (hb.mono HB1.out.size))
      have HS2 := Lib.hid (HS1.out.below hb (Nat.le_refl _))
      clear hb
      go_wp2_with fail
      refine (spec_setvalid_at HSB.out _ HS2.out (by omega)).mono ?_
      rintro e w3 ⟨rfl, rfl⟩
      go_wp2_with fail
      go_ret
      exact ⟨rfl, HB2.out⟩
    · have HSB := Lib.hid hs
      clear hs
      go_wp2_with fail
      refine (impl_setvalid_at HSB.out _ HS1.out (by omega)).mono ?_
      rintro e w2 ⟨rfl, hb⟩
      have HB2 := Lib.hid (HB1.out.trans (hb.mono HB1.out.size))
      have HS2 := Lib.hid (HS1.out.below hb (Nat.le_refl _))
      clear hb
      go_wp2_with fail
      refine (spec_setvalid_at HSB.out _ HS2.out (by omega)).mono ?_
      rintro e w3 ⟨rfl, rfl⟩
      obtain ⟨b, o, rfl, hbl, -⟩ := spa_news HS2.out (set_pos HSB.out)
      have hp1 : 1 ≤ L.length := (setB_iff.1 HSB.out).2.1
      go_wp2
      go_loopw [6] (fun i wr => ∃ k : Nat, 1 ≤ k ∧ k ≤ L.length ∧ i = .int .i64 (k : Int) ∧ Hid (Below w2.heap.size w2 wr)) (fun i _ => L.length - (intOf i).toNat)
      case atStart => exact ⟨1, by omega, hp1, by go_num, Below.refl _ _⟩
      case round =>
        obtain ⟨k, hk1, hk, rfl, HB⟩ := hrel
        have HSR := Lib.hid (HS2.out.below HB.out (Nat.le_refl _))
        by_cases hlt : k < L.length
        · have q0 : (0 : Int) ≤ (k : Int) := by omega
          have q1 : (k : Int) < (L.length : Int) := by omega
          have q2 : (k : Int) ≤ (cap1 : Int) := by omega
          have q3 : k ≤ cap1 := by omega
          go_wp2_with fail
          refine (impl_setvalid_n (L := L.take k) (by rw [List.length_take]; omega) (setB_take HSB.out k hk1 hk) _ (HSR.out.take k) (by omega)).mono ?_
          rintro e w4 ⟨rfl, hb⟩
          have HB4 := Lib.hid (HB.out.trans (hb.mono HB.out.size))
          clear hb
          go_wp2_with fail
          go_roundw
          case rel => exact ⟨k + 1, by omega, by omega, by go_num, HB4.out⟩
          case measure => simp [intOf]; omega
        · have q1 : ¬ (k : Int) < (L.length : Int) := by omega
          have hbr : b < wr.heap.size := Nat.lt_of_lt_of_le hbl HB.out.size
          obtain ⟨b', o', he, -, hnews⟩ := spa_news HSR.out (set_pos HSB.out)
          cases he
          have HBW := Lib.hid (HB2.out.trans (HB.out.mono HB2.out.size))
          have hown := Own.lit wr (Nat.le_refl wr.heap.size)
          have hnews1 : ∀ j u, (spn L)[j]? = some u → (wr.alloc (.cells #[] 27)).cell? ((⟨b, o, none⟩ : Addr).add j) = some u := fun j u hu => by
            have h1 := hnews j u hu
            rw [add_none] at h1 ⊢
            exact ((Below.refl wr.heap.size wr).alloc (Nat.le_refl _) (.cells #[] 27)).cell (p := ⟨b, o + j, none⟩) hbr |>.trans h1
          have hml : 0 + L.length ≤ maxLen := by unfold maxLen; omega
          have hby : (0 + L.length) * 16 ≤ 140737488355328 := by omega
          have hba : wr.heap.size ≤ (wr.alloc (.cells #[] 27)).heap.size := by simp
          have hsl := spn_len L
          go_wp2_with (at_builtin; refine wpList_append_own _ rfl _ _ 23 rfl wr.heap.size 27 i0 (.agg #[.int .i64 0, .int .i64 0]) 2 16 Try.underlying23 hi hq0 hq1 hq2 rfl (by decide) _ _ _ rfl (hown.row rfl) ⟨b, o, none⟩ L.length cap1 (spn L) rfl hsl hnews1 (spn_cells L) hml hby hba ?_)
          intro v' w5 hown1 hgrow hcp
          have HO5 := Lib.hid (Own.cat (L := []) hown1 (by simp))
          have HB5 := Lib.hid ((HBW.out.alloc (Nat.le_trans HB2.out.size HB.out.size) (.cells #[] 27)).grown hgrow (by simp; have := HB2.out.size; have := HB.out.size; omega) (fun z hz => by have := (World.ownsRow.lt hown z hz).1; have := HB2.out.size; have := HB.out.size; omega))
          have hwz : wr.heap.size ≤ w5.heap.size := by have := hgrow.size; simp at this; omega
          clear hown hown1 hgrow hnews1 hml hby hba hcp
          rw [List.nil_append] at HO5
          obtain ⟨A5, cap5, rfl, hc51, hc52, -⟩ := HO5.out.form
          have hown := HO5.out.alloc (.cells #[.int .i64 1, .int .i64 (-1)] 27)
          have hnews := two_new' w5 (.int .i64 1) (.int .i64 (-1)) 27 w5.heap.size rfl
          have hml : L.length + 1 ≤ maxLen := by unfold maxLen; omega
          have hby : (L.length + 1) * 16 ≤ 140737488355328 := by omega
          have hba : wr.heap.size ≤ (w5.alloc (.cells #[.int .i64 1, .int .i64 (-1)] 27)).heap.size := by simp; omega
          go_wp2_with (at_builtin; refine wpList_append_own _ rfl _ _ 23 rfl wr.heap.size 27 i0 (.agg #[.int .i64 0, .int .i64 0]) 2 16 Try.underlying23 hi hq0 hq1 hq2 rfl (by decide) _ _ _ rfl (hown.row rfl) ⟨w5.heap.size, 0, none⟩ 1 1 [.int .i64 1, .int .i64 (-1)] rfl rfl hnews (two_one _ _) hml hby hba ?_)
          intro v' w6 hown1 hgrow hcp
          have HO6 := Lib.hid (Own.push hown1 rfl)
          have HB6 := Lib.hid ((HB5.out.alloc (Nat.le_trans HBW.out.size hwz) (.cells #[.int .i64 1, .int .i64 (-1)] 27)).grown hgrow (by simp; have := HBW.out.size; omega) (fun z hz => by have := (World.ownsRow.lt hown z hz).1; have := HBW.out.size; omega))
          clear hown hown1 hgrow hnews hml hby hba hcp
          obtain ⟨A6, cap6, rfl, hc61, hc62, hsp6⟩ := HO6.out.form
          have HS6 := Lib.hid hsp6
          clear hsp6
          go_wp2_with fail
          refine (impl_setvalid_n (by simp) (setB_bad (x := ((1 : Int), (-1 : Int))) (by simp) (by decide)) _ HS6.out (by omega)).mono ?_
          rintro e w7 ⟨rfl, hb⟩
          have HB7 := Lib.hid (HB6.out.trans (hb.mono HB6.out.size))
          clear hb
          go_wp2
          go_ret
          exact ⟨rfl, HB7.out⟩
  · have hl' : (1048576 : Int) < (len : Int) := by omega
    go_enter Try.func3, Try.ntmps3
    go_wp2
    go_ret
    exact ⟨rfl, Below.refl _ _⟩

theorem set_fill {L : List (Int × Int)} (h : setB L = true) (k : Nat) : setB (L ++ List.replicate k (1, 1)) = decide (L.length + k ≤ 6) := by
  by_cases h6 : L.length + k ≤ 6
  · rw [decide_eq_true h6]
    obtain ⟨a, b, c⟩ := setB_iff.1 h
    refine setB_iff.2 ⟨fun y hy => ?_, by simp; omega, by simpa using h6⟩
    rcases List.mem_append.1 hy with hy | hy
    · exact a y hy
    · rw [List.eq_of_mem_replicate hy]; rfl
  · rw [decide_eq_false h6]
    exact setB_long (by simp; omega)
theorem fill_succ (L : List (Int × Int)) (k : Nat) : L ++ List.replicate (k + 1) (1, 1) = L ++ List.replicate k (1, 1) ++ [(1, 1)] := by
  rw [List.replicate_succ', List.append_assoc]

set_option maxRecDepth 20000 in
set_option maxHeartbeats 4000000 in
theorem law_FnSetLong (A : Option Addr) (len cap : Nat) (w : World) (h : Coded w A len cap) : Calls Try.prog 4 #[.slice A len cap] w (Holds1 w) := by
  have HC := Lib.hid h
  clear h
  obtain ⟨i0, hi, hq0, hq1, hq2⟩ := info_parts Try.infoSpan
  by_cases hl : len ≤ 1048576
  · have hl' : (len : Int) ≤ 1048576 := by omega
    go_enter Try.func4, Try.ntmps4
    go_wp2_with fail
    refine (draw_setvalid A len cap _ HC.out).mono ?_
    rintro e w1 ⟨A1, cap1, L, hL, rfl, hc1, hc2, hsp, hb⟩
    have HB1 := Lib.hid hb
    have HS1 := Lib.hid hsp
    clear hb hsp
    cases hs : setB L
    · have HSB := Lib.hid hs
      clear hs
      go_wp2_with fail
      refine (impl_setvalid_at HSB.out _ HS1.out (by omega)).mono ?_
      rintro e w2 ⟨rfl, hb⟩
      have HB2 := Lib.hid (HB1.out.trans (hb.mono HB1.out.size))
      have HS2 := Lib.hid (HS1.out.below hb (Nat.le_refl _))
      clear hb
      go_wp2_with fail
      refine (spec_setvalid_at HSB.out _ HS2.out (by omega)).mono ?_
      rintro e w3 ⟨rfl, rfl⟩
      go_wp2_with fail
      go_ret
      exact ⟨rfl, HB2.out⟩
    · have HSB := Lib.hid hs
      clear hs
      go_wp2_with fail
      refine (impl_setvalid_at HSB.out _ HS1.out (by omega)).mono ?_
      rintro e w2 ⟨rfl, hb⟩
      have HB2 := Lib.hid (HB1.out.trans (hb.mono HB1.out.size))
      have HS2 := Lib.hid (HS1.out.below hb (Nat.le_refl _))
      clear hb
      go_wp2_with fail
      refine (spec_setvalid_at HSB.out _ HS2.out (by omega)).mono ?_
      rintro e w3 ⟨rfl, rfl⟩
      obtain ⟨b, o, rfl, hbl, hnews⟩ := spa_news HS2.out (set_pos HSB.out)
      have hp1 : 1 ≤ L.length := (setB_iff.1 HSB.out).2.1
      have hp6 : L.length ≤ 6 := (setB_iff.1 HSB.out).2.2
      have hown := Own.lit w2 (Nat.le_refl w2.heap.size)
      have hnews1 : ∀ j u, (spn L)[j]? = some u → (w2.alloc (.cells #[] 27)).cell? ((⟨b, o, none⟩ : Addr).add j) = some u := fun j u hu => by
        have h1 := hnews j u hu
        rw [add_none] at h1 ⊢
        exact ((Below.refl w2.heap.size w2).alloc (Nat.le_refl _) (.cells #[] 27)).cell (p := ⟨b, o + j, none⟩) hbl |>.trans h1
      have hml : 0 + L.length ≤ maxLen := by unfold maxLen; omega
      have hby : (0 + L.length) * 16 ≤ 140737488355328 := by omega
      have hba : w2.heap.size ≤ (w2.alloc (.cells #[] 27)).heap.size := by simp
      have hsl := spn_len L
      clear hnews
      go_wp2_with (at_builtin; refine wpList_append_own _ rfl _ _ 23 rfl w2.heap.size 27 i0 (.agg #[.int .i64 0, .int .i64 0]) 2 16 Try.underlying23 hi hq0 hq1 hq2 rfl (by decide) _ _ _ rfl (hown.row rfl) ⟨b, o, none⟩ L.length cap1 (spn L) rfl hsl hnews1 (spn_cells L) hml hby hba ?_)
      intro v' w5 hown1 hgrow hcp
      have HO5 := Lib.hid (Own.cat (L := []) hown1 (by simp))
      have HB5 := Lib.hid ((HB2.out.alloc HB2.out.size (.cells #[] 27)).grown hgrow (by simp; have := HB2.out.size; omega) (fun z hz => by have := (World.ownsRow.lt hown z hz).1; have := HB2.out.size; omega))
      have hwz : w2.heap.size ≤ w5.heap.size := by have := hgrow.size; simp at this; omega
      clear hown hown1 hgrow hnews1 hml hby hba hcp
      rw [List.nil_append] at HO5
      obtain ⟨B, hB⟩ : ∃ B, w2.heap.size = B := ⟨_, rfl⟩
      have hwB : w.heap.size ≤ B := hB ▸ HB2.out.size
      rw [hB] at HO5 hwz
      clear hB
      go_wp2
      go_loopg [6] 9 (fun g v wr => ∃ k : Nat, L.length + k ≤ 9 ∧ g = 9 - k ∧ B ≤ wr.heap.size ∧ Hid (Own wr B v (L ++ List.replicate k (1, 1))) ∧ Hid (Below w.heap.size w wr))
      case atStart => exact ⟨0, by omega, by omega, hwz, by rw [List.replicate_zero, List.append_nil]; exact HO5, HB5.out⟩
      case round =>
        obtain ⟨k, hk, hg, hwr, HO, HB⟩ := hrel
        obtain ⟨C, hC⟩ : ∃ C, L ++ List.replicate k (1, 1) = C := ⟨_, rfl⟩
        have hCl : C.length = L.length + k := by rw [← hC]; simp
        have HCC := Lib.hid hC
        have HCL := Lib.hid hCl
        have hc9 : C.length ≤ 9 := by omega
        rw [hC] at HO
        clear hCl
        obtain ⟨A6, cap6, rfl, hc61, hc62, -⟩ := HO.out.form
        by_cases hlt : C.length < 9
        · have q1 : (C.length : Int) < 9 := by omega
          have hown := HO.out.alloc (.cells #[.int .i64 1, .int .i64 1] 27)
          have hnews := two_new' wr (.int .i64 1) (.int .i64 1) 27 wr.heap.size rfl
          have hml : C.length + 1 ≤ maxLen := by unfold maxLen; omega
          have hby : (C.length + 1) * 16 ≤ 140737488355328 := by omega
          have hba : B ≤ (wr.alloc (.cells #[.int .i64 1, .int .i64 1] 27)).heap.size := by simp; omega
          clear hC
          go_wp2_with (at_builtin; refine wpList_append_own _ rfl _ _ 23 rfl B 27 i0 (.agg #[.int .i64 0, .int .i64 0]) 2 16 Try.underlying23 hi hq0 hq1 hq2 rfl (by decide) _ _ _ rfl (hown.row rfl) ⟨wr.heap.size, 0, none⟩ 1 1 [.int .i64 1, .int .i64 1] rfl rfl hnews (two_one _ _) hml hby hba ?_)
          intro v' w6 hown1 hgrow hcp
          have HO6 := Lib.hid (Own.push hown1 rfl)
          have HB6 := Lib.hid ((HB.out.alloc (Nat.le_trans hwB hwr) (.cells #[.int .i64 1, .int .i64 1] 27)).grown hgrow (by simp; omega) (fun z hz => by have := (World.ownsRow.lt hown z hz).1; omega))
          have hw6 : B ≤ w6.heap.size := by have := hgrow.size; simp at this; omega
          clear hown hown1 hgrow hnews hml hby hba hcp
          obtain ⟨D, hD⟩ : ∃ D, C ++ [((1 : Int), (1 : Int))] = D := ⟨_, rfl⟩
          have hDl : D.length = C.length + 1 := by rw [← hD]; simp
          have hDe : D = L ++ List.replicate (k + 1) (1, 1) := by rw [fill_succ, HCC.out, hD]
          have HSD := Lib.hid (set_fill HSB.out (k + 1))
          rw [← hDe] at HSD
          have HDE := Lib.hid hDe
          rw [hD] at HO6
          have hd10 : D.length ≤ 10 := by omega
          have HDL := Lib.hid (hDl.trans (congrArg (· + 1) HCL.out))
          clear hD hDe hDl
          obtain ⟨A7, cap7, rfl, hc71, hc72, hsp7⟩ := HO6.out.form
          have HS7 := Lib.hid hsp7
          clear hsp7
          by_cases h6 : L.length + (k + 1) ≤ 6
          · have q2 : ((D.length : Int) ≤ 6) := by have := HDL.out; omega
            have HSE := Lib.hid (HSD.out.trans (decide_eq_true h6))
            clear h6
            go_wp2_with fail
            refine (impl_setvalid_at HSE.out _ HS7.out (by omega)).mono ?_
            rintro e w7 ⟨rfl, hb⟩
            have HB7 := Lib.hid (HB6.out.trans (hb.mono HB6.out.size))
            have HO7 := Lib.hid (HO6.out.kept hb)
            have hw7 := Nat.le_trans hw6 hb.size
            clear hb
            go_wp2
            go_roundg (9 - (k + 1))
            case measure => have := HCL.out; omega
            case rel => exact ⟨k + 1, by have := HCL.out; omega, rfl, hw7, by rw [← HDE.out]; exact HO7, HB7.out⟩
          · have q2 : ¬ ((D.length : Int) ≤ 6) := by have := HDL.out; omega
            have HSE := Lib.hid (HSD.out.trans (decide_eq_false h6))
            clear h6
            go_wp2_with fail
            refine (impl_setvalid_at HSE.out _ HS7.out (by omega)).mono ?_
            rintro e w7 ⟨rfl, hb⟩
            have HB7 := Lib.hid (HB6.out.trans (hb.mono HB6.out.size))
            have HO7 := Lib.hid (HO6.out.kept hb)
            have hw7 := Nat.le_trans hw6 hb.size
            clear hb
            go_wp2
            go_roundg (9 - (k + 1))
            case measure => have := HCL.out; omega
            case rel => exact ⟨k + 1, by have := HCL.out; omega, rfl, hw7, by rw [← HDE.out]; exact HO7, HB7.out⟩
        · have q1 : ¬ (C.length : Int) < 9 := by omega
          clear hC
          have hwz2 : w.heap.size ≤ wr.heap.size := HB.out.size
          go_wp2_with fail
          refine (impl_setvalid_n (L := []) rfl rfl _ (SpA.nil _ _) (by simp)).mono ?_
          rintro e w7 ⟨rfl, hb⟩
          have HB7 := Lib.hid ((HB.out.alloc hwz2 (.cells #[] 27)).trans (hb.mono (by simp; omega)))
          clear hb
          go_wp2
          go_ret
          exact ⟨rfl, HB7.out⟩
  · have hl' : (1048576 : Int) < (len : Int) := by omega
    go_enter Try.func4, Try.ntmps4
    go_wp2
    go_ret
    exact ⟨rfl, Below.refl _ _⟩
end Go.Proofs.Ytmhpmdibhpcjpaa
