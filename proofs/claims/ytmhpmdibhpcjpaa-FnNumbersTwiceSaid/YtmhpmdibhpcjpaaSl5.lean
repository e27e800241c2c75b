/-
  The walk of the law FnNumbersTwice. Condition: the codes can be read.
-/
import Derived.Test.YtmhpmdibhpcjpaaSl4
namespace Go.Proofs.Ytmhpmdibhpcjpaa
open Go.RowKit
set_option linter.unusedVariables false

theorem spa_cell {w : World} {b o q : Nat} {L : List (Int × Int)} {x1 x2 : Int} (h : SpA w (some ⟨b, o, none⟩) L) (hx : L[q]? = some (x1, x2)) :
    w.cell? ⟨b, o + q * 2, none⟩ = some (.int .i64 x1) ∧ w.cell? ⟨b, o + q * 2 + 1, none⟩ = some (.int .i64 x2) := by
  obtain ⟨b', o', he, _, h1, h2⟩ := h q _ hx
  cases he
  exact ⟨h1, h2⟩
theorem spec_setvalid_n {A : Option Addr} {n cap : Nat} {L : List (Int × Int)} {o : Bool} (hn : L.length = n) (ho : setB L = o) (w : World) (h : SpA w A L) (hl : n ≤ 33554432) :
    Calls Try.prog 19 #[.slice A n cap] w fun e w' => e = .returned (.bool o) ∧ w = w' := by
  subst hn
  exact spec_setvalid_at ho w h hl
theorem whole_new {w : World} {b : Nat} {t : TypeId} {x y : Value} (h : Whole w b t #[x, y]) : ∀ j u, [x, y][j]? = some u → w.cell? ((⟨b, 0, none⟩ : Addr).add j) = some u := by
  intro j u hj
  rw [add_none, Nat.zero_add, h.cell j]
  simpa using hj
theorem spa_all {w : World} {b o : Nat} {L : List (Int × Int)} (h : SpA w (some ⟨b, o, none⟩) L) : ∀ j u, (spn L)[j]? = some u → w.cell? ((⟨b, o, none⟩ : Addr).add j) = some u := by
  by_cases h0 : L = []
  · subst h0
    intro j u hu
    simp [spn] at hu
  · obtain ⟨b', o', he, _, hn⟩ := spa_news h h0
    cases he
    exact hn

set_option maxRecDepth 20000 in
set_option maxHeartbeats 8000000 in
theorem law_FnNumbersTwice (A : Option Addr) (len cap : Nat) (A0 : Option Addr) (len2 cap0 : Nat) (w : World) (h : Coded w A len cap) (h2 : Coded w A0 len2 cap0) : Calls Try.prog 13 #[.slice A len cap, .slice A0 len2 cap0] w (Holds1 w) := by
  have HC := Lib.hid h
  clear h h2
  obtain ⟨i0, hi, hq0, hq1, hq2⟩ := info_parts Try.infoSpan
  by_cases hl : len ≤ 1048576
  · have hl' : (len : Int) ≤ 1048576 := by omega
    have hl3 : decide ((1048576 : Int) < (len : Int)) = false := decide_eq_false (by omega)
    by_cases hlt2 : len2 ≤ 1048576
    · have hl2' : (len2 : Int) ≤ 1048576 := by omega
      have hl2'' : decide ((1048576 : Int) < (len2 : Int)) = false := decide_eq_false (by omega)
      go_enter Try.func13, Try.ntmps13
      go_wp2_with fail
      refine (draw_setnums A len cap _ HC.out).mono ?_
      rintro e w1 ⟨A1, cap1, L, last, hL, rfl, hc1, hc2, hla, hlb, hsp, hb⟩
      have HB1 := Lib.hid hb
      have HS1 := Lib.hid hsp
      clear hb hsp
      obtain ⟨l, hll⟩ : ∃ l, numsB L last = l := ⟨_, rfl⟩
      have HL := Lib.hid hll
      have hl99 : l.length ≤ 99 := hll ▸ numsB_len L last
      clear hll
      obtain ⟨n, hn⟩ : ∃ n, L.length = n := ⟨_, rfl⟩
      have HN := Lib.hid hn
      rw [hn] at hL hc1 ⊢
      clear hn
      go_wp2_with fail
      refine (impl_nums HN.out HL.out _ HS1.out (by omega)).mono ?_
      rintro e w2 ⟨A2, cap2, rfl, h21, h22, -, hia, hb⟩
      have HB2 := Lib.hid (HB1.out.trans (hb.mono HB1.out.size))
      have HS2 := Lib.hid (HS1.out.below hb (Nat.le_refl _))
      have HI2 := Lib.hid hia
      clear hb hia
      go_wp2_with fail
      refine (spec_nums HN.out HL.out _ HS2.out (by omega)).mono ?_
      rintro e w3 ⟨A3, cap3, rfl, h31, h32, -, hia, hb⟩
      have HB3 := Lib.hid (HB2.out.trans (hb.mono HB2.out.size))
      have HS3 := Lib.hid (HS2.out.below hb (Nat.le_refl _))
      have HI3 := Lib.hid hia
      have HI23 := Lib.hid (HI2.out.below hb (Nat.le_refl _))
      clear hb hia
      go_wp2_with fail
      refine (same_ints_at (o := true) _ HI23.out HI3.out rfl rfl (by omega) (by omega) (by simp)).mono ?_
      rintro e w4 ⟨rfl, hb⟩
      have HB4 := Lib.hid (HB3.out.trans (hb.mono HB3.out.size))
      have HS4 := Lib.hid (HS3.out.below hb (Nat.le_refl _))
      have HI4 := Lib.hid (HI23.out.below hb (Nat.le_refl _))
      have HI34 := Lib.hid (HI3.out.below hb (Nat.le_refl _))
      clear hb
      cases hs : setB L
      · have HSB := Lib.hid hs
        clear hs
        go_wp2_with fail
        refine (spec_setvalid_n HN.out HSB.out _ HS4.out (by omega)).mono ?_
        rintro e w5 ⟨rfl, rfl⟩
        go_wp2_with fail
        refine (same_ints_at (o := true) _ HI4.out HI34.out rfl rfl (by omega) (by omega) (by simp)).mono ?_
        rintro e w6 ⟨rfl, hb⟩
        have HB6 := Lib.hid (HB4.out.trans (hb.mono HB4.out.size))
        clear hb
        go_wp2
        go_ret
        exact ⟨rfl, HB6.out⟩
      · have HSB := Lib.hid hs
        have hn1 : 1 ≤ n := by have := (setB_iff.1 hs).2.1; have := HN.out; omega
        clear hs
        by_cases h6 : n < 6
        · have q6 : ¬ ((6 : Int) ≤ (n : Int)) := by omega
          have q6' : decide ((6 : Int) ≤ (n : Int)) = false := dec_no q6
          have q6n : decide (6 ≤ n) = false := dec_no (by omega)
          go_wp2_with fail
          refine (spec_setvalid_n HN.out HSB.out _ HS4.out (by omega)).mono ?_
          rintro e w5 ⟨rfl, rfl⟩
          obtain ⟨b, o, rfl, hbl, -⟩ := spa_news HS4.out (set_pos HSB.out)
          obtain ⟨q, hq⟩ : ∃ q, len2 % n = q := ⟨_, rfl⟩
          have hqn : q < n := hq ▸ Nat.mod_lt _ (by omega)
          have E1 : (len2 : Int).tmod (n : Int) = (q : Int) := by rw [← hq]; exact IntWalk.up_tmod rfl rfl
          have hnz : ((n : Int) == 0) = false := by simp; omega
          have hnz2 : ¬ (n : Int) = 0 := by omega
          have hnz3 : ¬ n = 0 := by omega
          have i1 : (0 : Int) ≤ (q : Int) := by omega
          have i2 : (q : Int) < (n : Int) := by omega
          have E2 : IntKind.i64.wrap (q : Int) = (q : Int) := IntWalk.i64_in _ (by omega)
          obtain ⟨⟨x1, x2⟩, hx⟩ : ∃ x, L[q]? = some x := ⟨_, List.getElem?_eq_getElem (by rw [HN.out]; omega)⟩
          obtain ⟨c1, c2⟩ := spa_cell HS4.out hx
          have HX := Lib.hid hx
          have HTW : Hid (numsB (L ++ [(x1, x2)]) last = l) := (numsB_twice last HSB.out (by rw [HN.out]; exact h6) (List.mem_of_getElem? hx)).trans HL.out
          clear hx hq
          have hbD : Below w4.heap.size w4 w4.drew := below_drew' (Below.refl _ _)
          have HDD := Lib.hid hbD
          have HSD : Hid (SpA w4.drew (some ⟨b, o, none⟩) L) := HS4.out.below hbD (Nat.le_refl _)
          have hbE := hbD.alloc (Nat.le_refl _) (.cells #[.int .i64 x1, .int .i64 x2] 27)
          have HSE := Lib.hid (HS4.out.below hbE (Nat.le_refl _))
          have hbC := hbD.alloc (Nat.le_refl _) (.cells #[] 27)
          have HSC := Lib.hid (HS4.out.below hbC (Nat.le_refl _))
          have hbA := hbE.alloc (by simp) (.cells #[] 27)
          have HSA := Lib.hid (HS4.out.below hbA (Nat.le_refl _))
          have hbB := hbC.alloc (by simp) (.cells #[.int .i64 x1, .int .i64 x2] 27)
          have HSBB := Lib.hid (HS4.out.below hbB (Nat.le_refl _))
          have HBA := Lib.hid hbA
          have HBBB := Lib.hid hbB
          have HBC := Lib.hid hbC
          clear hbA hbB hbC hbD hbE
          have HOA := Lib.hid (Own.lit' (w4.drew.alloc (.cells #[.int .i64 x1, .int .i64 x2] 27)) (B := w4.heap.size) (w4.heap.size + 1) (by simp) (by simp))
          have HOC := Lib.hid (Own.lit' w4.drew (B := w4.heap.size) w4.heap.size (Nat.le_refl _) rfl)
          have HOB := Lib.hid (HOC.out.alloc (.cells #[.int .i64 x1, .int .i64 x2] 27))
          have HWA : Hid (Whole ((w4.drew.alloc (.cells #[.int .i64 x1, .int .i64 x2] 27)).alloc (.cells #[] 27)) w4.heap.size 27 #[.int .i64 x1, .int .i64 x2]) := (Whole.made w4.drew 27 #[.int .i64 x1, .int .i64 x2]).alloc (.cells #[] 27)
          have hsz1 : (w4.drew.alloc (.cells #[] 27)).heap.size = w4.heap.size + 1 := by simp
          have hwb := Whole.made (w4.drew.alloc (.cells #[] 27)) 27 #[.int .i64 x1, .int .i64 x2]
          rw [hsz1] at hwb
          have HWB := Lib.hid hwb
          clear hsz1 hwb
          have HML := Lib.hid (show 0 + n ≤ maxLen by unfold maxLen; omega)
          have HBY := Lib.hid (show (0 + n) * 16 ≤ 140737488355328 by omega)
          have HML2 := Lib.hid (show n + 1 ≤ maxLen by unfold maxLen; omega)
          have HBY2 := Lib.hid (show (n + 1) * 16 ≤ 140737488355328 by omega)
          have HSL := Lib.hid (show (spn L).length = n * 2 by rw [spn_len, HN.out])
          have HQ := Lib.hid hq2
          go_wp2
          go_region_held3 (fun w' => w'.cell? ⟨b, o + q * 2, none⟩ = some (.int .i64 x1) ∧ w'.cell? ⟨b, o + q * 2 + 1, none⟩ = some (.int .i64 x2)) (first | exact spa_cell HSD.out HX.out | exact spa_cell HSE.out HX.out | exact spa_cell HSC.out HX.out | exact spa_cell HSA.out HX.out | exact spa_cell HSBB.out HX.out | exact spa_cell HS6.out HX.out | exact spa_cell HS6C.out HX.out | exact spa_cell HS7.out HX.out) (first
            | (refine step_append_own rfl (.tmp 46) (.tmp 47) 23 rfl w4.heap.size 27 i0 (.agg #[.int .i64 0, .int .i64 0]) 2 16 Try.underlying23 hi hq0 hq1 hq2 rfl (by decide) (.slice (some ⟨w4.heap.size + 1, 0, none⟩) 0 0) 0 [] rfl HOA.out ⟨b, o, none⟩ n cap1 (spn L) rfl HSL.out (spa_all HSA.out) (spn_cells L) HML.out HBY.out HBA.out.size ?_; intro v' w6 hown1 hgrow hcp
               have HO6 : Hid (Own w6 w4.heap.size v' L) := Own.cat (L := []) hown1 (by rw [HN.out]; rfl)
               have HB6 := Lib.hid (HBA.out.grown hgrow HBA.out.size (fun z hz => (World.ownsRow.lt HOA.out z hz).1))
               have HS6 := Lib.hid (HS4.out.below HB6.out (Nat.le_refl _))
               have HW6 := Lib.hid (Whole.grown HWA.out hgrow (by simp [Value.ownBlock]))
               have HSZ := Lib.hid HB6.out.size
               clear hown1 hgrow hcp
               obtain ⟨A6, cap6, rfl, -, -, -⟩ := HO6.out.form)
            | (refine step_append_own rfl (.tmp 46) (.tmp 47) 23 rfl w4.heap.size 27 i0 (.agg #[.int .i64 0, .int .i64 0]) 2 16 Try.underlying23 hi hq0 hq1 hq2 rfl (by decide) (.slice (some ⟨w4.heap.size, 0, none⟩) 0 0) 0 [] rfl HOB.out ⟨b, o, none⟩ n cap1 (spn L) rfl HSL.out (spa_all HSBB.out) (spn_cells L) HML.out HBY.out HBBB.out.size ?_; intro v' w6 hown1 hgrow hcp
               have HO6 : Hid (Own w6 w4.heap.size v' L) := Own.cat (L := []) hown1 (by rw [HN.out]; rfl)
               have HB6 := Lib.hid (HBBB.out.grown hgrow HBBB.out.size (fun z hz => (World.ownsRow.lt HOB.out z hz).1))
               have HS6 := Lib.hid (HS4.out.below HB6.out (Nat.le_refl _))
               have HW6 := Lib.hid (Whole.grown HWB.out hgrow (by simp [Value.ownBlock]))
               have HSZ := Lib.hid HB6.out.size
               clear hown1 hgrow hcp
               obtain ⟨A6, cap6, rfl, -, -, -⟩ := HO6.out.form)
            | (refine step_append_own rfl (.tmp 46) (.tmp 47) 23 rfl w4.heap.size 27 i0 (.agg #[.int .i64 0, .int .i64 0]) 2 16 Try.underlying23 hi hq0 hq1 hq2 rfl (by decide) (.slice (some ⟨w4.heap.size, 0, none⟩) 0 0) 0 [] rfl HOC.out ⟨b, o, none⟩ n cap1 (spn L) rfl HSL.out (spa_all HSC.out) (spn_cells L) HML.out HBY.out HBC.out.size ?_; intro v' w6 hown1 hgrow hcp
               have HO6 : Hid (Own w6 w4.heap.size v' L) := Own.cat (L := []) hown1 (by rw [HN.out]; rfl)
               have HB6 := Lib.hid (HBC.out.grown hgrow HBC.out.size (fun z hz => (World.ownsRow.lt HOC.out z hz).1))
               have HS6 := Lib.hid (HS4.out.below HB6.out (Nat.le_refl _))
               have HO6C := Lib.hid (HO6.out.alloc (.cells #[.int .i64 x1, .int .i64 x2] 27))
               have HB6C := Lib.hid (HB6.out.alloc HB6.out.size (.cells #[.int .i64 x1, .int .i64 x2] 27))
               have HS6C := Lib.hid (HS4.out.below HB6C.out (Nat.le_refl _))
               have HW6C := Lib.hid (Whole.made w6 27 #[.int .i64 x1, .int .i64 x2])
               clear hown1 hgrow hcp
               obtain ⟨A6, cap6, rfl, -, -, -⟩ := HO6.out.form)
            | (refine step_append_own rfl (.tmp 48) (.tmp 57) 23 rfl w4.heap.size 27 i0 (.agg #[.int .i64 0, .int .i64 0]) 2 16 Try.underlying23 hi hq0 hq1 hq2 rfl (by decide) (.slice A6 L.length cap6) n (spn L) rfl (HO6.out.row HN.out.symm) ⟨_, 0, none⟩ 1 1 [.int .i64 x1, .int .i64 x2] rfl rfl (whole_new HW6.out) (two_one _ _) HML2.out HBY2.out HB6.out.size ?_; intro v' w7 hown1 hgrow hcp
               have HO7 := Lib.hid (Own.push hown1 (by rw [HN.out]))
               have HB7 := Lib.hid (HB6.out.grown hgrow HB6.out.size (fun z hz => (World.ownsRow.lt (HO6.out.row HN.out.symm) z hz).1))
               have HS7 := Lib.hid (HS4.out.below HB7.out (Nat.le_refl _))
               clear hown1 hgrow hcp
               obtain ⟨A7, cap7, rfl, h71, h72, hsp7⟩ := HO7.out.form
               have HSP7 := Lib.hid hsp7
               clear hsp7)
            | (refine step_append_own rfl (.tmp 48) (.tmp 57) 23 rfl w4.heap.size 27 i0 (.agg #[.int .i64 0, .int .i64 0]) 2 16 Try.underlying23 hi hq0 hq1 hq2 rfl (by decide) (.slice A6 L.length cap6) n (spn L) rfl (HO6C.out.row HN.out.symm) ⟨_, 0, none⟩ 1 1 [.int .i64 x1, .int .i64 x2] rfl rfl (whole_new HW6C.out) (two_one _ _) HML2.out HBY2.out HB6C.out.size ?_; intro v' w7 hown1 hgrow hcp
               have HO7 := Lib.hid (Own.push hown1 (by rw [HN.out]))
               have HB7 := Lib.hid (HB6C.out.grown hgrow HB6C.out.size (fun z hz => (World.ownsRow.lt (HO6C.out.row HN.out.symm) z hz).1))
               have HS7 := Lib.hid (HS4.out.below HB7.out (Nat.le_refl _))
               clear hown1 hgrow hcp
               obtain ⟨A7, cap7, rfl, h71, h72, hsp7⟩ := HO7.out.form
               have HSP7 := Lib.hid hsp7
               clear hsp7))
          all_goals
            go_wp2_with fail
            refine (impl_nums (L := L ++ [(x1, x2)]) (n := L.length + 1) (by simp) HTW.out _ HSP7.out (by have := HN.out; omega)).mono ?_
            rintro e w8 ⟨A8, cap8, rfl, h81, h82, -, hia, hb⟩
            have HB47 := Lib.hid (HB4.out.trans (HB7.out.mono HB4.out.size))
            have HB8 := Lib.hid (HB47.out.trans (hb.mono HB47.out.size))
            have HI8 := Lib.hid hia
            have HI48 := Lib.hid ((HI4.out.below HB7.out (Nat.le_refl _)).below hb (Nat.le_refl _))
            clear hb hia
            go_wp2_with fail
            refine (same_ints_at (o := true) _ HI8.out HI48.out rfl rfl (by omega) (by omega) (by simp)).mono ?_
            rintro e w9 ⟨rfl, hb⟩
            have HB9 := Lib.hid (HB8.out.trans (hb.mono HB8.out.size))
            clear hb
            go_wp2
            go_ret
            exact ⟨rfl, HB9.out⟩
        · have q6 : ((6 : Int) ≤ (n : Int)) := by omega
          have q6' : decide ((6 : Int) ≤ (n : Int)) = true := dec_yes q6
          have q6n : decide (6 ≤ n) = true := dec_yes (by omega)
          go_wp2_with fail
          refine (spec_setvalid_n HN.out HSB.out _ HS4.out (by omega)).mono ?_
          rintro e w5 ⟨rfl, rfl⟩
          go_wp2_with fail
          refine (same_ints_at (o := true) _ HI4.out HI34.out rfl rfl (by omega) (by omega) (by simp)).mono ?_
          rintro e w6 ⟨rfl, hb⟩
          have HB6 := Lib.hid (HB4.out.trans (hb.mono HB4.out.size))
          clear hb
          go_wp2
          go_ret
          exact ⟨rfl, HB6.out⟩
    · have hl2' : (1048576 : Int) < (len2 : Int) := by omega
      have hl2'' : decide ((1048576 : Int) < (len2 : Int)) = true := decide_eq_true (by omega)
      go_enter Try.func13, Try.ntmps13
      go_wp2
      go_ret
      exact ⟨rfl, Below.refl _ _⟩
  · have hl' : (1048576 : Int) < (len : Int) := by omega
    have hl3 : decide ((1048576 : Int) < (len : Int)) = true := decide_eq_true (by omega)
    go_enter Try.func13, Try.ntmps13
    go_wp2
    go_ret
    exact ⟨rfl, Below.refl _ _⟩
end Go.Proofs.Ytmhpmdibhpcjpaa
