/-
  The contract of the cursor's method 'address', and of the functions of chapter 1 that are built on the cursor. No condition beyond a bound on the text's length.
-/
import Derived.Test.YtclilcbllinbfaaDomain
namespace Go.Proofs.Ytclilcbllinbfaa
open Go.RowKit
set_option linter.unusedVariables false

/-- What 'address' leaves. -/
def Addressed (w : World) (b : Nat) (s : ByteArray) (k : Nat) (e : Ending) (w' : World) : Prop :=
  ∃ (u d : ByteArray) (j : Nat), e = .returned (.tuple #[.agg #[.string u, .string d], .bool (adOk s.data.toList k)]) ∧
    (adOk s.data.toList k = true → u.data.toList = adUser s.data.toList k ∧ d.data.toList = adDom s.data.toList k ∧ j = adEnd s.data.toList k) ∧
    (adOk s.data.toList k = false → u = ⟨#[]⟩ ∧ d = ⟨#[]⟩) ∧ j ≤ s.size ∧ Cur w' b s j ∧ w.grownBy w' (some b)

theorem bytes_nil {v : ByteArray} (h : v.data.toList = []) : v = ⟨#[]⟩ := by
  cases v with
  | mk d => cases d with
    | mk l => simp at h; subst h; rfl
theorem name_yes (b k : Nat) (s : ByteArray) (w : World) (h : Cur w b s k) (hs : s.size ≤ 16777216) (hk : k ≤ s.size) (ho : okLen (nmLen s.data.toList k) = true) :
    Calls Try.prog 44 #[.pointer (some ⟨b, 0, none⟩)] w fun e w' => ∃ v : ByteArray, e = .returned (.tuple #[.string v, .bool true]) ∧ v.data.toList = (s.data.toList.drop k).take (nmLen s.data.toList k) ∧ Cur w' b s (k + nmLen s.data.toList k) ∧ w.grownBy w' (some b) := by
  refine (name_any b k s w h hs hk).mono ?_
  rintro e w' ⟨v, he, hv, hc, hg⟩
  rw [ho] at he
  rw [ho, if_pos rfl] at hv
  exact ⟨v, he, hv, hc, hg⟩
theorem name_no (b k : Nat) (s : ByteArray) (w : World) (h : Cur w b s k) (hs : s.size ≤ 16777216) (hk : k ≤ s.size) (ho : okLen (nmLen s.data.toList k) = false) :
    Calls Try.prog 44 #[.pointer (some ⟨b, 0, none⟩)] w fun e w' => e = .returned (.tuple #[.string ⟨#[]⟩, .bool false]) ∧ Cur w' b s (k + nmLen s.data.toList k) ∧ w.grownBy w' (some b) := by
  refine (name_any b k s w h hs hk).mono ?_
  rintro e w' ⟨v, he, hv, hc, hg⟩
  rw [ho] at he
  rw [ho] at hv
  have := bytes_nil (v := v) (by simpa using hv)
  subst this
  exact ⟨he, hc, hg⟩
theorem domain_yes (b k : Nat) (s : ByteArray) (w : World) (h : Cur w b s k) (hs : s.size ≤ 16777216) (hk : k ≤ s.size) (ho : domOk s.data.toList k = true) :
    Calls Try.prog 48 #[.pointer (some ⟨b, 0, none⟩)] w fun e w' => ∃ v : ByteArray, e = .returned (.tuple #[.string v, .bool true]) ∧ v.data.toList = (s.data.toList.drop k).take (domEnd s.data.toList k - k) ∧ domEnd s.data.toList k ≤ s.size ∧ Cur w' b s (domEnd s.data.toList k) ∧ w.grownBy w' (some b) := by
  refine (domain_any b k s w h hs hk).mono ?_
  rintro e w' ⟨v, he, hv, hc⟩
  rw [ho] at he
  rw [ho, if_pos rfl] at hv
  exact ⟨v, he, hv, hc⟩
theorem domain_no (b k : Nat) (s : ByteArray) (w : World) (h : Cur w b s k) (hs : s.size ≤ 16777216) (hk : k ≤ s.size) (ho : domOk s.data.toList k = false) :
    Calls Try.prog 48 #[.pointer (some ⟨b, 0, none⟩)] w fun e w' => e = .returned (.tuple #[.string ⟨#[]⟩, .bool false]) ∧ domEnd s.data.toList k ≤ s.size ∧ Cur w' b s (domEnd s.data.toList k) ∧ w.grownBy w' (some b) := by
  refine (domain_any b k s w h hs hk).mono ?_
  rintro e w' ⟨v, he, hv, hc⟩
  rw [ho] at he
  rw [ho] at hv
  have := bytes_nil (v := v) (by simpa using hv)
  subst this
  exact ⟨he, hc⟩

theorem addressed_no {b k j : Nat} {s : ByteArray} {w wr : World} (ho : adOk s.data.toList k = false) (hj : j ≤ s.size) (hc : Cur wr b s j) (hg : w.grownBy wr (some b)) :
    Addressed w b s k (.returned (.tuple #[.agg #[.string ⟨#[]⟩, .string ⟨#[]⟩], .bool false])) wr :=
  ⟨_, _, j, by rw [ho], fun h => by rw [ho] at h; (cases h), fun _ => ⟨rfl, rfl⟩, hj, hc, hg⟩

set_option maxHeartbeats 1000000 in
theorem address_any (b k : Nat) (s : ByteArray) (w : World) (h : Cur w b s k) (hs : s.size ≤ 16777216) (hk : k ≤ s.size) :
    Calls Try.prog 51 #[.pointer (some ⟨b, 0, none⟩)] w (Addressed w b s k) := by
  have hl : s.data.toList.length = s.size := by simp
  have hnl := nmLen_le s.data.toList k (by omega)
  have hkn : k + nmLen s.data.toList k ≤ s.size := by omega
  have hbl : b < w.heap.size := Whole.lt h
  have hbn : w.heap.size ≠ b := by omega
  have hbn' : b ≠ w.heap.size := by omega
  have H := Lib.hid h
  have HL := Lib.hid hl
  clear h hl
  by_cases ho : okLen (nmLen s.data.toList k) = true
  · have HO := Lib.hid ho
    clear ho
    by_cases hx : nextIs s.data.toList (k + nmLen s.data.toList k) 64 = true
    · have HX := Lib.hid hx
      have hxl : k + nmLen s.data.toList k + 1 ≤ s.size := by have := nextIs_lt hx; have := HL.out; omega
      clear hx
      by_cases hd : domOk s.data.toList (k + nmLen s.data.toList k + 1) = true
      · have HD := Lib.hid hd
        clear hd
        go_enter Try.func51, Try.ntmps51
        go_wp2_with fail
        refine (name_yes b k s _ (H.out.alloc _) hs hk HO.out).mono ?_
        rintro e w1 ⟨u, rfl, hu, hc1, hg1⟩
        have hR := (Whole.made w 30 #[.string ⟨#[]⟩, .string ⟨#[]⟩]).grown hg1 (by simpa using hbn)
        have HU := Lib.hid hu
        have HC1 := Lib.hid hc1
        have HG1 := Lib.hid hg1
        have HR1 := Lib.hid hR
        clear hu hc1 hg1 hR
        go_wp2_with fail
        refine (take_at_yes 64 64 rfl b (k + nmLen s.data.toList k) s _ HC1.out hs hkn HX.out).mono ?_
        rintro e w2 ⟨rfl, hc2, hg2⟩
        have HR2 := Lib.hid (HR1.out.grown hg2 (by simpa using hbn))
        have HC2 := Lib.hid hc2
        have HG2 := Lib.hid (gr_trans HG1.out hg2)
        clear hc2 hg2
        go_wp2_with fail
        refine (domain_yes b (k + nmLen s.data.toList k + 1) s _ HC2.out hs hxl HD.out).mono ?_
        rintro e w3 ⟨d, rfl, hd, hde, hc3, hg3⟩
        have hR3 := HR2.out.grown hg3 (by simpa using hbn)
        have hr0 : w3.cell? ⟨w.heap.size, 0, none⟩ = some (.string ⟨#[]⟩) := hR3.cell 0
        have hr1 : w3.cell? ⟨w.heap.size, 1, none⟩ = some (.string ⟨#[]⟩) := hR3.cell 1
        have hf0 := hR3.free 0
        have hf1 := hR3.free 1
        have hz3 := hR3.lt
        have HD3 := Lib.hid hd
        have HC3 := Lib.hid hc3
        have HG3 := Lib.hid (gr_trans HG2.out hg3)
        clear hd hc3 hg3 hR3
        go_wp2
        refine bodyPost_ret (v := .tuple #[.agg #[.string u, .string d], .bool true]) (by simp [results, Try.results51, go_sem, hr0, hr1]) rfl ?_
        have hok : adOk s.data.toList k = true := by unfold adOk; rw [HO.out, HX.out, HD.out]; rfl
        refine ⟨u, d, _, by rw [hok], fun _ => ⟨HU.out, HD3.out, rfl⟩, fun h => by rw [hok] at h; (cases h), hde, ?_, ?_⟩
        · exact (HC3.out.apart hbn' _).apart hbn' _
        · exact gr_store (gr_store (gr_trans (gr_alloc (gr_refl _ _) _) HG3.out) (.inr (Nat.le_refl _)) _) (.inr (Nat.le_refl _)) _
      · have HD := Lib.hid (Bool.eq_false_iff.2 hd)
        clear hd
        go_enter Try.func51, Try.ntmps51
        go_wp2_with fail
        refine (name_yes b k s _ (H.out.alloc _) hs hk HO.out).mono ?_
        rintro e w1 ⟨u, rfl, hu, hc1, hg1⟩
        have hR := (Whole.made w 30 #[.string ⟨#[]⟩, .string ⟨#[]⟩]).grown hg1 (by simpa using hbn)
        have HC1 := Lib.hid hc1
        have HG1 := Lib.hid hg1
        have HR1 := Lib.hid hR
        clear hu hc1 hg1 hR
        go_wp2_with fail
        refine (take_at_yes 64 64 rfl b (k + nmLen s.data.toList k) s _ HC1.out hs hkn HX.out).mono ?_
        rintro e w2 ⟨rfl, hc2, hg2⟩
        have HR2 := Lib.hid (HR1.out.grown hg2 (by simpa using hbn))
        have HC2 := Lib.hid hc2
        have HG2 := Lib.hid (gr_trans HG1.out hg2)
        clear hc2 hg2
        go_wp2_with fail
        refine (domain_no b (k + nmLen s.data.toList k + 1) s _ HC2.out hs hxl HD.out).mono ?_
        rintro e w3 ⟨rfl, hde, hc3, hg3⟩
        have hR3 := HR2.out.grown hg3 (by simpa using hbn)
        have hr0 : w3.cell? ⟨w.heap.size, 0, none⟩ = some (.string ⟨#[]⟩) := hR3.cell 0
        have hr1 : w3.cell? ⟨w.heap.size, 1, none⟩ = some (.string ⟨#[]⟩) := hR3.cell 1
        have hf0 := hR3.free 0
        have hf1 := hR3.free 1
        have hz3 := hR3.lt
        have HC3 := Lib.hid hc3
        have HG3 := Lib.hid (gr_trans HG2.out hg3)
        clear hc3 hg3 hR3
        go_wp2
        refine bodyPost_ret (v := .tuple #[.agg #[.string ⟨#[]⟩, .string ⟨#[]⟩], .bool false]) (by simp [results, Try.results51, go_sem, hr0, hr1]) rfl ?_
        refine addressed_no (by unfold adOk; rw [HO.out, HX.out, HD.out]; rfl) hde ?_ ?_
        · exact (HC3.out.apart hbn' _).apart hbn' _
        · exact gr_store (gr_store (gr_trans (gr_alloc (gr_refl _ _) _) HG3.out) (.inr (Nat.le_refl _)) _) (.inr (Nat.le_refl _)) _
    · have HX := Lib.hid (Bool.eq_false_iff.2 hx)
      clear hx
      go_enter Try.func51, Try.ntmps51
      go_wp2_with fail
      refine (name_yes b k s _ (H.out.alloc _) hs hk HO.out).mono ?_
      rintro e w1 ⟨u, rfl, hu, hc1, hg1⟩
      have hR := (Whole.made w 30 #[.string ⟨#[]⟩, .string ⟨#[]⟩]).grown hg1 (by simpa using hbn)
      have HC1 := Lib.hid hc1
      have HG1 := Lib.hid hg1
      have HR1 := Lib.hid hR
      clear hu hc1 hg1 hR
      go_wp2_with fail
      refine (take_at_no 64 64 rfl b (k + nmLen s.data.toList k) s _ HC1.out hs hkn HX.out).mono ?_
      rintro e w2 ⟨rfl, hc2, hg2⟩
      have hR3 := HR1.out.grown hg2 (by simpa using hbn)
      have hr0 : w2.cell? ⟨w.heap.size, 0, none⟩ = some (.string ⟨#[]⟩) := hR3.cell 0
      have hr1 : w2.cell? ⟨w.heap.size, 1, none⟩ = some (.string ⟨#[]⟩) := hR3.cell 1
      have hf0 := hR3.free 0
      have hf1 := hR3.free 1
      have hz3 := hR3.lt
      have HC3 := Lib.hid hc2
      have HG3 := Lib.hid (gr_trans HG1.out hg2)
      clear hc2 hg2 hR3
      go_wp2
      refine bodyPost_ret (v := .tuple #[.agg #[.string ⟨#[]⟩, .string ⟨#[]⟩], .bool false]) (by simp [results, Try.results51, go_sem, hr0, hr1]) rfl ?_
      refine addressed_no (by unfold adOk; rw [HO.out, HX.out]; rfl) hkn ?_ ?_
      · exact (HC3.out.apart hbn' _).apart hbn' _
      · exact gr_store (gr_store (gr_trans (gr_alloc (gr_refl _ _) _) HG3.out) (.inr (Nat.le_refl _)) _) (.inr (Nat.le_refl _)) _
  · have HO := Lib.hid (Bool.eq_false_iff.2 ho)
    clear ho
    go_enter Try.func51, Try.ntmps51
    go_wp2_with fail
    refine (name_no b k s _ (H.out.alloc _) hs hk HO.out).mono ?_
    rintro e w2 ⟨rfl, hc2, hg2⟩
    have hR3 := (Whole.made w 30 #[.string ⟨#[]⟩, .string ⟨#[]⟩]).grown hg2 (by simpa using hbn)
    have hr0 : w2.cell? ⟨w.heap.size, 0, none⟩ = some (.string ⟨#[]⟩) := hR3.cell 0
    have hr1 : w2.cell? ⟨w.heap.size, 1, none⟩ = some (.string ⟨#[]⟩) := hR3.cell 1
    have hf0 := hR3.free 0
    have hf1 := hR3.free 1
    have hz3 := hR3.lt
    have HC3 := Lib.hid hc2
    have HG3 := Lib.hid hg2
    clear hc2 hg2 hR3
    go_wp2
    refine bodyPost_ret (v := .tuple #[.agg #[.string ⟨#[]⟩, .string ⟨#[]⟩], .bool false]) (by simp [results, Try.results51, go_sem, hr0, hr1]) rfl ?_
    refine addressed_no (by unfold adOk; rw [HO.out]; rfl) hkn ?_ ?_
    · exact (HC3.out.apart hbn' _).apart hbn' _
    · exact gr_store (gr_store (gr_trans (gr_alloc (gr_refl _ _) _) HG3.out) (.inr (Nat.le_refl _)) _) (.inr (Nat.le_refl _)) _
end Go.Proofs.Ytclilcbllinbfaa
