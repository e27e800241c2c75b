/-
  The contracts of the functions that draw a name, a domain, an address and a path. Condition: the code can be read.
-/
import Derived.Test.YtclilcbllinbfaaDrawn
import Derived.OpenShut
namespace Go.Proofs.Ytclilcbllinbfaa
open Go.RowKit
set_option linter.unusedVariables false

theorem one_size (c : UInt8) : (⟨#[c]⟩ : ByteArray).size = 1 := rfl
/-- A code that can be read. -/
def Coded (w : World) (A : Option Addr) (len cap : Nat) : Prop :=
  len ≤ cap ∧ cap ≤ maxLen ∧ (0 < len → ∃ (xb xo : Nat) (f : Nat → Int), A = some ⟨xb, xo, none⟩ ∧ xb < w.heap.size ∧ ∀ i, i < len → w.cell? ⟨xb, xo + i, none⟩ = some (.int .u8 (f i)) ∧ 0 ≤ f i ∧ f i ≤ 255)
theorem Coded.below {w w' : World} {B : Nat} {A : Option Addr} {len cap : Nat} (h : Coded w A len cap) (hb : Below B w w') (hB : w.heap.size ≤ B) : Coded w' A len cap :=
  ⟨h.1, h.2.1, fun hl => by
    obtain ⟨xb, xo, f, hA, hx, hc⟩ := h.2.2 hl
    have hsz := hb.size
    exact ⟨xb, xo, f, hA, by omega, fun i hi => ⟨(hb.cell (p := ⟨xb, xo + i, none⟩) (by simp; omega)).trans (hc i hi).1, (hc i hi).2⟩⟩⟩
theorem coded_nil (w : World) : Coded w none 0 0 := ⟨Nat.le_refl _, by unfold maxLen; omega, fun h => absurd h (by omega)⟩
theorem coded_row {w : World} {x : Addr} {len cap : Nat} {zs : List Int} (hl : len ≤ cap) (hm : cap ≤ maxLen) (hz : zs.length = cap)
    (hc : ∀ i, i < zs.length → w.cell? (x.add i) = some (.int .u8 (zs.getD i 0))) (hw : ∀ n ∈ zs, (Lit.int .u8 n).wf = true) : Coded w (some x) len cap := by
  refine ⟨hl, hm, fun h0 => ?_⟩
  have h1 := hc 0 (by omega)
  have hs : x.spot = none := by simpa [Addr.add] using World.cell?_spot h1
  obtain ⟨xb, xo, spot⟩ := x
  simp only at hs
  subst hs
  refine ⟨xb, xo, fun i => zs.getD i 0, rfl, ?_, fun i hi => ?_⟩
  · have := block_lt_of_cell h1
    simpa [Addr.add] using this
  · have h2 := hc i (by omega)
    have hb : zs.getD i 0 ∈ zs := by
      rw [List.getD_eq_getElem?_getD, List.getElem?_eq_getElem (by omega)]
      exact List.getElem_mem _
    have hwf := hw _ hb
    have e : (⟨xb, xo, none⟩ : Addr).add i = ⟨xb, xo + i, none⟩ := by unfold Addr.add; split <;> simp_all
    rw [e] at h2
    have := bounds_u8 hwf
    exact ⟨h2, this.1, this.2⟩
/-- What a drawer of texts leaves. -/
def DrewText (w : World) (e : Ending) (w' : World) : Prop := ∃ s : ByteArray, s.size ≤ 100 ∧ e = .returned (.string s) ∧ Below w.heap.size w w'

set_option maxHeartbeats 1000000 in
theorem draw_name (A : Option Addr) (len cap : Nat) (w : World) (h : Coded w A len cap) :
    Calls Try.prog 22 #[.slice A len cap] w (DrewText w) := by
  have HK := Lib.hid h.2.2
  have hk1 := h.1
  have hk2 := h.2.1
  clear h
  go_enter Try.func22, Try.ntmps22
  go_wp2_with fail
  refine (open_any A len cap _ hk1 hk2 HK.out).mono ?_
  rintro e w1 ⟨rfl, hr, hb, hz⟩
  have HR := Lib.hid hr
  have HB := Lib.hid hb
  clear hr hb
  go_wp2_with fail
  refine (name_text w.heap.size 0 w1 HR.out (by omega)).mono ?_
  rintro e w2 ⟨s, hs, rfl, hr, hg⟩
  have HG := Lib.hid hg
  clear hr hg
  go_wp2
  go_ret
  exact ⟨s, by omega, rfl, below_gr HB.out HG.out (by omega) (Nat.le_refl _)⟩
set_option maxHeartbeats 1000000 in
theorem draw_domain (A : Option Addr) (len cap : Nat) (w : World) (h : Coded w A len cap) :
    Calls Try.prog 26 #[.slice A len cap] w (DrewText w) := by
  have HK := Lib.hid h.2.2
  have hk1 := h.1
  have hk2 := h.2.1
  clear h
  go_enter Try.func26, Try.ntmps26
  go_wp2_with fail
  refine (open_any A len cap _ hk1 hk2 HK.out).mono ?_
  rintro e w1 ⟨rfl, hr, hb, hz⟩
  have HR := Lib.hid hr
  have HB := Lib.hid hb
  clear hr hb
  go_wp2_with fail
  refine (domain_text w.heap.size 0 w1 HR.out (by omega)).mono ?_
  rintro e w2 ⟨s, hs, rfl, hr, hg⟩
  have HG := Lib.hid hg
  clear hr hg
  go_wp2
  go_ret
  exact ⟨s, by omega, rfl, below_gr HB.out HG.out (by omega) (Nat.le_refl _)⟩
set_option maxHeartbeats 2000000 in
theorem draw_address (A : Option Addr) (len cap : Nat) (w : World) (h : Coded w A len cap) :
    Calls Try.prog 30 #[.slice A len cap] w (DrewText w) := by
  have HK := Lib.hid h.2.2
  have hk1 := h.1
  have hk2 := h.2.1
  clear h
  go_enter Try.func30, Try.ntmps30
  go_wp2_with fail
  refine (open_any A len cap _ hk1 hk2 HK.out).mono ?_
  rintro e w1 ⟨rfl, hr, hb, hz⟩
  have HR := Lib.hid hr
  have HB := Lib.hid hb
  clear hr hb
  go_wp2_with fail
  refine (name_text w.heap.size 0 w1 HR.out (by omega)).mono ?_
  rintro e w2 ⟨s, hs, rfl, hr, hg⟩
  have HR2 := Lib.hid hr
  have HG2 := Lib.hid hg
  clear hr hg
  go_wp2_with fail
  refine (domain_text w.heap.size 2 w2 HR2.out (by omega)).mono ?_
  rintro e w3 ⟨t, ht, rfl, hr, hg⟩
  have HR3 := Lib.hid hr
  have HG3 := Lib.hid (gr_trans HG2.out hg)
  clear hr hg
  go_wp2_with fail
  refine (pick_any w.heap.size 4 12 w3 HR3.out (by omega) (by omega) (by omega)).mono ?_
  rintro e w4 ⟨x, hx, rfl, hr, hg⟩
  have HR4 := Lib.hid hr
  have HG4 := Lib.hid (gr_trans HG3.out hg)
  clear hr hg
  by_cases h0 : x = 0
  · subst h0
    go_wp2
    go_ret
    exact ⟨_, by simp [ByteArray.size_append, one_size]; omega, rfl, below_gr HB.out HG4.out (by omega) (Nat.le_refl _)⟩
  · have h0' : ((x : Int) == 0) = false := by simp; omega
    by_cases h1 : x = 1
    · subst h1
      go_wp2_with fail
      refine (name_text w.heap.size 5 w4 HR4.out (by omega)).mono ?_
      rintro e w5 ⟨u, hu, rfl, hr, hg⟩
      have HG5 := Lib.hid (gr_trans HG4.out hg)
      clear hr hg
      go_wp2
      go_ret
      exact ⟨u, by omega, rfl, below_gr HB.out HG5.out (by omega) (Nat.le_refl _)⟩
    · have h1' : ((x : Int) == 1) = false := by simp; omega
      go_wp2
      go_ret
      exact ⟨_, by simp [ByteArray.size_append, one_size]; omega, rfl, below_gr HB.out HG4.out (by omega) (Nat.le_refl _)⟩
set_option maxHeartbeats 2000000 in
theorem draw_path (A : Option Addr) (len cap : Nat) (w : World) (h : Coded w A len cap) :
    Calls Try.prog 36 #[.slice A len cap] w (DrewText w) := by
  have HK := Lib.hid h.2.2
  have hk1 := h.1
  have hk2 := h.2.1
  clear h
  go_enter Try.func36, Try.ntmps36
  go_wp2_with fail
  refine (open_any A len cap _ hk1 hk2 HK.out).mono ?_
  rintro e w1 ⟨rfl, hr, hb, hz⟩
  have HR := Lib.hid hr
  have HB := Lib.hid hb
  clear hr hb
  go_wp2_with fail
  refine (name_text w.heap.size 0 w1 HR.out (by omega)).mono ?_
  rintro e w2 ⟨s, hs, rfl, hr, hg⟩
  have HR2 := Lib.hid hr
  have HG2 := Lib.hid hg
  clear hr hg
  go_wp2_with fail
  refine (domain_text w.heap.size 2 w2 HR2.out (by omega)).mono ?_
  rintro e w3 ⟨t, ht, rfl, hr, hg⟩
  have HR3 := Lib.hid hr
  have HG3 := Lib.hid (gr_trans HG2.out hg)
  clear hr hg
  go_wp2_with fail
  refine (pick_any w.heap.size 4 10 w3 HR3.out (by omega) (by omega) (by omega)).mono ?_
  rintro e w4 ⟨x, hx, rfl, hr, hg⟩
  have HR4 := Lib.hid hr
  have HG4 := Lib.hid (gr_trans HG3.out hg)
  clear hr hg
  by_cases h0 : x = 0
  · subst h0
    go_wp2_with fail
    refine (of_new w.heap.size 5 [[], [60], [62], [60, 62], [60, 62, 62], [60, 64, 62], [97, 64, 98]] w4 HR4.out (by omega) (by decide) (by decide)).mono ?_
    rintro e w5 ⟨l, hl, rfl, hr, hg⟩
    have HG5 := Lib.hid (gr_trans HG4.out hg)
    have HL := Lib.hid hl
    clear hr hg hl
    unfold str
    go_wp2
    go_ret
    exact ⟨_, Nat.le_trans (text_le (by decide) HL.out) (by omega), rfl, below_gr HB.out HG5.out (by omega) (Nat.le_refl _)⟩
  · have h0' : ((x : Int) == 0) = false := by simp; omega
    by_cases h1 : x = 1
    · subst h1
      go_wp2
      go_ret
      exact ⟨_, by simp [ByteArray.size_append, one_size]; omega, rfl, below_gr HB.out HG4.out (by omega) (Nat.le_refl _)⟩
    · have h1' : ((x : Int) == 1) = false := by simp; omega
      go_wp2
      go_ret
      exact ⟨_, by simp [ByteArray.size_append, one_size]; omega, rfl, below_gr HB.out HG4.out (by omega) (Nat.le_refl _)⟩
/-- What the drawer of addresses leaves. -/
def DrewAddr (w : World) (e : Ending) (w' : World) : Prop := ∃ u d : ByteArray, u.size ≤ 100 ∧ d.size ≤ 100 ∧ e = .returned (.agg #[.string u, .string d]) ∧ Below w.heap.size w w'
set_option maxHeartbeats 2000000 in
theorem draw_addr (A : Option Addr) (len cap : Nat) (w : World) (h : Coded w A len cap) :
    Calls Try.prog 34 #[.slice A len cap] w (DrewAddr w) := by
  have hA := (Below.refl w.heap.size w).alloc (Nat.le_refl _) (.cells #[.string ⟨#[]⟩, .string ⟨#[]⟩] 30)
  have HC := Lib.hid (h.below hA (Nat.le_refl _))
  have hk1 := h.1
  have hk2 := h.2.1
  clear h hA
  go_enter Try.func34, Try.ntmps34
  go_wp2_with fail
  refine (open_any A len cap _ hk1 hk2 HC.out.2.2).mono ?_
  rintro e w1 ⟨rfl, hr, hb, hz⟩
  have ez : (w.alloc (.cells #[.string ⟨#[]⟩, .string ⟨#[]⟩] 30)).heap.size = w.heap.size + 1 := by simp
  rw [ez] at hr hb hz ⊢
  have HR := Lib.hid hr
  have HW := Lib.hid ((Whole.made w 30 #[.string ⟨#[]⟩, .string ⟨#[]⟩]).below hb (by omega))
  have HB := Lib.hid (((Below.refl w.heap.size w).alloc (Nat.le_refl _) _).trans (hb.mono (Nat.le_succ _)))
  clear hr hb ez
  go_wp2_with fail
  refine (name_text (w.heap.size + 1) 0 w1 HR.out (by omega)).mono ?_
  rintro e w2 ⟨s, hs, rfl, hr, hg⟩
  have HR2 := Lib.hid hr
  have HG2 := Lib.hid hg
  clear hr hg
  go_wp2_with fail
  refine (domain_text (w.heap.size + 1) 2 w2 HR2.out (by omega)).mono ?_
  rintro e w3 ⟨t, ht, rfl, hr, hg⟩
  have hW := HW.out.grown (gr_trans HG2.out hg) (by simp)
  have hr0 : w3.cell? ⟨w.heap.size, 0, none⟩ = some (.string ⟨#[]⟩) := hW.cell 0
  have hr1 : w3.cell? ⟨w.heap.size, 1, none⟩ = some (.string ⟨#[]⟩) := hW.cell 1
  have hf0 := hW.free 0
  have hf1 := hW.free 1
  have HG3 := Lib.hid (gr_trans HG2.out hg)
  clear hr hg hW
  go_wp2
  refine bodyPost_ret (v := .agg #[.string s, .string t]) (by simp [results, Try.results34, go_sem, hr0, hr1]) rfl ?_
  exact ⟨s, t, by omega, by omega, rfl, ((below_gr HB.out HG3.out (by omega) (by omega)).setCell (p := ⟨w.heap.size, 0, none⟩) (Nat.le_refl _) _).setCell (p := ⟨w.heap.size, 1, none⟩) (Nat.le_refl _) _⟩
end Go.Proofs.Ytclilcbllinbfaa
