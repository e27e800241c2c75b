/-
  The contracts of the functions that draw bytes, a text in base64, a user with a password and a proof. Condition: the code can be read.
-/
import Derived.Test.YtmangdkaklnpdaaDraws
import Derived.Test.YtmangdkaklnpdaaBbase
import Derived.Deep.RegionWith
import Derived.IntWalk
namespace Go.Proofs.Ytmangdkaklnpdaa
open Go.RowKit
set_option linter.unusedVariables false

/-- A drawn text; the reader stands a few places further. -/
def Text2 (w : World) (b p : Nat) (e : Ending) (w' : World) : Prop := ∃ (s : ByteArray) (q : Nat), s.size ≤ 40 ∧ q ≤ p + 100 ∧ e = .returned (.string s) ∧ Rd w' b q ∧ w.grownBy w' (some b)
theorem own_picked {w w' : World} {B b n : Nat} {t : TypeId} {v : Value} {xs : List Value} (h : w.ownsRow B t 1 v n xs) (hg : w.grownBy w' (some b)) (hb : b < B) : w'.ownsRow B t 1 v n xs :=
  h.kept hg (by
    rcases h.2 with ⟨rfl, _⟩ | ⟨g, cap, cur, rfl, hB, _⟩
    · exact Or.inl rfl
    · exact Or.inr (by simp [Value.ownBlock]; omega))
theorem grow_own {w w1 w2 : World} {b : Nat} {row : Option Nat} (h : w.grownBy w1 (some b)) (hg : w1.grownBy w2 row) (hr : ∀ g, row = some g → w.heap.size ≤ g) : w.grownBy w2 (some b) :=
  ⟨hg.os.trans h.os, hg.tape.trans h.tape, hg.output.trans h.output, Nat.le_trans h.size hg.size, fun i hi hn => (hg.block i (Nat.lt_of_lt_of_le hi h.size) (fun e => by have := hr i e.symm; omega)).trans (h.block i hi hn)⟩

theorem Rd.kept_row {w w' : World} {b p : Nat} {row : Option Nat} (h : Rd w b p) (hg : w.grownBy w' row) (hb : ∀ g, row = some g → b < g) : Rd w' b p := by
  cases row with
  | none => exact h.below ⟨hg.os, hg.tape, hg.output, hg.size, fun k hk => hg.block k hk (by simp)⟩ h.lt
  | some g => exact h.grown hg (hb g rfl)
set_option maxRecDepth 20000 in
set_option maxHeartbeats 4000000 in
theorem bytes_text (b p : Nat) (w : World) (h : Rd w b p) (hp : p ≤ 900000) :
    Calls Try.prog 71 #[.pointer (some ⟨b, 0, none⟩)] w (Text2 w b p) := by
  have hbl := h.lt
  have H := Lib.hid (h.below ((Below.refl w.heap.size w).alloc (Nat.le_refl _) (.cells #[] 5)) hbl)
  clear h
  obtain ⟨i0, hi, hz0, hz1, hz2⟩ := info_parts Try.infoByte
  have hlit : (w.alloc (.cells #[] 5)).ownsRow w.heap.size 5 1 (.slice (some ⟨w.heap.size, 0, none⟩) 0 0) 0 (Lib.byteCells []) := World.ownsRow_lit w #[] 0 (Nat.le_refl _) (by unfold maxLen; omega) rfl
  have HO := Lib.hid hlit
  clear hlit
  go_enter Try.func71, Try.ntmps71
  go_wp2_with fail
  refine (pick_any b p 12 _ H.out (by omega) (by omega) (by omega)).mono ?_
  rintro e w1 ⟨n, hn, rfl, hr, hg⟩
  have HR1 := Lib.hid hr
  have HG1 := Lib.hid (gr_trans (gr_alloc (gr_refl w (some b)) (.cells #[] 5)) hg)
  have HO1 := Lib.hid (own_picked HO.out hg hbl)
  clear hr hg
  go_wp2_with fail
  refine (pick_any b (p + 1) 16 _ HR1.out (by omega) (by omega) (by omega)).mono ?_
  rintro e w2 ⟨x, hx, rfl, hr, hg⟩
  have HR2 := Lib.hid hr
  have HG2 := Lib.hid (gr_trans HG1.out hg)
  have HO2 := Lib.hid (own_picked HO1.out hg hbl)
  clear hr hg HR1 HG1 HO1
  by_cases h0 : x = 0
  · subst h0
    go_wp2_with fail
    refine (pick_any b (p + 1 + 1) 5 _ HR2.out (by omega) (by omega) (by omega)).mono ?_
    rintro e w3 ⟨y, hy, rfl, hr, hg⟩
    have HR3 := Lib.hid hr
    have HG3 := Lib.hid (gr_trans HG2.out hg)
    have HO3 := Lib.hid (own_picked HO2.out hg hbl)
    clear hr hg HR2 HG2 HO2
    obtain ⟨m, hm⟩ : ∃ m, m = 28 + y := ⟨_, rfl⟩
    have hm1 : (28 : Int) + (y : Int) = (m : Int) := by omega
    have hm2 : m ≤ 32 := by omega
    clear hm
    go_wp2
    go_loopw [3, 5] (fun v i wr => ∃ (k q : Nat) (P : List UInt8), k ≤ m ∧ i = .int .i64 (k : Int) ∧ P.length = k ∧ q ≤ p + 3 + 2 * k ∧ Hid (Rd wr b q) ∧ Hid (w.grownBy wr (some b)) ∧ Hid (wr.ownsRow w.heap.size 5 1 v P.length (Lib.byteCells P))) (fun _ i _ => m - (intOf i).toNat)
    case atStart => exact ⟨0, _, [], by omega, by go_num, rfl, by omega, HR3, HG3, HO3⟩
    case round =>
      obtain ⟨k, q, P, hk, rfl, hP, hq, HR, HG, HO⟩ := hrel
      by_cases hlt : k < m
      · have i1 : (k : Int) < (m : Int) := by omega
        go_wp2_with fail
        refine (pick_any b q 16 _ HR.out (by omega) (by omega) (by omega)).mono ?_
        rintro e wa ⟨c, hc, rfl, hr, hg⟩
        have HRa := Lib.hid hr
        have HGa := Lib.hid (gr_trans HG.out hg)
        have HOa := Lib.hid (own_picked HO.out hg hbl)
        clear hr hg HR HG HO
        go_wp2_with fail
        refine (pick_any b (q + 1) 18 _ HRa.out (by omega) (by omega) (by omega)).mono ?_
        rintro e wb ⟨d, hd, rfl, hr, hg⟩
        have HRb := Lib.hid hr
        have HGb := Lib.hid (gr_trans HGa.out hg)
        have hown := own_picked HOa.out hg hbl
        clear hr hg HRa HGa HOa
        obtain ⟨z, hz⟩ : ∃ z, c * d = z := ⟨_, rfl⟩
        have hz3 : (c : Int) * (d : Int) = (z : Int) := by rw [← hz]; simp
        have hz4 : z ≤ 255 := by
          rw [← hz]
          have h1 : c * d ≤ 15 * 17 := Nat.mul_le_mul (by omega) (by omega)
          omega
        have z1 : (z : Int) ≤ 255 := by omega
        have z2 : (0 : Int) ≤ (z : Int) := by omega
        have c1 : (c : Int) ≤ 15 := by omega
        have d1 : (d : Int) ≤ 17 := by omega
        have c2 : (0 : Int) ≤ (c : Int) := by omega
        have d2 : (0 : Int) ≤ (d : Int) := by omega
        have hsz : w.heap.size ≤ wb.heap.size := HGb.out.size
        clear hz
        go_wp2_with (at_builtin; refine wpList_append_own _ rfl _ _ 22 rfl w.heap.size 5 i0 (.int .u8 0) 1 1 Try.underlying22 hi hz0 hz1 hz2 rfl (by decide) _ _ _ rfl (hown.alloc _) ⟨wb.heap.size, 0, none⟩ 1 1 [.int .u8 (z : Int)] rfl rfl ?a11 ?a21 ?a31 ?a41 ?a51 ?_)
        case a11 =>
          intro j u hj
          match j, hj with
          | 0, hj => simp at hj; subst hj; simp [Addr.add]
        case a21 => intro u hu; simp at hu; subst hu; rfl
        case a31 => unfold maxLen; omega
        case a41 => omega
        case a51 => simp; omega
        intro v' wc hown1 hgrow _
        have HGc := Lib.hid (grow_own (gr_alloc HGb.out _) hgrow (fun g e => (hown.lt g e).1))
        have HRc := Lib.hid ((HRb.out.below ((Below.refl wb.heap.size wb).alloc (Nat.le_refl _) _) HRb.out.lt).kept_row hgrow (fun g e => by have := (hown.lt g e).1; omega))
        have HOc := Lib.hid hown1
        clear hown1 hgrow hown
        go_wp2
        go_roundw
        case rel => exact ⟨k + 1, q + 2, P ++ [UInt8.ofNat z], by omega, by go_num, by simp [hP], by omega, HRc, HGc, by
          have h := HOc.out
          refine Lib.hid ?_
          simpa [Lib.byteCells, hP, ofNat_nat (show z < 256 by omega)] using h⟩
        case measure => simp [intOf]; omega
      · have i1 : ¬ (k : Int) < (m : Int) := by omega
        have hown := HO.out
        rcases hown.2 with ⟨rfl, h0⟩ | ⟨g, cap, cur, rfl, -, -, -, -, -, -⟩
        · have hcv := Lib.run_convert_nil_bytes (P := Try.prog) wr 22 9 5 0 Try.underlying22 Try.underlying5 Try.underlying9
          have HZ := Lib.hid h0
          clear h0 hown
          go_wp2
          go_ret
          exact ⟨⟨#[]⟩, q, Nat.zero_le _, by omega, rfl, HR.out, HG.out⟩
        · have hcv := run_convert_bytes_back (P := Try.prog) wr 22 9 5 ⟨g, 0, none⟩ cap P Try.underlying22 Try.underlying5 Try.underlying9 (fun j hj => hown.cells (g := g) rfl j _ (by simp [Lib.byteCells, hj]))
          have HPL := Lib.hid hP
          clear hown hP
          go_wp2
          go_ret
          exact ⟨bt P, q, by rw [bt_size, HPL.out]; omega, by omega, rfl, HR.out, HG.out⟩
  · have h0' : ((x : Int) == 0) = false := by simp; omega
    have hm2 : n ≤ 32 := by omega
    go_wp2
    go_loopw [3, 5] (fun v i wr => ∃ (k q : Nat) (P : List UInt8), k ≤ n ∧ i = .int .i64 (k : Int) ∧ P.length = k ∧ q ≤ p + 3 + 2 * k ∧ Hid (Rd wr b q) ∧ Hid (w.grownBy wr (some b)) ∧ Hid (wr.ownsRow w.heap.size 5 1 v P.length (Lib.byteCells P))) (fun _ i _ => n - (intOf i).toNat)
    case atStart => exact ⟨0, _, [], by omega, by go_num, rfl, by omega, HR2, HG2, HO2⟩
    case round =>
      obtain ⟨k, q, P, hk, rfl, hP, hq, HR, HG, HO⟩ := hrel
      by_cases hlt : k < n
      · have i1 : (k : Int) < (n : Int) := by omega
        go_wp2_with fail
        refine (pick_any b q 16 _ HR.out (by omega) (by omega) (by omega)).mono ?_
        rintro e wa ⟨c, hc, rfl, hr, hg⟩
        have HRa := Lib.hid hr
        have HGa := Lib.hid (gr_trans HG.out hg)
        have HOa := Lib.hid (own_picked HO.out hg hbl)
        clear hr hg HR HG HO
        go_wp2_with fail
        refine (pick_any b (q + 1) 18 _ HRa.out (by omega) (by omega) (by omega)).mono ?_
        rintro e wb ⟨d, hd, rfl, hr, hg⟩
        have HRb := Lib.hid hr
        have HGb := Lib.hid (gr_trans HGa.out hg)
        have hown := own_picked HOa.out hg hbl
        clear hr hg HRa HGa HOa
        obtain ⟨z, hz⟩ : ∃ z, c * d = z := ⟨_, rfl⟩
        have hz3 : (c : Int) * (d : Int) = (z : Int) := by rw [← hz]; simp
        have hz4 : z ≤ 255 := by
          rw [← hz]
          have h1 : c * d ≤ 15 * 17 := Nat.mul_le_mul (by omega) (by omega)
          omega
        have z1 : (z : Int) ≤ 255 := by omega
        have z2 : (0 : Int) ≤ (z : Int) := by omega
        have c1 : (c : Int) ≤ 15 := by omega
        have d1 : (d : Int) ≤ 17 := by omega
        have c2 : (0 : Int) ≤ (c : Int) := by omega
        have d2 : (0 : Int) ≤ (d : Int) := by omega
        have hsz : w.heap.size ≤ wb.heap.size := HGb.out.size
        clear hz
        go_wp2_with (at_builtin; refine wpList_append_own _ rfl _ _ 22 rfl w.heap.size 5 i0 (.int .u8 0) 1 1 Try.underlying22 hi hz0 hz1 hz2 rfl (by decide) _ _ _ rfl (hown.alloc _) ⟨wb.heap.size, 0, none⟩ 1 1 [.int .u8 (z : Int)] rfl rfl ?a12 ?a22 ?a32 ?a42 ?a52 ?_)
        case a12 =>
          intro j u hj
          match j, hj with
          | 0, hj => simp at hj; subst hj; simp [Addr.add]
        case a22 => intro u hu; simp at hu; subst hu; rfl
        case a32 => unfold maxLen; omega
        case a42 => omega
        case a52 => simp; omega
        intro v' wc hown1 hgrow _
        have HGc := Lib.hid (grow_own (gr_alloc HGb.out _) hgrow (fun g e => (hown.lt g e).1))
        have HRc := Lib.hid ((HRb.out.below ((Below.refl wb.heap.size wb).alloc (Nat.le_refl _) _) HRb.out.lt).kept_row hgrow (fun g e => by have := (hown.lt g e).1; omega))
        have HOc := Lib.hid hown1
        clear hown1 hgrow hown
        go_wp2
        go_roundw
        case rel => exact ⟨k + 1, q + 2, P ++ [UInt8.ofNat z], by omega, by go_num, by simp [hP], by omega, HRc, HGc, by
          have h := HOc.out
          refine Lib.hid ?_
          simpa [Lib.byteCells, hP, ofNat_nat (show z < 256 by omega)] using h⟩
        case measure => simp [intOf]; omega
      · have i1 : ¬ (k : Int) < (n : Int) := by omega
        have hown := HO.out
        rcases hown.2 with ⟨rfl, h0⟩ | ⟨g, cap, cur, rfl, -, -, -, -, -, -⟩
        · have hcv := Lib.run_convert_nil_bytes (P := Try.prog) wr 22 9 5 0 Try.underlying22 Try.underlying5 Try.underlying9
          have HZ := Lib.hid h0
          clear h0 hown
          go_wp2
          go_ret
          exact ⟨⟨#[]⟩, q, Nat.zero_le _, by omega, rfl, HR.out, HG.out⟩
        · have hcv := run_convert_bytes_back (P := Try.prog) wr 22 9 5 ⟨g, 0, none⟩ cap P Try.underlying22 Try.underlying5 Try.underlying9 (fun j hj => hown.cells (g := g) rfl j _ (by simp [Lib.byteCells, hj]))
          have HPL := Lib.hid hP
          clear hown hP
          go_wp2
          go_ret
          exact ⟨bt P, q, by rw [bt_size, HPL.out]; omega, by omega, rfl, HR.out, HG.out⟩

theorem of_new_drew (b p : Nat) (ls : List (List UInt8)) (w : World) (h : Rd w b p) (hp : p ≤ 1000000) (hn : 1 ≤ ls.length) (hn' : ls.length ≤ 1000000) (ha : ls.all (fun x => decide (x.length ≤ 30)) = true) :
    Calls Try.prog 51 #[.pointer (some ⟨b, 0, none⟩), .slice (some ⟨w.heap.size, 0, none⟩) ls.length ls.length] (w.alloc (.cells (ls.map str).toArray 9)).drew
      fun e w' => ∃ u : ByteArray, u.size ≤ 30 ∧ e = .returned (.string u) ∧ Rd w' b (p + 1) ∧ w.grownBy w' (some b) := by
  have hb := h.lt
  have hA := (Below.refl w.heap.size w).alloc (Nat.le_refl _) (.cells (ls.map str).toArray 9)
  refine (of_any b p w.heap.size ls.length ls _ (show Rd (w.alloc (.cells (ls.map str).toArray 9)).drew b p from (h.below hA hb : Rd (w.alloc (.cells (ls.map str).toArray 9)) b p)) hp hn hn' (by omega) (by simp) (fun j hj => ?_)).mono ?_
  · show (w.alloc (.cells (ls.map str).toArray 9)).cell? ⟨w.heap.size, j, none⟩ = _
    rw [(Whole.made w 9 (ls.map str).toArray).cell j, List.getElem?_toArray, List.getElem?_map, List.getD_eq_getElem?_getD, List.getElem?_eq_getElem hj]
    rfl
  · rintro e w' ⟨l, hl, he, hr, hg⟩
    exact ⟨_, text_le ha hl, he, hr, gr_trans (gr_drew (gr_alloc (gr_refl _ _) _)) hg⟩
theorem str_size (l : List UInt8) : (⟨l.toArray⟩ : ByteArray).size = l.length := rfl
set_option maxHeartbeats 4000000 in
theorem draw_dec (A : Option Addr) (len cap : Nat) (w : World) (h : Coded w A len cap) :
    Calls Try.prog 61 #[.slice A len cap] w (DrewText w) := by
  have HK := Lib.hid h.2.2
  have hk1 := h.1
  have hk2 := h.2.1
  clear h
  go_enter Try.func61, Try.ntmps61
  go_wp2_with fail
  refine (open_any A len cap _ hk1 hk2 HK.out).mono ?_
  rintro e w1 ⟨rfl, hr, hb, hz⟩
  have HR := Lib.hid hr
  have HB := Lib.hid hb
  clear hr hb
  obtain ⟨b, hbq⟩ : ∃ b, w.heap.size = b := ⟨_, rfl⟩
  have HBQ := Lib.hid hbq
  rw [hbq] at HR HB hz ⊢
  clear hbq
  go_wp2_with fail
  refine (bytes_text b 0 w1 HR.out (by omega)).mono ?_
  rintro e w2 ⟨s, q, hs, hq, rfl, hr, hg⟩
  have HR2 := Lib.hid hr
  have HG2 := Lib.hid hg
  clear hr hg
  obtain ⟨t, ht⟩ : ∃ t, encB s = t := ⟨_, rfl⟩
  have htl : t.size ≤ 40 := ht ▸ encB_le s
  go_wp2_with fail
  refine (senc_at ht _ (by omega)).mono ?_
  rintro e w3 ⟨rfl, hb3⟩
  have HR3 := Lib.hid (HR2.out.below hb3 HR2.out.lt)
  have HG3 := Lib.hid (gr_trans HG2.out (gr_below hb3 _))
  clear ht hb3
  by_cases h0 : t.size = 0
  · obtain ⟨e1, e2⟩ := isEmpty h0
    clear h0
    go_wp2_with fail
    refine (of_new b q [[], [61], [61, 61, 61, 61], [65, 65, 61, 61], [65, 66, 61, 61], [65, 65, 65, 61], [65, 65, 66, 61], [65, 61, 61, 61], [65, 65, 65, 65]] w3 HR3.out (by omega) (by decide) (by decide)).mono ?_
    rintro e w4 ⟨l, hl, rfl, hr, hg⟩
    have HG4 := Lib.hid (gr_trans HG3.out hg)
    have HL := Lib.hid hl
    clear hr hg hl
    unfold str
    go_wp2
    go_ret
    exact ⟨_, Nat.le_trans (text_le (by decide) HL.out) (by omega), rfl, HBQ.out ▸ below_gr HB.out HG4.out (by omega) (Nat.le_refl _)⟩
  · obtain ⟨e1, e2⟩ := noEmpty h0
    go_wp2_with fail
    refine (pick_any b q t.size _ HR3.out (by omega) (by omega) (by omega)).mono ?_
    rintro e w4 ⟨k, hk, rfl, hr, hg⟩
    have HR4 := Lib.hid hr
    have HG4 := Lib.hid (gr_trans HG3.out hg)
    clear hr hg
    go_wp2_with fail
    refine (pick_any b (q + 1) 8 _ HR4.out (by omega) (by omega) (by omega)).mono ?_
    rintro e w5 ⟨x, hx, rfl, hr, hg⟩
    have HR5 := Lib.hid hr
    have HG5 := Lib.hid (gr_trans HG4.out hg)
    clear hr hg
    have k0 : (0 : Int) ≤ (k : Int) := by omega
    have k1 : (k : Int) ≤ (t.size : Int) := by omega
    have k2 : (k : Int) + 1 ≤ (t.size : Int) := by omega
    have k3 : (0 : Int) ≤ (k : Int) + 1 := by omega
    by_cases hx0 : x = 0
    · subst hx0
      go_wp2
      go_ret
      exact ⟨_, by rw [ByteArray.size_extract]; omega, rfl, HBQ.out ▸ below_gr HB.out HG5.out (by omega) (Nat.le_refl _)⟩
    · have hx0' : ((x : Int) == 0) = false := by simp; omega
      by_cases hx1 : x = 1
      · subst hx1
        have hst : IntKind.i64.wrap ((k : Int) + 1) = (k : Int) + 1 := IntWalk.i64_in _ (by omega)
        go_wp2
        go_region_with ((go_at_call 51; refine (of_new_drew b (q + 1 + 1) [[65], [61], [45], [122]] w5 HR5.out (by omega) (by decide) (by decide) (by decide)).mono ?_; rintro e w6 ⟨u, hu, rfl, hr, hg⟩; have HG6 := Lib.hid (gr_trans HG5.out hg); clear hr hg))
        all_goals
          go_wp2
          go_ret
          exact ⟨_, by rw [ByteArray.size_append, ByteArray.size_append, ByteArray.size_extract, ByteArray.size_extract]; omega, rfl, HBQ.out ▸ below_gr HB.out HG6.out (by omega) (Nat.le_refl _)⟩
      · have hx1' : ((x : Int) == 1) = false := by simp; omega
        by_cases hx2 : x = 2
        · subst hx2
          go_wp2
          go_ret
          exact ⟨_, by rw [ByteArray.size_append]; show _ + 4 ≤ 100; omega, rfl, HBQ.out ▸ below_gr HB.out HG5.out (by omega) (Nat.le_refl _)⟩
        · have hx2' : ((x : Int) == 2) = false := by simp; omega
          go_wp2
          go_ret
          exact ⟨t, by omega, rfl, HBQ.out ▸ below_gr HB.out HG5.out (by omega) (Nat.le_refl _)⟩
end Go.Proofs.Ytmangdkaklnpdaa
