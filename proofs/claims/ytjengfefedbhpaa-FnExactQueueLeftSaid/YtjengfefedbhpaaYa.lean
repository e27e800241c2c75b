/-
  The exact laws' own helpers over lists of texts, submissions and letters: they count, copy and compare; and how a list of texts that is an argument is opened. Condition: the list can be read.
-/
import Derived.Test.YtjengfefedbhpaaTc
import Derived.OwnWalk
import Derived.Laws.OwnMore
import Derived.BigQuiet
import Derived.Deep.Slices
import Derived.ChangeArms
import Derived.Lib.SmallJoins
namespace Go.Proofs.Ytjengfefedbhpaa
open Go.RowKit Go.ChangeShapes Go.WideShapes
set_option linter.unusedVariables false

/-- What is left of a bound behind texts, or -1. -/
def szT : List ByteArray → Int → Int
  | [], z => z
  | m :: L, z => if z - (m.size : Int) < 0 then -1 else szT L (z - (m.size : Int))
theorem szT_le : ∀ {L : List ByteArray} {z : Int}, 0 ≤ z → szT L z ≤ z ∧ (0 ≤ szT L z → ∀ g ∈ L, (g.size : Int) ≤ z)
  | [], z, _ => ⟨Int.le_refl _, fun _ g hg => by cases hg⟩
  | m :: L, z, h => by
    rw [szT]
    split
    · exact ⟨by omega, fun h2 => by omega⟩
    · have := szT_le (L := L) (z := z - (m.size : Int)) (by omega)
      refine ⟨by omega, fun h2 g hg => ?_⟩
      rcases List.mem_cons.1 hg with rfl | hg
      · omega
      · have := this.2 h2 g hg
        omega
def szL (L : List ByteArray) (z : Int) : Int := if z - (L.length : Int) < 0 then -1 else szT L (z - (L.length : Int))
theorem szL_le {L : List ByteArray} {z : Int} (h : 0 ≤ z) : szL L z ≤ z ∧ (0 ≤ szL L z → (L.length : Int) ≤ z ∧ ∀ g ∈ L, (g.size : Int) ≤ z) := by
  unfold szL
  split
  · exact ⟨by omega, fun h2 => by omega⟩
  · have := szT_le (L := L) (z := z - (L.length : Int)) (by omega)
    exact ⟨by omega, fun h2 => ⟨by omega, fun g hg => by have := this.2 h2 g hg; omega⟩⟩
/-- The same of a text, a list of texts and a text. -/
def szM (a : ByteArray) (L : List ByteArray) (c : ByteArray) (z : Int) : Int :=
  if z - (a.size : Int) < 0 then -1 else if szL L (z - (a.size : Int)) < 0 then -1 else if szL L (z - (a.size : Int)) - (c.size : Int) < 0 then -1 else szL L (z - (a.size : Int)) - (c.size : Int)
theorem szM_ok {a c : ByteArray} {L : List ByteArray} {z : Int} (h : 0 ≤ z) (h2 : 0 ≤ szM a L c z) : (a.size : Int) ≤ z ∧ (L.length : Int) ≤ z ∧ (c.size : Int) ≤ z ∧ ∀ g ∈ L, (g.size : Int) ≤ z := by
  unfold szM at h2
  split at h2
  · omega
  · split at h2
    · omega
    · split at h2
      · omega
      · have := szL_le (L := L) (z := z - (a.size : Int)) (by omega)
        have h3 := this.2 (by omega)
        exact ⟨by omega, by omega, by omega, fun g hg => by have := h3.2 g hg; omega⟩
/-- A list of texts that was handed in. -/
def StrA (w : World) (A : Option Addr) (n cap : Nat) (L : List ByteArray) : Prop := L.length = n ∧ n ≤ cap ∧ cap ≤ maxLen ∧ RAt stR w A L ∧ ∀ g ∈ L, g.size ≤ maxLen
theorem StrA.below {w w' : World} {A : Option Addr} {n cap B : Nat} {L : List ByteArray} (h : StrA w A n cap L) (hb : Below B w w') (hB : w.heap.size ≤ B) : StrA w' A n cap L := ⟨h.1, h.2.1, h.2.2.1, h.2.2.2.1.below hb hB, h.2.2.2.2⟩
set_option maxHeartbeats 2000000 in
theorem sz_strs (A : Option Addr) (n cap : Nat) (left r : Int) (L : List ByteArray) (w : World) (h : StrA w A n cap L) (hl : 0 ≤ left) (hl2 : left ≤ 1048576) (hr : szL L left = r) :
    Calls Try.prog 65 #[.slice A n cap, .int .i64 left] w fun e w' => e = .returned (.int .i64 r) ∧ Below w.heap.size w w' := by
  have H := Lib.hid h.2.2.2.1
  have HN := Lib.hid h.1
  have HT := Lib.hid h.2.2.2.2
  have hm2 : n ≤ 9223372036854775807 := by have := h.2.1; have := h.2.2.1; unfold maxLen at this; omega
  have hr2 := hr
  unfold szL at hr2
  rw [h.1] at hr2
  clear h hr
  by_cases hle : left - (n : Int) < 0
  · rw [if_pos hle] at hr2
    subst hr2
    have h3 : IntKind.i64.wrap (left - (n : Int)) = left - (n : Int) := IntWalk.i64_in _ (by omega)
    go_enter Try.func65, Try.ntmps65
    go_wp2
    go_ret
    exact ⟨rfl, Below.refl _ _⟩
  rw [if_neg hle] at hr2
  obtain ⟨z0, hz0⟩ : ∃ z, left - (n : Int) = z := ⟨_, rfl⟩
  have W1 : IntKind.i64.wrap (left - (n : Int)) = z0 := (IntWalk.i64_in _ (by omega)).trans hz0
  have hz00 : 0 ≤ z0 := by omega
  have hz0f : ¬ z0 < 0 := by omega
  have hz01 : z0 ≤ 1048576 := by omega
  rw [hz0] at hr2
  have HR := Lib.hid hr2
  clear hr2 hz0 hle
  go_enter Try.func65, Try.ntmps65
  go_wp2
  go_loopw [1, 5] (fun zv i wr => ∃ (k : Nat) (z : Int), k ≤ n ∧ 0 ≤ z ∧ z ≤ 1048576 ∧ zv = .int .i64 z ∧ i = .int .i64 (k : Int) ∧ Hid (szT (L.drop k) z = r) ∧ Hid (Below w.heap.size w wr)) (fun _ i _ => n - (intOf i).toNat)
  case atStart => exact ⟨0, z0, Nat.zero_le _, hz00, hz01, rfl, by go_num, HR.out, Below.refl _ _⟩
  case round =>
    obtain ⟨k, z, hk, hzp, hz1, rfl, rfl, HZ, HB⟩ := hrel
    by_cases hlt : k < n
    · have h0 : (0 : Int) ≤ (k : Int) := by omega
      have h5 : (k : Int) < (n : Int) := by omega
      have hkl : k < L.length := by rw [HN.out]; exact hlt
      obtain ⟨m, hx⟩ : ∃ x, L[k]? = some x := ⟨_, List.getElem?_eq_getElem hkl⟩
      obtain ⟨b, o, rfl, hb, c0⟩ := str_at (H.out.below HB.out (Nat.le_refl _)) hx
      have hml : m.size ≤ 9223372036854775807 := by have := HT.out _ (List.mem_of_getElem? hx); unfold maxLen at this; omega
      have hd : L.drop k = m :: L.drop (k + 1) := by rw [List.drop_eq_getElem_cons hkl, (List.getElem?_eq_some_iff.1 hx).2]
      have hz2 := HZ.out
      rw [hd, szT] at hz2
      clear hx hd hkl
      by_cases hs : z - (m.size : Int) < 0
      · rw [if_pos hs] at hz2
        subst hz2
        have W1 : IntKind.i64.wrap (z - (m.size : Int)) = z - (m.size : Int) := IntWalk.i64_in _ (by omega)
        go_wp2
        go_ret
        exact ⟨rfl, HB.out⟩
      · rw [if_neg hs] at hz2
        obtain ⟨y, hy⟩ : ∃ y, z - (m.size : Int) = y := ⟨_, rfl⟩
        rw [hy] at hz2
        have HZ2 := Lib.hid hz2
        have W1 : IntKind.i64.wrap (z - (m.size : Int)) = y := (IntWalk.i64_in _ (by omega)).trans hy
        have hs0 : 0 ≤ y := by omega
        have hs2 : ¬ y < 0 := by omega
        have hs1 : y ≤ 1048576 := by omega
        clear hz2 hy hs
        go_wp2
        go_roundw
        case rel => exact ⟨k + 1, y, by omega, hs0, hs1, rfl, by go_num, HZ2.out, HB⟩
        case measure => simp [intOf]; omega
    · have h5 : ¬ (k : Int) < (n : Int) := by omega
      obtain rfl : k = n := by omega
      have hz2 := HZ.out
      rw [List.drop_of_length_le (Nat.le_of_eq HN.out)] at hz2
      obtain rfl : z = r := hz2
      go_wp2
      go_ret
      exact ⟨rfl, HB.out⟩
set_option maxHeartbeats 2000000 in
theorem to_strs (A : Option Addr) (n cap : Nat) (P : List ByteArray) (w : World) (hn : P.length = n) (h : RAt stR w A P) (hl : n ≤ 1048576) :
    Calls Try.prog 66 #[.slice A n cap] w fun e w' => ∃ g, e = .returned (.slice (some ⟨g, 0, none⟩) n n) ∧ ROwn stR w' w.heap.size (.slice (some ⟨g, 0, none⟩) n n) P ∧ Below w.heap.size w w' := by
  obtain ⟨i0, hi, hq0, hq1, hq2⟩ := info_parts Try.infoString
  have HN := Lib.hid hn
  have H := Lib.hid h
  clear hn h
  have hb2 : i0.bytes * n ≤ 281474976710656 := by rw [hq2]; omega
  have hb3 : n ≤ maxLen := by unfold maxLen; omega
  go_enter Try.func66, Try.ntmps66
  go_wp2_with (at_make; refine wpList_make_full _ rfl _ _ 26 rfl w.heap.size 9 i0 (.string ⟨#[]⟩) 1 Try.underlying26 hi hq0 hq1 .i64 .i64 (n : Int) (n : Int) n rfl rfl rfl rfl hb2 hb3 (Nat.le_refl _) ?_)
  intro w1 hown hgrow
  obtain ⟨N, hN⟩ : ∃ N, w.heap.size = N := ⟨_, rfl⟩
  have HNN := Lib.hid hN
  have HB1 : Hid (Below N w w1) := hN ▸ (Below.refl _ _).grown hgrow (Nat.le_refl _) (fun z hz => by cases hz)
  have hN1 : N ≤ w1.heap.size := hN ▸ hgrow.size
  have ho1 : ROwn stR w1 N (.slice (some ⟨N, 0, none⟩) n n) (List.replicate n (⟨#[]⟩ : ByteArray)) := by
    unfold ROwn
    rw [List.length_replicate, ← made_rows stR (.string ⟨#[]⟩) ⟨#[]⟩ rfl (by decide), show n * stR.sz = n from Nat.mul_one n, ← hN]
    exact hown
  have HO1 := Lib.hid ho1
  rw [hN]
  clear hown hgrow ho1 hN
  go_wp2
  go_loopw [4] (fun i wr => ∃ k : Nat, k ≤ n ∧ i = .int .i64 (k : Int) ∧ N ≤ wr.heap.size ∧ Hid (Below N w wr) ∧ Hid (ROwn stR wr N (.slice (some ⟨N, 0, none⟩) n n) (P.take k ++ List.replicate (n - k) (⟨#[]⟩ : ByteArray)))) (fun i _ => n - (intOf i).toNat)
  case atStart => exact ⟨0, Nat.zero_le _, by go_num, hN1, HB1, by rw [List.take_zero, List.nil_append, Nat.sub_zero]; exact HO1⟩
  case round =>
    obtain ⟨k, hk, rfl, hNr, HB, HO⟩ := hrel
    by_cases hlt : k < n
    · have h0 : (0 : Int) ≤ (k : Int) := by omega
      have h5 : (k : Int) < (n : Int) := by omega
      obtain ⟨x, hx⟩ : ∃ x, P[k]? = some x := ⟨_, List.getElem?_eq_getElem (by rw [HN.out]; omega)⟩
      obtain ⟨b, o, rfl, hbz, c0⟩ := str_at (H.out.below HB.out (Nat.le_of_eq HNN.out)) hx
      obtain ⟨y, hy⟩ : ∃ y, (P.take k ++ List.replicate (n - k) (⟨#[]⟩ : ByteArray))[k]? = some y := ⟨_, List.getElem?_eq_getElem (by rw [List.length_append, List.length_take, List.length_replicate, HN.out]; omega)⟩
      have d0 := HO.out.cell hy (j := 0) rfl
      have f0 := HO.out.free k
      have h1 := HO.out.stored (y := x) (j := 0) (u := .string x) hy (by decide) rfl
      simp only [stR, Nat.mul_one, Nat.add_zero] at d0 h1
      have HST := Lib.hid h1
      have HX := Lib.hid hx
      clear hx hy h1
      go_wp2
      go_roundw
      case rel =>
        refine ⟨k + 1, by omega, by go_num, by simpa using hNr, HB.out.setCell (Nat.le_refl _) _, ?_⟩
        rw [← set_next HN.out HX.out]
        exact HST.out.1
      case measure => simp [intOf]; omega
    · have h5 : ¬ (k : Int) < (n : Int) := by omega
      have hkn : k = n := by omega
      have ho := HO.out
      rw [hkn, List.take_of_length_le (by rw [HN.out]; exact Nat.le_refl _), Nat.sub_self, List.replicate_zero, List.append_nil] at ho
      have HOE := Lib.hid ho
      clear ho hkn
      go_wp2
      go_ret
      exact ⟨N, rfl, HNN.out ▸ HOE.out, HNN.out ▸ HB.out⟩
set_option maxHeartbeats 2000000 in
theorem eq_strs (A A2 : Option Addr) (n cap cap2 : Nat) (P : List ByteArray) (w : World) (h : SIn w A n cap P) (h2 : SIn w A2 n cap2 P) :
    Calls Try.prog 67 #[.slice A n cap, .slice A2 n cap2] w fun e w' => e = .returned (.bool true) ∧ Below w.heap.size w w' := by
  have H := Lib.hid h
  have H2 := Lib.hid h2
  have hl := h.2.1
  clear h h2
  have hlb : ((n : Int) != (n : Int)) = false := by simp
  go_enter Try.func67, Try.ntmps67
  go_wp2
  go_loopw [5] (fun i wr => ∃ k : Nat, k ≤ n ∧ i = .int .i64 (k : Int) ∧ Hid (Below w.heap.size w wr)) (fun i _ => n - (intOf i).toNat)
  case atStart => exact ⟨0, Nat.zero_le _, by go_num, Below.refl _ _⟩
  case round =>
    obtain ⟨k, hk, rfl, HB⟩ := hrel
    by_cases hlt : k < n
    · have h0 : (0 : Int) ≤ (k : Int) := by omega
      have h5 : (k : Int) < (n : Int) := by omega
      obtain ⟨x, hx⟩ : ∃ x, P[k]? = some x := ⟨_, List.getElem?_eq_getElem (by rw [H.out.1]; exact hlt)⟩
      obtain ⟨b, o, rfl, hb, c0⟩ := str_at (H.out.2.2.1.below HB.out (Nat.le_refl _)) hx
      obtain ⟨b', o', rfl, hb', d0⟩ := str_at (H2.out.2.2.1.below HB.out (Nat.le_refl _)) hx
      clear hx
      go_wp2
      go_quiet (fail)
      go_wp2
      go_roundw
      case rel => exact ⟨k + 1, by omega, by go_num, below_drewN' HB.out _⟩
      case measure => simp [intOf]; omega
    · have h5 : ¬ (k : Int) < (n : Int) := by omega
      go_wp2
      go_ret
      exact ⟨rfl, HB.out⟩
set_option maxHeartbeats 2000000 in
theorem sz_letter (us tx : ByteArray) (T : List ByteArray) (A : Option Addr) (N cap : Nat) (z r : Int) (w : World) (h : StrA w A N cap T) (hus : us.size ≤ maxLen) (htx : tx.size ≤ maxLen) (hz : 0 ≤ z) (hz2 : z ≤ 1048576) (hr : szM us T tx z = r) :
    Calls Try.prog 38 #[.agg #[.string us, .slice A N cap, .string tx], .int .i64 z] w fun e w' => e = .returned (.int .i64 r) ∧ Below w.heap.size w w' := by
  have hus2 : us.size ≤ 9223372036854775807 := by unfold maxLen at hus; omega
  have htx2 : tx.size ≤ 9223372036854775807 := by unfold maxLen at htx; omega
  have hW := Whole.made w 57 #[.string us, .slice A N cap, .string tx]
  have HW := Lib.hid hW
  have HB := Lib.hid ((Below.refl w.heap.size w).alloc (Nat.le_refl _) (.cells #[.string us, .slice A N cap, .string tx] 57))
  have H := Lib.hid (h.below HB.out (Nat.le_refl _))
  have c1 := hW.cell 0
  have c2 := hW.cell 1
  simp at c1 c2
  unfold szM at hr
  clear h hW hus htx
  by_cases h1 : z - (us.size : Int) < 0
  · rw [if_pos h1] at hr
    subst hr
    have W1 : IntKind.i64.wrap (z - (us.size : Int)) = z - (us.size : Int) := IntWalk.i64_in _ (by omega)
    go_enter Try.func38, Try.ntmps38
    go_wp2
    go_ret
    exact ⟨rfl, HB.out⟩
  · rw [if_neg h1] at hr
    obtain ⟨y, hy⟩ : ∃ y, z - (us.size : Int) = y := ⟨_, rfl⟩
    rw [hy] at hr
    have hy0 : 0 ≤ y := by omega
    have hyf : ¬ y < 0 := by omega
    have hy1 : y ≤ 1048576 := by omega
    have W1 : IntKind.i64.wrap (z - (us.size : Int)) = y := (IntWalk.i64_in _ (by omega)).trans hy
    obtain ⟨v, hv⟩ : ∃ v, szL T y = v := ⟨_, rfl⟩
    have hv1 := (szL_le (L := T) hy0).1
    rw [hv] at hr hv1
    have HV := Lib.hid hv
    clear hy h1 hv
    by_cases h2 : v < 0
    · rw [if_pos h2] at hr
      subst hr
      go_enter Try.func38, Try.ntmps38
      go_wp2_with fail
      refine (sz_strs A N cap y v T _ H.out hy0 hy1 HV.out).mono ?_
      rintro e w1 ⟨rfl, hb⟩
      have HB1 := Lib.hid (HB.out.trans (hb.mono HB.out.size))
      clear hb
      go_wp2
      go_ret
      exact ⟨rfl, HB1.out⟩
    · rw [if_neg h2] at hr
      have WW : Hid (∀ q : Int, v - (tx.size : Int) = q → IntKind.i64.wrap (v - (tx.size : Int)) = q) := Lib.hid (fun q hq => (IntWalk.i64_in _ (by omega)).trans hq)
      have hc : (v - (tx.size : Int) < 0 ∧ r = -1) ∨ (¬ r < 0 ∧ v - (tx.size : Int) = r) := by
        by_cases h3 : v - (tx.size : Int) < 0
        · rw [if_pos h3] at hr; exact .inl ⟨h3, hr.symm⟩
        · rw [if_neg h3] at hr; exact .inr ⟨by omega, hr⟩
      clear hr
      rcases hc with ⟨h3, rfl⟩ | ⟨h3, h4⟩
      · have W2 := WW.out _ rfl
        go_enter Try.func38, Try.ntmps38
        go_wp2_with fail
        refine (sz_strs A N cap y v T _ H.out hy0 hy1 HV.out).mono ?_
        rintro e w1 ⟨rfl, hb⟩
        have HB1 := Lib.hid (HB.out.trans (hb.mono HB.out.size))
        have d3 := (HW.out.below hb HW.out.lt).cell 2
        simp at d3
        clear hb
        go_wp2
        go_ret
        exact ⟨rfl, HB1.out⟩
      · have W2 := WW.out _ h4
        clear h4
        go_enter Try.func38, Try.ntmps38
        go_wp2_with fail
        refine (sz_strs A N cap y v T _ H.out hy0 hy1 HV.out).mono ?_
        rintro e w1 ⟨rfl, hb⟩
        have HB1 := Lib.hid (HB.out.trans (hb.mono HB.out.size))
        have d3 := (HW.out.below hb HW.out.lt).cell 2
        simp at d3
        clear hb
        go_wp2
        go_ret
        exact ⟨rfl, HB1.out⟩
set_option maxHeartbeats 2000000 in
theorem to_letter (us tx : ByteArray) (T : List ByteArray) (A : Option Addr) (N cap : Nat) (w : World) (h : StrA w A N cap T) (hl : N ≤ 1048576) :
    Calls Try.prog 39 #[.agg #[.string us, .slice A N cap, .string tx]] w fun e w' => ∃ g, e = .returned (.agg #[.string us, .slice (some ⟨g, 0, none⟩) N N, .string tx]) ∧ ROwn stR w' w.heap.size (.slice (some ⟨g, 0, none⟩) N N) T ∧ Below w.heap.size w w' := by
  have H := Lib.hid h
  clear h
  obtain ⟨S, hS⟩ : ∃ S, w.heap.size = S := ⟨_, rfl⟩
  have HS := Lib.hid hS
  obtain ⟨wq, hwq⟩ : ∃ wq, (((w.alloc (.cells #[.string us, .slice A N cap, .string tx] 57)).alloc (.cells #[.string ⟨#[]⟩, .slice none 0 0, .string ⟨#[]⟩] 28)).alloc (.cells #[.string us, .slice none 0 0, .string ⟨#[]⟩] 28)) = wq := ⟨_, rfl⟩
  have HBA : Hid (Below S w wq) := by rw [← hwq, ← hS]; exact (((Below.refl _ _).alloc (Nat.le_refl _) _).alloc (by simp) _).alloc (by simp; omega) _
  have HW0 : Hid (Whole wq S 57 #[.string us, .slice A N cap, .string tx]) := by
    rw [← hwq, ← hS]
    exact ((Whole.made w 57 #[.string us, .slice A N cap, .string tx]).alloc _).alloc _
  have HW1 : Hid (Whole wq (S + 1) 28 #[.string ⟨#[]⟩, .slice none 0 0, .string ⟨#[]⟩]) := by
    rw [← hwq, ← hS]
    have h2 := Whole.made (w.alloc (.cells #[.string us, .slice A N cap, .string tx] 57)) 28 #[.string ⟨#[]⟩, .slice none 0 0, .string ⟨#[]⟩]
    rw [show (w.alloc (.cells #[.string us, .slice A N cap, .string tx] 57)).heap.size = w.heap.size + 1 by simp] at h2
    exact h2.alloc _
  have HW2 : Hid (Whole wq (S + 1 + 1) 28 #[.string us, .slice none 0 0, .string ⟨#[]⟩]) := by
    rw [← hwq, ← hS]
    have h2 := Whole.made ((w.alloc (.cells #[.string us, .slice A N cap, .string tx] 57)).alloc (.cells #[.string ⟨#[]⟩, .slice none 0 0, .string ⟨#[]⟩] 28)) 28 #[.string us, .slice none 0 0, .string ⟨#[]⟩]
    rw [show ((w.alloc (.cells #[.string us, .slice A N cap, .string tx] 57)).alloc (.cells #[.string ⟨#[]⟩, .slice none 0 0, .string ⟨#[]⟩] 28)).heap.size = w.heap.size + 1 + 1 by simp] at h2
    exact h2
  have hzq : S + 1 + 1 < wq.heap.size := HW2.out.lt
  have HA := Lib.hid (H.out.below HBA.out (Nat.le_of_eq hS))
  have c2 := HW0.out.cell 1
  simp at c2
  go_enter Try.func39, Try.ntmps39
  go_wp2_with fail
  refine (to_strs A N cap T _ H.out.1 HA.out.2.2.2.1 hl).mono ?_
  rintro e w2 ⟨g, rfl, hown, hb⟩
  have hzS : S ≤ wq.heap.size := by omega
  have HO2 := Lib.hid (hown.from hzS)
  have HB2 := Lib.hid (HBA.out.trans (hb.mono hzS))
  have HV0 := Lib.hid (HW0.out.below hb HW0.out.lt)
  have HV1 := Lib.hid (HW1.out.below hb HW1.out.lt)
  have HV2 := Lib.hid (HW2.out.below hb HW2.out.lt)
  clear hb hown c2
  have a3 := HV0.out.cell 2
  have b0 := HV1.out.cell 0
  have e0 := HV1.out.free 0
  have g0 := HV2.out.cell 0
  have k0 := HV2.out.free 0
  have b1 := HV1.out.cell 1
  have e1 := HV1.out.free 1
  have g1 := HV2.out.cell 1
  have k1 := HV2.out.free 1
  have b2 := HV1.out.cell 2
  have e2 := HV1.out.free 2
  have g2 := HV2.out.cell 2
  have k2 := HV2.out.free 2
  simp at a3 b0 g0 b1 g1 b2 g2
  go_wp2
  refine bodyPost_ret (v := .agg #[.string us, .slice (some ⟨g, 0, none⟩) N N, .string tx]) (by simp [results, Try.results39, go_sem, *]) rfl ?_
  refine ⟨g, rfl, ?_, ?_⟩
  · rw [HS.out]
    refine ROwn.store (ROwn.store (ROwn.store (ROwn.store (ROwn.store HO2.out ?_ _) ?_ _) ?_ _) ?_ _) ?_ _ <;> first | exact HO2.out.whole HV2.out (by decide) | exact HO2.out.whole HV1.out (by decide)
  · rw [HS.out]
    refine (((((HB2.out.setCell ?_ _).setCell ?_ _).setCell ?_ _).setCell ?_ _).setCell ?_ _) <;> (simp <;> try omega)
set_option maxHeartbeats 1000000 in
theorem eq_letter (us tx : ByteArray) (T : List ByteArray) (A A2 : Option Addr) (N cap cap2 : Nat) (w : World) (h : SIn w A N cap T) (h2 : SIn w A2 N cap2 T) :
    Calls Try.prog 40 #[.agg #[.string us, .slice A N cap, .string tx], .agg #[.string us, .slice A2 N cap2, .string tx]] w fun e w' => e = .returned (.bool true) ∧ Below w.heap.size w w' := by
  obtain ⟨wq, hwq⟩ : ∃ wq, ((w.alloc (.cells #[.string us, .slice A N cap, .string tx] 28)).alloc (.cells #[.string us, .slice A2 N cap2, .string tx] 28)) = wq := ⟨_, rfl⟩
  have HBA : Hid (Below w.heap.size w wq) := by rw [← hwq]; exact ((Below.refl w.heap.size w).alloc (Nat.le_refl _) _).alloc (by simp) _
  have HW0 : Hid (Whole wq w.heap.size 28 #[.string us, .slice A N cap, .string tx]) := by
    rw [← hwq]
    exact (Whole.made w 28 #[.string us, .slice A N cap, .string tx]).alloc _
  have HW1 : Hid (Whole wq (w.heap.size + 1) 28 #[.string us, .slice A2 N cap2, .string tx]) := by
    rw [← hwq]
    have h3 := Whole.made (w.alloc (.cells #[.string us, .slice A N cap, .string tx] 28)) 28 #[.string us, .slice A2 N cap2, .string tx]
    rw [show (w.alloc (.cells #[.string us, .slice A N cap, .string tx] 28)).heap.size = w.heap.size + 1 by simp] at h3
    exact h3
  have H := Lib.hid (h.below HBA.out (Nat.le_refl _))
  have H2 := Lib.hid (h2.below HBA.out (Nat.le_refl _))

  clear h h2
  have x0 := HW0.out.cell 0
  have y0 := HW1.out.cell 0
  have x1 := HW0.out.cell 1
  have y1 := HW1.out.cell 1
  simp at x0 y0 x1 y1
  go_enter Try.func40, Try.ntmps40
  go_wp2_with fail
  refine (eq_strs A A2 N cap cap2 T _ H.out H2.out).mono ?_
  rintro e w2 ⟨rfl, hb⟩
  have HB2 := Lib.hid (HBA.out.trans (hb.mono HBA.out.size))
  have x3 := (HW0.out.below hb HW0.out.lt).cell 2
  have y3 := (HW1.out.below hb HW1.out.lt).cell 2
  simp at x3 y3
  clear hb x0 y0 x1 y1
  go_wp2
  go_ret
  exact ⟨rfl, HB2.out⟩
section
variable {H : Type} {enc : TypeId × Value → H} {w : World} {base : Nat} {spare : Nat → Bool} {held : Bool}
def StrArg (w : World) (A : Option Addr) (n cap : Nat) : Prop := ∃ L, StrA w A n cap L
theorem open_strs {fuel : Nat} {cs : List Value} {x : DataW H × List MemPlace} (h : DataW.trod enc Try.prog w base spare held fuel 26 cs = some x) :
    ∃ A len cap, cs = [.slice A len cap] ∧ StrArg w A len cap := by
  rcases Deep.open_slice1 Try.underlying26 (by kernel_rfl) h with ⟨hcs, _⟩ | ⟨a, len, cap, m, n, V, D, Pl, hcs, hb, hl, hm, hmm, _, hx⟩
  · exact ⟨none, 0, 0, hcs, [], rfl, Nat.le_refl _, by unfold maxLen; omega, RAt.nil _ _, fun g hg => by cases hg⟩
  · have each : ∀ i, i < len → ∃ q : ByteArray, w.cell? (a.add i) = some (.string q) ∧ q.size ≤ maxLen := by
      intro i hi
      obtain ⟨h1, h2⟩ := hx i (by rw [hmm]; split <;> omega)
      obtain ⟨u, hu, _, hsz⟩ := DataW.trod_string Try.underlying9 h2
      simp only [List.cons.injEq, and_true] at hu
      exact ⟨u, by rw [h1, hu], hsz⟩
    obtain ⟨q, hq⟩ := Deep.choose_lt each
    refine ⟨some a, len, cap, hcs, (List.range len).map q, by simp, hl, hm, ?_, ?_⟩
    · intro i y hy
      have hi : i < len := by have := (List.getElem?_eq_some_iff.1 hy).1; simpa using this
      have e0 := (hq i hi).1
      have hs : a.spot = none := by
        have := World.cell?_spot (hq 0 (by omega)).1
        simpa [Addr.add] using this
      obtain ⟨xb, xo, spot⟩ := a
      simp only at hs
      subst hs
      have he : y = q i := by simp [hi] at hy; exact hy.symm
      subst he
      rw [radd] at e0
      refine ⟨xb, xo, rfl, by simpa using block_lt_of_cell e0, fun j u hu => ?_⟩
      match j, hu with
      | 0, hu => cases hu; show w.cell? ⟨xb, xo + i * 1 + 0, none⟩ = _; rw [Nat.mul_one, Nat.add_zero]; exact e0
      | j + 1, hu => simp [stR] at hu
    · intro m hm2
      obtain ⟨i, hi, rfl⟩ := List.mem_map.1 hm2
      exact (hq i (List.mem_range.1 hi)).2
end
end Go.Proofs.Ytjengfefedbhpaa
