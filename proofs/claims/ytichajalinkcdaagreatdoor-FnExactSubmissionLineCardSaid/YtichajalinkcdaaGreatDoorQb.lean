/-
  My texts Drawn, Draws, Vals, Lawa, Lawh, Amath, Bplain, Dmath, Bspec, Benc, Grp in one, so that a claim holds fewer files. Conditions: each contract's own.
-/
import Derived.Test.YtichajalinkcdaaGreatDoorQa
import Derived.OpenShut
import Derived.Laws.IdiomStrings
import Derived.Lib.UnsafeStr
import Derived.Lib.BufferRead
import Derived.RangeFuncNested
import Derived.RangeFuncBound
import Derived.RangeFuncCalls
import Derived.RangeFuncLeaves
import Derived.RangeFuncBox
import Derived.Shelf.Abstract
import Derived.Shelf.RegionOpen
import Derived.WalkKit
import Derived.OwnWalkIn
import Derived.TacticsInMore
import Derived.LoopNIn
import Derived.LoopIn
namespace Go.Proofs.YtichajalinkcdaaGreatDoor
open Go.RowKit
set_option linter.unusedVariables false

theorem of_new (b p : Nat) (ls : List (List UInt8)) (w : World) (h : Rd w b p) (hp : p ≤ 1000000) (hn : 1 ≤ ls.length) (hn' : ls.length ≤ 1000000) :
    Calls Tryz.prog 67 #[.pointer (some ⟨b, 0, none⟩), .slice (some ⟨w.heap.size, 0, none⟩) ls.length ls.length] (w.alloc (.cells (ls.map str).toArray 9))
      fun e w' => ∃ l, l ∈ ls ∧ e = .returned (str l) ∧ Rd w' b (p + 1) ∧ w.grownBy w' (some b) := by
  have hb := h.lt
  have hA := (Below.refl w.heap.size w).alloc (Nat.le_refl _) (.cells (ls.map str).toArray 9)
  refine (of_any b p w.heap.size ls.length ls _ (h.below hA hb) hp hn hn' (by omega) (by simp) (fun j hj => ?_)).mono ?_
  · rw [(Whole.made w 9 (ls.map str).toArray).cell j, List.getElem?_toArray, List.getElem?_map, List.getD_eq_getElem?_getD, List.getElem?_eq_getElem hj]
    rfl
  · rintro e w' ⟨l, hl, he, hr, hg⟩
    exact ⟨l, hl, he, hr, gr_trans (gr_alloc (gr_refl _ _) _) hg⟩

/-- A drawn text. -/
def Text (w : World) (b p : Nat) (e : Ending) (w' : World) : Prop := ∃ s : ByteArray, s.size ≤ 30 ∧ e = .returned (.string s) ∧ Rd w' b (p + 2) ∧ w.grownBy w' (some b)
theorem text_le {ls : List (List UInt8)} {l : List UInt8} (h : ls.all (fun x => decide (x.length ≤ 30)) = true) (hl : l ∈ ls) : (⟨l.toArray⟩ : ByteArray).size ≤ 30 := by
  rw [List.all_eq_true] at h
  exact of_decide_eq_true (h l hl)

set_option maxHeartbeats 1000000 in
theorem name_text (b p : Nat) (w : World) (h : Rd w b p) (hp : p ≤ 900000) :
    Calls Tryz.prog 64 #[.pointer (some ⟨b, 0, none⟩)] w (Text w b p) := by
  have H := Lib.hid h
  clear h
  go_enter Tryz.func64, Tryz.ntmps64
  go_wp2_with fail
  refine (pick_any b p 16 w H.out (by omega) (by omega) (by omega)).mono ?_
  rintro e w1 ⟨x, hx, rfl, hr, hg⟩
  have HR := Lib.hid hr
  have HG := Lib.hid hg
  clear hr hg
  by_cases h0 : x = 0
  · subst h0
    go_wp2_with fail
    refine (of_new b (p + 1) [[], [65], [116, 111, 111, 108, 111, 110, 103, 49, 50], [97, 45, 98], [101, 105, 103, 104, 116, 56, 56, 56], [48], [97, 110, 121, 111, 110, 101]] w1 HR.out (by omega) (by decide) (by decide)).mono ?_
    rintro e w2 ⟨l, hl, rfl, hr2, hg2⟩
    have H2 := Lib.hid (And.intro hr2 hg2)
    have HL := Lib.hid hl
    clear hr2 hg2 hl
    unfold str
    go_wp2
    go_ret
    exact ⟨_, text_le (by decide) HL.out, rfl, H2.out.1, gr_trans HG.out H2.out.2⟩
  · have h0' : ((x : Int) == 0) = false := by simp; omega
    go_wp2_with fail
    refine (of_new b (p + 1) [[97, 109, 121], [98, 111, 98], [99, 121, 100], [100, 97, 110], [98, 111, 120, 49], [120]] w1 HR.out (by omega) (by decide) (by decide)).mono ?_
    rintro e w2 ⟨l, hl, rfl, hr2, hg2⟩
    have H2 := Lib.hid (And.intro hr2 hg2)
    have HL := Lib.hid hl
    clear hr2 hg2 hl
    unfold str
    go_wp2
    go_ret
    exact ⟨_, text_le (by decide) HL.out, rfl, H2.out.1, gr_trans HG.out H2.out.2⟩
set_option maxHeartbeats 1000000 in
theorem domain_text (b p : Nat) (w : World) (h : Rd w b p) (hp : p ≤ 900000) :
    Calls Tryz.prog 43 #[.pointer (some ⟨b, 0, none⟩)] w (Text w b p) := by
  have H := Lib.hid h
  clear h
  go_enter Tryz.func43, Tryz.ntmps43
  go_wp2_with fail
  refine (pick_any b p 12 w H.out (by omega) (by omega) (by omega)).mono ?_
  rintro e w1 ⟨x, hx, rfl, hr, hg⟩
  have HR := Lib.hid hr
  have HG := Lib.hid hg
  clear hr hg
  by_cases h0 : x = 0
  · subst h0
    go_wp2_with fail
    refine (of_new b (p + 1) [[], [46], [97, 46, 46, 98], [97, 46, 98, 46, 99, 46, 100], [97, 46, 98, 46, 99], [97, 98, 99, 100, 101, 102, 103, 104, 46, 97, 98, 99, 100, 101, 102, 103, 104, 46, 97, 98, 99], [97, 98, 99, 100, 101, 102, 103, 104, 46, 97, 98, 99, 100, 101, 102, 103, 104, 46, 97, 98], [104, 111, 115, 116, 46], [72, 111, 115, 116, 46, 111, 114, 103]] w1 HR.out (by omega) (by decide) (by decide)).mono ?_
    rintro e w2 ⟨l, hl, rfl, hr2, hg2⟩
    have H2 := Lib.hid (And.intro hr2 hg2)
    have HL := Lib.hid hl
    clear hr2 hg2 hl
    unfold str
    go_wp2
    go_ret
    exact ⟨_, text_le (by decide) HL.out, rfl, H2.out.1, gr_trans HG.out H2.out.2⟩
  · have h0' : ((x : Int) == 0) = false := by simp; omega
    go_wp2_with fail
    refine (of_new b (p + 1) [[104, 111, 115, 116, 46, 111, 114, 103], [104, 111, 115, 116], [97, 46, 98, 46, 99], [111, 116, 104, 101, 114, 46, 110, 101, 116]] w1 HR.out (by omega) (by decide) (by decide)).mono ?_
    rintro e w2 ⟨l, hl, rfl, hr2, hg2⟩
    have H2 := Lib.hid (And.intro hr2 hg2)
    have HL := Lib.hid hl
    clear hr2 hg2 hl
    unfold str
    go_wp2
    go_ret
    exact ⟨_, text_le (by decide) HL.out, rfl, H2.out.1, gr_trans HG.out H2.out.2⟩
end Go.Proofs.YtichajalinkcdaaGreatDoor
namespace Go.Proofs.YtichajalinkcdaaGreatDoor
open Go.RowKit
set_option linter.unusedVariables false

theorem one_size (c : UInt8) : (⟨#[c]⟩ : ByteArray).size = 1 := rfl
/-- A code that can be read. -/
def Coded (w : World) (A : Option Addr) (len cap : Nat) : Prop :=
  len ≤ cap ∧ cap ≤ maxLen ∧ (0 < len → ∃ (xb xo : Nat) (f : Nat → Int), A = some ⟨xb, xo, none⟩ ∧ xb < w.heap.size ∧ ∀ i, i < len → w.cell? ⟨xb, xo + i, none⟩ = some (.int .u8 (f i)) ∧ 0 ≤ f i ∧ f i ≤ 255)
theorem Coded.below {w w' : World} {B : Nat} {A : Option Addr} {len cap : Nat} (h : Coded w A len cap) (hb : Below B w w') (hB : w.heap.size ≤ B) : Coded w' A len cap :=
  ⟨h.1, h.2.1, fun hl => by
    obtain ⟨xb, xo, f, hA, hx, hc⟩ := h.2.2 hl
    have hsz := hb.size
    exact ⟨xb, xo, f, hA, by omega, fun i hi => ⟨(hb.cell (p := ⟨xb, xo + i, none⟩) (by simp; omega)).trans (hc i hi).1, (hc i hi).2⟩⟩⟩
theorem coded_nil (w : World) : Coded w none 0 0 := ⟨Nat.le_refl _, by unfold maxLen; omega, fun h => absurd h (by omega)⟩
theorem coded_row {w : World} {x : Addr} {len cap : Nat} {zs : List Int} (hl : len ≤ cap) (hm : cap ≤ maxLen) (hz : zs.length = cap)
    (hc : ∀ i, i < zs.length → w.cell? (x.add i) = some (.int .u8 (zs.getD i 0))) (hw : ∀ n ∈ zs, (Lit.int .u8 n).wf = true) : Coded w (some x) len cap := by
  refine ⟨hl, hm, fun h0 => ?_⟩
  have h1 := hc 0 (by omega)
  have hs : x.spot = none := by simpa [Addr.add] using World.cell?_spot h1
  obtain ⟨xb, xo, spot⟩ := x
  simp only at hs
  subst hs
  refine ⟨xb, xo, fun i => zs.getD i 0, rfl, ?_, fun i hi => ?_⟩
  · have := block_lt_of_cell h1
    simpa [Addr.add] using this
  · have h2 := hc i (by omega)
    have hb : zs.getD i 0 ∈ zs := by
      rw [List.getD_eq_getElem?_getD, List.getElem?_eq_getElem (by omega)]
      exact List.getElem_mem _
    have hwf := hw _ hb
    have e : (⟨xb, xo, none⟩ : Addr).add i = ⟨xb, xo + i, none⟩ := by unfold Addr.add; split <;> simp_all
    rw [e] at h2
    have := bounds_u8 hwf
    exact ⟨h2, this.1, this.2⟩
/-- What a drawer of texts leaves. -/
def DrewText (w : World) (e : Ending) (w' : World) : Prop := ∃ s : ByteArray, s.size ≤ 100 ∧ e = .returned (.string s) ∧ Below w.heap.size w w'

/-- What the drawer of addresses leaves. -/
def DrewAddr (w : World) (e : Ending) (w' : World) : Prop := ∃ u d : ByteArray, u.size ≤ 100 ∧ d.size ≤ 100 ∧ e = .returned (.agg #[.string u, .string d]) ∧ Below w.heap.size w w'
end Go.Proofs.YtichajalinkcdaaGreatDoor
namespace Go.Proofs.YtichajalinkcdaaGreatDoor
open Go.RowKit
set_option linter.unusedVariables false

theorem impl_name (s : ByteArray) (w : World) (hs : s.size ≤ 16777216) :
    Calls Tryz.prog 52 #[.string s] w fun e w' => e = .returned (.bool (nameB s.data.toList)) ∧ Below w.heap.size w w' := by
  have h := impl_name_ s w hs
  have e := name_eq s.data.toList
  have hl : s.data.toList.length = s.size := by simp
  rw [hl] at e
  rw [e] at h
  exact h
theorem impl_domain (s : ByteArray) (w : World) (hs : s.size ≤ 16777216) :
    Calls Tryz.prog 71 #[.string s] w fun e w' => e = .returned (.bool (domB s.data.toList)) ∧ Below w.heap.size w w' := by
  have h := impl_domain_ s w hs
  have e := dom_eq0 s.data.toList
  have hl : s.data.toList.length = s.size := by simp
  rw [hl] at e
  rw [e] at h
  exact h
end Go.Proofs.YtichajalinkcdaaGreatDoor
namespace Go.Proofs.YtichajalinkcdaaGreatDoor
open Go.RowKit
set_option linter.unusedVariables false

/-- A law holds here. -/
def Holds1 (w : World) (e : Ending) (w' : World) : Prop := e = .returned (.bool true) ∧ Below w.heap.size w w'

end Go.Proofs.YtichajalinkcdaaGreatDoor
namespace Go.Proofs.YtichajalinkcdaaGreatDoor
open Go.RowKit
set_option linter.unusedVariables false

theorem two_size (a b : UInt8) : (⟨#[a, b]⟩ : ByteArray).size = 2 := rfl
theorem six_size (a b c d e f : UInt8) : (⟨#[a, b, c, d, e, f]⟩ : ByteArray).size = 6 := rfl
theorem nameB_iff {l : List UInt8} : nameB l = true ↔ (l.all sgn = true ∧ 1 ≤ l.length ∧ l.length ≤ 8) := by unfold nameB; simp [and_assoc]
theorem cat_list (s t : ByteArray) : (s ++ t).data.toList = s.data.toList ++ t.data.toList := by simp
theorem add_short {s : ByteArray} (h : nameB s.data.toList = true) (h8 : s.data.toList.length < 8) : nameB (s ++ ⟨#[97]⟩).data.toList = true := by
  obtain ⟨h1, h2, h3⟩ := nameB_iff.1 h
  rw [cat_list]
  refine nameB_iff.2 ⟨by rw [List.all_append, h1]; rfl, by rw [List.length_append]; omega, by rw [List.length_append]; show _ + 1 ≤ 8; omega⟩
theorem add_long {s : ByteArray} (h8 : ¬ s.data.toList.length < 8) : nameB (s ++ ⟨#[97]⟩).data.toList = false := by
  rw [← Bool.not_eq_true]
  intro h
  obtain ⟨_, _, h3⟩ := nameB_iff.1 h
  rw [cat_list, List.length_append] at h3
  have : (⟨#[97]⟩ : ByteArray).data.toList.length = 1 := rfl
  omega
theorem name_empty : nameB (⟨#[]⟩ : ByteArray).data.toList = false := rfl
theorem part_left {s : ByteArray} {j : Nat} (h : nameB s.data.toList = true) (h1 : 1 ≤ j) (h2 : j ≤ s.data.toList.length) : nameB (s.extract 0 j).data.toList = true := by
  obtain ⟨a1, a2, a3⟩ := nameB_iff.1 h
  rw [extract_list]
  refine nameB_iff.2 ⟨?_, by simp at h2 ⊢; omega, by simp at a3 ⊢; omega⟩
  rw [List.all_eq_true] at a1 ⊢
  intro x hx
  exact a1 x (List.mem_of_mem_drop (List.mem_of_mem_take hx))
theorem part_right {s : ByteArray} {j : Nat} (h : nameB s.data.toList = true) (h2 : j < s.size) : nameB (s.extract j s.size).data.toList = true := by
  obtain ⟨a1, a2, a3⟩ := nameB_iff.1 h
  rw [extract_list]
  refine nameB_iff.2 ⟨?_, by simp; omega, by simp at a3 ⊢; omega⟩
  rw [List.all_eq_true] at a1 ⊢
  intro x hx
  exact a1 x (List.mem_of_mem_drop (List.mem_of_mem_take hx))

/-- A text with another one put in. -/
def ins (L : List UInt8) (k : Nat) (p : List UInt8) : List UInt8 := L.take k ++ p ++ L.drop k
/-- What 'put' leaves. -/
def PutIn (w : World) (s : ByteArray) (k : Nat) (p : ByteArray) (e : Ending) (w' : World) : Prop :=
  ∃ v : ByteArray, e = .returned (.string v) ∧ v.data.toList = ins s.data.toList k p.data.toList ∧ v.size = s.size + p.size ∧ ∃ n, w' = w.drewN n
theorem put_bad {s v : ByteArray} {k : Nat} {c : UInt8} (h : v.data.toList = ins s.data.toList k (⟨#[c]⟩ : ByteArray).data.toList) (hc : sgn c = false) : nameB v.data.toList = false := by
  rw [h]
  refine nameB_bad (x := c) ?_ hc
  unfold ins
  simp

/-- What 'before' leaves. -/
def Before (w : World) (s : ByteArray) (c : UInt8) (e : Ending) (w' : World) : Prop :=
  ∃ v : ByteArray, e = .returned (.string v) ∧ v.data.toList = s.data.toList.takeWhile (fun x => x != c) ∧ v.size ≤ s.size ∧ w = w'
theorem takeWhile_stop (L : List UInt8) (c : UInt8) (k : Nat) (hk : k < L.length) (ha : (L.take k).all (fun x => x != c) = true) (hc : L[k] = c) : L.takeWhile (fun x => x != c) = L.take k := by
  conv => lhs; rw [← List.take_append_drop k L]
  rw [List.takeWhile_append_of_pos (fun a h => List.all_eq_true.1 ha a h), List.drop_eq_getElem_cons hk, List.takeWhile_cons, if_neg (by simp [hc])]
  simp
theorem takeWhile_all (L : List UInt8) (c : UInt8) (ha : L.all (fun x => x != c) = true) : L.takeWhile (fun x => x != c) = L := by
  have := List.takeWhile_append_of_pos (p := fun x => x != c) (l₁ := L) (l₂ := []) (fun a h => List.all_eq_true.1 ha a h)
  simpa using this
theorem dom_parts {L : List UInt8} (h : domB L = true) : (cut 46 L).all nameB = true ∧ (cut 46 L).length ≤ 3 ∧ L.length ≤ 20 := by
  unfold domB at h
  simp only [Bool.and_eq_true, decide_eq_true_eq] at h
  exact ⟨h.1.1, h.1.2, h.2⟩
theorem dom_len {L : List UInt8} (h : domB L = true) : L.length ≤ 20 := (dom_parts h).2.2
theorem cutGo_first (c : UInt8) (l : List UInt8) : ∀ cur, ∃ rest, cutGo c cur l = (cur ++ l.takeWhile (fun x => x != c)) :: rest := by
  induction l with
  | nil => intro cur; exact ⟨[], by simp [cutGo]⟩
  | cons a l ih =>
    intro cur
    unfold cutGo
    by_cases ha : a = c
    · rw [if_pos ha]; exact ⟨cutGo c [] l, by simp [ha]⟩
    · rw [if_neg ha]
      obtain ⟨rest, h⟩ := ih (cur ++ [a])
      exact ⟨rest, by rw [h]; simp [ha]⟩
theorem dom_first {L : List UInt8} (h : domB L = true) : nameB (L.takeWhile (fun x => x != (46 : UInt8))) = true := by
  obtain ⟨rest, hc⟩ := cutGo_first 46 L []
  have h1 := (dom_parts h).1
  unfold cut at h1
  rw [hc, List.all_cons, Bool.and_eq_true] at h1
  simpa using h1.1
theorem name_no46 {L : List UInt8} (h : nameB L = true) (c : UInt8) (hc : sgn c = false) : ∀ x ∈ L, x ≠ c := fun x hx => sgn_ne (List.all_eq_true.1 (nameB_iff.1 h).1 x hx) hc
theorem name_dom {L : List UInt8} (h : nameB L = true) : domB L = true := by
  have h3 := (nameB_iff.1 h).2.2
  unfold domB
  rw [cut_nil_of 46 L (name_no46 h 46 sgn46)]
  simp [h]
  omega
theorem cutGo_last (c : UInt8) (l : List UInt8) : ∀ cur, ∃ x ∈ cutGo c cur (l ++ [c]), x = [] := by
  induction l with
  | nil => intro cur; exact ⟨[], by simp [cutGo], rfl⟩
  | cons a l ih =>
    intro cur
    rw [List.cons_append, cutGo]
    split
    · obtain ⟨x, hx, he⟩ := ih []
      exact ⟨x, by simp [hx], he⟩
    · exact ih _
theorem dom_hole {L : List UInt8} (h : [] ∈ cut 46 L) : domB L = false := by
  have : (cut 46 L).all nameB = false := by
    rw [← Bool.not_eq_true]; intro ha; rw [List.all_eq_true] at ha; have := ha [] h; cases this
  unfold domB
  rw [this]; rfl
theorem dom_back (s : ByteArray) : domB (s ++ ⟨#[46]⟩).data.toList = false := by
  rw [cat_list]
  obtain ⟨x, hx, rfl⟩ := cutGo_last 46 s.data.toList []
  exact dom_hole hx
theorem dom_front (s : ByteArray) : domB ((⟨#[46]⟩ : ByteArray) ++ s).data.toList = false := by
  rw [cat_list]
  refine dom_hole ?_
  show [] ∈ cut 46 ([] ++ 46 :: s.data.toList)
  rw [cut_at 46 [] _ (by simp)]
  simp
theorem dom_more (s : ByteArray) : domB ((⟨#[97, 46, 98, 46, 99, 46]⟩ : ByteArray) ++ s).data.toList = false := by
  rw [cat_list]
  have e : cut 46 ([97] ++ 46 :: ([98] ++ 46 :: ([99] ++ 46 :: s.data.toList))) = [97] :: [98] :: [99] :: cut 46 s.data.toList := by
    rw [cut_at 46 [97] _ (by decide), cut_at 46 [98] _ (by decide), cut_at 46 [99] _ (by decide)]
  have hl := (cut_len 46 s.data.toList).1
  show domB ([97] ++ 46 :: ([98] ++ 46 :: ([99] ++ 46 :: s.data.toList))) = false
  unfold domB
  rw [e, decide_eq_false (p := ([97] :: [98] :: [99] :: cut 46 s.data.toList).length ≤ 3) (by simp only [List.length_cons]; omega)]
  simp
theorem dom_two {s x : ByteArray} (hs : nameB s.data.toList = true) (hx : nameB x.data.toList = true) : domB (s ++ ⟨#[46]⟩ ++ x).data.toList = true := by
  rw [cat_list, cat_list, List.append_assoc]
  show domB (s.data.toList ++ 46 :: x.data.toList) = true
  have a := (nameB_iff.1 hs).2.2
  have b := (nameB_iff.1 hx).2.2
  unfold domB
  rw [cut_at 46 _ _ (name_no46 hs 46 sgn46), cut_nil_of 46 _ (name_no46 hx 46 sgn46)]
  rw [decide_eq_true (p := (s.data.toList ++ 46 :: x.data.toList).length ≤ 20) (by rw [List.length_append, List.length_cons]; omega)]
  simp [hs, hx]
theorem dom_three {s x : ByteArray} (hs : nameB s.data.toList = true) (hx : nameB x.data.toList = true) : domB ((⟨#[97, 46]⟩ : ByteArray) ++ s ++ ⟨#[46]⟩ ++ x).data.toList = true := by
  rw [cat_list, cat_list, cat_list, List.append_assoc, List.append_assoc]
  show domB ([97] ++ 46 :: (s.data.toList ++ 46 :: x.data.toList)) = true
  have a := (nameB_iff.1 hs).2.2
  have b := (nameB_iff.1 hx).2.2
  unfold domB
  rw [cut_at 46 [97] _ (by decide), cut_at 46 _ _ (name_no46 hs 46 sgn46), cut_nil_of 46 _ (name_no46 hx 46 sgn46)]
  have hl : ([97] ++ (46 : UInt8) :: (s.data.toList ++ 46 :: x.data.toList)).length ≤ 20 := by simp only [List.length_append, List.length_cons, List.length_nil]; omega
  have e97 : nameB [97] = true := by decide
  simp only [List.all_cons, List.all_nil, hs, hx, e97, Bool.and_true, Bool.true_and]
  rw [decide_eq_true (by simp only [List.length_cons, List.length_nil]; omega), decide_eq_true hl]
  rfl
end Go.Proofs.YtichajalinkcdaaGreatDoor
namespace Go.Proofs.YtichajalinkcdaaGreatDoor
set_option linter.unusedVariables false

theorem cutGo_one (c : UInt8) (l : List UInt8) : ∀ cur b, cutGo c cur l = [b] → cur ++ l = b := by
  induction l with
  | nil => intro cur b h; simpa [cutGo] using h
  | cons x t ih =>
    intro cur b h
    unfold cutGo at h
    split at h
    · have h2 := (cutGo_len c t []).1
      rw [List.cons.injEq] at h
      rw [h.2] at h2
      simp at h2
    · have := ih _ _ h
      simpa using this
theorem cutGo_two (c : UInt8) (l : List UInt8) : ∀ cur a b, cutGo c cur l = [a, b] → cur ++ l = a ++ c :: b := by
  induction l with
  | nil => intro cur a b h; simp [cutGo] at h
  | cons x t ih =>
    intro cur a b h
    unfold cutGo at h
    split at h
    · rename_i hx
      rw [List.cons.injEq] at h
      have h2 := cutGo_one c t [] b h.2
      rw [← h.1, ← h2, hx]
      rfl
    · have := ih _ _ _ h
      simpa using this
theorem cut_count (c : UInt8) (l : List UInt8) : ∀ cur, (cutGo c cur l).length = l.count c + 1 := by
  induction l with
  | nil => intro cur; simp [cutGo]
  | cons x t ih =>
    intro cur
    unfold cutGo
    split
    · rename_i hx; subst hx; rw [List.length_cons, ih, List.count_cons_self]
    · rename_i hx; rw [ih, List.count_cons_of_ne hx]

theorem list_two {α : Type} {l : List α} (d : α) (h : l.length = 2) : l = [l.getD 0 d, l.getD 1 d] := by
  match l, h with
  | [a, b], _ => rfl
/-- The parts of a text that can be parsed. -/
theorem sp_parts {L : List UInt8} (h : spB L = true) : ∃ u d, two L = [u, d] ∧ L = u ++ 64 :: d ∧ nameB u = true ∧ domB d = true := by
  unfold spB at h
  rw [Bool.and_eq_true, Bool.and_eq_true, decide_eq_true_eq] at h
  have h2 := list_two [] h.1
  refine ⟨_, _, h2, ?_, h.2.1, h.2.2⟩
  have h3 := cutGo_two 64 L [] _ _ h2
  simpa using h3
theorem dom_no64 {d : List UInt8} (h : domB d = true) : ∀ x ∈ d, x ≠ (64 : UInt8) := by
  rintro x hx rfl
  rw [domB_bad hx] at h
  cases h
theorem two_of {u d : List UInt8} (hu : ∀ x ∈ u, x ≠ (64 : UInt8)) (hd : ∀ x ∈ d, x ≠ (64 : UInt8)) : two (u ++ 64 :: d) = [u, d] := by
  unfold two
  rw [cut_at 64 u d hu, cut_nil_of 64 d hd]
theorem sp_of {u d : List UInt8} (hu : ∀ x ∈ u, x ≠ (64 : UInt8)) (hd : ∀ x ∈ d, x ≠ (64 : UInt8)) : spB (u ++ 64 :: d) = (nameB u && domB d) := by
  unfold spB
  rw [two_of hu hd]
  rfl

/-- What a parser tells: the user. -/
def pU (L : List UInt8) : List UInt8 := if spB L = true then (two L).getD 0 [] else []
/-- What a parser tells: the domain. -/
def pD (L : List UInt8) : List UInt8 := if spB L = true then (two L).getD 1 [] else []
theorem pU_no {L : List UInt8} (h : spB L = false) : pU L = [] := by unfold pU; rw [h]; rfl
theorem pD_no {L : List UInt8} (h : spB L = false) : pD L = [] := by unfold pD; rw [h]; rfl
theorem pU_le (L : List UInt8) : (pU L).length ≤ L.length := by
  cases h : spB L
  · rw [pU_no h]; exact Nat.zero_le _
  · obtain ⟨u, d, h1, h2, _, _⟩ := sp_parts h
    unfold pU
    rw [if_pos h, h1]
    conv => rhs; rw [h2]
    simp
theorem pD_le (L : List UInt8) : (pD L).length ≤ L.length := by
  cases h : spB L
  · rw [pD_no h]; exact Nat.zero_le _
  · obtain ⟨u, d, h1, h2, _, _⟩ := sp_parts h
    unfold pD
    rw [if_pos h, h1]
    conv => rhs; rw [h2]
    simp
    omega
/-- A parsed address has the text. -/
theorem ad_back {L : List UInt8} (h : spB L = true) : adText (pU L) (pD L) = L := by
  obtain ⟨u, d, h1, h2, h3, h4⟩ := sp_parts h
  unfold pU pD
  rw [if_pos h, if_pos h, h1]
  show adText u d = L
  rw [adText_yes (by rw [h3, h4]; rfl), ← h2]
/-- A written address can be parsed. -/
theorem ad_read {u d : List UInt8} (h : (nameB u && domB d) = true) : spB (adText u d) = true ∧ pU (adText u d) = u ∧ pD (adText u d) = d := by
  have h' := h
  rw [Bool.and_eq_true] at h'
  have hu := name_no46 h'.1 64 sgn64
  have hd := dom_no64 h'.2
  have h1 := sp_of hu hd
  rw [h] at h1
  rw [adText_yes h]
  refine ⟨h1, ?_, ?_⟩
  · unfold pU; rw [if_pos h1, two_of hu hd]; rfl
  · unfold pD; rw [if_pos h1, two_of hu hd]; rfl
theorem tw_all {L : List UInt8} {c : UInt8} (h : L.takeWhile (fun x => x != c) = L) : ∀ x ∈ L, x ≠ c := by
  intro x hx
  have h1 : (L.takeWhile (fun x => x != c)).all (fun x => x != c) = true := List.all_takeWhile
  rw [h] at h1
  have := List.all_eq_true.1 h1 x hx
  simpa using this
/-- A second at sign is refused. -/
theorem sp_more {L : List UInt8} (k : Nat) (h : spB L = true) : spB (ins L k [64]) = false := by
  obtain ⟨u, d, h1, _, _, _⟩ := sp_parts h
  have h2 : L.count 64 = 1 := by
    have := cut_count 64 L []
    unfold two cut at h1
    rw [h1] at this
    simp at this
    omega
  have h3 : (ins L k [64]).count 64 = 2 := by
    unfold ins
    rw [List.count_append, List.count_append]
    have : (L.take k).count 64 + (L.drop k).count 64 = 1 := by rw [← List.count_append, List.take_append_drop, h2]
    simp
    omega
  have h4 : (two (ins L k [64])).length = 3 := by unfold two cut; rw [cut_count, h3]
  unfold spB
  rw [h4]
  rfl

/-- What stands between the first and the last byte. -/
def mid (L : List UInt8) : List UInt8 := (L.drop 1).take (L.length - 2)
/-- A text in brackets. -/
def brB (L : List UInt8) : Bool := decide (2 ≤ L.length) && nextIs L 0 60 && nextIs L (L.length - 1) 62
/-- A path. -/
def spP (L : List UInt8) : Bool := decide (L = bare) || (brB L && spB (mid L))
theorem br_form {L : List UInt8} (h : brB L = true) : L = 60 :: (mid L ++ [62]) := by
  unfold brB at h
  rw [Bool.and_eq_true, Bool.and_eq_true, decide_eq_true_eq] at h
  obtain ⟨⟨h1, h2⟩, h3⟩ := h
  unfold nextIs at h2 h3
  match L, h1, h2, h3 with
  | a :: t, h1, h2, h3 =>
    have ha : a = 60 := by simpa using h2
    subst ha
    have h1' : 1 ≤ t.length := by simpa using h1
    congr 1
    unfold mid
    have e1 : (60 :: t).length - 2 = t.length - 1 := by simp
    rw [e1]
    show t = t.take (t.length - 1) ++ [62]
    have e2 : t[t.length - 1]? = some 62 := by
      have e3 : (60 :: t).length - 1 = (t.length - 1) + 1 := by simp; omega
      rw [e3, List.getElem?_cons_succ] at h3
      simpa using h3
    have hlt : t.length - 1 < t.length := by omega
    have e4 : t[t.length - 1] = 62 := by
      rw [List.getElem?_eq_getElem hlt] at e2
      simpa using e2
    conv => lhs; rw [← List.take_append_drop (t.length - 1) t, List.drop_eq_getElem_cons hlt, e4]
    rw [List.drop_eq_nil_of_le (by omega)]
theorem br_of (M : List UInt8) : brB (60 :: (M ++ [62])) = true ∧ mid (60 :: (M ++ [62])) = M := by
  constructor
  · unfold brB nextIs
    simp
  · unfold mid
    simp
theorem next_mem {L : List UInt8} {k : Nat} {c : UInt8} (h : nextIs L k c = true) : c ∈ L := by
  have hk := nextIs_lt h
  unfold nextIs at h
  rw [List.getElem?_eq_getElem hk] at h
  have : L[k] = c := by simpa using h
  rw [← this]
  exact List.getElem_mem hk

section
variable (M : List UInt8)
theorem nm_in (k : Nat) (hk : k ≤ M.length) : nmLen (60 :: (M ++ [62])) (k + 1) = nmLen M k := by
  unfold nmLen
  rw [List.drop_succ_cons, List.drop_append_of_le_length hk, List.takeWhile_append]
  split
  · rename_i h
    rw [List.takeWhile_cons, if_neg (by decide), List.append_nil, h]
  · rfl
theorem next_in (k : Nat) (c : UInt8) (hc : c ≠ 62) (hk : k ≤ M.length) : nextIs (60 :: (M ++ [62])) (k + 1) c = nextIs M k c := by
  unfold nextIs
  rw [List.getElem?_cons_succ]
  rcases Nat.lt_or_ge k M.length with h | h
  · rw [List.getElem?_append_left h]
  · have : k = M.length := by omega
    subst this
    rw [List.getElem?_concat_length, List.getElem?_eq_none (Nat.le_refl _)]
    simpa using fun h => hc h.symm
theorem domGo_le (L : List UInt8) : ∀ (n k : Nat) (o : Bool), k ≤ L.length → (domGo L n o k).2 ≤ L.length ∧ k ≤ (domGo L n o k).2 := by
  intro n
  induction n with
  | zero => intro k o hk; exact ⟨hk, Nat.le_refl _⟩
  | succ n ih =>
    intro k o hk
    unfold domGo
    split
    · rename_i h
      rw [Bool.and_eq_true] at h
      have h1 := nextIs_lt h.2
      have h2 := nmLen_le L (k + 1) h1
      have := ih _ (okLen (nmLen L (k + 1))) h2
      omega
    · exact ⟨hk, Nat.le_refl _⟩
theorem domGo_in : ∀ (n k : Nat) (o : Bool), k ≤ M.length → domGo (60 :: (M ++ [62])) n o (k + 1) = ((domGo M n o k).1, (domGo M n o k).2 + 1) := by
  intro n
  induction n with
  | zero => intro k o hk; rfl
  | succ n ih =>
    intro k o hk
    unfold domGo
    rw [next_in M k 46 (by decide) hk]
    split
    · rename_i h
      rw [Bool.and_eq_true] at h
      have h1 := nextIs_lt h.2
      have h2 := nmLen_le M (k + 1) h1
      rw [nm_in M (k + 1) h1, show k + 1 + 1 + nmLen M (k + 1) = (k + 1 + nmLen M (k + 1)) + 1 by omega, ih _ _ h2]
    · rfl
theorem dom_in (k : Nat) (hk : k ≤ M.length) : domOk (60 :: (M ++ [62])) (k + 1) = domOk M k ∧ domEnd (60 :: (M ++ [62])) (k + 1) = domEnd M k + 1 := by
  have h2 := nmLen_le M k hk
  have e := domGo_in M 2 (k + nmLen M k) (okLen (nmLen M k)) h2
  have e2 : domEnd (60 :: (M ++ [62])) (k + 1) = domEnd M k + 1 := by
    unfold domEnd
    rw [nm_in M k hk, show k + 1 + nmLen M k = (k + nmLen M k) + 1 by omega, e]
  refine ⟨?_, e2⟩
  unfold domOk
  rw [e2, nm_in M k hk, show k + 1 + nmLen M k = (k + nmLen M k) + 1 by omega, e]
  rw [show domEnd M k + 1 - (k + 1) = domEnd M k - k by omega]
theorem ad_in : adOk (60 :: (M ++ [62])) 1 = adOk M 0 ∧ (adOk M 0 = true → adEnd (60 :: (M ++ [62])) 1 = adEnd M 0 + 1 ∧ adUser (60 :: (M ++ [62])) 1 = adUser M 0 ∧ adDom (60 :: (M ++ [62])) 1 = adDom M 0 ∧ adEnd M 0 ≤ M.length) := by
  have h0 := nm_in M 0 (Nat.zero_le _)
  have hle := nmLen_le M 0 (Nat.zero_le _)
  rw [Nat.zero_add] at h0 hle
  have hn := next_in M (nmLen M 0) 64 (by decide) hle
  unfold adOk
  rw [h0, Nat.zero_add, show 1 + nmLen M 0 = nmLen M 0 + 1 by omega, hn]
  by_cases hx : nextIs M (nmLen M 0) 64 = true
  · have h1 := nextIs_lt hx
    obtain ⟨e1, e2⟩ := dom_in M (nmLen M 0 + 1) h1
    rw [e1]
    refine ⟨rfl, fun _ => ?_⟩
    have h3 : adEnd (60 :: (M ++ [62])) 1 = adEnd M 0 + 1 := by
      unfold adEnd
      rw [h0, Nat.zero_add, show 1 + nmLen M 0 + 1 = nmLen M 0 + 1 + 1 by omega, e2]
    have h4 : adEnd M 0 ≤ M.length := by
      unfold adEnd domEnd
      rw [Nat.zero_add]
      exact (domGo_le M 2 _ _ (nmLen_le M _ h1)).1
    refine ⟨h3, ?_, ?_, h4⟩
    · unfold adUser
      rw [h0, List.drop_succ_cons, List.drop_zero, List.drop_zero, List.take_append_of_le_length hle]
    · unfold adDom
      rw [h3, h0, Nat.zero_add, show 1 + nmLen M 0 + 1 = nmLen M 0 + 1 + 1 by omega, List.drop_succ_cons, List.drop_append_of_le_length h1, show adEnd M 0 + 1 - (nmLen M 0 + 1 + 1) = adEnd M 0 - (nmLen M 0 + 1) by omega, List.take_append_of_le_length (by rw [List.length_drop]; omega)]
  · rw [Bool.eq_false_iff.2 hx]
    rw [Bool.and_false, Bool.false_and, Bool.false_and]
    exact ⟨rfl, fun h => by cases h⟩
theorem pp_in : ppB (60 :: (M ++ [62])) = apB M ∧ (apB M = true → adUser (60 :: (M ++ [62])) 1 = adUser M 0 ∧ adDom (60 :: (M ++ [62])) 1 = adDom M 0) := by
  obtain ⟨e1, e2⟩ := ad_in M
  unfold ppB apB
  rw [e1]
  by_cases h : adOk M 0 = true
  · obtain ⟨e3, e4, e5, e6⟩ := e2 h
    refine ⟨?_, fun _ => ⟨e4, e5⟩⟩
    rw [e3]
    have hf : nextIs (60 :: (M ++ [62])) 0 60 = true := rfl
    rw [hf, h, Bool.true_and, Bool.true_and, Bool.true_and]
    by_cases hz : adEnd M 0 = M.length
    · rw [hz]
      have : nextIs (60 :: (M ++ [62])) (M.length + 1) 62 = true := by unfold nextIs; simp
      rw [this]
      simp
    · rw [decide_eq_false hz, decide_eq_false (by rw [List.length_cons, List.length_append]; simp; omega), Bool.and_false]
  · rw [Bool.eq_false_iff.2 h]
    refine ⟨?_, fun h => by cases h⟩
    rw [Bool.and_false]
    rfl
end
theorem pp_br {L : List UInt8} (h : ppB L = true) : brB L = true := by
  unfold ppB at h
  rw [Bool.and_eq_true, Bool.and_eq_true, Bool.and_eq_true, decide_eq_true_eq] at h
  obtain ⟨⟨⟨h1, h2⟩, h3⟩, h4⟩ := h
  unfold adOk at h2
  rw [Bool.and_eq_true, Bool.and_eq_true] at h2
  have h5 := nextIs_lt h2.1.2
  unfold brB
  rw [h1, decide_eq_true (by omega), ← h4, Nat.add_sub_cancel, h3]
  rfl
/-- The parts of a path. -/
def qU (L : List UInt8) : List UInt8 := if L = bare then [] else if brB L = true then pU (mid L) else []
def qD (L : List UInt8) : List UInt8 := if L = bare then [] else if brB L = true then pD (mid L) else []
theorem pa_eq (L : List UInt8) : ppA L = spP L ∧ (ppA L = true → pathU L = qU L ∧ pathD L = qD L) := by
  unfold ppA spP pathU pathD qU qD
  by_cases hb : L = bare
  · rw [decide_eq_true hb, if_pos hb, if_pos hb, if_pos hb, if_pos hb]
    exact ⟨rfl, fun _ => ⟨rfl, rfl⟩⟩
  · rw [decide_eq_false hb, if_neg hb, if_neg hb, if_neg hb, if_neg hb, Bool.false_or, Bool.false_or]
    by_cases hr : brB L = true
    · rw [hr, Bool.true_and, if_pos rfl, if_pos rfl]
      have hf := br_form hr
      obtain ⟨e1, e2⟩ := pp_in (mid L)
      rw [← hf] at e1 e2
      obtain ⟨e3, e4⟩ := ad_eq (mid L)
      refine ⟨e1.trans e3, fun h => ?_⟩
      have ha := e1 ▸ h
      have hs := e3 ▸ ha
      unfold pU pD
      rw [if_pos hs, if_pos hs]
      exact ⟨(e2 ha).1.trans (e4 ha).1, (e2 ha).2.trans (e4 ha).2⟩
    · have hp : ppB L = false := by
        rw [← Bool.not_eq_true]
        exact fun h => hr (pp_br h)
      rw [hp, Bool.eq_false_iff.2 hr]
      exact ⟨rfl, fun h => by cases h⟩
theorem q_no {L : List UInt8} (h : spP L = false) : qU L = [] ∧ qD L = [] := by
  unfold spP at h
  rw [Bool.or_eq_false_iff, decide_eq_false_iff_not] at h
  unfold qU qD
  rw [if_neg h.1, if_neg h.1]
  by_cases hr : brB L = true
  · rw [if_pos hr, if_pos hr]
    rw [hr, Bool.true_and] at h
    exact ⟨pU_no h.2, pD_no h.2⟩
  · rw [if_neg hr, if_neg hr]
    exact ⟨rfl, rfl⟩
theorem q_le (L : List UInt8) : (qU L).length ≤ L.length ∧ (qD L).length ≤ L.length := by
  have hm : (mid L).length ≤ L.length := by unfold mid; rw [List.length_take, List.length_drop]; omega
  have h1 := pU_le (mid L)
  have h2 := pD_le (mid L)
  unfold qU qD
  constructor
  · split
    · exact Nat.zero_le _
    · split
      · omega
      · exact Nat.zero_le _
  · split
    · exact Nat.zero_le _
    · split
      · omega
      · exact Nat.zero_le _
/-- A path that is not the one without an address is the text of an address in brackets. -/
theorem path_text {L : List UInt8} (h : spP L = true) (hb : ¬ L = bare) : L = 60 :: (adText (qU L) (qD L) ++ [62]) := by
  unfold spP at h
  rw [decide_eq_false hb, Bool.false_or, Bool.and_eq_true] at h
  unfold qU qD
  rw [if_neg hb, if_neg hb, if_pos h.1, if_pos h.1, ad_back h.2]
  exact br_form h.1
theorem sp_ne {L : List UInt8} (h : spB L = true) : ∀ x ∈ L, sgn x = true ∨ x = 46 ∨ x = 64 := by
  obtain ⟨u, d, _, rfl, h3, h4⟩ := sp_parts h
  intro x hx
  rcases List.mem_append.1 hx with hx | hx
  · exact .inl (List.all_eq_true.1 (nameB_iff.1 h3).1 x hx)
  · rcases List.mem_cons.1 hx with rfl | hx
    · exact .inr (.inr rfl)
    · by_cases h46 : x = 46
      · exact .inr (.inl h46)
      · obtain ⟨y, hy, hxy⟩ := cutGo_mem 46 d [] x (.inr hx) h46
        exact .inl (List.all_eq_true.1 (nameB_iff.1 (List.all_eq_true.1 (dom_parts h4).1 y hy)).1 x hxy)
theorem sp_no60 {L : List UInt8} (h : spB L = true) : ¬ (60 : UInt8) ∈ L := by
  intro hx
  rcases sp_ne h 60 hx with h | h | h
  · exact absurd h (by decide)
  · exact absurd h (by decide)
  · exact absurd h (by decide)
theorem sp_no62 {L : List UInt8} (h : spB L = true) : ¬ (62 : UInt8) ∈ L := by
  intro hx
  rcases sp_ne h 62 hx with h | h | h
  · exact absurd h (by decide)
  · exact absurd h (by decide)
  · exact absurd h (by decide)
theorem sp_pos {L : List UInt8} (h : spB L = true) : L ≠ [] := by
  obtain ⟨u, d, _, rfl, _, _⟩ := sp_parts h
  simp
/-- Each address has a path. -/
theorem path_of {L : List UInt8} (h : spB L = true) : spP (60 :: (L ++ [62])) = true ∧ qU (60 :: (L ++ [62])) = pU L ∧ qD (60 :: (L ++ [62])) = pD L := by
  obtain ⟨h1, h2⟩ := br_of L
  have hb : ¬ 60 :: (L ++ [62]) = bare := by
    unfold bare
    intro e
    rw [List.cons.injEq] at e
    have := congrArg List.length e.2
    have hp := sp_pos h
    simp at this
    exact hp this
  unfold spP qU qD
  rw [if_neg hb, if_neg hb, if_pos h1, if_pos h1, h1, h2, h]
  simp
theorem path_bare (L : List UInt8) (h : ¬ (60 : UInt8) ∈ L ∨ ¬ (62 : UInt8) ∈ L) : spP L = false := by
  unfold spP brB
  rw [Bool.or_eq_false_iff, decide_eq_false_iff_not]
  constructor
  · rintro rfl
    unfold bare at h
    simp at h
  · rcases h with h | h
    · rw [show nextIs L 0 60 = false from by rw [← Bool.not_eq_true]; exact fun hn => h (next_mem hn)]
      simp
    · rw [show nextIs L (L.length - 1) 62 = false from by rw [← Bool.not_eq_true]; exact fun hn => h (next_mem hn)]
      simp
theorem path_bare1 {L : List UInt8} (h : spB L = true) : spP L = false := path_bare L (.inl (sp_no60 h))
theorem path_bare2 {L : List UInt8} (h : spB L = true) : spP (60 :: L) = false := path_bare _ (.inr (by
  intro hx
  rcases List.mem_cons.1 hx with h1 | h1
  · exact absurd h1 (by decide)
  · exact sp_no62 h h1))
theorem path_bare3 {L : List UInt8} (h : spB L = true) : spP (L ++ [62]) = false := path_bare _ (.inl (by
  intro hx
  rcases List.mem_append.1 hx with h1 | h1
  · exact sp_no60 h h1
  · rcases List.mem_cons.1 h1 with h2 | h2
    · exact absurd h2 (by decide)
    · cases h2))
end Go.Proofs.YtichajalinkcdaaGreatDoor
namespace Go.Proofs.YtichajalinkcdaaGreatDoor
set_option linter.unusedVariables false

/-- The number of a sign; other signs count as 0. -/
def val (c : UInt8) : Nat := (num c).getD 0
theorem val_sig {n : Nat} (h : n < 64) : val (sig n) = n := by unfold val; rw [num_sig h]; rfl
theorem val61 : val 61 = 0 := by decide
theorem val_lt (c : UInt8) : val c < 64 := by
  unfold val
  cases h : num c with
  | none => simp
  | some n => exact (num_some h).1
/-- The number of four signs. -/
def n4 (a b c d : UInt8) : Nat := 64 * (64 * (64 * val a + val b) + val c) + val d
theorem n4_lt (a b c d : UInt8) : n4 a b c d < 16777216 := by
  unfold n4
  have := val_lt a; have := val_lt b; have := val_lt c; have := val_lt d
  omega
/-- What the model's decoder makes of groups of four signs. -/
def dl : List UInt8 → List UInt8
  | a :: b :: c :: d :: t => UInt8.ofNat (n4 a b c d / 65536) :: UInt8.ofNat (n4 a b c d / 256 % 256) :: UInt8.ofNat (n4 a b c d % 256) :: dl t
  | _ => []
theorem dl_more (a b c d : UInt8) (t : List UInt8) : dl (a :: b :: c :: d :: t) = UInt8.ofNat (n4 a b c d / 65536) :: UInt8.ofNat (n4 a b c d / 256 % 256) :: UInt8.ofNat (n4 a b c d % 256) :: dl t := rfl
theorem dl_len : ∀ t : List UInt8, (dl t).length = t.length / 4 * 3
  | [] => rfl
  | [_] => by simp [dl]
  | [_, _] => by simp [dl]
  | [_, _, _] => by simp [dl]
  | a :: b :: c :: d :: t => by
    rw [dl_more]
    simp only [List.length_cons]
    rw [dl_len t]
    omega
theorem byte_back (a : UInt8) (n : Nat) (h : n = a.toNat) : UInt8.ofNat n = a := by subst h; simp
theorem n4_full (n : Nat) (h : n < 16777216) : n4 (q0 n) (q1 n) (q2 n) (q3 n) = n := by
  unfold n4 q0 q1 q2 q3
  rw [val_sig (q0_lt h), val_sig (by omega), val_sig (by omega), val_sig (by omega)]
  omega
theorem n4_two (n : Nat) (h : n < 16777216) (h6 : n % 64 = 0) : n4 (q0 n) (q1 n) (q2 n) 61 = n := by
  unfold n4 q0 q1 q2
  rw [val_sig (q0_lt h), val_sig (by omega), val_sig (by omega), val61]
  omega
theorem n4_one (n : Nat) (h : n < 16777216) (h6 : n % 4096 = 0) : n4 (q0 n) (q1 n) 61 61 = n := by
  unfold n4 q0 q1
  rw [val_sig (q0_lt h), val_sig (by omega), val61]
  omega
theorem bytes3 (a b c : UInt8) : UInt8.ofNat (n24 a b c / 65536) = a ∧ UInt8.ofNat (n24 a b c / 256 % 256) = b ∧ UInt8.ofNat (n24 a b c % 256) = c := by
  have := a.toNat_lt; have := b.toNat_lt; have := c.toNat_lt
  unfold n24
  exact ⟨byte_back a _ (by omega), byte_back b _ (by omega), byte_back c _ (by omega)⟩
/-- The decoder gives the bytes back, and zeros behind them. -/
theorem dl_enc : ∀ s : List UInt8, ∃ k, k ≤ 2 ∧ dl (enc s) = s ++ List.replicate k 0
  | [] => ⟨0, by omega, rfl⟩
  | [a] => by
    refine ⟨2, by omega, ?_⟩
    have hz : (0 : UInt8).toNat = 0 := rfl
    rw [enc_one, dl_more, n4_one _ (n24_lt a 0 0) (by unfold n24; rw [hz]; omega), (bytes3 a 0 0).1, (bytes3 a 0 0).2.1, (bytes3 a 0 0).2.2]
    rfl
  | [a, b] => by
    refine ⟨1, by omega, ?_⟩
    have hz : (0 : UInt8).toNat = 0 := rfl
    rw [enc_two, dl_more, n4_two _ (n24_lt a b 0) (by unfold n24; rw [hz]; omega), (bytes3 a b 0).1, (bytes3 a b 0).2.1, (bytes3 a b 0).2.2]
    rfl
  | a :: b :: c :: t => by
    obtain ⟨k, hk, h⟩ := dl_enc t
    refine ⟨k, hk, ?_⟩
    rw [enc_more, dl_more, n4_full _ (n24_lt a b c), (bytes3 a b c).1, (bytes3 a b c).2.1, (bytes3 a b c).2.2, h]
    rfl
/-- A beginning of what was decoded whose text is the given one. -/
theorem dec_hit {text : List UInt8} {k : Nat} (hl : text.length ≤ 40) (h : enc ((dl text).take k) = text) : Dec text true ((dl text).take k) := by
  refine ⟨fun _ => ⟨?_, h⟩, fun h => by cases h⟩
  have := dl_len text
  rw [List.length_take]
  omega
/-- None of the beginnings has the given text. -/
theorem dec_miss {text : List UInt8} (h : ∀ k, k ≤ 2 → k ≤ (dl text).length → enc ((dl text).take ((dl text).length - k)) ≠ text) : Dec text false [] := dec_no (by
  rintro t rfl
  obtain ⟨k, hk, he⟩ := dl_enc t
  refine h k hk (by rw [he]; simp) ?_
  rw [he]
  congr 1
  simp)

/-- The bytes of a proof. -/
def two0 (u p : List UInt8) : List UInt8 := 0 :: (u ++ 0 :: p)
/-- The text of a proof. -/
def mk (u p : List UInt8) : List UInt8 := if (nameB u && nameB p) = true then enc (two0 u p) else []
theorem mk_yes {u p : List UInt8} (hu : nameB u = true) (hp : nameB p = true) : mk u p = enc (two0 u p) := by unfold mk; rw [hu, hp]; rfl
theorem mk_no {u p : List UInt8} (h : (nameB u && nameB p) = false) : mk u p = [] := by unfold mk; rw [h]; rfl
theorem enc_ne {s : List UInt8} (h : s ≠ []) : enc s ≠ [] := by
  obtain ⟨p, x, y, h1, _⟩ := enc_last s h
  rw [h1]
  simp
theorem mk_ne {u p : List UInt8} (h : mk u p ≠ []) : nameB u = true ∧ nameB p = true := by
  cases hv : (nameB u && nameB p)
  · exact absurd (mk_no hv) h
  · simpa using hv
theorem two0_len {u p : List UInt8} (hu : nameB u = true) (hp : nameB p = true) : (two0 u p).length ≤ 30 := by
  have := (nameB_iff.1 hu).2.2
  have := (nameB_iff.1 hp).2.2
  unfold two0
  simp only [List.length_cons, List.length_append]
  omega
theorem sgn0 : sgn 0 = false := by decide
theorem cut_two0 {u p : List UInt8} (hu : nameB u = true) (hp : nameB p = true) : cut 0 (two0 u p) = [[], u, p] := by
  unfold two0
  have h1 := cut_at 0 [] (u ++ 0 :: p) (by simp)
  rw [List.nil_append] at h1
  rw [h1, cut_at 0 u p (name_no46 hu 0 sgn0), cut_nil_of 0 p (name_no46 hp 0 sgn0)]
theorem cutGo_three (c : UInt8) (l : List UInt8) : ∀ cur a b d, cutGo c cur l = [a, b, d] → cur ++ l = a ++ c :: (b ++ c :: d) := by
  induction l with
  | nil => intro cur a b d h; simp [cutGo] at h
  | cons x t ih =>
    intro cur a b d h
    unfold cutGo at h
    split at h
    · rename_i hx
      rw [List.cons.injEq] at h
      have h2 := cutGo_two c t [] b d h.2
      rw [← h.1, ← h2, hx]
      rfl
    · have := ih _ _ _ _ h
      simpa using this
/-- What a reader of proofs tells. -/
def PP (text : List UInt8) (o : Bool) (u p : List UInt8) : Prop :=
  (o = true → nameB u = true ∧ nameB p = true ∧ enc (two0 u p) = text) ∧ (o = false → u = [] ∧ p = [] ∧ ∀ a b : List UInt8, nameB a = true → nameB b = true → enc (two0 a b) ≠ text)
theorem two0_inj {u p v q : List UInt8} (hu : nameB u = true) (hp : nameB p = true) (hv : nameB v = true) (hq : nameB q = true) (h : two0 u p = two0 v q) : u = v ∧ p = q := by
  have h1 := cut_two0 hu hp
  rw [h, cut_two0 hv hq] at h1
  simp only [List.cons.injEq, and_true, true_and] at h1
  exact ⟨h1.1.symm, h1.2.symm⟩
theorem pp_any (text : List UInt8) : ∃ o u p, PP text o u p := by
  by_cases h : ∃ u p : List UInt8, nameB u = true ∧ nameB p = true ∧ enc (two0 u p) = text
  · obtain ⟨u, p, h1, h2, h3⟩ := h
    exact ⟨true, u, p, fun _ => ⟨h1, h2, h3⟩, fun h => by cases h⟩
  · exact ⟨false, [], [], fun h => (by cases h), fun _ => ⟨rfl, rfl, fun a b h1 h2 h3 => h ⟨a, b, h1, h2, h3⟩⟩⟩
theorem pp_one {text : List UInt8} {o o' : Bool} {u p u' p' : List UInt8} (h : PP text o u p) (k : PP text o' u' p') : o = o' ∧ u = u' ∧ p = p' := by
  cases o <;> cases o'
  · obtain ⟨h1, h2, _⟩ := h.2 rfl
    obtain ⟨k1, k2, _⟩ := k.2 rfl
    rw [h1, h2, k1, k2]
    exact ⟨rfl, rfl, rfl⟩
  · obtain ⟨k1, k2, k3⟩ := k.1 rfl
    exact absurd k3 ((h.2 rfl).2.2 _ _ k1 k2)
  · obtain ⟨k1, k2, k3⟩ := h.1 rfl
    exact absurd k3 ((k.2 rfl).2.2 _ _ k1 k2)
  · obtain ⟨h1, h2, h3⟩ := h.1 rfl
    obtain ⟨k1, k2, k3⟩ := k.1 rfl
    obtain ⟨e1, e2⟩ := two0_inj h1 h2 k1 k2 (enc_inj _ _ (h3.trans k3.symm))
    exact ⟨rfl, e1, e2⟩
theorem pp_yes {text s u p : List UInt8} (hd : Dec text true s) (hc : cut 0 s = [[], u, p]) (hu : nameB u = true) (hp : nameB p = true) : PP text true u p := by
  refine ⟨fun _ => ⟨hu, hp, ?_⟩, fun h => by cases h⟩
  have h := cutGo_three 0 s [] [] u p hc
  rw [← (hd.1 rfl).2]
  congr 1
  unfold two0
  simpa using h.symm
theorem pp_no {text s : List UInt8} {o : Bool} (hd : Dec text o s) (h : o = true → ∀ u p, cut 0 s = [[], u, p] → nameB u = true → nameB p = true → False) : PP text false [] [] := by
  refine ⟨fun h => (by cases h), fun _ => ⟨rfl, rfl, ?_⟩⟩
  intro a b ha hb he
  have hk := dec_of (two0_len ha hb)
  rw [he] at hk
  obtain ⟨e1, e2⟩ := dec_one hd hk
  exact h e1 a b (by rw [e2]; exact cut_two0 ha hb) ha hb
theorem pp_mk {u p : List UInt8} (h : mk u p ≠ []) : PP (mk u p) true u p := by
  obtain ⟨h1, h2⟩ := mk_ne h
  exact ⟨fun _ => ⟨h1, h2, (mk_yes h1 h2).symm⟩, fun h => by cases h⟩
theorem mk_pp {text u p : List UInt8} (h : PP text true u p) : mk u p = text := by
  obtain ⟨h1, h2, h3⟩ := h.1 rfl
  rw [mk_yes h1 h2, h3]
theorem mk_dec {u p : List UInt8} (h : mk u p ≠ []) : Dec (mk u p) true (two0 u p) := by
  obtain ⟨h1, h2⟩ := mk_ne h
  rw [mk_yes h1 h2]
  exact dec_of (two0_len h1 h2)
theorem mk_nil {u p : List UInt8} : mk u p = [] ↔ (nameB u = false ∨ nameB p = false) := by
  constructor
  · intro h
    cases hv : (nameB u && nameB p)
    · exact Bool.and_eq_false_iff.1 hv
    · rw [Bool.and_eq_true] at hv
      rw [mk_yes hv.1 hv.2] at h
      exact absurd h (enc_ne (by unfold two0; simp))
  · intro h
    refine mk_no ?_
    rcases h with h | h <;> rw [h] <;> simp
theorem mk_swap {u p : List UInt8} (h : mk u p ≠ []) : mk p u = mk u p ↔ u = p := by
  obtain ⟨h1, h2⟩ := mk_ne h
  constructor
  · intro he
    rw [mk_yes h1 h2, mk_yes h2 h1] at he
    exact (two0_inj h2 h1 h1 h2 (enc_inj _ _ he)).2
  · rintro rfl
    rfl
theorem enc000 : enc [0, 0, 0] = [65, 65, 65, 65] := by decide
theorem pp_more {text u p : List UInt8} (h : PP text true u p) : PP ([65, 65, 65, 65] ++ text) false [] [] := by
  obtain ⟨_, _, h3⟩ := h.1 rfl
  refine ⟨fun h => (by cases h), fun _ => ⟨rfl, rfl, ?_⟩⟩
  intro a b ha hb he
  rw [← h3, ← enc000, ← enc_app _ _ (by rfl)] at he
  have h4 := enc_inj _ _ he
  unfold two0 at h4
  rw [List.cons_append, List.cons.injEq] at h4
  have h5 := h4.2
  obtain ⟨q1, q2, _⟩ := nameB_iff.1 ha
  match a, q1, q2, h5 with
  | x :: a', q1, _, h5 =>
    rw [List.cons_append, List.cons_append, List.cons.injEq] at h5
    have hx := List.all_eq_true.1 q1 x (by simp)
    rw [h5.1] at hx
    exact absurd hx (by decide)
end Go.Proofs.YtichajalinkcdaaGreatDoor
namespace Go.Proofs.YtichajalinkcdaaGreatDoor
set_option linter.unusedVariables false

/-- 'xs' are the groups of at most 'n' of 'l', one after the other. -/
def Grp (n : Nat) : List (List UInt8) → List UInt8 → Prop
  | [], l => l = []
  | x :: xs, l => x = l.take n ∧ l ≠ [] ∧ Grp n xs (l.drop n)
theorem grp_enc : ∀ (xs : List (List UInt8)) (l : List UInt8), Grp 3 xs l → xs.flatMap enc = enc l
  | [], l, h => by have h' : l = [] := h; subst h'; rfl
  | x :: xs, l, ⟨hx, hl, hr⟩ => by
    have ih := grp_enc xs _ hr
    rw [List.flatMap_cons, ih, hx]
    match l with
    | [] => exact absurd rfl hl
    | [a] => rfl
    | [a, b] => rfl
    | a :: b :: c :: t => rw [enc_more]; rfl

/-- The number that the first 'k' signs of a group stand for. -/
def acc (l : List UInt8) : Nat → Nat
  | 0 => 0
  | 1 => 262144 * val (l.getD 0 61)
  | 2 => 262144 * val (l.getD 0 61) + 4096 * val (l.getD 1 61)
  | 3 => 262144 * val (l.getD 0 61) + 4096 * val (l.getD 1 61) + 64 * val (l.getD 2 61)
  | _ => 262144 * val (l.getD 0 61) + 4096 * val (l.getD 1 61) + 64 * val (l.getD 2 61) + val (l.getD 3 61)
/-- How many signs lead a group. -/
def leads : List UInt8 → Nat
  | [] => 0
  | a :: t => if (num a).isSome then leads t + 1 else 0
theorem leads_le : ∀ l : List UInt8, leads l ≤ l.length
  | [] => Nat.le_refl _
  | a :: t => by
    have := leads_le t
    unfold leads
    split
    · simp only [List.length_cons]; omega
    · exact Nat.zero_le _
/-- The three bytes of a number. -/
def three (n : Nat) : List UInt8 := [UInt8.ofNat (n / 65536 % 256), UInt8.ofNat (n / 256 % 256), UInt8.ofNat (n % 256)]
/-- The bytes for which a group of at most four signs stands. -/
def decG (l : List UInt8) : List UInt8 := (three (acc l (leads l))).take (leads l - 1)
theorem decG_len (l : List UInt8) : (decG l).length ≤ 3 := by unfold decG three; rw [List.length_take]; simp; omega
/-- The bytes for which a text of groups of four signs stands. -/
def dg : List UInt8 → List UInt8
  | a :: b :: c :: d :: t => decG [a, b, c, d] ++ dg t
  | [] => []
  | l => decG l
theorem dg_more (a b c d : UInt8) (t : List UInt8) : dg (a :: b :: c :: d :: t) = decG [a, b, c, d] ++ dg t := rfl
theorem grp_dg : ∀ (xs : List (List UInt8)) (l : List UInt8), Grp 4 xs l → xs.flatMap decG = dg l
  | [], l, h => by have h' : l = [] := h; subst h'; rfl
  | x :: xs, l, ⟨hx, hl, hr⟩ => by
    have ih := grp_dg xs _ hr
    rw [List.flatMap_cons, ih, hx]
    match l with
    | [] => exact absurd rfl hl
    | [a] => show decG [a] ++ dg [] = dg [a]; exact List.append_nil _
    | [a, b] => show decG [a, b] ++ dg [] = dg [a, b]; exact List.append_nil _
    | [a, b, c] => show decG [a, b, c] ++ dg [] = dg [a, b, c]; exact List.append_nil _
    | a :: b :: c :: d :: t => rw [dg_more]; rfl

theorem num_sig_some {n : Nat} (h : n < 64) : (num (sig n)).isSome = true := by rw [num_sig h]; rfl
theorem none61 : (num 61).isSome = false := by rw [num61]; rfl
theorem decG_full (n : Nat) (h : n < 16777216) : decG [q0 n, q1 n, q2 n, q3 n] = three n := by
  have e : leads [q0 n, q1 n, q2 n, q3 n] = 4 := by
    unfold q0 q1 q2 q3
    simp only [leads, num_sig_some (q0_lt h), num_sig_some (show n / 4096 % 64 < 64 by omega), num_sig_some (show n / 64 % 64 < 64 by omega), num_sig_some (show n % 64 < 64 by omega), if_true]
  unfold decG
  rw [e]
  have ea : acc [q0 n, q1 n, q2 n, q3 n] 4 = n := by
    show 262144 * val (q0 n) + 4096 * val (q1 n) + 64 * val (q2 n) + val (q3 n) = n
    unfold q0 q1 q2 q3
    rw [val_sig (q0_lt h), val_sig (by omega), val_sig (by omega), val_sig (by omega)]
    omega
  rw [ea]
  rfl
theorem decG_two (n : Nat) (h : n < 16777216) (h6 : n % 64 = 0) : decG [q0 n, q1 n, q2 n, 61] = (three n).take 2 := by
  have e : leads [q0 n, q1 n, q2 n, 61] = 3 := by
    unfold q0 q1 q2
    simp only [leads, num_sig_some (q0_lt h), num_sig_some (show n / 4096 % 64 < 64 by omega), num_sig_some (show n / 64 % 64 < 64 by omega), none61, if_true, Bool.false_eq_true, if_false]
  unfold decG
  rw [e]
  have ea : acc [q0 n, q1 n, q2 n, 61] 3 = n := by
    show 262144 * val (q0 n) + 4096 * val (q1 n) + 64 * val (q2 n) = n
    unfold q0 q1 q2
    rw [val_sig (q0_lt h), val_sig (by omega), val_sig (by omega)]
    omega
  rw [ea]
theorem decG_one (n : Nat) (h : n < 16777216) (h6 : n % 4096 = 0) : decG [q0 n, q1 n, 61, 61] = (three n).take 1 := by
  have e : leads [q0 n, q1 n, 61, 61] = 2 := by
    unfold q0 q1
    simp only [leads, num_sig_some (q0_lt h), num_sig_some (show n / 4096 % 64 < 64 by omega), none61, if_true, Bool.false_eq_true, if_false]
  unfold decG
  rw [e]
  have ea : acc [q0 n, q1 n, 61, 61] 2 = n := by
    show 262144 * val (q0 n) + 4096 * val (q1 n) = n
    unfold q0 q1
    rw [val_sig (q0_lt h), val_sig (by omega)]
    omega
  rw [ea]
theorem three24 (a b c : UInt8) : three (n24 a b c) = [a, b, c] := by
  have := a.toNat_lt; have := b.toNat_lt; have := c.toNat_lt
  unfold three n24
  rw [byte_back a _ (by omega), byte_back b _ (by omega), byte_back c _ (by omega)]
/-- The bytes come back. -/
theorem dg_enc : ∀ s : List UInt8, dg (enc s) = s
  | [] => rfl
  | [a] => by
    have hz : (0 : UInt8).toNat = 0 := rfl
    rw [enc_one, dg_more, decG_one _ (n24_lt a 0 0) (by unfold n24; rw [hz]; omega), three24]
    rfl
  | [a, b] => by
    have hz : (0 : UInt8).toNat = 0 := rfl
    rw [enc_two, dg_more, decG_two _ (n24_lt a b 0) (by unfold n24; rw [hz]; omega), three24]
    rfl
  | a :: b :: c :: t => by
    rw [enc_more, dg_more, decG_full _ (n24_lt a b c), three24, dg_enc t]
    rfl
theorem dg_len : ∀ l : List UInt8, (dg l).length ≤ l.length
  | [] => Nat.le_refl _
  | [a] => by show (decG [a]).length ≤ 1; unfold decG; rw [List.length_take]; have := leads_le [a]; simp only [List.length_cons, List.length_nil] at this; omega
  | [a, b] => by show (decG [a, b]).length ≤ 2; unfold decG; rw [List.length_take]; have := leads_le [a, b]; simp only [List.length_cons, List.length_nil] at this; omega
  | [a, b, c] => by show (decG [a, b, c]).length ≤ 3; exact decG_len _
  | a :: b :: c :: d :: t => by
    rw [dg_more, List.length_append]
    have := decG_len [a, b, c, d]
    have := dg_len t
    simp only [List.length_cons]
    omega
/-- What is read and written again, and is the same: it is a text of these bytes. -/
theorem dg_same {text : List UInt8} (hl : (dg text).length ≤ 30) (h : enc (dg text) = text) : Dec text true (dg text) := ⟨fun _ => ⟨hl, h⟩, fun h => by cases h⟩
theorem dg_other {text : List UInt8} (h : (dg text).length ≤ 30 → enc (dg text) ≠ text) : Dec text false [] := ⟨fun h => (by cases h), fun _ => ⟨rfl, by
  rintro t ht rfl
  rw [dg_enc] at h
  exact h ht rfl⟩⟩

/-- One more sign. -/
theorem leads_step {l : List UInt8} {k : Nat} (hk : k < l.length) (h : k ≤ leads l) (hs : (num l[k]).isSome = true) : k + 1 ≤ leads l := by
  induction l generalizing k with
  | nil => simp at hk
  | cons a t ih =>
    cases k with
    | zero =>
      have hs' : (num a).isSome = true := hs
      unfold leads
      rw [if_pos hs']
      omega
    | succ k =>
      unfold leads at h ⊢
      split at h
      · rename_i ha
        rw [if_pos ha]
        have := ih (k := k) (by simpa using hk) (by omega) hs
        omega
      · omega
theorem leads_stop {l : List UInt8} {k : Nat} (hk : k < l.length) (h : k ≤ leads l) (hs : (num l[k]).isSome = false) : leads l = k := by
  induction l generalizing k with
  | nil => simp at hk
  | cons a t ih =>
    cases k with
    | zero =>
      have hs' : (num a).isSome = false := hs
      unfold leads
      rw [if_neg (by rw [hs']; decide)]
    | succ k =>
      unfold leads at h ⊢
      split at h
      · rename_i ha
        rw [if_pos ha]
        have := ih (k := k) (by simpa using hk) (by omega) hs
        omega
      · omega
theorem acc_lt (l : List UInt8) (k : Nat) : acc l k < 16777216 := by
  have h0 := val_lt (l.getD 0 61)
  have h1 := val_lt (l.getD 1 61)
  have h2 := val_lt (l.getD 2 61)
  have h3 := val_lt (l.getD 3 61)
  match k with
  | 0 => show 0 < _; omega
  | 1 => show 262144 * val (l.getD 0 61) < _; omega
  | 2 => show 262144 * val (l.getD 0 61) + 4096 * val (l.getD 1 61) < _; omega
  | 3 => show 262144 * val (l.getD 0 61) + 4096 * val (l.getD 1 61) + 64 * val (l.getD 2 61) < _; omega
  | k + 4 => show 262144 * val (l.getD 0 61) + 4096 * val (l.getD 1 61) + 64 * val (l.getD 2 61) + val (l.getD 3 61) < _; omega
theorem acc_step1 (l : List UInt8) : acc l 1 = acc l 0 + 262144 * val (l.getD 0 61) := by show 262144 * val (l.getD 0 61) = 0 + _; omega
theorem acc_step2 (l : List UInt8) : acc l 2 = acc l 1 + 4096 * val (l.getD 1 61) := rfl
theorem acc_step3 (l : List UInt8) : acc l 3 = acc l 2 + 64 * val (l.getD 2 61) := rfl
theorem acc_step4 (l : List UInt8) : acc l 4 = acc l 3 + val (l.getD 3 61) := rfl
theorem acc_mod1 (l : List UInt8) : acc l 1 % 262144 = 0 := by show 262144 * val (l.getD 0 61) % 262144 = 0; omega
theorem acc_mod2 (l : List UInt8) : acc l 2 % 4096 = 0 := by show (262144 * val (l.getD 0 61) + 4096 * val (l.getD 1 61)) % 4096 = 0; omega
theorem acc_mod3 (l : List UInt8) : acc l 3 % 64 = 0 := by show (262144 * val (l.getD 0 61) + 4096 * val (l.getD 1 61) + 64 * val (l.getD 2 61)) % 64 = 0; omega
end Go.Proofs.YtichajalinkcdaaGreatDoor
namespace Go.Proofs.YtichajalinkcdaaGreatDoor
open Go.RowKit
set_option linter.unusedVariables false

theorem letters : ∀ n : Fin 64, (⟨#[65, 66, 67, 68, 69, 70, 71, 72, 73, 74, 75, 76, 77, 78, 79, 80, 81, 82, 83, 84, 85, 86, 87, 88, 89, 90, 97, 98, 99, 100, 101, 102, 103, 104, 105, 106, 107, 108, 109, 110, 111, 112, 113, 114, 115, 116, 117, 118, 119, 120, 121, 122, 48, 49, 50, 51, 52, 53, 54, 55, 56, 57, 43, 47]⟩ : ByteArray).data.toList[n.1]? = some (sig n.1) := by decide
theorem at_of {B : ByteArray} {n : Nat} (h : n < B.size) {c : UInt8} (e : B.data.toList[n]? = some c) : B[n] = c := by
  have hl : n < B.data.toList.length := by simpa using h
  rw [List.getElem?_eq_getElem hl] at e
  exact Option.some.inj e
set_option maxHeartbeats 1000000 in
theorem letter_at (n : Nat) (hn : n < 64) (w : World) : Calls Tryz.prog 116 #[.int .i64 (n : Int)] w fun e w' => e = .returned (.int .u8 ((sig n).toNat : Int)) ∧ w' = w := by
  have h0 : (0 : Int) ≤ (n : Int) := by omega
  have h1 : (n : Int) < 64 := by omega
  have HL := Lib.hid (letters ⟨n, hn⟩)
  go_enter Tryz.func116, Tryz.ntmps116
  go_wp2
  go_ret
  exact ⟨congrArg (fun c : UInt8 => Ending.returned (.int .u8 (c.toNat : Int))) (at_of _ HL.out), rfl⟩
/-- The number of a sign, or -1. -/
def valI (c : UInt8) : Int := match num c with
  | some n => (n : Int)
  | none => -1
theorem valI_at {c : UInt8} {n : Nat} (hn : n < 64) (h : sig n = c) : valI c = (n : Int) := by unfold valI; rw [← h, num_sig hn]
theorem valI_no {c : UInt8} (h : ∀ n, n < 64 → sig n ≠ c) : valI c = -1 := by
  unfold valI
  cases hc : num c with
  | none => rfl
  | some n => exact absurd (num_some hc).2 (h n (num_some hc).1)
set_option maxHeartbeats 1000000 in
theorem value_at (c : UInt8) (w : World) : Calls Tryz.prog 154 #[.int .u8 (c.toNat : Int)] w fun e w' => e = .returned (.int .i64 (valI c)) ∧ w' = w := by
  go_enter Tryz.func154, Tryz.ntmps154
  go_wp2
  go_loop [3] (fun i => ∃ k : Nat, k ≤ 64 ∧ i = .int .i64 (k : Int) ∧ Hid (∀ m, m < k → sig m ≠ c)) (fun i => 64 - (intOf i).toNat)
  case atStart => exact ⟨0, by omega, by go_num, fun m hm => absurd hm (by omega)⟩
  case round =>
    obtain ⟨k, hk, rfl, HA⟩ := hrel
    by_cases hlt : k < 64
    · have h0 : (0 : Int) ≤ (k : Int) := by omega
      have h1 : (k : Int) < 64 := by omega
      by_cases hc : sig k = c
      · have hcb : (((sig k).toNat : Int) == (c.toNat : Int)) = true := by rw [hc]; simp
        have HE := Lib.hid (valI_at hlt hc)
        clear hc
        go_wp2_with fail
        refine (letter_at k hlt _).mono ?_
        rintro e w1 ⟨rfl, rfl⟩
        go_wp2
        go_ret
        exact ⟨by rw [HE.out]; rfl, rfl⟩
      · have hcb : (((sig k).toNat : Int) == (c.toNat : Int)) = false := by
          have : (sig k).toNat ≠ c.toNat := fun e => hc (UInt8.toNat_inj.1 e)
          simp; omega
        have HE := Lib.hid hc
        clear hc
        go_wp2_with fail
        refine (letter_at k hlt _).mono ?_
        rintro e w1 ⟨rfl, rfl⟩
        go_wp2
        go_round
        case rel =>
          refine ⟨k + 1, by omega, by go_num, fun m hm => ?_⟩
          rcases Nat.lt_or_ge m k with h | h
          · exact HA.out m h
          · have : m = k := by omega
            rw [this]; exact HE.out
        case measure => simp [intOf]; omega
    · have h1 : ¬ (k : Int) < 64 := by omega
      have HE := Lib.hid (valI_no (c := c) (fun n hn => HA.out n (by omega)))
      go_wp2
      go_ret
      exact ⟨by rw [HE.out]; rfl, rfl⟩

end Go.Proofs.YtichajalinkcdaaGreatDoor
namespace Go.Proofs.YtichajalinkcdaaGreatDoor
open Go.RowKit
set_option linter.unusedVariables false

theorem Tryz.infoByte : (Tryz.prog.info? 5).map (fun i => (i.zero, i.size, i.bytes)) = some (some (.int .u8 0), 1, 1) := by kernel_rfl
/-- The bytes 'l' as a text. -/
def bt (l : List UInt8) : ByteArray := ⟨l.toArray⟩
theorem byte_at {s : ByteArray} {k : Nat} (h : k < s.size) : s.data.toList[k]'(by simpa using h) = s[k] := rfl
theorem drop1 {s : ByteArray} (k : Nat) (h : k < s.size) : s.data.toList.drop k = s[k] :: s.data.toList.drop (k + 1) := by
  rw [List.drop_eq_getElem_cons (by simpa using h)]
  rfl
theorem drop3 {s : ByteArray} (k : Nat) (h : k + 3 ≤ s.size) : s.data.toList.drop k = s[k] :: s[k + 1] :: s[k + 2] :: s.data.toList.drop (k + 3) := by
  rw [drop1 k (by omega), drop1 (k + 1) (by omega), drop1 (k + 2) (by omega)]
theorem drop_one {s : ByteArray} (k : Nat) (h : k + 1 = s.size) : s.data.toList.drop k = [s[k]] := by
  rw [drop1 k (by omega), List.drop_eq_nil_of_le (by simp; omega)]
theorem drop_two {s : ByteArray} (k : Nat) (h : k + 2 = s.size) : s.data.toList.drop k = [s[k], s[k + 1]] := by
  rw [drop1 k (by omega), drop_one (k + 1) (by omega)]
set_option maxRecDepth 20000 in
set_option maxHeartbeats 4000000 in
theorem encode_any (s : ByteArray) (w : World) (hs : s.size ≤ 16777216) :
    Calls Tryz.prog 97 #[.string s] w fun e w' => e = .returned (.string (bt (enc s.data.toList))) ∧ Below w.heap.size w w' := by
  have hl : s.data.toList.length = s.size := by simp
  have HL := Lib.hid hl
  clear hl
  obtain ⟨i0, hi, hz0, hz1, hz2⟩ := info_parts Tryz.infoByte
  go_enter Tryz.func97, Tryz.ntmps97
  go_wp2
  go_loopw [3, 4, 5] (fun v i n wr => ∃ (k : Nat) (P : List UInt8), k ≤ s.size + 2 ∧ i = .int .i64 (k : Int) ∧ wr.ownsRow w.heap.size 5 1 v P.length (Lib.byteCells P) ∧ Below w.heap.size w wr ∧ Hid (enc s.data.toList = P ++ enc (s.data.toList.drop k)))
    (fun _ i _ _ => s.size + 2 - (intOf i).toNat)
  case atStart =>
    exact ⟨0, [], by omega, by go_num, World.ownsRow_lit w #[] 0 (Nat.le_refl _) (by unfold maxLen; omega) rfl, (Below.refl _ _).alloc (Nat.le_refl _) _, rfl⟩
  case round =>
    obtain ⟨k, P, hk, rfl, hown, hbel, HE⟩ := hrel
    have hz := hbel.size
    have HB := Lib.hid hbel
    clear hbel
    by_cases hlt : k < s.size
    · have h0 : (0 : Int) ≤ (k : Int) := by omega
      have h1 : (k : Int) < (s.size : Int) := by omega
      have h2 : (k : Int) ≤ (s.size : Int) := by omega
      have b0 : (s[k].toNat : Int) ≤ 255 := by have := s[k].toNat_lt; omega
      have b0' : (0 : Int) ≤ (s[k].toNat : Int) := by omega
      by_cases hr3 : k + 3 ≤ s.size
      · obtain ⟨k1, hk1⟩ : ∃ k1, k1 = k + 1 := ⟨_, rfl⟩
        obtain ⟨k2, hk2⟩ : ∃ k2, k2 = k + 2 := ⟨_, rfl⟩
        have E1 : (k : Int) + 1 = (k1 : Int) := by omega
        have E2 : (k : Int) + 2 = (k2 : Int) := by omega
        have hlt1 : k1 < s.size := by omega
        have h11 : (0 : Int) ≤ (k1 : Int) := by omega
        have h12 : (k1 : Int) < (s.size : Int) := by omega
        have b1 : (s[k1].toNat : Int) ≤ 255 := by have := s[k1].toNat_lt; omega
        have b1' : (0 : Int) ≤ (s[k1].toNat : Int) := by omega
        have hlt2 : k2 < s.size := by omega
        have h21 : (0 : Int) ≤ (k2 : Int) := by omega
        have h22 : (k2 : Int) < (s.size : Int) := by omega
        have b2 : (s[k2].toNat : Int) ≤ 255 := by have := s[k2].toNat_lt; omega
        have b2' : (0 : Int) ≤ (s[k2].toNat : Int) := by omega
        obtain ⟨N, hN⟩ : ∃ N, N = n24 s[k] s[k1] s[k2] := ⟨_, rfl⟩
        have z0 : (0 : UInt8).toNat = 0 := rfl
        have EN : 65536 * (s[k].toNat : Int) + 256 * (s[k1].toNat : Int) + (s[k2].toNat : Int) = (N : Int) := by rw [hN]; unfold n24; omega
        have hNl : N < 16777216 := by rw [hN]; exact n24_lt _ _ _
        obtain ⟨m0, hm0⟩ : ∃ m, m = N / 262144 := ⟨_, rfl⟩
        obtain ⟨m1, hm1⟩ : ∃ m, m = N / 4096 % 64 := ⟨_, rfl⟩
        obtain ⟨m2, hm2⟩ : ∃ m, m = N / 64 % 64 := ⟨_, rfl⟩
        obtain ⟨m3, hm3⟩ : ∃ m, m = N % 64 := ⟨_, rfl⟩
        have D0 : (N : Int) / 262144 = (m0 : Int) := by omega
        have D1 : (N : Int) / 4096 % 64 = (m1 : Int) := by omega
        have D2 : (N : Int) / 64 % 64 = (m2 : Int) := by omega
        have D3 : (N : Int) % 64 = (m3 : Int) := by omega
        have hP : P.length ≤ 2 * s.size + 10 := by have h := congrArg List.length HE.out; rw [enc_len, List.length_append, HL.out] at h; omega
        have H0 := Lib.hid hm0
        have H1 := Lib.hid hm1
        have H2 := Lib.hid hm2
        have H3 := Lib.hid hm3
        have HN := Lib.hid hN
        have HK1 := Lib.hid hk1
        have HK2 := Lib.hid hk2
        have l0 : m0 < 64 := by omega
        have l1 : m1 < 64 := by omega
        have l2 : m2 < 64 := by omega
        have l3 : m3 < 64 := by omega
        clear hk1 hk2 hN hm0 hm1 hm2 hm3 z0
        go_wp2_with fail
        refine (letter_at m0 l0 _).mono ?_
        rintro e w1 ⟨rfl, rfl⟩
        go_wp2_with fail
        refine (letter_at m1 l1 _).mono ?_
        rintro e w1 ⟨rfl, rfl⟩
        go_wp2_with fail
        refine (letter_at m2 l2 _).mono ?_
        rintro e w1 ⟨rfl, rfl⟩
        go_wp2_with fail
        refine (letter_at m3 l3 _).mono ?_
        rintro e w1 ⟨rfl, rfl⟩
        go_wp2_with (at_builtin; refine wpList_append_own _ rfl _ _ 22 rfl w.heap.size 5 i0 (.int .u8 0) 1 1 Tryz.underlying22 hi hz0 hz1 hz2 rfl (by decide) _ _ _ rfl (hown.alloc _) _ 4 4 [.int .u8 ((sig m0).toNat : Int), .int .u8 ((sig m1).toNat : Int), .int .u8 ((sig m2).toNat : Int), .int .u8 ((sig m3).toNat : Int)] rfl rfl ?c1 ?c2 ?c3 ?c4 ?c5 ?_)
        case c1 =>
          intro j u hj
          match j, hj with
          | 0, hj => simp at hj; subst hj; simp [Addr.add]
          | 1, hj => simp at hj; subst hj; simp [Addr.add]
          | 2, hj => simp at hj; subst hj; simp [Addr.add]
          | 3, hj => simp at hj; subst hj; simp [Addr.add]
        case c2 =>
          intro u hu
          simp only [List.mem_cons, List.not_mem_nil, or_false] at hu
          rcases hu with rfl | rfl | rfl | rfl <;> rfl
        case c3 => unfold maxLen; omega
        case c4 => omega
        case c5 => simp; omega
        intro v' w1 hown1 hgrow _
        have hbl := (HB.out.alloc hz (.cells #[.int .u8 ((sig m0).toNat : Int), .int .u8 ((sig m1).toNat : Int), .int .u8 ((sig m2).toNat : Int), .int .u8 ((sig m3).toNat : Int)] 5)).grown hgrow (by simp; omega) (fun q hq => (hown.lt q hq).1)
        have HO := Lib.hid hown1
        have HBL := Lib.hid hbl
        clear hown1 hgrow hbl hown
        go_wp2
        go_roundw
        case rel =>
          refine ⟨k + 3, P ++ [sig m0, sig m1, sig m2, sig m3], by omega, by go_num, by simpa [Lib.byteCells] using HO.out, HBL.out, ?_⟩
          have hE := HE.out
          rw [drop3 k hr3, enc_more] at hE
          have e1 := HK1.out
          have e2 := HK2.out
          subst e1
          subst e2
          show enc s.data.toList = _
          rw [hE, H0.out, H1.out, H2.out, H3.out, HN.out]
          simp [q0, q1, q2, q3]
        case measure => simp [intOf]; omega
      · by_cases hr2 : k + 2 = s.size
        · obtain ⟨k1, hk1⟩ : ∃ k1, k1 = k + 1 := ⟨_, rfl⟩
          obtain ⟨k2, hk2⟩ : ∃ k2, k2 = k + 2 := ⟨_, rfl⟩
          have E1 : (k : Int) + 1 = (k1 : Int) := by omega
          have E2 : (k : Int) + 2 = (k2 : Int) := by omega
          have hlt1 : k1 < s.size := by omega
          have h11 : (0 : Int) ≤ (k1 : Int) := by omega
          have h12 : (k1 : Int) < (s.size : Int) := by omega
          have b1 : (s[k1].toNat : Int) ≤ 255 := by have := s[k1].toNat_lt; omega
          have b1' : (0 : Int) ≤ (s[k1].toNat : Int) := by omega
          have h22 : ¬ (k2 : Int) < (s.size : Int) := by omega
          have h23 : (s.size : Int) ≤ (k2 : Int) := by omega
          obtain ⟨N, hN⟩ : ∃ N, N = n24 s[k] s[k1] 0 := ⟨_, rfl⟩
          have z0 : (0 : UInt8).toNat = 0 := rfl
          have EN : 65536 * (s[k].toNat : Int) + 256 * (s[k1].toNat : Int) = (N : Int) := by rw [hN]; unfold n24; omega
          have hNl : N < 16777216 := by rw [hN]; exact n24_lt _ _ _
          obtain ⟨m0, hm0⟩ : ∃ m, m = N / 262144 := ⟨_, rfl⟩
          obtain ⟨m1, hm1⟩ : ∃ m, m = N / 4096 % 64 := ⟨_, rfl⟩
          obtain ⟨m2, hm2⟩ : ∃ m, m = N / 64 % 64 := ⟨_, rfl⟩
          obtain ⟨m3, hm3⟩ : ∃ m, m = N % 64 := ⟨_, rfl⟩
          have D0 : (N : Int) / 262144 = (m0 : Int) := by omega
          have D1 : (N : Int) / 4096 % 64 = (m1 : Int) := by omega
          have D2 : (N : Int) / 64 % 64 = (m2 : Int) := by omega
          have D3 : (N : Int) % 64 = (m3 : Int) := by omega
          have hP : P.length ≤ 2 * s.size + 10 := by have h := congrArg List.length HE.out; rw [enc_len, List.length_append, HL.out] at h; omega
          have H0 := Lib.hid hm0
          have H1 := Lib.hid hm1
          have H2 := Lib.hid hm2
          have H3 := Lib.hid hm3
          have HN := Lib.hid hN
          have HK1 := Lib.hid hk1
          have HK2 := Lib.hid hk2
          have l0 : m0 < 64 := by omega
          have l1 : m1 < 64 := by omega
          have l2 : m2 < 64 := by omega
          have l3 : m3 < 64 := by omega
          clear hk1 hk2 hN hm0 hm1 hm2 hm3 z0
          go_wp2_with fail
          refine (letter_at m0 l0 _).mono ?_
          rintro e w1 ⟨rfl, rfl⟩
          go_wp2_with fail
          refine (letter_at m1 l1 _).mono ?_
          rintro e w1 ⟨rfl, rfl⟩
          go_wp2_with fail
          refine (letter_at m2 l2 _).mono ?_
          rintro e w1 ⟨rfl, rfl⟩
          go_wp2_with fail
          refine (letter_at m3 l3 _).mono ?_
          rintro e w1 ⟨rfl, rfl⟩
          go_wp2_with (at_builtin; refine wpList_append_own _ rfl _ _ 22 rfl w.heap.size 5 i0 (.int .u8 0) 1 1 Tryz.underlying22 hi hz0 hz1 hz2 rfl (by decide) _ _ _ rfl (hown.alloc _) _ 4 4 [.int .u8 ((sig m0).toNat : Int), .int .u8 ((sig m1).toNat : Int), .int .u8 ((sig m2).toNat : Int), .int .u8 ((sig m3).toNat : Int)] rfl rfl ?c1 ?c2 ?c3 ?c4 ?c5 ?_)
          case c1 =>
            intro j u hj
            match j, hj with
            | 0, hj => simp at hj; subst hj; simp [Addr.add]
            | 1, hj => simp at hj; subst hj; simp [Addr.add]
            | 2, hj => simp at hj; subst hj; simp [Addr.add]
            | 3, hj => simp at hj; subst hj; simp [Addr.add]
          case c2 =>
            intro u hu
            simp only [List.mem_cons, List.not_mem_nil, or_false] at hu
            rcases hu with rfl | rfl | rfl | rfl <;> rfl
          case c3 => unfold maxLen; omega
          case c4 => omega
          case c5 => simp; omega
          intro v' w1 hown1 hgrow _
          have hbl := (HB.out.alloc hz (.cells #[.int .u8 ((sig m0).toNat : Int), .int .u8 ((sig m1).toNat : Int), .int .u8 ((sig m2).toNat : Int), .int .u8 ((sig m3).toNat : Int)] 5)).grown hgrow (by simp; omega) (fun q hq => (hown.lt q hq).1)
          obtain ⟨z, hz4⟩ : ∃ z, P.length + 4 = z := ⟨_, rfl⟩
          rw [hz4] at hown1
          obtain ⟨g, cap, rfl, hg1, hg2⟩ := hown1.form (by omega)
          obtain ⟨p1, hp1⟩ : ∃ p, p + 1 = z := ⟨P.length + 3, by omega⟩
          have F1 : (z : Int) - 1 = (p1 : Int) := by omega
          have F1a : (0 : Int) ≤ (p1 : Int) := by omega
          have F1b : (p1 : Int) < (z : Int) := by omega
          have F1c : (p1 : Int) ≤ 100000000 := by omega
          have hc1 : w1.cell? ⟨g, p1, none⟩ = some (.int .u8 ((sig m3).toNat : Int)) := by
            rw [hown1.cellAt p1 (by omega)]
            have : p1 = (Lib.byteCells P).length + 3 := by rw [Lib.byteCells_length]; omega
            rw [this, List.getElem?_append_right (by omega)]
            simp
          have hf1 := hown1.frozenAt p1
          have hst := (hown1.stored p1 (.int .u8 61)).1
          have hb2 := hbl.setCell (p := ⟨g, p1, none⟩) hg1 (.int .u8 61)
          have hrow : Lib.byteCells (P ++ [sig m0, sig m1, sig m2, 61]) = (Lib.byteCells P ++ [Value.int .u8 ((sig m0).toNat : Int), .int .u8 ((sig m1).toNat : Int), .int .u8 ((sig m2).toNat : Int), .int .u8 ((sig m3).toNat : Int)]).set p1 (.int .u8 61) := by
            have e : p1 = (Lib.byteCells P).length + 3 := by rw [Lib.byteCells_length]; omega
            rw [e, List.set_append_right _ _ (by omega)]
            simp [Lib.byteCells]
          rw [← hrow] at hst
          have HO := Lib.hid hst
          have HBL := Lib.hid hb2
          have HZ4 := Lib.hid hz4
          clear hst hb2 hbl hown1 hgrow hown hrow hz4 hp1
          have HR2 := Lib.hid (show k + 2 = s.size by omega)
          clear hr2 hr3 hP hg1 hg2
          go_wp2
          go_roundw
          case rel =>
            refine ⟨k + 3, P ++ [sig m0, sig m1, sig m2, 61], by omega, by go_num, ?_, HBL.out, ?_⟩
            · have h := HO.out
              have hl : (P ++ [sig m0, sig m1, sig m2, 61]).length = z := by rw [List.length_append]; exact HZ4.out
              rw [hl]
              exact h
            · have hE := HE.out
              have e1 := HK1.out
              subst e1
              rw [drop_two k HR2.out, enc_two] at hE
              show enc s.data.toList = _
              rw [hE, List.drop_eq_nil_of_le (by rw [HL.out]; have := HR2.out; omega), H0.out, H1.out, H2.out, HN.out, enc_nil, List.append_nil]
              rfl
          case measure => simp [intOf]; omega
        · obtain ⟨k1, hk1⟩ : ∃ k1, k1 = k + 1 := ⟨_, rfl⟩
          obtain ⟨k2, hk2⟩ : ∃ k2, k2 = k + 2 := ⟨_, rfl⟩
          have E1 : (k : Int) + 1 = (k1 : Int) := by omega
          have E2 : (k : Int) + 2 = (k2 : Int) := by omega
          have h12 : ¬ (k1 : Int) < (s.size : Int) := by omega
          have h13 : (s.size : Int) ≤ (k1 : Int) := by omega
          have h22 : ¬ (k2 : Int) < (s.size : Int) := by omega
          have h23 : (s.size : Int) ≤ (k2 : Int) := by omega
          obtain ⟨N, hN⟩ : ∃ N, N = n24 s[k] 0 0 := ⟨_, rfl⟩
          have z0 : (0 : UInt8).toNat = 0 := rfl
          have EN : 65536 * (s[k].toNat : Int) = (N : Int) := by rw [hN]; unfold n24; omega
          have hNl : N < 16777216 := by rw [hN]; exact n24_lt _ _ _
          obtain ⟨m0, hm0⟩ : ∃ m, m = N / 262144 := ⟨_, rfl⟩
          obtain ⟨m1, hm1⟩ : ∃ m, m = N / 4096 % 64 := ⟨_, rfl⟩
          obtain ⟨m2, hm2⟩ : ∃ m, m = N / 64 % 64 := ⟨_, rfl⟩
          obtain ⟨m3, hm3⟩ : ∃ m, m = N % 64 := ⟨_, rfl⟩
          have D0 : (N : Int) / 262144 = (m0 : Int) := by omega
          have D1 : (N : Int) / 4096 % 64 = (m1 : Int) := by omega
          have D2 : (N : Int) / 64 % 64 = (m2 : Int) := by omega
          have D3 : (N : Int) % 64 = (m3 : Int) := by omega
          have hP : P.length ≤ 2 * s.size + 10 := by have h := congrArg List.length HE.out; rw [enc_len, List.length_append, HL.out] at h; omega
          have H0 := Lib.hid hm0
          have H1 := Lib.hid hm1
          have H2 := Lib.hid hm2
          have H3 := Lib.hid hm3
          have HN := Lib.hid hN
          have HK1 := Lib.hid hk1
          have HK2 := Lib.hid hk2
          have l0 : m0 < 64 := by omega
          have l1 : m1 < 64 := by omega
          have l2 : m2 < 64 := by omega
          have l3 : m3 < 64 := by omega
          clear hk1 hk2 hN hm0 hm1 hm2 hm3 z0
          go_wp2_with fail
          refine (letter_at m0 l0 _).mono ?_
          rintro e w1 ⟨rfl, rfl⟩
          go_wp2_with fail
          refine (letter_at m1 l1 _).mono ?_
          rintro e w1 ⟨rfl, rfl⟩
          go_wp2_with fail
          refine (letter_at m2 l2 _).mono ?_
          rintro e w1 ⟨rfl, rfl⟩
          go_wp2_with fail
          refine (letter_at m3 l3 _).mono ?_
          rintro e w1 ⟨rfl, rfl⟩
          go_wp2_with (at_builtin; refine wpList_append_own _ rfl _ _ 22 rfl w.heap.size 5 i0 (.int .u8 0) 1 1 Tryz.underlying22 hi hz0 hz1 hz2 rfl (by decide) _ _ _ rfl (hown.alloc _) _ 4 4 [.int .u8 ((sig m0).toNat : Int), .int .u8 ((sig m1).toNat : Int), .int .u8 ((sig m2).toNat : Int), .int .u8 ((sig m3).toNat : Int)] rfl rfl ?c1 ?c2 ?c3 ?c4 ?c5 ?_)
          case c1 =>
            intro j u hj
            match j, hj with
            | 0, hj => simp at hj; subst hj; simp [Addr.add]
            | 1, hj => simp at hj; subst hj; simp [Addr.add]
            | 2, hj => simp at hj; subst hj; simp [Addr.add]
            | 3, hj => simp at hj; subst hj; simp [Addr.add]
          case c2 =>
            intro u hu
            simp only [List.mem_cons, List.not_mem_nil, or_false] at hu
            rcases hu with rfl | rfl | rfl | rfl <;> rfl
          case c3 => unfold maxLen; omega
          case c4 => omega
          case c5 => simp; omega
          intro v' w1 hown1 hgrow _
          have hbl := (HB.out.alloc hz (.cells #[.int .u8 ((sig m0).toNat : Int), .int .u8 ((sig m1).toNat : Int), .int .u8 ((sig m2).toNat : Int), .int .u8 ((sig m3).toNat : Int)] 5)).grown hgrow (by simp; omega) (fun q hq => (hown.lt q hq).1)
          obtain ⟨z, hz4⟩ : ∃ z, P.length + 4 = z := ⟨_, rfl⟩
          rw [hz4] at hown1
          obtain ⟨g, cap, rfl, hg1, hg2⟩ := hown1.form (by omega)
          obtain ⟨p1, hp1⟩ : ∃ p, p + 1 = z := ⟨P.length + 3, by omega⟩
          have F1 : (z : Int) - 1 = (p1 : Int) := by omega
          have F1a : (0 : Int) ≤ (p1 : Int) := by omega
          have F1b : (p1 : Int) < (z : Int) := by omega
          have F1c : (p1 : Int) ≤ 100000000 := by omega
          obtain ⟨p2, hp2⟩ : ∃ p, p + 2 = z := ⟨P.length + 2, by omega⟩
          have F2 : (z : Int) - 2 = (p2 : Int) := by omega
          have F2a : (0 : Int) ≤ (p2 : Int) := by omega
          have F2b : (p2 : Int) < (z : Int) := by omega
          have F2c : (p2 : Int) ≤ 100000000 := by omega
          have hc2 : w1.cell? ⟨g, p2, none⟩ = some (.int .u8 ((sig m2).toNat : Int)) := by
            rw [hown1.cellAt p2 (by omega)]
            have : p2 = (Lib.byteCells P).length + 2 := by rw [Lib.byteCells_length]; omega
            rw [this, List.getElem?_append_right (by omega)]
            simp
          have hf2 := hown1.frozenAt p2
          have hst2 := (hown1.stored p2 (.int .u8 61)).1
          have hc1 : (w1.setCell ⟨g, p2, none⟩ (.int .u8 61)).cell? ⟨g, p1, none⟩ = some (.int .u8 ((sig m3).toNat : Int)) := by
            rw [hst2.cellAt p1 (by omega)]
            have e3 : p1 = (Lib.byteCells P).length + 3 := by rw [Lib.byteCells_length]; omega
            rw [List.getElem?_set_ne (by omega), e3, List.getElem?_append_right (by omega)]
            simp
          have hf1 : (w1.setCell ⟨g, p2, none⟩ (.int .u8 61)).frozen? ⟨g, p1, none⟩ = false := hst2.frozenAt p1
          have hst := (hst2.stored p1 (.int .u8 61)).1
          have hb2 := (hbl.setCell (p := ⟨g, p2, none⟩) hg1 (.int .u8 61)).setCell (p := ⟨g, p1, none⟩) hg1 (.int .u8 61)
          have hrow : Lib.byteCells (P ++ [sig m0, sig m1, 61, 61]) = ((Lib.byteCells P ++ [Value.int .u8 ((sig m0).toNat : Int), .int .u8 ((sig m1).toNat : Int), .int .u8 ((sig m2).toNat : Int), .int .u8 ((sig m3).toNat : Int)]).set p2 (.int .u8 61)).set p1 (.int .u8 61) := by
            have e : p1 = (Lib.byteCells P).length + 3 := by rw [Lib.byteCells_length]; omega
            have e' : p2 = (Lib.byteCells P).length + 2 := by rw [Lib.byteCells_length]; omega
            rw [e, e', List.set_append_right _ _ (by omega), List.set_append_right _ _ (by omega)]
            simp [Lib.byteCells]
          rw [← hrow] at hst
          have HO := Lib.hid hst
          have HBL := Lib.hid hb2
          have HZ4 := Lib.hid hz4
          clear hst hb2 hbl hown1 hgrow hown hrow hz4 hp1 hst2 hp2
          have HR2 := Lib.hid (show k + 1 = s.size by omega)
          clear hr2 hr3 hP hg1 hg2
          go_wp2
          go_roundw
          case rel =>
            refine ⟨k + 3, P ++ [sig m0, sig m1, 61, 61], by omega, by go_num, ?_, HBL.out, ?_⟩
            · have h := HO.out
              have hl : (P ++ [sig m0, sig m1, 61, 61]).length = z := by rw [List.length_append]; exact HZ4.out
              rw [hl]
              exact h
            · have hE := HE.out
              have e1 := HK1.out
              subst e1
              rw [drop_one k HR2.out, enc_one] at hE
              show enc s.data.toList = _
              rw [hE, List.drop_eq_nil_of_le (by rw [HL.out]; have := HR2.out; omega), H0.out, H1.out, HN.out, enc_nil, List.append_nil]
              rfl
          case measure => simp [intOf]; omega
    · have h1 : ¬ (k : Int) < (s.size : Int) := by omega
      have hE := HE.out
      rw [List.drop_eq_nil_of_le (by rw [HL.out]; omega), enc_nil, List.append_nil] at hE
      have HE2 := Lib.hid hE
      clear hE HE
      rcases hown.2 with ⟨rfl, h0⟩ | ⟨g, cap, cur, rfl, -, -, -, -, -, -⟩
      · have hcv := Lib.run_convert_nil_bytes (P := Tryz.prog) wr 22 9 5 0 Tryz.underlying22 Tryz.underlying5 Tryz.underlying9
        have hp : P = [] := List.eq_nil_of_length_eq_zero h0
        subst hp
        go_wp2
        go_ret
        exact ⟨by rw [HE2.out]; rfl, HB.out⟩
      · have hcv := run_convert_bytes_back (P := Tryz.prog) wr 22 9 5 ⟨g, 0, none⟩ cap P Tryz.underlying22 Tryz.underlying5 Tryz.underlying9 (fun j hj => hown.cells (g := g) rfl j _ (by simp [Lib.byteCells, hj]))
        have HW := Lib.hid hown
        clear hown
        go_wp2
        go_ret
        exact ⟨by rw [HE2.out]; rfl, HB.out⟩
end Go.Proofs.YtichajalinkcdaaGreatDoor
namespace Go.Proofs.YtichajalinkcdaaGreatDoor
open Go.RowKit Go.Shelf
set_option linter.unusedVariables false
attribute [local go_sem] Oper.semAt_some

/-- A group of one to 'n' bytes. -/
abbrev Gn (n : Nat) := { x : ByteArray // 1 ≤ x.size ∧ x.size ≤ n }
/-- Two blocks stand. -/
def Two (a b : Nat) (W W' : World) : Prop := W'.heap[a]? = W.heap[a]? ∧ W'.heap[b]? = W.heap[b]?
theorem two_t {a b : Nat} {X Y Z : World} (h : Two a b X Y) (k : Two a b Y Z) : Two a b X Z := ⟨k.1.trans h.1, k.2.trans h.2⟩
theorem two_b {a b : Nat} {w : World} (ha : a < w.heap.size) (hb : b < w.heap.size) (W : World) (l : Nat) (o o' : Obj) (hl : w.heap.size ≤ l) (h : W.heap[l]? = some o) (_ : o.isCells = false) (_ : o.isWalk = false) : Two a b W (W.putObj l o') :=
  ⟨World.putObj_heap_other (by omega), World.putObj_heap_other (by omega)⟩
/-- The lists of bytes of groups. -/
def gl {n : Nat} (xs : List (Gn n)) : List (List UInt8) := xs.map fun x => x.1.data.toList
theorem gl_snoc {n : Nat} (xs : List (Gn n)) (x : Gn n) : gl (xs ++ [x]) = gl xs ++ [x.1.data.toList] := by simp [gl]

set_option maxHeartbeats 1000000 in
theorem groups_in (s : ByteArray) (n : Int) (w : World) :
    Calls Tryz.prog 92 #[.string s, .int .i64 n] w fun e w' => e = .returned (.func (.func 111) #[] #[.pointer (some ⟨w.heap.size, 0, none⟩), .pointer (some ⟨w.heap.size + 1, 0, none⟩)]) ∧ w' = (w.alloc (.cells #[.string s] 9)).alloc (.cells #[.int .i64 n] 3) := by
  go_enter Tryz.func92, Tryz.ntmps92
  go_wp2
  go_ret
  exact ⟨rfl, rfl⟩

set_option maxRecDepth 100000 in
set_option maxHeartbeats 2000000 in
theorem groups1_in (m l c1 c2 n : Nat) (hm : 1 ≤ m) (hn1 : 1 ≤ n) (hn4 : n ≤ 4) (s : ByteArray) (hs : s.size ≤ 16777216) (J Jx : List (Gn n) → World → Prop)
    (hY : ∀ pre x W, J pre W → pre.length < s.size → YieldAt Fence.wide (m - 1) Tryz.prog l #[.string x.1] W fun e W' =>
      (e = .returned (.bool true) ∧ J (pre ++ [x]) W' ∧ Two c1 c2 W W') ∨ (e = .returned (.bool false) ∧ Jx (pre ++ [x]) W'))
    (W : World) (h1 : Whole W c1 9 #[.string s]) (h2 : Whole W c2 3 #[.int .i64 (n : Int)]) (h0 : J [] W) :
    CallsIn Fence.wide m Tryz.prog 111 #[.func (.yield l) #[] #[], .pointer (some ⟨c1, 0, none⟩), .pointer (some ⟨c2, 0, none⟩)] W fun e W' => (∃ v, e = .returned v) ∧
      ((∃ ys, Grp n (gl ys) s.data.toList ∧ J ys W') ∨ (∃ pre, True ∧ Jx pre W')) := by
  have hl : s.data.toList.length = s.size := by simp
  have HL := Lib.hid hl
  have H1 := Lib.hid h1
  have H2 := Lib.hid h2
  clear h1 h2 hl
  have n1 : (1 : Int) ≤ (n : Int) := by omega
  have n4 : (n : Int) ≤ 4 := by omega
  refine callsIn_of_wp Tryz.func111 rfl trivial ?_ rfl
  simp only [Tryz.ntmps111, List.size_toArray, List.length_cons, List.length_nil, Nat.reduceAdd, Nat.reduceSub, Array.replicate_succ, Array.replicate_zero, List.push_toArray, List.append_toArray, List.nil_append, List.cons_append]
  gi_wp2
  gi_loopw [4, 5] (fun i j wr => ∃ (k : Nat) (pre : List (Gn n)), k ≤ s.size + 4 ∧ i = .int .i64 (k : Int) ∧ pre.length ≤ k ∧ Hid (J pre wr) ∧ Hid (Whole wr c1 9 #[.string s]) ∧ Hid (Whole wr c2 3 #[.int .i64 (n : Int)]) ∧ Hid (∀ xs, Grp n xs (s.data.toList.drop k) → Grp n (gl pre ++ xs) s.data.toList))
    (fun i _ _ => s.size + 4 - (intOf i).toNat)
  case atStart => exact ⟨0, [], by omega, by go_num, Nat.zero_le _, Lib.hid h0, H1, H2, Lib.hid (fun xs h => h)⟩
  case round =>
    obtain ⟨k, pre, hk, rfl, hp, HJ, HA, HB, HG⟩ := hrel
    have ha : wr.cell? ⟨c1, 0, none⟩ = some (.string s) := HA.out.cell 0
    have hb : wr.cell? ⟨c2, 0, none⟩ = some (.int .i64 (n : Int)) := HB.out.cell 0
    have i0 : (0 : Int) ≤ (k : Int) := by omega
    by_cases hlt : k < s.size
    · have i1 : (k : Int) < (s.size : Int) := by omega
      by_cases hkn : k + n ≤ s.size
      · have e1 : (k : Int) + (n : Int) ≤ (s.size : Int) := by omega
        have e1' : ¬ (s.size : Int) < (k : Int) + (n : Int) := by omega
        have e2 : (k : Int) ≤ (k : Int) + (n : Int) := by omega
        have e3 : (0 : Int) ≤ (k : Int) + (n : Int) := by omega
        obtain ⟨fn, tmps, assign, body, hy, hR⟩ := hY pre ⟨s.extract k (k + n), by rw [ByteArray.size_extract]; omega, by rw [ByteArray.size_extract]; omega⟩ wr HJ.out (by omega)
        dsimp only at hy
        gi_wp2
        refine hR.mono ?_
        rintro e4 W3 (⟨rfl, hJ3, hk3⟩ | ⟨rfl, hJx3⟩)
        · have HJ3 := Lib.hid hJ3
          have HA3 := Lib.hid (show Whole W3 c1 9 #[.string s] from hk3.1.trans HA.out)
          have HB3 := Lib.hid (show Whole W3 c2 3 #[.int .i64 (n : Int)] from hk3.2.trans HB.out)
          have ha3 : W3.cell? ⟨c1, 0, none⟩ = some (.string s) := HA3.out.cell 0
          have hb3 : W3.cell? ⟨c2, 0, none⟩ = some (.int .i64 (n : Int)) := HB3.out.cell 0
          clear hk3 hJ3
          gi_wp2
          go_roundw
          case rel =>
            refine ⟨k + n, _, by omega, by go_num, ?_, HJ3, HA3, HB3, Lib.hid (fun xs h => ?_)⟩
            · rw [List.length_append]; simp; omega
            · rw [gl_snoc, List.append_assoc]
              refine HG.out _ ⟨?_, ?_, ?_⟩
              · rw [extract_list]; congr 1; omega
              · intro h0
                have := congrArg List.length h0
                rw [List.length_drop, HL.out] at this
                simp at this
                omega
              · rw [List.drop_drop]
                exact h
          case measure => simp [intOf]; omega
        · gi_wp2
          refine bodyPost_ret (results_none rfl _ _ _) rfl ?_
          exact ⟨⟨_, rfl⟩, .inr ⟨_, trivial, hJx3⟩⟩
      · have e1 : ¬ (k : Int) + (n : Int) ≤ (s.size : Int) := by omega
        have e1' : (s.size : Int) < (k : Int) + (n : Int) := by omega
        have e2 : (k : Int) ≤ (s.size : Int) := by omega
        obtain ⟨fn, tmps, assign, body, hy, hR⟩ := hY pre ⟨s.extract k s.size, by rw [ByteArray.size_extract]; omega, by rw [ByteArray.size_extract]; omega⟩ wr HJ.out (by omega)
        dsimp only at hy
        gi_wp2
        refine hR.mono ?_
        rintro e4 W3 (⟨rfl, hJ3, hk3⟩ | ⟨rfl, hJx3⟩)
        · have HJ3 := Lib.hid hJ3
          have HA3 := Lib.hid (show Whole W3 c1 9 #[.string s] from hk3.1.trans HA.out)
          have HB3 := Lib.hid (show Whole W3 c2 3 #[.int .i64 (n : Int)] from hk3.2.trans HB.out)
          have ha3 : W3.cell? ⟨c1, 0, none⟩ = some (.string s) := HA3.out.cell 0
          have hb3 : W3.cell? ⟨c2, 0, none⟩ = some (.int .i64 (n : Int)) := HB3.out.cell 0
          clear hk3 hJ3
          gi_wp2
          go_roundw
          case rel =>
            refine ⟨k + n, _, by omega, by go_num, ?_, HJ3, HA3, HB3, Lib.hid (fun xs h => ?_)⟩
            · rw [List.length_append]; simp; omega
            · rw [gl_snoc, List.append_assoc]
              refine HG.out _ ⟨?_, ?_, ?_⟩
              · rw [extract_list, List.take_of_length_le (by rw [List.length_drop, HL.out]; omega), List.take_of_length_le (by rw [List.length_drop, HL.out]; omega)]
              · intro h0
                have := congrArg List.length h0
                rw [List.length_drop, HL.out] at this
                simp at this
                omega
              · rw [List.drop_drop]
                exact h
          case measure => simp [intOf]; omega
        · gi_wp2
          refine bodyPost_ret (results_none rfl _ _ _) rfl ?_
          exact ⟨⟨_, rfl⟩, .inr ⟨_, trivial, hJx3⟩⟩
    · have i1 : ¬ (k : Int) < (s.size : Int) := by omega
      have HF := Lib.hid (HG.out [] (List.drop_eq_nil_of_le (by rw [HL.out]; omega)))
      gi_wp2
      go_end0
      exact ⟨⟨_, rfl⟩, .inl ⟨pre, by have h := HF.out; rw [List.append_nil] at h; exact h, HJ.out⟩⟩
theorem groups_stops (m c1 c2 n : Nat) (hm : 1 ≤ m) (hn1 : 1 ≤ n) (hn4 : n ≤ 4) (s : ByteArray) (hs : s.size ≤ 16777216) (w : World) (h1 : Whole w c1 9 #[.string s]) (h2 : Whole w c2 3 #[.int .i64 (n : Int)]) :
    SeqStopsK Fence.wide m Tryz.prog 111 #[.pointer (some ⟨c1, 0, none⟩), .pointer (some ⟨c2, 0, none⟩)] (fun x : Gn n => #[Value.string x.1]) (Two c1 c2) (fun ys => Grp n (gl ys) s.data.toList) (fun _ => True) s.size w := fun l J Jx W hW _ _ hY h0 =>
  groups1_in m l c1 c2 n hm hn1 hn4 s hs J Jx hY W (h1.below hW h1.lt) (h2.below hW h2.lt) h0
end Go.Proofs.YtichajalinkcdaaGreatDoor
