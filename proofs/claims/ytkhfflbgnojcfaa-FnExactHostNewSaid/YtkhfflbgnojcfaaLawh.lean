/-
  The walks of the laws on names and domains. Condition: the codes can be read.
-/
import Derived.Test.YtkhfflbgnojcfaaLawa
namespace Go.Proofs.Ytkhfflbgnojcfaa
open Go.RowKit
set_option linter.unusedVariables false

theorem two_size (a b : UInt8) : (⟨#[a, b]⟩ : ByteArray).size = 2 := rfl
theorem six_size (a b c d e f : UInt8) : (⟨#[a, b, c, d, e, f]⟩ : ByteArray).size = 6 := rfl
theorem nameB_iff {l : List UInt8} : nameB l = true ↔ (l.all sgn = true ∧ 1 ≤ l.length ∧ l.length ≤ 8) := by unfold nameB; simp [and_assoc]
theorem cat_list (s t : ByteArray) : (s ++ t).data.toList = s.data.toList ++ t.data.toList := by simp
theorem add_short {s : ByteArray} (h : nameB s.data.toList = true) (h8 : s.data.toList.length < 8) : nameB (s ++ ⟨#[97]⟩).data.toList = true := by
  obtain ⟨h1, h2, h3⟩ := nameB_iff.1 h
  rw [cat_list]
  refine nameB_iff.2 ⟨by rw [List.all_append, h1]; rfl, by rw [List.length_append]; omega, by rw [List.length_append]; show _ + 1 ≤ 8; omega⟩
theorem add_long {s : ByteArray} (h8 : ¬ s.data.toList.length < 8) : nameB (s ++ ⟨#[97]⟩).data.toList = false := by
  rw [← Bool.not_eq_true]
  intro h
  obtain ⟨_, _, h3⟩ := nameB_iff.1 h
  rw [cat_list, List.length_append] at h3
  have : (⟨#[97]⟩ : ByteArray).data.toList.length = 1 := rfl
  omega
theorem name_empty : nameB (⟨#[]⟩ : ByteArray).data.toList = false := rfl
theorem part_left {s : ByteArray} {j : Nat} (h : nameB s.data.toList = true) (h1 : 1 ≤ j) (h2 : j ≤ s.data.toList.length) : nameB (s.extract 0 j).data.toList = true := by
  obtain ⟨a1, a2, a3⟩ := nameB_iff.1 h
  rw [extract_list]
  refine nameB_iff.2 ⟨?_, by simp at h2 ⊢; omega, by simp at a3 ⊢; omega⟩
  rw [List.all_eq_true] at a1 ⊢
  intro x hx
  exact a1 x (List.mem_of_mem_drop (List.mem_of_mem_take hx))
theorem part_right {s : ByteArray} {j : Nat} (h : nameB s.data.toList = true) (h2 : j < s.size) : nameB (s.extract j s.size).data.toList = true := by
  obtain ⟨a1, a2, a3⟩ := nameB_iff.1 h
  rw [extract_list]
  refine nameB_iff.2 ⟨?_, by simp; omega, by simp at a3 ⊢; omega⟩
  rw [List.all_eq_true] at a1 ⊢
  intro x hx
  exact a1 x (List.mem_of_mem_drop (List.mem_of_mem_take hx))

/-- A text with another one put in. -/
def ins (L : List UInt8) (k : Nat) (p : List UInt8) : List UInt8 := L.take k ++ p ++ L.drop k
/-- What 'put' leaves. -/
def PutIn (w : World) (s : ByteArray) (k : Nat) (p : ByteArray) (e : Ending) (w' : World) : Prop :=
  ∃ v : ByteArray, e = .returned (.string v) ∧ v.data.toList = ins s.data.toList k p.data.toList ∧ v.size = s.size + p.size ∧ ∃ n, w' = w.drewN n
theorem put_bad {s v : ByteArray} {k : Nat} {c : UInt8} (h : v.data.toList = ins s.data.toList k (⟨#[c]⟩ : ByteArray).data.toList) (hc : sgn c = false) : nameB v.data.toList = false := by
  rw [h]
  refine nameB_bad (x := c) ?_ hc
  unfold ins
  simp

/-- What 'before' leaves. -/
def Before (w : World) (s : ByteArray) (c : UInt8) (e : Ending) (w' : World) : Prop :=
  ∃ v : ByteArray, e = .returned (.string v) ∧ v.data.toList = s.data.toList.takeWhile (fun x => x != c) ∧ v.size ≤ s.size ∧ w = w'
theorem takeWhile_stop (L : List UInt8) (c : UInt8) (k : Nat) (hk : k < L.length) (ha : (L.take k).all (fun x => x != c) = true) (hc : L[k] = c) : L.takeWhile (fun x => x != c) = L.take k := by
  conv => lhs; rw [← List.take_append_drop k L]
  rw [List.takeWhile_append_of_pos (fun a h => List.all_eq_true.1 ha a h), List.drop_eq_getElem_cons hk, List.takeWhile_cons, if_neg (by simp [hc])]
  simp
theorem takeWhile_all (L : List UInt8) (c : UInt8) (ha : L.all (fun x => x != c) = true) : L.takeWhile (fun x => x != c) = L := by
  have := List.takeWhile_append_of_pos (p := fun x => x != c) (l₁ := L) (l₂ := []) (fun a h => List.all_eq_true.1 ha a h)
  simpa using this
theorem dom_parts {L : List UInt8} (h : domB L = true) : (cut 46 L).all nameB = true ∧ (cut 46 L).length ≤ 3 ∧ L.length ≤ 20 := by
  unfold domB at h
  simp only [Bool.and_eq_true, decide_eq_true_eq] at h
  exact ⟨h.1.1, h.1.2, h.2⟩
theorem dom_len {L : List UInt8} (h : domB L = true) : L.length ≤ 20 := (dom_parts h).2.2
theorem cutGo_first (c : UInt8) (l : List UInt8) : ∀ cur, ∃ rest, cutGo c cur l = (cur ++ l.takeWhile (fun x => x != c)) :: rest := by
  induction l with
  | nil => intro cur; exact ⟨[], by simp [cutGo]⟩
  | cons a l ih =>
    intro cur
    unfold cutGo
    by_cases ha : a = c
    · rw [if_pos ha]; exact ⟨cutGo c [] l, by simp [ha]⟩
    · rw [if_neg ha]
      obtain ⟨rest, h⟩ := ih (cur ++ [a])
      exact ⟨rest, by rw [h]; simp [ha]⟩
theorem dom_first {L : List UInt8} (h : domB L = true) : nameB (L.takeWhile (fun x => x != (46 : UInt8))) = true := by
  obtain ⟨rest, hc⟩ := cutGo_first 46 L []
  have h1 := (dom_parts h).1
  unfold cut at h1
  rw [hc, List.all_cons, Bool.and_eq_true] at h1
  simpa using h1.1
theorem name_no46 {L : List UInt8} (h : nameB L = true) (c : UInt8) (hc : sgn c = false) : ∀ x ∈ L, x ≠ c := fun x hx => sgn_ne (List.all_eq_true.1 (nameB_iff.1 h).1 x hx) hc
theorem name_dom {L : List UInt8} (h : nameB L = true) : domB L = true := by
  have h3 := (nameB_iff.1 h).2.2
  unfold domB
  rw [cut_nil_of 46 L (name_no46 h 46 sgn46)]
  simp [h]
  omega
theorem cutGo_last (c : UInt8) (l : List UInt8) : ∀ cur, ∃ x ∈ cutGo c cur (l ++ [c]), x = [] := by
  induction l with
  | nil => intro cur; exact ⟨[], by simp [cutGo], rfl⟩
  | cons a l ih =>
    intro cur
    rw [List.cons_append, cutGo]
    split
    · obtain ⟨x, hx, he⟩ := ih []
      exact ⟨x, by simp [hx], he⟩
    · exact ih _
theorem dom_hole {L : List UInt8} (h : [] ∈ cut 46 L) : domB L = false := by
  have : (cut 46 L).all nameB = false := by
    rw [← Bool.not_eq_true]; intro ha; rw [List.all_eq_true] at ha; have := ha [] h; cases this
  unfold domB
  rw [this]; rfl
theorem dom_back (s : ByteArray) : domB (s ++ ⟨#[46]⟩).data.toList = false := by
  rw [cat_list]
  obtain ⟨x, hx, rfl⟩ := cutGo_last 46 s.data.toList []
  exact dom_hole hx
theorem dom_front (s : ByteArray) : domB ((⟨#[46]⟩ : ByteArray) ++ s).data.toList = false := by
  rw [cat_list]
  refine dom_hole ?_
  show [] ∈ cut 46 ([] ++ 46 :: s.data.toList)
  rw [cut_at 46 [] _ (by simp)]
  simp
theorem dom_more (s : ByteArray) : domB ((⟨#[97, 46, 98, 46, 99, 46]⟩ : ByteArray) ++ s).data.toList = false := by
  rw [cat_list]
  have e : cut 46 ([97] ++ 46 :: ([98] ++ 46 :: ([99] ++ 46 :: s.data.toList))) = [97] :: [98] :: [99] :: cut 46 s.data.toList := by
    rw [cut_at 46 [97] _ (by decide), cut_at 46 [98] _ (by decide), cut_at 46 [99] _ (by decide)]
  have hl := (cut_len 46 s.data.toList).1
  show domB ([97] ++ 46 :: ([98] ++ 46 :: ([99] ++ 46 :: s.data.toList))) = false
  unfold domB
  rw [e, decide_eq_false (p := ([97] :: [98] :: [99] :: cut 46 s.data.toList).length ≤ 3) (by simp only [List.length_cons]; omega)]
  simp
theorem dom_two {s x : ByteArray} (hs : nameB s.data.toList = true) (hx : nameB x.data.toList = true) : domB (s ++ ⟨#[46]⟩ ++ x).data.toList = true := by
  rw [cat_list, cat_list, List.append_assoc]
  show domB (s.data.toList ++ 46 :: x.data.toList) = true
  have a := (nameB_iff.1 hs).2.2
  have b := (nameB_iff.1 hx).2.2
  unfold domB
  rw [cut_at 46 _ _ (name_no46 hs 46 sgn46), cut_nil_of 46 _ (name_no46 hx 46 sgn46)]
  rw [decide_eq_true (p := (s.data.toList ++ 46 :: x.data.toList).length ≤ 20) (by rw [List.length_append, List.length_cons]; omega)]
  simp [hs, hx]
theorem dom_three {s x : ByteArray} (hs : nameB s.data.toList = true) (hx : nameB x.data.toList = true) : domB ((⟨#[97, 46]⟩ : ByteArray) ++ s ++ ⟨#[46]⟩ ++ x).data.toList = true := by
  rw [cat_list, cat_list, cat_list, List.append_assoc, List.append_assoc]
  show domB ([97] ++ 46 :: (s.data.toList ++ 46 :: x.data.toList)) = true
  have a := (nameB_iff.1 hs).2.2
  have b := (nameB_iff.1 hx).2.2
  unfold domB
  rw [cut_at 46 [97] _ (by decide), cut_at 46 _ _ (name_no46 hs 46 sgn46), cut_nil_of 46 _ (name_no46 hx 46 sgn46)]
  have hl : ([97] ++ (46 : UInt8) :: (s.data.toList ++ 46 :: x.data.toList)).length ≤ 20 := by simp only [List.length_append, List.length_cons, List.length_nil]; omega
  have e97 : nameB [97] = true := by decide
  simp only [List.all_cons, List.all_nil, hs, hx, e97, Bool.and_true, Bool.true_and]
  rw [decide_eq_true (by simp only [List.length_cons, List.length_nil]; omega), decide_eq_true hl]
  rfl
end Go.Proofs.Ytkhfflbgnojcfaa
