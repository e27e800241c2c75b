/-
  My texts Amath, Bplain, Pmath, Dmath, Bspec, Benc, Grp in one, so that a claim holds fewer files. Conditions: each contract's own.
-/
import Derived.Test.YtinbdibenbplnaaQa
import Derived.Laws.IdiomStrings
import Derived.Lib.UnsafeStr
import Derived.Lib.BufferRead
import Derived.RangeFuncNested
import Derived.RangeFuncBound
import Derived.RangeFuncCalls
import Derived.RangeFuncLeaves
import Derived.RangeFuncBox
import Derived.Shelf.Abstract
import Derived.Shelf.RegionOpen
import Derived.WalkKit
import Derived.OwnWalkIn
import Derived.TacticsInMore
import Derived.LoopNIn
import Derived.LoopIn
namespace Go.Proofs.Ytinbdibenbplnaa
set_option linter.unusedVariables false

theorem cutGo_one (c : UInt8) (l : List UInt8) : ∀ cur b, cutGo c cur l = [b] → cur ++ l = b := by
  induction l with
  | nil => intro cur b h; simpa [cutGo] using h
  | cons x t ih =>
    intro cur b h
    unfold cutGo at h
    split at h
    · have h2 := (cutGo_len c t []).1
      rw [List.cons.injEq] at h
      rw [h.2] at h2
      simp at h2
    · have := ih _ _ h
      simpa using this
theorem cutGo_two (c : UInt8) (l : List UInt8) : ∀ cur a b, cutGo c cur l = [a, b] → cur ++ l = a ++ c :: b := by
  induction l with
  | nil => intro cur a b h; simp [cutGo] at h
  | cons x t ih =>
    intro cur a b h
    unfold cutGo at h
    split at h
    · rename_i hx
      rw [List.cons.injEq] at h
      have h2 := cutGo_one c t [] b h.2
      rw [← h.1, ← h2, hx]
      rfl
    · have := ih _ _ _ h
      simpa using this
theorem cut_count (c : UInt8) (l : List UInt8) : ∀ cur, (cutGo c cur l).length = l.count c + 1 := by
  induction l with
  | nil => intro cur; simp [cutGo]
  | cons x t ih =>
    intro cur
    unfold cutGo
    split
    · rename_i hx; subst hx; rw [List.length_cons, ih, List.count_cons_self]
    · rename_i hx; rw [ih, List.count_cons_of_ne hx]

theorem list_two {α : Type} {l : List α} (d : α) (h : l.length = 2) : l = [l.getD 0 d, l.getD 1 d] := by
  match l, h with
  | [a, b], _ => rfl
/-- The parts of a text that can be parsed. -/
theorem sp_parts {L : List UInt8} (h : spB L = true) : ∃ u d, two L = [u, d] ∧ L = u ++ 64 :: d ∧ nameB u = true ∧ domB d = true := by
  unfold spB at h
  rw [Bool.and_eq_true, Bool.and_eq_true, decide_eq_true_eq] at h
  have h2 := list_two [] h.1
  refine ⟨_, _, h2, ?_, h.2.1, h.2.2⟩
  have h3 := cutGo_two 64 L [] _ _ h2
  simpa using h3
theorem dom_no64 {d : List UInt8} (h : domB d = true) : ∀ x ∈ d, x ≠ (64 : UInt8) := by
  rintro x hx rfl
  rw [domB_bad hx] at h
  cases h
theorem two_of {u d : List UInt8} (hu : ∀ x ∈ u, x ≠ (64 : UInt8)) (hd : ∀ x ∈ d, x ≠ (64 : UInt8)) : two (u ++ 64 :: d) = [u, d] := by
  unfold two
  rw [cut_at 64 u d hu, cut_nil_of 64 d hd]
theorem sp_of {u d : List UInt8} (hu : ∀ x ∈ u, x ≠ (64 : UInt8)) (hd : ∀ x ∈ d, x ≠ (64 : UInt8)) : spB (u ++ 64 :: d) = (nameB u && domB d) := by
  unfold spB
  rw [two_of hu hd]
  rfl

/-- What a parser tells: the user. -/
def pU (L : List UInt8) : List UInt8 := if spB L = true then (two L).getD 0 [] else []
/-- What a parser tells: the domain. -/
def pD (L : List UInt8) : List UInt8 := if spB L = true then (two L).getD 1 [] else []
theorem pU_no {L : List UInt8} (h : spB L = false) : pU L = [] := by unfold pU; rw [h]; rfl
theorem pD_no {L : List UInt8} (h : spB L = false) : pD L = [] := by unfold pD; rw [h]; rfl
theorem pU_le (L : List UInt8) : (pU L).length ≤ L.length := by
  cases h : spB L
  · rw [pU_no h]; exact Nat.zero_le _
  · obtain ⟨u, d, h1, h2, _, _⟩ := sp_parts h
    unfold pU
    rw [if_pos h, h1]
    conv => rhs; rw [h2]
    simp
theorem pD_le (L : List UInt8) : (pD L).length ≤ L.length := by
  cases h : spB L
  · rw [pD_no h]; exact Nat.zero_le _
  · obtain ⟨u, d, h1, h2, _, _⟩ := sp_parts h
    unfold pD
    rw [if_pos h, h1]
    conv => rhs; rw [h2]
    simp
    omega
/-- A parsed address has the text. -/
theorem ad_back {L : List UInt8} (h : spB L = true) : adText (pU L) (pD L) = L := by
  obtain ⟨u, d, h1, h2, h3, h4⟩ := sp_parts h
  unfold pU pD
  rw [if_pos h, if_pos h, h1]
  show adText u d = L
  rw [adText_yes (by rw [h3, h4]; rfl), ← h2]
/-- A written address can be parsed. -/
theorem ad_read {u d : List UInt8} (h : (nameB u && domB d) = true) : spB (adText u d) = true ∧ pU (adText u d) = u ∧ pD (adText u d) = d := by
  have h' := h
  rw [Bool.and_eq_true] at h'
  have hu := name_no46 h'.1 64 sgn64
  have hd := dom_no64 h'.2
  have h1 := sp_of hu hd
  rw [h] at h1
  rw [adText_yes h]
  refine ⟨h1, ?_, ?_⟩
  · unfold pU; rw [if_pos h1, two_of hu hd]; rfl
  · unfold pD; rw [if_pos h1, two_of hu hd]; rfl
theorem tw_all {L : List UInt8} {c : UInt8} (h : L.takeWhile (fun x => x != c) = L) : ∀ x ∈ L, x ≠ c := by
  intro x hx
  have h1 : (L.takeWhile (fun x => x != c)).all (fun x => x != c) = true := List.all_takeWhile
  rw [h] at h1
  have := List.all_eq_true.1 h1 x hx
  simpa using this
/-- A second at sign is refused. -/
theorem sp_more {L : List UInt8} (k : Nat) (h : spB L = true) : spB (ins L k [64]) = false := by
  obtain ⟨u, d, h1, _, _, _⟩ := sp_parts h
  have h2 : L.count 64 = 1 := by
    have := cut_count 64 L []
    unfold two cut at h1
    rw [h1] at this
    simp at this
    omega
  have h3 : (ins L k [64]).count 64 = 2 := by
    unfold ins
    rw [List.count_append, List.count_append]
    have : (L.take k).count 64 + (L.drop k).count 64 = 1 := by rw [← List.count_append, List.take_append_drop, h2]
    simp
    omega
  have h4 : (two (ins L k [64])).length = 3 := by unfold two cut; rw [cut_count, h3]
  unfold spB
  rw [h4]
  rfl

/-- What stands between the first and the last byte. -/
def mid (L : List UInt8) : List UInt8 := (L.drop 1).take (L.length - 2)
/-- A text in brackets. -/
def brB (L : List UInt8) : Bool := decide (2 ≤ L.length) && nextIs L 0 60 && nextIs L (L.length - 1) 62
/-- A path. -/
def spP (L : List UInt8) : Bool := decide (L = bare) || (brB L && spB (mid L))
theorem br_form {L : List UInt8} (h : brB L = true) : L = 60 :: (mid L ++ [62]) := by
  unfold brB at h
  rw [Bool.and_eq_true, Bool.and_eq_true, decide_eq_true_eq] at h
  obtain ⟨⟨h1, h2⟩, h3⟩ := h
  unfold nextIs at h2 h3
  match L, h1, h2, h3 with
  | a :: t, h1, h2, h3 =>
    have ha : a = 60 := by simpa using h2
    subst ha
    have h1' : 1 ≤ t.length := by simpa using h1
    congr 1
    unfold mid
    have e1 : (60 :: t).length - 2 = t.length - 1 := by simp
    rw [e1]
    show t = t.take (t.length - 1) ++ [62]
    have e2 : t[t.length - 1]? = some 62 := by
      have e3 : (60 :: t).length - 1 = (t.length - 1) + 1 := by simp; omega
      rw [e3, List.getElem?_cons_succ] at h3
      simpa using h3
    have hlt : t.length - 1 < t.length := by omega
    have e4 : t[t.length - 1] = 62 := by
      rw [List.getElem?_eq_getElem hlt] at e2
      simpa using e2
    conv => lhs; rw [← List.take_append_drop (t.length - 1) t, List.drop_eq_getElem_cons hlt, e4]
    rw [List.drop_eq_nil_of_le (by omega)]
theorem br_of (M : List UInt8) : brB (60 :: (M ++ [62])) = true ∧ mid (60 :: (M ++ [62])) = M := by
  constructor
  · unfold brB nextIs
    simp
  · unfold mid
    simp
theorem next_mem {L : List UInt8} {k : Nat} {c : UInt8} (h : nextIs L k c = true) : c ∈ L := by
  have hk := nextIs_lt h
  unfold nextIs at h
  rw [List.getElem?_eq_getElem hk] at h
  have : L[k] = c := by simpa using h
  rw [← this]
  exact List.getElem_mem hk

section
variable (M : List UInt8)
theorem nm_in (k : Nat) (hk : k ≤ M.length) : nmLen (60 :: (M ++ [62])) (k + 1) = nmLen M k := by
  unfold nmLen
  rw [List.drop_succ_cons, List.drop_append_of_le_length hk, List.takeWhile_append]
  split
  · rename_i h
    rw [List.takeWhile_cons, if_neg (by decide), List.append_nil, h]
  · rfl
theorem next_in (k : Nat) (c : UInt8) (hc : c ≠ 62) (hk : k ≤ M.length) : nextIs (60 :: (M ++ [62])) (k + 1) c = nextIs M k c := by
  unfold nextIs
  rw [List.getElem?_cons_succ]
  rcases Nat.lt_or_ge k M.length with h | h
  · rw [List.getElem?_append_left h]
  · have : k = M.length := by omega
    subst this
    rw [List.getElem?_concat_length, List.getElem?_eq_none (Nat.le_refl _)]
    simpa using fun h => hc h.symm
theorem domGo_le (L : List UInt8) : ∀ (n k : Nat) (o : Bool), k ≤ L.length → (domGo L n o k).2 ≤ L.length ∧ k ≤ (domGo L n o k).2 := by
  intro n
  induction n with
  | zero => intro k o hk; exact ⟨hk, Nat.le_refl _⟩
  | succ n ih =>
    intro k o hk
    unfold domGo
    split
    · rename_i h
      rw [Bool.and_eq_true] at h
      have h1 := nextIs_lt h.2
      have h2 := nmLen_le L (k + 1) h1
      have := ih _ (okLen (nmLen L (k + 1))) h2
      omega
    · exact ⟨hk, Nat.le_refl _⟩
theorem domGo_in : ∀ (n k : Nat) (o : Bool), k ≤ M.length → domGo (60 :: (M ++ [62])) n o (k + 1) = ((domGo M n o k).1, (domGo M n o k).2 + 1) := by
  intro n
  induction n with
  | zero => intro k o hk; rfl
  | succ n ih =>
    intro k o hk
    unfold domGo
    rw [next_in M k 46 (by decide) hk]
    split
    · rename_i h
      rw [Bool.and_eq_true] at h
      have h1 := nextIs_lt h.2
      have h2 := nmLen_le M (k + 1) h1
      rw [nm_in M (k + 1) h1, show k + 1 + 1 + nmLen M (k + 1) = (k + 1 + nmLen M (k + 1)) + 1 by omega, ih _ _ h2]
    · rfl
theorem dom_in (k : Nat) (hk : k ≤ M.length) : domOk (60 :: (M ++ [62])) (k + 1) = domOk M k ∧ domEnd (60 :: (M ++ [62])) (k + 1) = domEnd M k + 1 := by
  have h2 := nmLen_le M k hk
  have e := domGo_in M 2 (k + nmLen M k) (okLen (nmLen M k)) h2
  have e2 : domEnd (60 :: (M ++ [62])) (k + 1) = domEnd M k + 1 := by
    unfold domEnd
    rw [nm_in M k hk, show k + 1 + nmLen M k = (k + nmLen M k) + 1 by omega, e]
  refine ⟨?_, e2⟩
  unfold domOk
  rw [e2, nm_in M k hk, show k + 1 + nmLen M k = (k + nmLen M k) + 1 by omega, e]
  rw [show domEnd M k + 1 - (k + 1) = domEnd M k - k by omega]
theorem ad_in : adOk (60 :: (M ++ [62])) 1 = adOk M 0 ∧ (adOk M 0 = true → adEnd (60 :: (M ++ [62])) 1 = adEnd M 0 + 1 ∧ adUser (60 :: (M ++ [62])) 1 = adUser M 0 ∧ adDom (60 :: (M ++ [62])) 1 = adDom M 0 ∧ adEnd M 0 ≤ M.length) := by
  have h0 := nm_in M 0 (Nat.zero_le _)
  have hle := nmLen_le M 0 (Nat.zero_le _)
  rw [Nat.zero_add] at h0 hle
  have hn := next_in M (nmLen M 0) 64 (by decide) hle
  unfold adOk
  rw [h0, Nat.zero_add, show 1 + nmLen M 0 = nmLen M 0 + 1 by omega, hn]
  by_cases hx : nextIs M (nmLen M 0) 64 = true
  · have h1 := nextIs_lt hx
    obtain ⟨e1, e2⟩ := dom_in M (nmLen M 0 + 1) h1
    rw [e1]
    refine ⟨rfl, fun _ => ?_⟩
    have h3 : adEnd (60 :: (M ++ [62])) 1 = adEnd M 0 + 1 := by
      unfold adEnd
      rw [h0, Nat.zero_add, show 1 + nmLen M 0 + 1 = nmLen M 0 + 1 + 1 by omega, e2]
    have h4 : adEnd M 0 ≤ M.length := by
      unfold adEnd domEnd
      rw [Nat.zero_add]
      exact (domGo_le M 2 _ _ (nmLen_le M _ h1)).1
    refine ⟨h3, ?_, ?_, h4⟩
    · unfold adUser
      rw [h0, List.drop_succ_cons, List.drop_zero, List.drop_zero, List.take_append_of_le_length hle]
    · unfold adDom
      rw [h3, h0, Nat.zero_add, show 1 + nmLen M 0 + 1 = nmLen M 0 + 1 + 1 by omega, List.drop_succ_cons, List.drop_append_of_le_length h1, show adEnd M 0 + 1 - (nmLen M 0 + 1 + 1) = adEnd M 0 - (nmLen M 0 + 1) by omega, List.take_append_of_le_length (by rw [List.length_drop]; omega)]
  · rw [Bool.eq_false_iff.2 hx]
    rw [Bool.and_false, Bool.false_and, Bool.false_and]
    exact ⟨rfl, fun h => by cases h⟩
theorem pp_in : ppB (60 :: (M ++ [62])) = apB M ∧ (apB M = true → adUser (60 :: (M ++ [62])) 1 = adUser M 0 ∧ adDom (60 :: (M ++ [62])) 1 = adDom M 0) := by
  obtain ⟨e1, e2⟩ := ad_in M
  unfold ppB apB
  rw [e1]
  by_cases h : adOk M 0 = true
  · obtain ⟨e3, e4, e5, e6⟩ := e2 h
    refine ⟨?_, fun _ => ⟨e4, e5⟩⟩
    rw [e3]
    have hf : nextIs (60 :: (M ++ [62])) 0 60 = true := rfl
    rw [hf, h, Bool.true_and, Bool.true_and, Bool.true_and]
    by_cases hz : adEnd M 0 = M.length
    · rw [hz]
      have : nextIs (60 :: (M ++ [62])) (M.length + 1) 62 = true := by unfold nextIs; simp
      rw [this]
      simp
    · rw [decide_eq_false hz, decide_eq_false (by rw [List.length_cons, List.length_append]; simp; omega), Bool.and_false]
  · rw [Bool.eq_false_iff.2 h]
    refine ⟨?_, fun h => by cases h⟩
    rw [Bool.and_false]
    rfl
end
theorem pp_br {L : List UInt8} (h : ppB L = true) : brB L = true := by
  unfold ppB at h
  rw [Bool.and_eq_true, Bool.and_eq_true, Bool.and_eq_true, decide_eq_true_eq] at h
  obtain ⟨⟨⟨h1, h2⟩, h3⟩, h4⟩ := h
  unfold adOk at h2
  rw [Bool.and_eq_true, Bool.and_eq_true] at h2
  have h5 := nextIs_lt h2.1.2
  unfold brB
  rw [h1, decide_eq_true (by omega), ← h4, Nat.add_sub_cancel, h3]
  rfl
/-- The parts of a path. -/
def qU (L : List UInt8) : List UInt8 := if L = bare then [] else if brB L = true then pU (mid L) else []
def qD (L : List UInt8) : List UInt8 := if L = bare then [] else if brB L = true then pD (mid L) else []
theorem pa_eq (L : List UInt8) : ppA L = spP L ∧ (ppA L = true → pathU L = qU L ∧ pathD L = qD L) := by
  unfold ppA spP pathU pathD qU qD
  by_cases hb : L = bare
  · rw [decide_eq_true hb, if_pos hb, if_pos hb, if_pos hb, if_pos hb]
    exact ⟨rfl, fun _ => ⟨rfl, rfl⟩⟩
  · rw [decide_eq_false hb, if_neg hb, if_neg hb, if_neg hb, if_neg hb, Bool.false_or, Bool.false_or]
    by_cases hr : brB L = true
    · rw [hr, Bool.true_and, if_pos rfl, if_pos rfl]
      have hf := br_form hr
      obtain ⟨e1, e2⟩ := pp_in (mid L)
      rw [← hf] at e1 e2
      obtain ⟨e3, e4⟩ := ad_eq (mid L)
      refine ⟨e1.trans e3, fun h => ?_⟩
      have ha := e1 ▸ h
      have hs := e3 ▸ ha
      unfold pU pD
      rw [if_pos hs, if_pos hs]
      exact ⟨(e2 ha).1.trans (e4 ha).1, (e2 ha).2.trans (e4 ha).2⟩
    · have hp : ppB L = false := by
        rw [← Bool.not_eq_true]
        exact fun h => hr (pp_br h)
      rw [hp, Bool.eq_false_iff.2 hr]
      exact ⟨rfl, fun h => by cases h⟩
theorem q_no {L : List UInt8} (h : spP L = false) : qU L = [] ∧ qD L = [] := by
  unfold spP at h
  rw [Bool.or_eq_false_iff, decide_eq_false_iff_not] at h
  unfold qU qD
  rw [if_neg h.1, if_neg h.1]
  by_cases hr : brB L = true
  · rw [if_pos hr, if_pos hr]
    rw [hr, Bool.true_and] at h
    exact ⟨pU_no h.2, pD_no h.2⟩
  · rw [if_neg hr, if_neg hr]
    exact ⟨rfl, rfl⟩
theorem q_le (L : List UInt8) : (qU L).length ≤ L.length ∧ (qD L).length ≤ L.length := by
  have hm : (mid L).length ≤ L.length := by unfold mid; rw [List.length_take, List.length_drop]; omega
  have h1 := pU_le (mid L)
  have h2 := pD_le (mid L)
  unfold qU qD
  constructor
  · split
    · exact Nat.zero_le _
    · split
      · omega
      · exact Nat.zero_le _
  · split
    · exact Nat.zero_le _
    · split
      · omega
      · exact Nat.zero_le _
/-- A path that is not the one without an address is the text of an address in brackets. -/
theorem path_text {L : List UInt8} (h : spP L = true) (hb : ¬ L = bare) : L = 60 :: (adText (qU L) (qD L) ++ [62]) := by
  unfold spP at h
  rw [decide_eq_false hb, Bool.false_or, Bool.and_eq_true] at h
  unfold qU qD
  rw [if_neg hb, if_neg hb, if_pos h.1, if_pos h.1, ad_back h.2]
  exact br_form h.1
theorem sp_ne {L : List UInt8} (h : spB L = true) : ∀ x ∈ L, sgn x = true ∨ x = 46 ∨ x = 64 := by
  obtain ⟨u, d, _, rfl, h3, h4⟩ := sp_parts h
  intro x hx
  rcases List.mem_append.1 hx with hx | hx
  · exact .inl (List.all_eq_true.1 (nameB_iff.1 h3).1 x hx)
  · rcases List.mem_cons.1 hx with rfl | hx
    · exact .inr (.inr rfl)
    · by_cases h46 : x = 46
      · exact .inr (.inl h46)
      · obtain ⟨y, hy, hxy⟩ := cutGo_mem 46 d [] x (.inr hx) h46
        exact .inl (List.all_eq_true.1 (nameB_iff.1 (List.all_eq_true.1 (dom_parts h4).1 y hy)).1 x hxy)
theorem sp_no60 {L : List UInt8} (h : spB L = true) : ¬ (60 : UInt8) ∈ L := by
  intro hx
  rcases sp_ne h 60 hx with h | h | h
  · exact absurd h (by decide)
  · exact absurd h (by decide)
  · exact absurd h (by decide)
theorem sp_no62 {L : List UInt8} (h : spB L = true) : ¬ (62 : UInt8) ∈ L := by
  intro hx
  rcases sp_ne h 62 hx with h | h | h
  · exact absurd h (by decide)
  · exact absurd h (by decide)
  · exact absurd h (by decide)
theorem sp_pos {L : List UInt8} (h : spB L = true) : L ≠ [] := by
  obtain ⟨u, d, _, rfl, _, _⟩ := sp_parts h
  simp
/-- Each address has a path. -/
theorem path_of {L : List UInt8} (h : spB L = true) : spP (60 :: (L ++ [62])) = true ∧ qU (60 :: (L ++ [62])) = pU L ∧ qD (60 :: (L ++ [62])) = pD L := by
  obtain ⟨h1, h2⟩ := br_of L
  have hb : ¬ 60 :: (L ++ [62]) = bare := by
    unfold bare
    intro e
    rw [List.cons.injEq] at e
    have := congrArg List.length e.2
    have hp := sp_pos h
    simp at this
    exact hp this
  unfold spP qU qD
  rw [if_neg hb, if_neg hb, if_pos h1, if_pos h1, h1, h2, h]
  simp
theorem path_bare (L : List UInt8) (h : ¬ (60 : UInt8) ∈ L ∨ ¬ (62 : UInt8) ∈ L) : spP L = false := by
  unfold spP brB
  rw [Bool.or_eq_false_iff, decide_eq_false_iff_not]
  constructor
  · rintro rfl
    unfold bare at h
    simp at h
  · rcases h with h | h
    · rw [show nextIs L 0 60 = false from by rw [← Bool.not_eq_true]; exact fun hn => h (next_mem hn)]
      simp
    · rw [show nextIs L (L.length - 1) 62 = false from by rw [← Bool.not_eq_true]; exact fun hn => h (next_mem hn)]
      simp
theorem path_bare1 {L : List UInt8} (h : spB L = true) : spP L = false := path_bare L (.inl (sp_no60 h))
theorem path_bare2 {L : List UInt8} (h : spB L = true) : spP (60 :: L) = false := path_bare _ (.inr (by
  intro hx
  rcases List.mem_cons.1 hx with h1 | h1
  · exact absurd h1 (by decide)
  · exact sp_no62 h h1))
theorem path_bare3 {L : List UInt8} (h : spB L = true) : spP (L ++ [62]) = false := path_bare _ (.inl (by
  intro hx
  rcases List.mem_append.1 hx with h1 | h1
  · exact sp_no60 h h1
  · rcases List.mem_cons.1 h1 with h2 | h2
    · exact absurd h2 (by decide)
    · cases h2))
end Go.Proofs.Ytinbdibenbplnaa
namespace Go.Proofs.Ytinbdibenbplnaa
set_option linter.unusedVariables false

/-- The number of a sign; other signs count as 0. -/
def val (c : UInt8) : Nat := (num c).getD 0
theorem val_sig {n : Nat} (h : n < 64) : val (sig n) = n := by unfold val; rw [num_sig h]; rfl
theorem val61 : val 61 = 0 := by decide
theorem val_lt (c : UInt8) : val c < 64 := by
  unfold val
  cases h : num c with
  | none => simp
  | some n => exact (num_some h).1
/-- The number of four signs. -/
def n4 (a b c d : UInt8) : Nat := 64 * (64 * (64 * val a + val b) + val c) + val d
theorem n4_lt (a b c d : UInt8) : n4 a b c d < 16777216 := by
  unfold n4
  have := val_lt a; have := val_lt b; have := val_lt c; have := val_lt d
  omega
/-- What the model's decoder makes of groups of four signs. -/
def dl : List UInt8 → List UInt8
  | a :: b :: c :: d :: t => UInt8.ofNat (n4 a b c d / 65536) :: UInt8.ofNat (n4 a b c d / 256 % 256) :: UInt8.ofNat (n4 a b c d % 256) :: dl t
  | _ => []
theorem dl_more (a b c d : UInt8) (t : List UInt8) : dl (a :: b :: c :: d :: t) = UInt8.ofNat (n4 a b c d / 65536) :: UInt8.ofNat (n4 a b c d / 256 % 256) :: UInt8.ofNat (n4 a b c d % 256) :: dl t := rfl
theorem dl_len : ∀ t : List UInt8, (dl t).length = t.length / 4 * 3
  | [] => rfl
  | [_] => by simp [dl]
  | [_, _] => by simp [dl]
  | [_, _, _] => by simp [dl]
  | a :: b :: c :: d :: t => by
    rw [dl_more]
    simp only [List.length_cons]
    rw [dl_len t]
    omega
theorem byte_back (a : UInt8) (n : Nat) (h : n = a.toNat) : UInt8.ofNat n = a := by subst h; simp
theorem n4_full (n : Nat) (h : n < 16777216) : n4 (q0 n) (q1 n) (q2 n) (q3 n) = n := by
  unfold n4 q0 q1 q2 q3
  rw [val_sig (q0_lt h), val_sig (by omega), val_sig (by omega), val_sig (by omega)]
  omega
theorem n4_two (n : Nat) (h : n < 16777216) (h6 : n % 64 = 0) : n4 (q0 n) (q1 n) (q2 n) 61 = n := by
  unfold n4 q0 q1 q2
  rw [val_sig (q0_lt h), val_sig (by omega), val_sig (by omega), val61]
  omega
theorem n4_one (n : Nat) (h : n < 16777216) (h6 : n % 4096 = 0) : n4 (q0 n) (q1 n) 61 61 = n := by
  unfold n4 q0 q1
  rw [val_sig (q0_lt h), val_sig (by omega), val61]
  omega
theorem bytes3 (a b c : UInt8) : UInt8.ofNat (n24 a b c / 65536) = a ∧ UInt8.ofNat (n24 a b c / 256 % 256) = b ∧ UInt8.ofNat (n24 a b c % 256) = c := by
  have := a.toNat_lt; have := b.toNat_lt; have := c.toNat_lt
  unfold n24
  exact ⟨byte_back a _ (by omega), byte_back b _ (by omega), byte_back c _ (by omega)⟩
/-- The decoder gives the bytes back, and zeros behind them. -/
theorem dl_enc : ∀ s : List UInt8, ∃ k, k ≤ 2 ∧ dl (enc s) = s ++ List.replicate k 0
  | [] => ⟨0, by omega, rfl⟩
  | [a] => by
    refine ⟨2, by omega, ?_⟩
    have hz : (0 : UInt8).toNat = 0 := rfl
    rw [enc_one, dl_more, n4_one _ (n24_lt a 0 0) (by unfold n24; rw [hz]; omega), (bytes3 a 0 0).1, (bytes3 a 0 0).2.1, (bytes3 a 0 0).2.2]
    rfl
  | [a, b] => by
    refine ⟨1, by omega, ?_⟩
    have hz : (0 : UInt8).toNat = 0 := rfl
    rw [enc_two, dl_more, n4_two _ (n24_lt a b 0) (by unfold n24; rw [hz]; omega), (bytes3 a b 0).1, (bytes3 a b 0).2.1, (bytes3 a b 0).2.2]
    rfl
  | a :: b :: c :: t => by
    obtain ⟨k, hk, h⟩ := dl_enc t
    refine ⟨k, hk, ?_⟩
    rw [enc_more, dl_more, n4_full _ (n24_lt a b c), (bytes3 a b c).1, (bytes3 a b c).2.1, (bytes3 a b c).2.2, h]
    rfl
/-- A beginning of what was decoded whose text is the given one. -/
theorem dec_hit {text : List UInt8} {k : Nat} (hl : text.length ≤ 40) (h : enc ((dl text).take k) = text) : Dec text true ((dl text).take k) := by
  refine ⟨fun _ => ⟨?_, h⟩, fun h => by cases h⟩
  have := dl_len text
  rw [List.length_take]
  omega
/-- None of the beginnings has the given text. -/
theorem dec_miss {text : List UInt8} (h : ∀ k, k ≤ 2 → k ≤ (dl text).length → enc ((dl text).take ((dl text).length - k)) ≠ text) : Dec text false [] := dec_no (by
  rintro t rfl
  obtain ⟨k, hk, he⟩ := dl_enc t
  refine h k hk (by rw [he]; simp) ?_
  rw [he]
  congr 1
  simp)

/-- The bytes of a proof. -/
def two0 (u p : List UInt8) : List UInt8 := 0 :: (u ++ 0 :: p)
/-- The text of a proof. -/
def mk (u p : List UInt8) : List UInt8 := if (nameB u && nameB p) = true then enc (two0 u p) else []
theorem mk_yes {u p : List UInt8} (hu : nameB u = true) (hp : nameB p = true) : mk u p = enc (two0 u p) := by unfold mk; rw [hu, hp]; rfl
theorem mk_no {u p : List UInt8} (h : (nameB u && nameB p) = false) : mk u p = [] := by unfold mk; rw [h]; rfl
theorem enc_ne {s : List UInt8} (h : s ≠ []) : enc s ≠ [] := by
  obtain ⟨p, x, y, h1, _⟩ := enc_last s h
  rw [h1]
  simp
theorem mk_ne {u p : List UInt8} (h : mk u p ≠ []) : nameB u = true ∧ nameB p = true := by
  cases hv : (nameB u && nameB p)
  · exact absurd (mk_no hv) h
  · simpa using hv
theorem two0_len {u p : List UInt8} (hu : nameB u = true) (hp : nameB p = true) : (two0 u p).length ≤ 30 := by
  have := (nameB_iff.1 hu).2.2
  have := (nameB_iff.1 hp).2.2
  unfold two0
  simp only [List.length_cons, List.length_append]
  omega
theorem sgn0 : sgn 0 = false := by decide
theorem cut_two0 {u p : List UInt8} (hu : nameB u = true) (hp : nameB p = true) : cut 0 (two0 u p) = [[], u, p] := by
  unfold two0
  have h1 := cut_at 0 [] (u ++ 0 :: p) (by simp)
  rw [List.nil_append] at h1
  rw [h1, cut_at 0 u p (name_no46 hu 0 sgn0), cut_nil_of 0 p (name_no46 hp 0 sgn0)]
theorem cutGo_three (c : UInt8) (l : List UInt8) : ∀ cur a b d, cutGo c cur l = [a, b, d] → cur ++ l = a ++ c :: (b ++ c :: d) := by
  induction l with
  | nil => intro cur a b d h; simp [cutGo] at h
  | cons x t ih =>
    intro cur a b d h
    unfold cutGo at h
    split at h
    · rename_i hx
      rw [List.cons.injEq] at h
      have h2 := cutGo_two c t [] b d h.2
      rw [← h.1, ← h2, hx]
      rfl
    · have := ih _ _ _ _ h
      simpa using this
/-- What a reader of proofs tells. -/
def PP (text : List UInt8) (o : Bool) (u p : List UInt8) : Prop :=
  (o = true → nameB u = true ∧ nameB p = true ∧ enc (two0 u p) = text) ∧ (o = false → u = [] ∧ p = [] ∧ ∀ a b : List UInt8, nameB a = true → nameB b = true → enc (two0 a b) ≠ text)
theorem two0_inj {u p v q : List UInt8} (hu : nameB u = true) (hp : nameB p = true) (hv : nameB v = true) (hq : nameB q = true) (h : two0 u p = two0 v q) : u = v ∧ p = q := by
  have h1 := cut_two0 hu hp
  rw [h, cut_two0 hv hq] at h1
  simp only [List.cons.injEq, and_true, true_and] at h1
  exact ⟨h1.1.symm, h1.2.symm⟩
theorem pp_any (text : List UInt8) : ∃ o u p, PP text o u p := by
  by_cases h : ∃ u p : List UInt8, nameB u = true ∧ nameB p = true ∧ enc (two0 u p) = text
  · obtain ⟨u, p, h1, h2, h3⟩ := h
    exact ⟨true, u, p, fun _ => ⟨h1, h2, h3⟩, fun h => by cases h⟩
  · exact ⟨false, [], [], fun h => (by cases h), fun _ => ⟨rfl, rfl, fun a b h1 h2 h3 => h ⟨a, b, h1, h2, h3⟩⟩⟩
theorem pp_one {text : List UInt8} {o o' : Bool} {u p u' p' : List UInt8} (h : PP text o u p) (k : PP text o' u' p') : o = o' ∧ u = u' ∧ p = p' := by
  cases o <;> cases o'
  · obtain ⟨h1, h2, _⟩ := h.2 rfl
    obtain ⟨k1, k2, _⟩ := k.2 rfl
    rw [h1, h2, k1, k2]
    exact ⟨rfl, rfl, rfl⟩
  · obtain ⟨k1, k2, k3⟩ := k.1 rfl
    exact absurd k3 ((h.2 rfl).2.2 _ _ k1 k2)
  · obtain ⟨k1, k2, k3⟩ := h.1 rfl
    exact absurd k3 ((k.2 rfl).2.2 _ _ k1 k2)
  · obtain ⟨h1, h2, h3⟩ := h.1 rfl
    obtain ⟨k1, k2, k3⟩ := k.1 rfl
    obtain ⟨e1, e2⟩ := two0_inj h1 h2 k1 k2 (enc_inj _ _ (h3.trans k3.symm))
    exact ⟨rfl, e1, e2⟩
theorem pp_yes {text s u p : List UInt8} (hd : Dec text true s) (hc : cut 0 s = [[], u, p]) (hu : nameB u = true) (hp : nameB p = true) : PP text true u p := by
  refine ⟨fun _ => ⟨hu, hp, ?_⟩, fun h => by cases h⟩
  have h := cutGo_three 0 s [] [] u p hc
  rw [← (hd.1 rfl).2]
  congr 1
  unfold two0
  simpa using h.symm
theorem pp_no {text s : List UInt8} {o : Bool} (hd : Dec text o s) (h : o = true → ∀ u p, cut 0 s = [[], u, p] → nameB u = true → nameB p = true → False) : PP text false [] [] := by
  refine ⟨fun h => (by cases h), fun _ => ⟨rfl, rfl, ?_⟩⟩
  intro a b ha hb he
  have hk := dec_of (two0_len ha hb)
  rw [he] at hk
  obtain ⟨e1, e2⟩ := dec_one hd hk
  exact h e1 a b (by rw [e2]; exact cut_two0 ha hb) ha hb
theorem pp_mk {u p : List UInt8} (h : mk u p ≠ []) : PP (mk u p) true u p := by
  obtain ⟨h1, h2⟩ := mk_ne h
  exact ⟨fun _ => ⟨h1, h2, (mk_yes h1 h2).symm⟩, fun h => by cases h⟩
theorem mk_pp {text u p : List UInt8} (h : PP text true u p) : mk u p = text := by
  obtain ⟨h1, h2, h3⟩ := h.1 rfl
  rw [mk_yes h1 h2, h3]
theorem mk_dec {u p : List UInt8} (h : mk u p ≠ []) : Dec (mk u p) true (two0 u p) := by
  obtain ⟨h1, h2⟩ := mk_ne h
  rw [mk_yes h1 h2]
  exact dec_of (two0_len h1 h2)
theorem mk_nil {u p : List UInt8} : mk u p = [] ↔ (nameB u = false ∨ nameB p = false) := by
  constructor
  · intro h
    cases hv : (nameB u && nameB p)
    · exact Bool.and_eq_false_iff.1 hv
    · rw [Bool.and_eq_true] at hv
      rw [mk_yes hv.1 hv.2] at h
      exact absurd h (enc_ne (by unfold two0; simp))
  · intro h
    refine mk_no ?_
    rcases h with h | h <;> rw [h] <;> simp
theorem mk_swap {u p : List UInt8} (h : mk u p ≠ []) : mk p u = mk u p ↔ u = p := by
  obtain ⟨h1, h2⟩ := mk_ne h
  constructor
  · intro he
    rw [mk_yes h1 h2, mk_yes h2 h1] at he
    exact (two0_inj h2 h1 h1 h2 (enc_inj _ _ he)).2
  · rintro rfl
    rfl
theorem enc000 : enc [0, 0, 0] = [65, 65, 65, 65] := by decide
theorem pp_more {text u p : List UInt8} (h : PP text true u p) : PP ([65, 65, 65, 65] ++ text) false [] [] := by
  obtain ⟨_, _, h3⟩ := h.1 rfl
  refine ⟨fun h => (by cases h), fun _ => ⟨rfl, rfl, ?_⟩⟩
  intro a b ha hb he
  rw [← h3, ← enc000, ← enc_app _ _ (by rfl)] at he
  have h4 := enc_inj _ _ he
  unfold two0 at h4
  rw [List.cons_append, List.cons.injEq] at h4
  have h5 := h4.2
  obtain ⟨q1, q2, _⟩ := nameB_iff.1 ha
  match a, q1, q2, h5 with
  | x :: a', q1, _, h5 =>
    rw [List.cons_append, List.cons_append, List.cons.injEq] at h5
    have hx := List.all_eq_true.1 q1 x (by simp)
    rw [h5.1] at hx
    exact absurd hx (by decide)
end Go.Proofs.Ytinbdibenbplnaa
namespace Go.Proofs.Ytinbdibenbplnaa
set_option linter.unusedVariables false

/-- The place behind the user. -/
def pk (L : List UInt8) : Nat := 1 + nmLen L 1
/-- The tests of the reader. -/
def Reads (L : List UInt8) : Prop := nextIs L 0 0 = true ∧ okLen (nmLen L 1) = true ∧ nextIs L (pk L) 0 = true ∧ okLen (nmLen L (pk L + 1)) = true ∧ pk L + 1 + nmLen L (pk L + 1) = L.length
def rdU (L : List UInt8) : List UInt8 := (L.drop 1).take (nmLen L 1)
def rdP (L : List UInt8) : List UInt8 := (L.drop (pk L + 1)).take (nmLen L (pk L + 1))
theorem take_name {u q : List UInt8} (hu : u.all sgn = true) (hq : q = [] ∨ ∃ t, q = 0 :: t) : (u ++ q).takeWhile sgn = u := by
  rw [List.takeWhile_append_of_pos (fun a h => List.all_eq_true.1 hu a h)]
  rcases hq with rfl | ⟨t, rfl⟩
  · simp
  · rw [List.takeWhile_cons, if_neg (by rw [sgn0]; decide)]
    simp
theorem reads_of {L u p : List UInt8} (h : L = two0 u p) (hu : nameB u = true) (hp : nameB p = true) : Reads L ∧ rdU L = u ∧ rdP L = p := by
  obtain ⟨u1, u2, u3⟩ := nameB_iff.1 hu
  obtain ⟨p1, p2, p3⟩ := nameB_iff.1 hp
  have d0 : L.drop 0 = 0 :: (u ++ 0 :: p) := h
  obtain ⟨n0, d1, _⟩ := next_cons (c := 0) d0
  have d1' : L.drop 1 = u ++ 0 :: p := d1
  obtain ⟨e1, d2⟩ := nm_eq L 1 d1' (by rw [d1']; exact take_name u1 (.inr ⟨p, rfl⟩))
  obtain ⟨n2, d3, _⟩ := next_cons (c := 0) d2
  obtain ⟨e2, d4⟩ := nm_eq L (1 + nmLen L 1 + 1) (p := p) (q := []) (by rw [d3, List.append_nil]) (by rw [d3]; have := take_name p1 (.inl rfl); rwa [List.append_nil] at this)
  have hL : L.length = u.length + p.length + 2 := by rw [h]; unfold two0; simp only [List.length_cons, List.length_append]; omega
  refine ⟨⟨by rw [n0]; rfl, by rw [e1]; unfold okLen; simp; omega, by unfold pk; rw [n2]; rfl, by unfold pk; rw [e2]; unfold okLen; simp; omega, by unfold pk; rw [e2, e1, hL]; omega⟩, ?_, ?_⟩
  · unfold rdU; rw [d1', e1]; simp
  · unfold rdP pk; rw [d3, e2]; simp
theorem tk_while (l : List UInt8) : l.take (l.takeWhile sgn).length = l.takeWhile sgn := by
  conv => lhs; arg 2; rw [← List.takeWhile_append_dropWhile (p := sgn) (l := l)]
  exact List.take_left
theorem of_reads {L : List UInt8} (h : Reads L) : L = two0 (rdU L) (rdP L) ∧ nameB (rdU L) = true ∧ nameB (rdP L) = true := by
  obtain ⟨h0, h1, h2, h3, h4⟩ := h
  have hl0 := nextIs_lt h0
  have hl2 := nextIs_lt h2
  unfold pk at *
  have a0 : L.drop 0 = L[0] :: L.drop 1 := List.drop_eq_getElem_cons hl0
  have c0 : L[0] = 0 := by
    have h := (next_cons (c := 0) a0).1
    rw [h0] at h
    exact (beq_iff_eq.1 h.symm)
  have a2 : L.drop (1 + nmLen L 1) = L[1 + nmLen L 1] :: L.drop (1 + nmLen L 1 + 1) := List.drop_eq_getElem_cons hl2
  have c2 : L[1 + nmLen L 1] = 0 := by
    have h := (next_cons (c := 0) a2).1
    rw [h2] at h
    exact (beq_iff_eq.1 h.symm)
  have e1 : (L.drop 1).take (nmLen L 1) = (L.drop 1).takeWhile sgn := by
    unfold nmLen
    exact tk_while _
  have e2 : (L.drop (1 + nmLen L 1 + 1)).take (nmLen L (1 + nmLen L 1 + 1)) = (L.drop (1 + nmLen L 1 + 1)).takeWhile sgn := by
    unfold nmLen
    exact tk_while _
  have all1 : (rdU L).all sgn = true := by unfold rdU; rw [e1]; exact List.all_takeWhile
  have all2 : (rdP L).all sgn = true := by unfold rdP pk; rw [e2]; exact List.all_takeWhile
  have l1 : (rdU L).length = nmLen L 1 := by unfold rdU; rw [e1]; rfl
  have l2 : (rdP L).length = nmLen L (1 + nmLen L 1 + 1) := by unfold rdP pk; rw [e2]; rfl
  refine ⟨?_, by rw [nameB_all all1, l1]; exact h1, by rw [nameB_all all2, l2]; exact h3⟩
  have hfull : (L.drop (1 + nmLen L 1 + 1)).take (nmLen L (1 + nmLen L 1 + 1)) = L.drop (1 + nmLen L 1 + 1) := List.take_of_length_le (by rw [List.length_drop]; omega)
  unfold two0 rdU rdP pk
  rw [hfull]
  have x1 : L = L[0] :: L.drop 1 := a0
  conv => lhs; rw [x1, c0]
  congr 1
  conv => lhs; rw [← List.take_append_drop (nmLen L 1) (L.drop 1), List.drop_drop, a2, c2]
/-- A proof is read. -/
theorem pp_reads {text s : List UInt8} (hd : Dec text true s) (h : Reads s) : PP text true (rdU s) (rdP s) := by
  obtain ⟨h1, h2, h3⟩ := of_reads h
  exact ⟨fun _ => ⟨h2, h3, by rw [← h1]; exact (hd.1 rfl).2⟩, fun h => by cases h⟩
theorem pp_fails {text s : List UInt8} (hd : Dec text true s) (h : ¬ Reads s) : PP text false [] [] :=
  pp_no hd fun _ u p hc hu hp => h (by
    have h1 := cutGo_three 0 s [] [] u p hc
    exact (reads_of (u := u) (p := p) (by unfold two0; simpa using h1) hu hp).1)
theorem pp_off {text s : List UInt8} (hd : Dec text false s) : PP text false [] [] := pp_no hd fun h => by cases h
end Go.Proofs.Ytinbdibenbplnaa
namespace Go.Proofs.Ytinbdibenbplnaa
set_option linter.unusedVariables false

/-- 'xs' are the groups of at most 'n' of 'l', one after the other. -/
def Grp (n : Nat) : List (List UInt8) → List UInt8 → Prop
  | [], l => l = []
  | x :: xs, l => x = l.take n ∧ l ≠ [] ∧ Grp n xs (l.drop n)
theorem grp_enc : ∀ (xs : List (List UInt8)) (l : List UInt8), Grp 3 xs l → xs.flatMap enc = enc l
  | [], l, h => by have h' : l = [] := h; subst h'; rfl
  | x :: xs, l, ⟨hx, hl, hr⟩ => by
    have ih := grp_enc xs _ hr
    rw [List.flatMap_cons, ih, hx]
    match l with
    | [] => exact absurd rfl hl
    | [a] => rfl
    | [a, b] => rfl
    | a :: b :: c :: t => rw [enc_more]; rfl

/-- The number that the first 'k' signs of a group stand for. -/
def acc (l : List UInt8) : Nat → Nat
  | 0 => 0
  | 1 => 262144 * val (l.getD 0 61)
  | 2 => 262144 * val (l.getD 0 61) + 4096 * val (l.getD 1 61)
  | 3 => 262144 * val (l.getD 0 61) + 4096 * val (l.getD 1 61) + 64 * val (l.getD 2 61)
  | _ => 262144 * val (l.getD 0 61) + 4096 * val (l.getD 1 61) + 64 * val (l.getD 2 61) + val (l.getD 3 61)
/-- How many signs lead a group. -/
def leads : List UInt8 → Nat
  | [] => 0
  | a :: t => if (num a).isSome then leads t + 1 else 0
theorem leads_le : ∀ l : List UInt8, leads l ≤ l.length
  | [] => Nat.le_refl _
  | a :: t => by
    have := leads_le t
    unfold leads
    split
    · simp only [List.length_cons]; omega
    · exact Nat.zero_le _
/-- The three bytes of a number. -/
def three (n : Nat) : List UInt8 := [UInt8.ofNat (n / 65536 % 256), UInt8.ofNat (n / 256 % 256), UInt8.ofNat (n % 256)]
/-- The bytes for which a group of at most four signs stands. -/
def decG (l : List UInt8) : List UInt8 := (three (acc l (leads l))).take (leads l - 1)
theorem decG_len (l : List UInt8) : (decG l).length ≤ 3 := by unfold decG three; rw [List.length_take]; simp; omega
/-- The bytes for which a text of groups of four signs stands. -/
def dg : List UInt8 → List UInt8
  | a :: b :: c :: d :: t => decG [a, b, c, d] ++ dg t
  | [] => []
  | l => decG l
theorem dg_more (a b c d : UInt8) (t : List UInt8) : dg (a :: b :: c :: d :: t) = decG [a, b, c, d] ++ dg t := rfl
theorem grp_dg : ∀ (xs : List (List UInt8)) (l : List UInt8), Grp 4 xs l → xs.flatMap decG = dg l
  | [], l, h => by have h' : l = [] := h; subst h'; rfl
  | x :: xs, l, ⟨hx, hl, hr⟩ => by
    have ih := grp_dg xs _ hr
    rw [List.flatMap_cons, ih, hx]
    match l with
    | [] => exact absurd rfl hl
    | [a] => show decG [a] ++ dg [] = dg [a]; exact List.append_nil _
    | [a, b] => show decG [a, b] ++ dg [] = dg [a, b]; exact List.append_nil _
    | [a, b, c] => show decG [a, b, c] ++ dg [] = dg [a, b, c]; exact List.append_nil _
    | a :: b :: c :: d :: t => rw [dg_more]; rfl

theorem num_sig_some {n : Nat} (h : n < 64) : (num (sig n)).isSome = true := by rw [num_sig h]; rfl
theorem none61 : (num 61).isSome = false := by rw [num61]; rfl
theorem decG_full (n : Nat) (h : n < 16777216) : decG [q0 n, q1 n, q2 n, q3 n] = three n := by
  have e : leads [q0 n, q1 n, q2 n, q3 n] = 4 := by
    unfold q0 q1 q2 q3
    simp only [leads, num_sig_some (q0_lt h), num_sig_some (show n / 4096 % 64 < 64 by omega), num_sig_some (show n / 64 % 64 < 64 by omega), num_sig_some (show n % 64 < 64 by omega), if_true]
  unfold decG
  rw [e]
  have ea : acc [q0 n, q1 n, q2 n, q3 n] 4 = n := by
    show 262144 * val (q0 n) + 4096 * val (q1 n) + 64 * val (q2 n) + val (q3 n) = n
    unfold q0 q1 q2 q3
    rw [val_sig (q0_lt h), val_sig (by omega), val_sig (by omega), val_sig (by omega)]
    omega
  rw [ea]
  rfl
theorem decG_two (n : Nat) (h : n < 16777216) (h6 : n % 64 = 0) : decG [q0 n, q1 n, q2 n, 61] = (three n).take 2 := by
  have e : leads [q0 n, q1 n, q2 n, 61] = 3 := by
    unfold q0 q1 q2
    simp only [leads, num_sig_some (q0_lt h), num_sig_some (show n / 4096 % 64 < 64 by omega), num_sig_some (show n / 64 % 64 < 64 by omega), none61, if_true, Bool.false_eq_true, if_false]
  unfold decG
  rw [e]
  have ea : acc [q0 n, q1 n, q2 n, 61] 3 = n := by
    show 262144 * val (q0 n) + 4096 * val (q1 n) + 64 * val (q2 n) = n
    unfold q0 q1 q2
    rw [val_sig (q0_lt h), val_sig (by omega), val_sig (by omega)]
    omega
  rw [ea]
theorem decG_one (n : Nat) (h : n < 16777216) (h6 : n % 4096 = 0) : decG [q0 n, q1 n, 61, 61] = (three n).take 1 := by
  have e : leads [q0 n, q1 n, 61, 61] = 2 := by
    unfold q0 q1
    simp only [leads, num_sig_some (q0_lt h), num_sig_some (show n / 4096 % 64 < 64 by omega), none61, if_true, Bool.false_eq_true, if_false]
  unfold decG
  rw [e]
  have ea : acc [q0 n, q1 n, 61, 61] 2 = n := by
    show 262144 * val (q0 n) + 4096 * val (q1 n) = n
    unfold q0 q1
    rw [val_sig (q0_lt h), val_sig (by omega)]
    omega
  rw [ea]
theorem three24 (a b c : UInt8) : three (n24 a b c) = [a, b, c] := by
  have := a.toNat_lt; have := b.toNat_lt; have := c.toNat_lt
  unfold three n24
  rw [byte_back a _ (by omega), byte_back b _ (by omega), byte_back c _ (by omega)]
/-- The bytes come back. -/
theorem dg_enc : ∀ s : List UInt8, dg (enc s) = s
  | [] => rfl
  | [a] => by
    have hz : (0 : UInt8).toNat = 0 := rfl
    rw [enc_one, dg_more, decG_one _ (n24_lt a 0 0) (by unfold n24; rw [hz]; omega), three24]
    rfl
  | [a, b] => by
    have hz : (0 : UInt8).toNat = 0 := rfl
    rw [enc_two, dg_more, decG_two _ (n24_lt a b 0) (by unfold n24; rw [hz]; omega), three24]
    rfl
  | a :: b :: c :: t => by
    rw [enc_more, dg_more, decG_full _ (n24_lt a b c), three24, dg_enc t]
    rfl
theorem dg_len : ∀ l : List UInt8, (dg l).length ≤ l.length
  | [] => Nat.le_refl _
  | [a] => by show (decG [a]).length ≤ 1; unfold decG; rw [List.length_take]; have := leads_le [a]; simp only [List.length_cons, List.length_nil] at this; omega
  | [a, b] => by show (decG [a, b]).length ≤ 2; unfold decG; rw [List.length_take]; have := leads_le [a, b]; simp only [List.length_cons, List.length_nil] at this; omega
  | [a, b, c] => by show (decG [a, b, c]).length ≤ 3; exact decG_len _
  | a :: b :: c :: d :: t => by
    rw [dg_more, List.length_append]
    have := decG_len [a, b, c, d]
    have := dg_len t
    simp only [List.length_cons]
    omega
/-- What is read and written again, and is the same: it is a text of these bytes. -/
theorem dg_same {text : List UInt8} (hl : (dg text).length ≤ 30) (h : enc (dg text) = text) : Dec text true (dg text) := ⟨fun _ => ⟨hl, h⟩, fun h => by cases h⟩
theorem dg_other {text : List UInt8} (h : (dg text).length ≤ 30 → enc (dg text) ≠ text) : Dec text false [] := ⟨fun h => (by cases h), fun _ => ⟨rfl, by
  rintro t ht rfl
  rw [dg_enc] at h
  exact h ht rfl⟩⟩

/-- One more sign. -/
theorem leads_step {l : List UInt8} {k : Nat} (hk : k < l.length) (h : k ≤ leads l) (hs : (num l[k]).isSome = true) : k + 1 ≤ leads l := by
  induction l generalizing k with
  | nil => simp at hk
  | cons a t ih =>
    cases k with
    | zero =>
      have hs' : (num a).isSome = true := hs
      unfold leads
      rw [if_pos hs']
      omega
    | succ k =>
      unfold leads at h ⊢
      split at h
      · rename_i ha
        rw [if_pos ha]
        have := ih (k := k) (by simpa using hk) (by omega) hs
        omega
      · omega
theorem leads_stop {l : List UInt8} {k : Nat} (hk : k < l.length) (h : k ≤ leads l) (hs : (num l[k]).isSome = false) : leads l = k := by
  induction l generalizing k with
  | nil => simp at hk
  | cons a t ih =>
    cases k with
    | zero =>
      have hs' : (num a).isSome = false := hs
      unfold leads
      rw [if_neg (by rw [hs']; decide)]
    | succ k =>
      unfold leads at h ⊢
      split at h
      · rename_i ha
        rw [if_pos ha]
        have := ih (k := k) (by simpa using hk) (by omega) hs
        omega
      · omega
theorem acc_lt (l : List UInt8) (k : Nat) : acc l k < 16777216 := by
  have h0 := val_lt (l.getD 0 61)
  have h1 := val_lt (l.getD 1 61)
  have h2 := val_lt (l.getD 2 61)
  have h3 := val_lt (l.getD 3 61)
  match k with
  | 0 => show 0 < _; omega
  | 1 => show 262144 * val (l.getD 0 61) < _; omega
  | 2 => show 262144 * val (l.getD 0 61) + 4096 * val (l.getD 1 61) < _; omega
  | 3 => show 262144 * val (l.getD 0 61) + 4096 * val (l.getD 1 61) + 64 * val (l.getD 2 61) < _; omega
  | k + 4 => show 262144 * val (l.getD 0 61) + 4096 * val (l.getD 1 61) + 64 * val (l.getD 2 61) + val (l.getD 3 61) < _; omega
theorem acc_step1 (l : List UInt8) : acc l 1 = acc l 0 + 262144 * val (l.getD 0 61) := by show 262144 * val (l.getD 0 61) = 0 + _; omega
theorem acc_step2 (l : List UInt8) : acc l 2 = acc l 1 + 4096 * val (l.getD 1 61) := rfl
theorem acc_step3 (l : List UInt8) : acc l 3 = acc l 2 + 64 * val (l.getD 2 61) := rfl
theorem acc_step4 (l : List UInt8) : acc l 4 = acc l 3 + val (l.getD 3 61) := rfl
theorem acc_mod1 (l : List UInt8) : acc l 1 % 262144 = 0 := by show 262144 * val (l.getD 0 61) % 262144 = 0; omega
theorem acc_mod2 (l : List UInt8) : acc l 2 % 4096 = 0 := by show (262144 * val (l.getD 0 61) + 4096 * val (l.getD 1 61)) % 4096 = 0; omega
theorem acc_mod3 (l : List UInt8) : acc l 3 % 64 = 0 := by show (262144 * val (l.getD 0 61) + 4096 * val (l.getD 1 61) + 64 * val (l.getD 2 61)) % 64 = 0; omega
end Go.Proofs.Ytinbdibenbplnaa
namespace Go.Proofs.Ytinbdibenbplnaa
open Go.RowKit
set_option linter.unusedVariables false

theorem letters : ∀ n : Fin 64, (⟨#[65, 66, 67, 68, 69, 70, 71, 72, 73, 74, 75, 76, 77, 78, 79, 80, 81, 82, 83, 84, 85, 86, 87, 88, 89, 90, 97, 98, 99, 100, 101, 102, 103, 104, 105, 106, 107, 108, 109, 110, 111, 112, 113, 114, 115, 116, 117, 118, 119, 120, 121, 122, 48, 49, 50, 51, 52, 53, 54, 55, 56, 57, 43, 47]⟩ : ByteArray).data.toList[n.1]? = some (sig n.1) := by decide
theorem at_of {B : ByteArray} {n : Nat} (h : n < B.size) {c : UInt8} (e : B.data.toList[n]? = some c) : B[n] = c := by
  have hl : n < B.data.toList.length := by simpa using h
  rw [List.getElem?_eq_getElem hl] at e
  exact Option.some.inj e
/-- The number of a sign, or -1. -/
def valI (c : UInt8) : Int := match num c with
  | some n => (n : Int)
  | none => -1
theorem valI_at {c : UInt8} {n : Nat} (hn : n < 64) (h : sig n = c) : valI c = (n : Int) := by unfold valI; rw [← h, num_sig hn]
theorem valI_no {c : UInt8} (h : ∀ n, n < 64 → sig n ≠ c) : valI c = -1 := by
  unfold valI
  cases hc : num c with
  | none => rfl
  | some n => exact absurd (num_some hc).2 (h n (num_some hc).1)
end Go.Proofs.Ytinbdibenbplnaa
namespace Go.Proofs.Ytinbdibenbplnaa
open Go.RowKit
set_option linter.unusedVariables false

theorem Try.infoByte : (Try.prog.info? 5).map (fun i => (i.zero, i.size, i.bytes)) = some (some (.int .u8 0), 1, 1) := by kernel_rfl
/-- The bytes 'l' as a text. -/
def bt (l : List UInt8) : ByteArray := ⟨l.toArray⟩
theorem byte_at {s : ByteArray} {k : Nat} (h : k < s.size) : s.data.toList[k]'(by simpa using h) = s[k] := rfl
theorem drop1 {s : ByteArray} (k : Nat) (h : k < s.size) : s.data.toList.drop k = s[k] :: s.data.toList.drop (k + 1) := by
  rw [List.drop_eq_getElem_cons (by simpa using h)]
  rfl
theorem drop3 {s : ByteArray} (k : Nat) (h : k + 3 ≤ s.size) : s.data.toList.drop k = s[k] :: s[k + 1] :: s[k + 2] :: s.data.toList.drop (k + 3) := by
  rw [drop1 k (by omega), drop1 (k + 1) (by omega), drop1 (k + 2) (by omega)]
theorem drop_one {s : ByteArray} (k : Nat) (h : k + 1 = s.size) : s.data.toList.drop k = [s[k]] := by
  rw [drop1 k (by omega), List.drop_eq_nil_of_le (by simp; omega)]
theorem drop_two {s : ByteArray} (k : Nat) (h : k + 2 = s.size) : s.data.toList.drop k = [s[k], s[k + 1]] := by
  rw [drop1 k (by omega), drop_one (k + 1) (by omega)]
end Go.Proofs.Ytinbdibenbplnaa
namespace Go.Proofs.Ytinbdibenbplnaa
open Go.RowKit Go.Shelf
set_option linter.unusedVariables false
attribute [local go_sem] Oper.semAt_some

/-- A group of one to 'n' bytes. -/
abbrev Gn (n : Nat) := { x : ByteArray // 1 ≤ x.size ∧ x.size ≤ n }
/-- Two blocks stand. -/
def Two (a b : Nat) (W W' : World) : Prop := W'.heap[a]? = W.heap[a]? ∧ W'.heap[b]? = W.heap[b]?
theorem two_t {a b : Nat} {X Y Z : World} (h : Two a b X Y) (k : Two a b Y Z) : Two a b X Z := ⟨k.1.trans h.1, k.2.trans h.2⟩
theorem two_b {a b : Nat} {w : World} (ha : a < w.heap.size) (hb : b < w.heap.size) (W : World) (l : Nat) (o o' : Obj) (hl : w.heap.size ≤ l) (h : W.heap[l]? = some o) (_ : o.isCells = false) (_ : o.isWalk = false) : Two a b W (W.putObj l o') :=
  ⟨World.putObj_heap_other (by omega), World.putObj_heap_other (by omega)⟩
/-- The lists of bytes of groups. -/
def gl {n : Nat} (xs : List (Gn n)) : List (List UInt8) := xs.map fun x => x.1.data.toList
theorem gl_snoc {n : Nat} (xs : List (Gn n)) (x : Gn n) : gl (xs ++ [x]) = gl xs ++ [x.1.data.toList] := by simp [gl]

end Go.Proofs.Ytinbdibenbplnaa
