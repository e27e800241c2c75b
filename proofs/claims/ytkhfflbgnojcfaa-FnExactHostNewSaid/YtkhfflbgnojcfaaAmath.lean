/-
  Addresses and paths as lists of bytes: a parsed text is the user, an at sign and the domain; a path is that in brackets. Plain definitions and lemmas; no condition.
-/
import Derived.Test.YtkhfflbgnojcfaaVals
import Derived.Test.YtkhfflbgnojcfaaLawh
namespace Go.Proofs.Ytkhfflbgnojcfaa
set_option linter.unusedVariables false

theorem cutGo_one (c : UInt8) (l : List UInt8) : ∀ cur b, cutGo c cur l = [b] → cur ++ l = b := by
  induction l with
  | nil => intro cur b h; simpa [cutGo] using h
  | cons x t ih =>
    intro cur b h
    unfold cutGo at h
    split at h
    · have h2 := (cutGo_len c t []).1
      rw [List.cons.injEq] at h
      rw [h.2] at h2
      simp at h2
    · have := ih _ _ h
      simpa using this
theorem cutGo_two (c : UInt8) (l : List UInt8) : ∀ cur a b, cutGo c cur l = [a, b] → cur ++ l = a ++ c :: b := by
  induction l with
  | nil => intro cur a b h; simp [cutGo] at h
  | cons x t ih =>
    intro cur a b h
    unfold cutGo at h
    split at h
    · rename_i hx
      rw [List.cons.injEq] at h
      have h2 := cutGo_one c t [] b h.2
      rw [← h.1, ← h2, hx]
      rfl
    · have := ih _ _ _ h
      simpa using this
theorem cut_count (c : UInt8) (l : List UInt8) : ∀ cur, (cutGo c cur l).length = l.count c + 1 := by
  induction l with
  | nil => intro cur; simp [cutGo]
  | cons x t ih =>
    intro cur
    unfold cutGo
    split
    · rename_i hx; subst hx; rw [List.length_cons, ih, List.count_cons_self]
    · rename_i hx; rw [ih, List.count_cons_of_ne hx]

theorem list_two {α : Type} {l : List α} (d : α) (h : l.length = 2) : l = [l.getD 0 d, l.getD 1 d] := by
  match l, h with
  | [a, b], _ => rfl
/-- The parts of a text that can be parsed. -/
theorem sp_parts {L : List UInt8} (h : spB L = true) : ∃ u d, two L = [u, d] ∧ L = u ++ 64 :: d ∧ nameB u = true ∧ domB d = true := by
  unfold spB at h
  rw [Bool.and_eq_true, Bool.and_eq_true, decide_eq_true_eq] at h
  have h2 := list_two [] h.1
  refine ⟨_, _, h2, ?_, h.2.1, h.2.2⟩
  have h3 := cutGo_two 64 L [] _ _ h2
  simpa using h3
theorem dom_no64 {d : List UInt8} (h : domB d = true) : ∀ x ∈ d, x ≠ (64 : UInt8) := by
  rintro x hx rfl
  rw [domB_bad hx] at h
  cases h
theorem two_of {u d : List UInt8} (hu : ∀ x ∈ u, x ≠ (64 : UInt8)) (hd : ∀ x ∈ d, x ≠ (64 : UInt8)) : two (u ++ 64 :: d) = [u, d] := by
  unfold two
  rw [cut_at 64 u d hu, cut_nil_of 64 d hd]
theorem sp_of {u d : List UInt8} (hu : ∀ x ∈ u, x ≠ (64 : UInt8)) (hd : ∀ x ∈ d, x ≠ (64 : UInt8)) : spB (u ++ 64 :: d) = (nameB u && domB d) := by
  unfold spB
  rw [two_of hu hd]
  rfl

/-- What a parser tells: the user. -/
def pU (L : List UInt8) : List UInt8 := if spB L = true then (two L).getD 0 [] else []
/-- What a parser tells: the domain. -/
def pD (L : List UInt8) : List UInt8 := if spB L = true then (two L).getD 1 [] else []
theorem pU_no {L : List UInt8} (h : spB L = false) : pU L = [] := by unfold pU; rw [h]; rfl
theorem pD_no {L : List UInt8} (h : spB L = false) : pD L = [] := by unfold pD; rw [h]; rfl
theorem pU_le (L : List UInt8) : (pU L).length ≤ L.length := by
  cases h : spB L
  · rw [pU_no h]; exact Nat.zero_le _
  · obtain ⟨u, d, h1, h2, _, _⟩ := sp_parts h
    unfold pU
    rw [if_pos h, h1]
    conv => rhs; rw [h2]
    simp
theorem pD_le (L : List UInt8) : (pD L).length ≤ L.length := by
  cases h : spB L
  · rw [pD_no h]; exact Nat.zero_le _
  · obtain ⟨u, d, h1, h2, _, _⟩ := sp_parts h
    unfold pD
    rw [if_pos h, h1]
    conv => rhs; rw [h2]
    simp
    omega
/-- A parsed address has the text. -/
theorem ad_back {L : List UInt8} (h : spB L = true) : adText (pU L) (pD L) = L := by
  obtain ⟨u, d, h1, h2, h3, h4⟩ := sp_parts h
  unfold pU pD
  rw [if_pos h, if_pos h, h1]
  show adText u d = L
  rw [adText_yes (by rw [h3, h4]; rfl), ← h2]
/-- A written address can be parsed. -/
theorem ad_read {u d : List UInt8} (h : (nameB u && domB d) = true) : spB (adText u d) = true ∧ pU (adText u d) = u ∧ pD (adText u d) = d := by
  have h' := h
  rw [Bool.and_eq_true] at h'
  have hu := name_no46 h'.1 64 sgn64
  have hd := dom_no64 h'.2
  have h1 := sp_of hu hd
  rw [h] at h1
  rw [adText_yes h]
  refine ⟨h1, ?_, ?_⟩
  · unfold pU; rw [if_pos h1, two_of hu hd]; rfl
  · unfold pD; rw [if_pos h1, two_of hu hd]; rfl
theorem tw_all {L : List UInt8} {c : UInt8} (h : L.takeWhile (fun x => x != c) = L) : ∀ x ∈ L, x ≠ c := by
  intro x hx
  have h1 : (L.takeWhile (fun x => x != c)).all (fun x => x != c) = true := List.all_takeWhile
  rw [h] at h1
  have := List.all_eq_true.1 h1 x hx
  simpa using this
/-- A second at sign is refused. -/
theorem sp_more {L : List UInt8} (k : Nat) (h : spB L = true) : spB (ins L k [64]) = false := by
  obtain ⟨u, d, h1, _, _, _⟩ := sp_parts h
  have h2 : L.count 64 = 1 := by
    have := cut_count 64 L []
    unfold two cut at h1
    rw [h1] at this
    simp at this
    omega
  have h3 : (ins L k [64]).count 64 = 2 := by
    unfold ins
    rw [List.count_append, List.count_append]
    have : (L.take k).count 64 + (L.drop k).count 64 = 1 := by rw [← List.count_append, List.take_append_drop, h2]
    simp
    omega
  have h4 : (two (ins L k [64])).length = 3 := by unfold two cut; rw [cut_count, h3]
  unfold spB
  rw [h4]
  rfl

/-- What stands between the first and the last byte. -/
def mid (L : List UInt8) : List UInt8 := (L.drop 1).take (L.length - 2)
/-- A text in brackets. -/
def brB (L : List UInt8) : Bool := decide (2 ≤ L.length) && nextIs L 0 60 && nextIs L (L.length - 1) 62
/-- A path. -/
def spP (L : List UInt8) : Bool := decide (L = bare) || (brB L && spB (mid L))
theorem br_form {L : List UInt8} (h : brB L = true) : L = 60 :: (mid L ++ [62]) := by
  unfold brB at h
  rw [Bool.and_eq_true, Bool.and_eq_true, decide_eq_true_eq] at h
  obtain ⟨⟨h1, h2⟩, h3⟩ := h
  unfold nextIs at h2 h3
  match L, h1, h2, h3 with
  | a :: t, h1, h2, h3 =>
    have ha : a = 60 := by simpa using h2
    subst ha
    have h1' : 1 ≤ t.length := by simpa using h1
    congr 1
    unfold mid
    have e1 : (60 :: t).length - 2 = t.length - 1 := by simp
    rw [e1]
    show t = t.take (t.length - 1) ++ [62]
    have e2 : t[t.length - 1]? = some 62 := by
      have e3 : (60 :: t).length - 1 = (t.length - 1) + 1 := by simp; omega
      rw [e3, List.getElem?_cons_succ] at h3
      simpa using h3
    have hlt : t.length - 1 < t.length := by omega
    have e4 : t[t.length - 1] = 62 := by
      rw [List.getElem?_eq_getElem hlt] at e2
      simpa using e2
    conv => lhs; rw [← List.take_append_drop (t.length - 1) t, List.drop_eq_getElem_cons hlt, e4]
    rw [List.drop_eq_nil_of_le (by omega)]
theorem br_of (M : List UInt8) : brB (60 :: (M ++ [62])) = true ∧ mid (60 :: (M ++ [62])) = M := by
  constructor
  · unfold brB nextIs
    simp
  · unfold mid
    simp
theorem next_mem {L : List UInt8} {k : Nat} {c : UInt8} (h : nextIs L k c = true) : c ∈ L := by
  have hk := nextIs_lt h
  unfold nextIs at h
  rw [List.getElem?_eq_getElem hk] at h
  have : L[k] = c := by simpa using h
  rw [← this]
  exact List.getElem_mem hk

section
variable (M : List UInt8)
theorem nm_in (k : Nat) (hk : k ≤ M.length) : nmLen (60 :: (M ++ [62])) (k + 1) = nmLen M k := by
  unfold nmLen
  rw [List.drop_succ_cons, List.drop_append_of_le_length hk, List.takeWhile_append]
  split
  · rename_i h
    rw [List.takeWhile_cons, if_neg (by decide), List.append_nil, h]
  · rfl
theorem next_in (k : Nat) (c : UInt8) (hc : c ≠ 62) (hk : k ≤ M.length) : nextIs (60 :: (M ++ [62])) (k + 1) c = nextIs M k c := by
  unfold nextIs
  rw [List.getElem?_cons_succ]
  rcases Nat.lt_or_ge k M.length with h | h
  · rw [List.getElem?_append_left h]
  · have : k = M.length := by omega
    subst this
    rw [List.getElem?_concat_length, List.getElem?_eq_none (Nat.le_refl _)]
    simpa using fun h => hc h.symm
theorem domGo_le (L : List UInt8) : ∀ (n k : Nat) (o : Bool), k ≤ L.length → (domGo L n o k).2 ≤ L.length ∧ k ≤ (domGo L n o k).2 := by
  intro n
  induction n with
  | zero => intro k o hk; exact ⟨hk, Nat.le_refl _⟩
  | succ n ih =>
    intro k o hk
    unfold domGo
    split
    · rename_i h
      rw [Bool.and_eq_true] at h
      have h1 := nextIs_lt h.2
      have h2 := nmLen_le L (k + 1) h1
      have := ih _ (okLen (nmLen L (k + 1))) h2
      omega
    · exact ⟨hk, Nat.le_refl _⟩
theorem domGo_in : ∀ (n k : Nat) (o : Bool), k ≤ M.length → domGo (60 :: (M ++ [62])) n o (k + 1) = ((domGo M n o k).1, (domGo M n o k).2 + 1) := by
  intro n
  induction n with
  | zero => intro k o hk; rfl
  | succ n ih =>
    intro k o hk
    unfold domGo
    rw [next_in M k 46 (by decide) hk]
    split
    · rename_i h
      rw [Bool.and_eq_true] at h
      have h1 := nextIs_lt h.2
      have h2 := nmLen_le M (k + 1) h1
      rw [nm_in M (k + 1) h1, show k + 1 + 1 + nmLen M (k + 1) = (k + 1 + nmLen M (k + 1)) + 1 by omega, ih _ _ h2]
    · rfl
theorem dom_in (k : Nat) (hk : k ≤ M.length) : domOk (60 :: (M ++ [62])) (k + 1) = domOk M k ∧ domEnd (60 :: (M ++ [62])) (k + 1) = domEnd M k + 1 := by
  have h2 := nmLen_le M k hk
  have e := domGo_in M 2 (k + nmLen M k) (okLen (nmLen M k)) h2
  have e2 : domEnd (60 :: (M ++ [62])) (k + 1) = domEnd M k + 1 := by
    unfold domEnd
    rw [nm_in M k hk, show k + 1 + nmLen M k = (k + nmLen M k) + 1 by omega, e]
  refine ⟨?_, e2⟩
  unfold domOk
  rw [e2, nm_in M k hk, show k + 1 + nmLen M k = (k + nmLen M k) + 1 by omega, e]
  rw [show domEnd M k + 1 - (k + 1) = domEnd M k - k by omega]
theorem ad_in : adOk (60 :: (M ++ [62])) 1 = adOk M 0 ∧ (adOk M 0 = true → adEnd (60 :: (M ++ [62])) 1 = adEnd M 0 + 1 ∧ adUser (60 :: (M ++ [62])) 1 = adUser M 0 ∧ adDom (60 :: (M ++ [62])) 1 = adDom M 0 ∧ adEnd M 0 ≤ M.length) := by
  have h0 := nm_in M 0 (Nat.zero_le _)
  have hle := nmLen_le M 0 (Nat.zero_le _)
  rw [Nat.zero_add] at h0 hle
  have hn := next_in M (nmLen M 0) 64 (by decide) hle
  unfold adOk
  rw [h0, Nat.zero_add, show 1 + nmLen M 0 = nmLen M 0 + 1 by omega, hn]
  by_cases hx : nextIs M (nmLen M 0) 64 = true
  · have h1 := nextIs_lt hx
    obtain ⟨e1, e2⟩ := dom_in M (nmLen M 0 + 1) h1
    rw [e1]
    refine ⟨rfl, fun _ => ?_⟩
    have h3 : adEnd (60 :: (M ++ [62])) 1 = adEnd M 0 + 1 := by
      unfold adEnd
      rw [h0, Nat.zero_add, show 1 + nmLen M 0 + 1 = nmLen M 0 + 1 + 1 by omega, e2]
    have h4 : adEnd M 0 ≤ M.length := by
      unfold adEnd domEnd
      rw [Nat.zero_add]
      exact (domGo_le M 2 _ _ (nmLen_le M _ h1)).1
    refine ⟨h3, ?_, ?_, h4⟩
    · unfold adUser
      rw [h0, List.drop_succ_cons, List.drop_zero, List.drop_zero, List.take_append_of_le_length hle]
    · unfold adDom
      rw [h3, h0, Nat.zero_add, show 1 + nmLen M 0 + 1 = nmLen M 0 + 1 + 1 by omega, List.drop_succ_cons, List.drop_append_of_le_length h1, show adEnd M 0 + 1 - (nmLen M 0 + 1 + 1) = adEnd M 0 - (nmLen M 0 + 1) by omega, List.take_append_of_le_length (by rw [List.length_drop]; omega)]
  · rw [Bool.eq_false_iff.2 hx]
    rw [Bool.and_false, Bool.false_and, Bool.false_and]
    exact ⟨rfl, fun h => by cases h⟩
theorem pp_in : ppB (60 :: (M ++ [62])) = apB M ∧ (apB M = true → adUser (60 :: (M ++ [62])) 1 = adUser M 0 ∧ adDom (60 :: (M ++ [62])) 1 = adDom M 0) := by
  obtain ⟨e1, e2⟩ := ad_in M
  unfold ppB apB
  rw [e1]
  by_cases h : adOk M 0 = true
  · obtain ⟨e3, e4, e5, e6⟩ := e2 h
    refine ⟨?_, fun _ => ⟨e4, e5⟩⟩
    rw [e3]
    have hf : nextIs (60 :: (M ++ [62])) 0 60 = true := rfl
    rw [hf, h, Bool.true_and, Bool.true_and, Bool.true_and]
    by_cases hz : adEnd M 0 = M.length
    · rw [hz]
      have : nextIs (60 :: (M ++ [62])) (M.length + 1) 62 = true := by unfold nextIs; simp
      rw [this]
      simp
    · rw [decide_eq_false hz, decide_eq_false (by rw [List.length_cons, List.length_append]; simp; omega), Bool.and_false]
  · rw [Bool.eq_false_iff.2 h]
    refine ⟨?_, fun h => by cases h⟩
    rw [Bool.and_false]
    rfl
end
theorem pp_br {L : List UInt8} (h : ppB L = true) : brB L = true := by
  unfold ppB at h
  rw [Bool.and_eq_true, Bool.and_eq_true, Bool.and_eq_true, decide_eq_true_eq] at h
  obtain ⟨⟨⟨h1, h2⟩, h3⟩, h4⟩ := h
  unfold adOk at h2
  rw [Bool.and_eq_true, Bool.and_eq_true] at h2
  have h5 := nextIs_lt h2.1.2
  unfold brB
  rw [h1, decide_eq_true (by omega), ← h4, Nat.add_sub_cancel, h3]
  rfl
/-- The parts of a path. -/
def qU (L : List UInt8) : List UInt8 := if L = bare then [] else if brB L = true then pU (mid L) else []
def qD (L : List UInt8) : List UInt8 := if L = bare then [] else if brB L = true then pD (mid L) else []
theorem pa_eq (L : List UInt8) : ppA L = spP L ∧ (ppA L = true → pathU L = qU L ∧ pathD L = qD L) := by
  unfold ppA spP pathU pathD qU qD
  by_cases hb : L = bare
  · rw [decide_eq_true hb, if_pos hb, if_pos hb, if_pos hb, if_pos hb]
    exact ⟨rfl, fun _ => ⟨rfl, rfl⟩⟩
  · rw [decide_eq_false hb, if_neg hb, if_neg hb, if_neg hb, if_neg hb, Bool.false_or, Bool.false_or]
    by_cases hr : brB L = true
    · rw [hr, Bool.true_and, if_pos rfl, if_pos rfl]
      have hf := br_form hr
      obtain ⟨e1, e2⟩ := pp_in (mid L)
      rw [← hf] at e1 e2
      obtain ⟨e3, e4⟩ := ad_eq (mid L)
      refine ⟨e1.trans e3, fun h => ?_⟩
      have ha := e1 ▸ h
      have hs := e3 ▸ ha
      unfold pU pD
      rw [if_pos hs, if_pos hs]
      exact ⟨(e2 ha).1.trans (e4 ha).1, (e2 ha).2.trans (e4 ha).2⟩
    · have hp : ppB L = false := by
        rw [← Bool.not_eq_true]
        exact fun h => hr (pp_br h)
      rw [hp, Bool.eq_false_iff.2 hr]
      exact ⟨rfl, fun h => by cases h⟩
theorem q_no {L : List UInt8} (h : spP L = false) : qU L = [] ∧ qD L = [] := by
  unfold spP at h
  rw [Bool.or_eq_false_iff, decide_eq_false_iff_not] at h
  unfold qU qD
  rw [if_neg h.1, if_neg h.1]
  by_cases hr : brB L = true
  · rw [if_pos hr, if_pos hr]
    rw [hr, Bool.true_and] at h
    exact ⟨pU_no h.2, pD_no h.2⟩
  · rw [if_neg hr, if_neg hr]
    exact ⟨rfl, rfl⟩
theorem q_le (L : List UInt8) : (qU L).length ≤ L.length ∧ (qD L).length ≤ L.length := by
  have hm : (mid L).length ≤ L.length := by unfold mid; rw [List.length_take, List.length_drop]; omega
  have h1 := pU_le (mid L)
  have h2 := pD_le (mid L)
  unfold qU qD
  constructor
  · split
    · exact Nat.zero_le _
    · split
      · omega
      · exact Nat.zero_le _
  · split
    · exact Nat.zero_le _
    · split
      · omega
      · exact Nat.zero_le _
/-- A path that is not the one without an address is the text of an address in brackets. -/
theorem path_text {L : List UInt8} (h : spP L = true) (hb : ¬ L = bare) : L = 60 :: (adText (qU L) (qD L) ++ [62]) := by
  unfold spP at h
  rw [decide_eq_false hb, Bool.false_or, Bool.and_eq_true] at h
  unfold qU qD
  rw [if_neg hb, if_neg hb, if_pos h.1, if_pos h.1, ad_back h.2]
  exact br_form h.1
theorem sp_ne {L : List UInt8} (h : spB L = true) : ∀ x ∈ L, sgn x = true ∨ x = 46 ∨ x = 64 := by
  obtain ⟨u, d, _, rfl, h3, h4⟩ := sp_parts h
  intro x hx
  rcases List.mem_append.1 hx with hx | hx
  · exact .inl (List.all_eq_true.1 (nameB_iff.1 h3).1 x hx)
  · rcases List.mem_cons.1 hx with rfl | hx
    · exact .inr (.inr rfl)
    · by_cases h46 : x = 46
      · exact .inr (.inl h46)
      · obtain ⟨y, hy, hxy⟩ := cutGo_mem 46 d [] x (.inr hx) h46
        exact .inl (List.all_eq_true.1 (nameB_iff.1 (List.all_eq_true.1 (dom_parts h4).1 y hy)).1 x hxy)
theorem sp_no60 {L : List UInt8} (h : spB L = true) : ¬ (60 : UInt8) ∈ L := by
  intro hx
  rcases sp_ne h 60 hx with h | h | h
  · exact absurd h (by decide)
  · exact absurd h (by decide)
  · exact absurd h (by decide)
theorem sp_no62 {L : List UInt8} (h : spB L = true) : ¬ (62 : UInt8) ∈ L := by
  intro hx
  rcases sp_ne h 62 hx with h | h | h
  · exact absurd h (by decide)
  · exact absurd h (by decide)
  · exact absurd h (by decide)
theorem sp_pos {L : List UInt8} (h : spB L = true) : L ≠ [] := by
  obtain ⟨u, d, _, rfl, _, _⟩ := sp_parts h
  simp
/-- Each address has a path. -/
theorem path_of {L : List UInt8} (h : spB L = true) : spP (60 :: (L ++ [62])) = true ∧ qU (60 :: (L ++ [62])) = pU L ∧ qD (60 :: (L ++ [62])) = pD L := by
  obtain ⟨h1, h2⟩ := br_of L
  have hb : ¬ 60 :: (L ++ [62]) = bare := by
    unfold bare
    intro e
    rw [List.cons.injEq] at e
    have := congrArg List.length e.2
    have hp := sp_pos h
    simp at this
    exact hp this
  unfold spP qU qD
  rw [if_neg hb, if_neg hb, if_pos h1, if_pos h1, h1, h2, h]
  simp
theorem path_bare (L : List UInt8) (h : ¬ (60 : UInt8) ∈ L ∨ ¬ (62 : UInt8) ∈ L) : spP L = false := by
  unfold spP brB
  rw [Bool.or_eq_false_iff, decide_eq_false_iff_not]
  constructor
  · rintro rfl
    unfold bare at h
    simp at h
  · rcases h with h | h
    · rw [show nextIs L 0 60 = false from by rw [← Bool.not_eq_true]; exact fun hn => h (next_mem hn)]
      simp
    · rw [show nextIs L (L.length - 1) 62 = false from by rw [← Bool.not_eq_true]; exact fun hn => h (next_mem hn)]
      simp
theorem path_bare1 {L : List UInt8} (h : spB L = true) : spP L = false := path_bare L (.inl (sp_no60 h))
theorem path_bare2 {L : List UInt8} (h : spB L = true) : spP (60 :: L) = false := path_bare _ (.inr (by
  intro hx
  rcases List.mem_cons.1 hx with h1 | h1
  · exact absurd h1 (by decide)
  · exact sp_no62 h h1))
theorem path_bare3 {L : List UInt8} (h : spB L = true) : spP (L ++ [62]) = false := path_bare _ (.inl (by
  intro hx
  rcases List.mem_append.1 hx with h1 | h1
  · exact sp_no60 h h1
  · rcases List.mem_cons.1 h1 with h2 | h2
    · exact absurd h2 (by decide)
    · cases h2))
end Go.Proofs.Ytkhfflbgnojcfaa
