/-
  The plain mathematics of a submission: what a line does with it. Plain definitions and lemmas; no condition.
-/
import Derived.Test.YtjengfefedbhpaaUm
import Derived.Test.YtjengfefedbhpaaCm
import Derived.Test.YtjengfefedbhpaaCut
import Derived.Test.YtjengfefedbhpaaApath
namespace Go.Proofs.Ytjengfefedbhpaa
set_option linter.unusedVariables false

/-- A submission: its stage, its user, its receivers, its text. -/
structure Sb where
  st : Int
  us : ByteArray
  to : List ByteArray
  tx : ByteArray
def eB : ByteArray := ⟨#[]⟩
instance (x : ByteArray) (L : List ByteArray) : Decidable (x ∈ L) := @List.instDecidableMemOfLawfulBEq ByteArray instBEqOfDecidableEq inferInstance x L
/-- Different names. -/
def namesB (T : List ByteArray) : Bool := T.all (fun x => nameB (kb x)) && decide T.Nodup
/-- At most three different names. -/
def n21 (T : List ByteArray) : Bool := namesB T && decide (T.length ≤ 3)
/-- One to three different names. -/
def recB (T : List ByteArray) : Bool := n21 T && decide (1 ≤ T.length)
/-- A valid letter. -/
def letB (f : ByteArray) (T : List ByteArray) (x : ByteArray) : Bool := nameB (kb f) && (recB T && decide (x.size ≤ 20))
/-- A valid submission. -/
def sbV (s : Sb) : Bool :=
  if s.st = 0 ∨ s.st = 1 ∨ s.st = 6 then decide (s.us = eB) && (decide (s.to = []) && decide (s.tx = eB))
  else if s.st = 2 ∨ s.st = 3 then nameB (kb s.us) && (decide (s.to = []) && decide (s.tx = eB))
  else if s.st = 4 then nameB (kb s.us) && (recB s.to && decide (s.tx = eB))
  else if s.st = 5 then nameB (kb s.us) && (recB s.to && decide (s.tx.size ≤ 21))
  else false
theorem namesB_iff {T : List ByteArray} : namesB T = true ↔ (∀ x ∈ T, nameB (kb x) = true) ∧ T.Nodup := by
  unfold namesB
  simp [List.all_eq_true]
theorem namesB_nil : namesB [] = true := namesB_iff.2 ⟨fun x h => (by cases h), List.nodup_nil⟩
theorem namesB_next {T : List ByteArray} {k : Nat} {x : ByteArray} (h : namesB (T.take k) = true) (hx : T[k]? = some x) (hn : nameB (kb x) = true) (hm : decide (x ∈ T.take k) = false) : namesB (T.take (k + 1)) = true := by
  rw [tsnoc hx]
  obtain ⟨h1, h2⟩ := namesB_iff.1 h
  have hm' := of_decide_eq_false hm
  refine namesB_iff.2 ⟨fun y hy => ?_, ?_⟩
  · rcases List.mem_append.1 hy with h3 | h3
    · exact h1 y h3
    · simp at h3; rw [h3]; exact hn
  · rw [List.nodup_append]
    refine ⟨h2, by simp, fun a ha b hb => ?_⟩
    simp at hb
    subst hb
    rintro rfl
    exact hm' ha
theorem namesB_bad {T : List ByteArray} {k : Nat} {x : ByteArray} (hx : T[k]? = some x) (hn : nameB (kb x) = false) : namesB T = false := by
  cases h : namesB T with
  | false => rfl
  | true => have := (namesB_iff.1 h).1 x (List.mem_of_getElem? hx); rw [hn] at this; cases this
theorem namesB_twice {T : List ByteArray} {k : Nat} {x : ByteArray} (hx : T[k]? = some x) (hm : decide (x ∈ T.take k) = true) : namesB T = false := by
  cases h : namesB T with
  | false => rfl
  | true =>
    exfalso
    have h2 := (namesB_iff.1 h).2
    obtain ⟨hk, rfl⟩ := List.getElem?_eq_some_iff.1 hx
    have h3 : T = T.take k ++ T[k] :: T.drop (k + 1) := by
      conv => lhs; rw [← List.take_append_drop k T, List.drop_eq_getElem_cons hk]
    rw [h3, List.nodup_append] at h2
    exact h2.2.2 _ (of_decide_eq_true hm) _ (List.mem_cons_self) rfl
theorem n21_bad {T : List ByteArray} (h : namesB T = false) : n21 T = false := by unfold n21; rw [h]; rfl
theorem recB_bad {T : List ByteArray} (h : namesB T = false) : recB T = false := by unfold recB; rw [n21_bad h]; rfl
theorem recB_all {T : List ByteArray} {k : Nat} (h : namesB (T.take k) = true) (hk : T.length ≤ k) (h1 : 1 ≤ T.length) (h3 : T.length ≤ 3) : recB T = true := by
  rw [List.take_of_length_le hk] at h
  unfold recB n21
  rw [h, decide_eq_true h1, decide_eq_true h3]
  rfl
theorem n21_all {T : List ByteArray} {k : Nat} (h : namesB (T.take k) = true) (hk : T.length ≤ k) : n21 T = decide (T.length ≤ 3) := by
  rw [List.take_of_length_le hk] at h
  unfold n21
  rw [h]
  rfl
theorem recB_long {T : List ByteArray} (h : ¬ (1 ≤ T.length ∧ T.length ≤ 3)) : recB T = false := by
  unfold recB n21
  by_cases h1 : 1 ≤ T.length
  · rw [decide_eq_false (show ¬ T.length ≤ 3 by omega)]; simp
  · rw [decide_eq_false h1]; simp
theorem recB_parts {T : List ByteArray} (h : recB T = true) : namesB T = true ∧ 1 ≤ T.length ∧ T.length ≤ 3 := by
  unfold recB n21 at h
  simp at h
  exact ⟨h.1.1, h.2, h.1.2⟩
theorem n21_nil : n21 [] = true := rfl

/-- Going back. -/
def backF (s : Sb) : Sb := if 2 ≤ s.st then ⟨2, s.us, [], eB⟩ else ⟨s.st, eB, [], eB⟩
/-- The text after a line. -/
def addF (t l : ByteArray) : ByteArray := (t ++ (if l.data.toList.head? = some 46 then l.extract 1 l.size else l) ++ ⟨#[10]⟩).extract 0 21
def dataF (s : Sb) (l : ByteArray) : Sb × Int :=
  if l = ⟨#[46]⟩ then (backF s, if s.tx.size ≤ 20 then 250 else 552) else (⟨s.st, s.us, s.to, addF s.tx l⟩, 0)
/-- The words of a line. -/
def wdsF (l : ByteArray) : List ByteArray := (cut 32 (kb l)).map rB
theorem wdsF_len (l : ByteArray) : 1 ≤ (wdsF l).length ∧ (wdsF l).length ≤ l.size + 1 := by
  have := cut_len 32 (kb l)
  unfold wdsF
  rw [List.length_map]
  have e : (kb l).length = l.size := by unfold kb; simp
  omega
def helloF (s : Sb) (W : List ByteArray) : Sb × Int :=
  if W.length = 2 ∧ domB (kb (W.getD 1 eB)) = true then (backF ⟨if s.st = 0 then 1 else s.st, s.us, s.to, s.tx⟩, 250) else (s, 501)
/-- What UsersPlain tells of a text. -/
def IsUp (L : List Us) (t : ByteArray) (u : ByteArray) (o : Bool) : Prop := ∃ ok n p, IsPP t ok n p ∧ upU L n p ok = (u, o)
theorem isUp_any (L : List Us) (t : ByteArray) : ∃ u o, IsUp L t u o := by
  obtain ⟨ok, n, p, h⟩ := isPP_any t
  exact ⟨_, _, ok, n, p, h, rfl⟩
theorem isUp_one {L : List Us} {t u v : ByteArray} {o z : Bool} (h : IsUp L t u o) (k : IsUp L t v z) : u = v ∧ o = z := by
  obtain ⟨a, b, c, h1, h2⟩ := h
  obtain ⟨a', b', c', h3, h4⟩ := k
  obtain ⟨e1, e2, e3⟩ := isPP_one h1 h3
  subst e1 e2 e3
  rw [h2] at h4
  cases h4
  exact ⟨rfl, rfl⟩
def wEHLO : ByteArray := ⟨#[69, 72, 76, 79]⟩
def wAUTH : ByteArray := ⟨#[65, 85, 84, 72]⟩
def wMAIL : ByteArray := ⟨#[77, 65, 73, 76]⟩
def wRCPT : ByteArray := ⟨#[82, 67, 80, 84]⟩
def wDATA : ByteArray := ⟨#[68, 65, 84, 65]⟩
def wRSET : ByteArray := ⟨#[82, 83, 69, 84]⟩
def wNOOP : ByteArray := ⟨#[78, 79, 79, 80]⟩
def wQUIT : ByteArray := ⟨#[81, 85, 73, 84]⟩
def wPLAIN : ByteArray := ⟨#[80, 76, 65, 73, 78]⟩
/-- "MAIL FROM:" and "RCPT TO:". -/
def bMAIL : ByteArray := ⟨#[77, 65, 73, 76, 32, 70, 82, 79, 77, 58]⟩
def bRCPT : ByteArray := ⟨#[82, 67, 80, 84, 32, 84, 79, 58]⟩
def authF (s : Sb) (W : List ByteArray) (u : ByteArray) (o : Bool) : Sb × Int :=
  if s.st ≠ 1 then (s, 503) else if W.length = 3 ∧ W.getD 1 eB = wPLAIN then (if o = true then (⟨2, u, [], eB⟩, 235) else (s, 535)) else (s, 501)
/-- What follows a beginning. -/
def tlB (b l : ByteArray) : List UInt8 := (kb l).drop (kb b).length
def preB (b l : ByteArray) : Bool := decide ((kb l).take (kb b).length = kb b)
/-- Is there an address behind a beginning; its user and its domain. -/
def ptO (b l : ByteArray) : Bool := preB b l && (spP (tlB b l) && decide (qU (tlB b l) ≠ []))
def ptU (b l : ByteArray) : ByteArray := if preB b l = true then bs (qU (tlB b l)) else eB
def ptD (b l : ByteArray) : ByteArray := if preB b l = true then bs (qD (tlB b l)) else eB
def mailF (s : Sb) (d l : ByteArray) : Sb × Int :=
  if s.st < 2 then (s, 530) else if s.st ≠ 2 then (s, 503) else if ptO bMAIL l = false then (s, 501)
  else if ptU bMAIL l = s.us ∧ ptD bMAIL l = d then (⟨3, s.us, s.to, s.tx⟩, 250) else (s, 550)
def rcptF (s : Sb) (L : List Us) (d l : ByteArray) : Sb × Int :=
  if s.st ≠ 3 ∧ s.st ≠ 4 then (s, 503) else if ptO bRCPT l = false then (s, 501)
  else if ptD bRCPT l = d ∧ (fU L (ptU bRCPT l)).isSome = true then
    (if ptU bRCPT l ∈ s.to then (s, 250) else if 3 ≤ s.to.length then (s, 452) else (⟨4, s.us, s.to ++ [ptU bRCPT l], eB⟩, 250))
  else (s, 550)
def quitS : Sb := ⟨6, eB, [], eB⟩
def cmdF (s : Sb) (l : ByteArray) : Sb × Int :=
  if l = wDATA then (if s.st = 4 then (⟨5, s.us, s.to, s.tx⟩, 354) else (s, 503)) else if l = wRSET then (backF s, 250) else if l = wNOOP then (s, 250) else if l = wQUIT then (quitS, 221) else (s, 500)
/-- What a line does, and the reply; 'u', 'o': what UsersPlain tells of the third word. -/
def lineF (s : Sb) (L : List Us) (d l u : ByteArray) (o : Bool) : Sb × Int :=
  if s.st = 6 then (s, 503) else if s.st = 5 then dataF s l
  else if (wdsF l).getD 0 eB = wEHLO then helloF s (wdsF l) else if (wdsF l).getD 0 eB = wAUTH then authF s (wdsF l) u o
  else if (wdsF l).getD 0 eB = wMAIL then mailF s d l else if (wdsF l).getD 0 eB = wRCPT then rcptF s L d l else cmdF s l

theorem sbV_low {s : Sb} (h : s.st = 0 ∨ s.st = 1 ∨ s.st = 6) : sbV s = (decide (s.us = eB) && (decide (s.to = []) && decide (s.tx = eB))) := by unfold sbV; rw [if_pos h]
theorem sbV_mid {s : Sb} (h : s.st = 2 ∨ s.st = 3) : sbV s = (nameB (kb s.us) && (decide (s.to = []) && decide (s.tx = eB))) := by unfold sbV; rw [if_neg (by omega), if_pos h]
theorem sbV_to {s : Sb} (h : s.st = 4) : sbV s = (nameB (kb s.us) && (recB s.to && decide (s.tx = eB))) := by unfold sbV; rw [if_neg (by omega), if_neg (by omega), if_pos h]
theorem sbV_data {s : Sb} (h : s.st = 5) : sbV s = (nameB (kb s.us) && (recB s.to && decide (s.tx.size ≤ 21))) := by unfold sbV; rw [if_neg (by omega), if_neg (by omega), if_neg (by omega), if_pos h]
theorem sbV_off {s : Sb} (h : s.st < 0 ∨ 6 < s.st) : sbV s = false := by unfold sbV; rw [if_neg (by omega), if_neg (by omega), if_neg (by omega), if_neg (by omega)]
theorem sbV_range {s : Sb} (h : sbV s = true) : 0 ≤ s.st ∧ s.st ≤ 6 := by
  by_cases h1 : s.st < 0 ∨ 6 < s.st
  · rw [sbV_off h1] at h; cases h
  · omega
theorem eB_size : eB.size = 0 := rfl
theorem nm_size {n : ByteArray} (h : nameB (kb n) = true) : 1 ≤ n.size ∧ n.size ≤ 8 := by
  have h1 := nameB_iff.1 h
  have e : (kb n).length = n.size := by unfold kb; simp
  omega
/-- What a valid submission has. -/
theorem sbV_has {s : Sb} (h : sbV s = true) : s.us.size ≤ 8 ∧ s.to.length ≤ 3 ∧ (∀ x ∈ s.to, x.size ≤ 8) ∧ s.tx.size ≤ 21 ∧ (s.st ≠ 5 → s.tx = eB) ∧ (s.st ≠ 4 → s.st ≠ 5 → s.to = []) ∧ (s.st < 2 → s.us = eB) ∧ ((2 ≤ s.st ∧ s.st ≤ 5) → nameB (kb s.us) = true) ∧ (s.st = 6 → s.us = eB) := by
  obtain ⟨h0, h6⟩ := sbV_range h
  have hnil : ∀ T : List ByteArray, T = [] → T.length ≤ 3 ∧ ∀ x ∈ T, x.size ≤ 8 := fun T e => by subst e; exact ⟨by simp, fun x hx => by cases hx⟩
  have hrec : ∀ T : List ByteArray, recB T = true → T.length ≤ 3 ∧ ∀ x ∈ T, x.size ≤ 8 := fun T e => by
    obtain ⟨h1, h2, h3⟩ := recB_parts e
    exact ⟨h3, fun x hx => (nm_size ((namesB_iff.1 h1).1 x hx)).2⟩
  obtain ⟨st, us, to, tx⟩ := s
  simp only at *
  rcases (show (st = 0 ∨ st = 1 ∨ st = 6) ∨ (st = 2 ∨ st = 3) ∨ st = 4 ∨ st = 5 by omega) with h1 | h1 | h1 | h1
  · rw [sbV_low (by exact h1)] at h
    simp at h
    obtain ⟨rfl, rfl, rfl⟩ := h
    exact ⟨by rw [eB_size]; omega, (hnil _ rfl).1, (hnil _ rfl).2, by rw [eB_size]; omega, fun _ => rfl, fun _ _ => rfl, fun _ => rfl, fun h => by omega, fun _ => rfl⟩
  · rw [sbV_mid (by exact h1)] at h
    simp at h
    obtain ⟨hn, rfl, rfl⟩ := h
    exact ⟨(nm_size hn).2, (hnil _ rfl).1, (hnil _ rfl).2, by rw [eB_size]; omega, fun _ => rfl, fun _ _ => rfl, fun h => by omega, fun _ => hn, fun h => by omega⟩
  · rw [sbV_to (by exact h1)] at h
    simp at h
    obtain ⟨hn, hr, rfl⟩ := h
    exact ⟨(nm_size hn).2, (hrec _ hr).1, (hrec _ hr).2, by rw [eB_size]; omega, fun _ => rfl, fun h => absurd h1 h, fun h => by omega, fun _ => hn, fun h => by omega⟩
  · rw [sbV_data (by exact h1)] at h
    simp at h
    obtain ⟨hn, hr, ht⟩ := h
    exact ⟨(nm_size hn).2, (hrec _ hr).1, (hrec _ hr).2, ht, fun h => absurd h1 h, fun _ h => absurd h1 h, fun h => by omega, fun _ => hn, fun h => by omega⟩
theorem backF_valid {s : Sb} (h : sbV s = true) (h6 : s.st ≠ 6) : sbV (backF s) = true := by
  obtain ⟨h1, h2⟩ := sbV_range h
  obtain ⟨_, _, _, _, _, _, _, hn, _⟩ := sbV_has h
  unfold backF
  by_cases h3 : 2 ≤ s.st
  · rw [if_pos h3, sbV_mid (.inl rfl)]
    simp [hn ⟨h3, by omega⟩]
  · rw [if_neg h3, sbV_low (by simp only; omega)]
    simp
theorem addF_size (t l : ByteArray) : (addF t l).size ≤ 21 := by unfold addF; rw [ByteArray.size_extract]; omega
theorem pt_name {b l : ByteArray} (h : ptO b l = true) : nameB (kb (ptU b l)) = true ∧ domB (kb (ptD b l)) = true := by
  unfold ptO at h
  simp only [Bool.and_eq_true, decide_eq_true_eq] at h
  obtain ⟨h1, h2, h3⟩ := h
  unfold ptU ptD
  rw [if_pos h1, if_pos h1]
  unfold kb
  rw [bs_list, bs_list]
  unfold spP at h2
  unfold qU at h3 ⊢
  unfold qD
  by_cases hb : tlB b l = bare
  · rw [if_pos hb] at h3; exact absurd rfl h3
  · rw [decide_eq_false hb, Bool.false_or, Bool.and_eq_true] at h2
    rw [if_neg hb, if_neg hb, if_pos h2.1, if_pos h2.1]
    obtain ⟨u, d, e1, e2, e3, e4⟩ := sp_parts h2.2
    unfold pU pD
    rw [if_pos h2.2, if_pos h2.2, e1]
    exact ⟨e3, e4⟩
theorem isUp_name {L : List Us} {t u : ByteArray} (h : IsUp L t u true) : nameB (kb u) = true := by
  obtain ⟨ok, n, p, h1, h2⟩ := h
  unfold upU at h2
  split at h2
  · rename_i h3
    cases h2
    simp at h3
    obtain ⟨_, _, h4, _⟩ := prU_true h3.2
    exact h4
  · cases h2
/-- A line leaves a valid submission. -/
theorem lineF_valid {s : Sb} {L : List Us} {d l u : ByteArray} {o : Bool} (h : sbV s = true) (hu : o = true → nameB (kb u) = true) : sbV (lineF s L d l u o).1 = true := by
  obtain ⟨h0, h6⟩ := sbV_range h
  obtain ⟨k1, k2, k3, k4, k5, k6, k7, k8, k9⟩ := sbV_has h
  unfold lineF
  split
  · exact h
  rename_i n6
  split
  · rename_i n5
    unfold dataF
    split
    · exact backF_valid h n6
    · rw [sbV_data n5] at h
      simp at h
      rw [sbV_data (by exact n5)]
      simp [h.1, h.2.1, addF_size]
  rename_i n5
  have e5 := k5 n5
  split
  · unfold helloF
    split
    · unfold backF
      have hs : (if s.st = 0 then (1 : Int) else s.st) ≠ 6 := by split <;> omega
      by_cases h2 : 2 ≤ s.st
      · rw [if_neg (show ¬ s.st = 0 by omega), if_pos h2, sbV_mid (.inl rfl)]
        simp [k8 ⟨h2, by omega⟩]
      · have h3 : (if s.st = 0 then (1 : Int) else s.st) = 1 := by split <;> omega
        rw [h3, if_neg (show ¬ (2 : Int) ≤ 1 by omega), sbV_low (.inr (.inl rfl))]
        simp
    · exact h
  split
  · unfold authF
    split
    · exact h
    split
    · split
      · rename_i ho
        rw [sbV_mid (.inl rfl)]
        simp [hu ho]
      · exact h
    · exact h
  split
  · unfold mailF
    split
    · exact h
    split
    · exact h
    rename_i n2
    split
    · exact h
    split
    · have hst : s.st = 2 := by omega
      rw [sbV_mid (.inl hst)] at h
      rw [sbV_mid (.inr rfl)]
      exact h
    · exact h
  split
  · unfold rcptF
    split
    · exact h
    rename_i n3
    split
    · exact h
    rename_i npt
    have hpt : ptO bRCPT l = true := by simpa using npt
    split
    · split
      · exact h
      rename_i nin
      split
      · exact h
      rename_i nl
      have hn := k8 (by omega)
      rw [sbV_to rfl]
      simp only [hn, Bool.true_and, decide_true, Bool.and_true]
      have hT : namesB s.to = true := by
        rcases (show s.st = 3 ∨ s.st = 4 by omega) with h4 | h4
        · rw [k6 (by omega) (by omega)]; exact namesB_nil
        · rw [sbV_to h4] at h
          simp at h
          exact (recB_parts h.2.1).1
      obtain ⟨q1, q2⟩ := namesB_iff.1 hT
      have h5 : namesB (s.to ++ [ptU bRCPT l]) = true := by
        refine namesB_iff.2 ⟨fun x hx => ?_, ?_⟩
        · rcases List.mem_append.1 hx with h6 | h6
          · exact q1 x h6
          · simp at h6; rw [h6]; exact (pt_name hpt).1
        · rw [List.nodup_append]
          refine ⟨q2, by simp, fun a ha b hb => ?_⟩
          simp at hb
          subst hb
          rintro rfl
          exact nin ha
      refine (by unfold recB n21; rw [h5]; simp; omega)
    · exact h
  unfold cmdF
  split
  · split
    · rename_i h4
      rw [sbV_to h4] at h
      simp at h
      rw [sbV_data rfl]
      simp [h.1, h.2.1, h.2.2, eB_size]
    · exact h
  split
  · exact backF_valid h n6
  split
  · exact h
  split
  · rfl
  · exact h
end Go.Proofs.Ytjengfefedbhpaa
