/-
  My texts Tm, Tr, Tsp, Tshl, Tsh, Lat, Ta, Tb in one, so that a claim holds fewer files. Conditions: each contract's own.
-/
import Derived.Test.YtichajalinkcdaaQc
import Derived.Shelf.Strings.Split
import Derived.Shelf.Slices.Turned
import Derived.Ground.Names2Prog
import Derived.Shelf.Slices.Clone
import Derived.Test.YtichajalinkcdaaProg
import Derived.BigQuiet
import Derived.Deep.RegionHeld3
namespace Go.Proofs.Ytichajalinkcdaa
set_option linter.unusedVariables false

/-- A submission: its stage, its user, its receivers, its text. -/
structure Sb where
  st : Int
  us : ByteArray
  to : List ByteArray
  tx : ByteArray
def eB : ByteArray := ⟨#[]⟩
instance (x : ByteArray) (L : List ByteArray) : Decidable (x ∈ L) := @List.instDecidableMemOfLawfulBEq ByteArray instBEqOfDecidableEq inferInstance x L
/-- Different names. -/
def namesB (T : List ByteArray) : Bool := T.all (fun x => nameB (kb x)) && decide T.Nodup
/-- At most three different names. -/
def n21 (T : List ByteArray) : Bool := namesB T && decide (T.length ≤ 3)
/-- One to three different names. -/
def recB (T : List ByteArray) : Bool := n21 T && decide (1 ≤ T.length)
/-- A valid letter. -/
def letB (f : ByteArray) (T : List ByteArray) (x : ByteArray) : Bool := nameB (kb f) && (recB T && decide (x.size ≤ 20))
/-- A valid submission. -/
def sbV (s : Sb) : Bool :=
  if s.st = 0 ∨ s.st = 1 ∨ s.st = 6 then decide (s.us = eB) && (decide (s.to = []) && decide (s.tx = eB))
  else if s.st = 2 ∨ s.st = 3 then nameB (kb s.us) && (decide (s.to = []) && decide (s.tx = eB))
  else if s.st = 4 then nameB (kb s.us) && (recB s.to && decide (s.tx = eB))
  else if s.st = 5 then nameB (kb s.us) && (recB s.to && decide (s.tx.size ≤ 21))
  else false
theorem namesB_iff {T : List ByteArray} : namesB T = true ↔ (∀ x ∈ T, nameB (kb x) = true) ∧ T.Nodup := by
  unfold namesB
  simp [List.all_eq_true]
theorem namesB_nil : namesB [] = true := namesB_iff.2 ⟨fun x h => (by cases h), List.nodup_nil⟩
theorem namesB_next {T : List ByteArray} {k : Nat} {x : ByteArray} (h : namesB (T.take k) = true) (hx : T[k]? = some x) (hn : nameB (kb x) = true) (hm : decide (x ∈ T.take k) = false) : namesB (T.take (k + 1)) = true := by
  rw [tsnoc hx]
  obtain ⟨h1, h2⟩ := namesB_iff.1 h
  have hm' := of_decide_eq_false hm
  refine namesB_iff.2 ⟨fun y hy => ?_, ?_⟩
  · rcases List.mem_append.1 hy with h3 | h3
    · exact h1 y h3
    · simp at h3; rw [h3]; exact hn
  · rw [List.nodup_append]
    refine ⟨h2, by simp, fun a ha b hb => ?_⟩
    simp at hb
    subst hb
    rintro rfl
    exact hm' ha
theorem namesB_bad {T : List ByteArray} {k : Nat} {x : ByteArray} (hx : T[k]? = some x) (hn : nameB (kb x) = false) : namesB T = false := by
  cases h : namesB T with
  | false => rfl
  | true => have := (namesB_iff.1 h).1 x (List.mem_of_getElem? hx); rw [hn] at this; cases this
theorem namesB_twice {T : List ByteArray} {k : Nat} {x : ByteArray} (hx : T[k]? = some x) (hm : decide (x ∈ T.take k) = true) : namesB T = false := by
  cases h : namesB T with
  | false => rfl
  | true =>
    exfalso
    have h2 := (namesB_iff.1 h).2
    obtain ⟨hk, rfl⟩ := List.getElem?_eq_some_iff.1 hx
    have h3 : T = T.take k ++ T[k] :: T.drop (k + 1) := by
      conv => lhs; rw [← List.take_append_drop k T, List.drop_eq_getElem_cons hk]
    rw [h3, List.nodup_append] at h2
    exact h2.2.2 _ (of_decide_eq_true hm) _ (List.mem_cons_self) rfl
theorem n21_bad {T : List ByteArray} (h : namesB T = false) : n21 T = false := by unfold n21; rw [h]; rfl
theorem recB_bad {T : List ByteArray} (h : namesB T = false) : recB T = false := by unfold recB; rw [n21_bad h]; rfl
theorem recB_all {T : List ByteArray} {k : Nat} (h : namesB (T.take k) = true) (hk : T.length ≤ k) (h1 : 1 ≤ T.length) (h3 : T.length ≤ 3) : recB T = true := by
  rw [List.take_of_length_le hk] at h
  unfold recB n21
  rw [h, decide_eq_true h1, decide_eq_true h3]
  rfl
theorem n21_all {T : List ByteArray} {k : Nat} (h : namesB (T.take k) = true) (hk : T.length ≤ k) : n21 T = decide (T.length ≤ 3) := by
  rw [List.take_of_length_le hk] at h
  unfold n21
  rw [h]
  rfl
theorem recB_long {T : List ByteArray} (h : ¬ (1 ≤ T.length ∧ T.length ≤ 3)) : recB T = false := by
  unfold recB n21
  by_cases h1 : 1 ≤ T.length
  · rw [decide_eq_false (show ¬ T.length ≤ 3 by omega)]; simp
  · rw [decide_eq_false h1]; simp
theorem recB_parts {T : List ByteArray} (h : recB T = true) : namesB T = true ∧ 1 ≤ T.length ∧ T.length ≤ 3 := by
  unfold recB n21 at h
  simp at h
  exact ⟨h.1.1, h.2, h.1.2⟩
theorem n21_nil : n21 [] = true := rfl

/-- Going back. -/
def backF (s : Sb) : Sb := if 2 ≤ s.st then ⟨2, s.us, [], eB⟩ else ⟨s.st, eB, [], eB⟩
/-- The text after a line. -/
def addF (t l : ByteArray) : ByteArray := (t ++ (if l.data.toList.head? = some 46 then l.extract 1 l.size else l) ++ ⟨#[10]⟩).extract 0 21
def dataF (s : Sb) (l : ByteArray) : Sb × Int :=
  if l = ⟨#[46]⟩ then (backF s, if s.tx.size ≤ 20 then 250 else 552) else (⟨s.st, s.us, s.to, addF s.tx l⟩, 0)
/-- The words of a line. -/
def wdsF (l : ByteArray) : List ByteArray := (cut 32 (kb l)).map rB
theorem wdsF_len (l : ByteArray) : 1 ≤ (wdsF l).length ∧ (wdsF l).length ≤ l.size + 1 := by
  have := cut_len 32 (kb l)
  unfold wdsF
  rw [List.length_map]
  have e : (kb l).length = l.size := by unfold kb; simp
  omega
def helloF (s : Sb) (W : List ByteArray) : Sb × Int :=
  if W.length = 2 ∧ domB (kb (W.getD 1 eB)) = true then (backF ⟨if s.st = 0 then 1 else s.st, s.us, s.to, s.tx⟩, 250) else (s, 501)
/-- What UsersPlain tells of a text. -/
def IsUp (L : List Us) (t : ByteArray) (u : ByteArray) (o : Bool) : Prop := ∃ ok n p, IsPP t ok n p ∧ upU L n p ok = (u, o)
theorem isUp_any (L : List Us) (t : ByteArray) : ∃ u o, IsUp L t u o := by
  obtain ⟨ok, n, p, h⟩ := isPP_any t
  exact ⟨_, _, ok, n, p, h, rfl⟩
theorem isUp_one {L : List Us} {t u v : ByteArray} {o z : Bool} (h : IsUp L t u o) (k : IsUp L t v z) : u = v ∧ o = z := by
  obtain ⟨a, b, c, h1, h2⟩ := h
  obtain ⟨a', b', c', h3, h4⟩ := k
  obtain ⟨e1, e2, e3⟩ := isPP_one h1 h3
  subst e1 e2 e3
  rw [h2] at h4
  cases h4
  exact ⟨rfl, rfl⟩
def wEHLO : ByteArray := ⟨#[69, 72, 76, 79]⟩
def wAUTH : ByteArray := ⟨#[65, 85, 84, 72]⟩
def wMAIL : ByteArray := ⟨#[77, 65, 73, 76]⟩
def wRCPT : ByteArray := ⟨#[82, 67, 80, 84]⟩
def wDATA : ByteArray := ⟨#[68, 65, 84, 65]⟩
def wRSET : ByteArray := ⟨#[82, 83, 69, 84]⟩
def wNOOP : ByteArray := ⟨#[78, 79, 79, 80]⟩
def wQUIT : ByteArray := ⟨#[81, 85, 73, 84]⟩
def wPLAIN : ByteArray := ⟨#[80, 76, 65, 73, 78]⟩
/-- "MAIL FROM:" and "RCPT TO:". -/
def bMAIL : ByteArray := ⟨#[77, 65, 73, 76, 32, 70, 82, 79, 77, 58]⟩
def bRCPT : ByteArray := ⟨#[82, 67, 80, 84, 32, 84, 79, 58]⟩
def authF (s : Sb) (W : List ByteArray) (u : ByteArray) (o : Bool) : Sb × Int :=
  if s.st ≠ 1 then (s, 503) else if W.length = 3 ∧ W.getD 1 eB = wPLAIN then (if o = true then (⟨2, u, [], eB⟩, 235) else (s, 535)) else (s, 501)
/-- What follows a beginning. -/
def tlB (b l : ByteArray) : List UInt8 := (kb l).drop (kb b).length
def preB (b l : ByteArray) : Bool := decide ((kb l).take (kb b).length = kb b)
/-- Is there an address behind a beginning; its user and its domain. -/
def ptO (b l : ByteArray) : Bool := preB b l && (spP (tlB b l) && decide (qU (tlB b l) ≠ []))
def ptU (b l : ByteArray) : ByteArray := if preB b l = true then bs (qU (tlB b l)) else eB
def ptD (b l : ByteArray) : ByteArray := if preB b l = true then bs (qD (tlB b l)) else eB
def mailF (s : Sb) (d l : ByteArray) : Sb × Int :=
  if s.st < 2 then (s, 530) else if s.st ≠ 2 then (s, 503) else if ptO bMAIL l = false then (s, 501)
  else if ptU bMAIL l = s.us ∧ ptD bMAIL l = d then (⟨3, s.us, s.to, s.tx⟩, 250) else (s, 550)
def rcptF (s : Sb) (L : List Us) (d l : ByteArray) : Sb × Int :=
  if s.st ≠ 3 ∧ s.st ≠ 4 then (s, 503) else if ptO bRCPT l = false then (s, 501)
  else if ptD bRCPT l = d ∧ (fU L (ptU bRCPT l)).isSome = true then
    (if ptU bRCPT l ∈ s.to then (s, 250) else if 3 ≤ s.to.length then (s, 452) else (⟨4, s.us, s.to ++ [ptU bRCPT l], eB⟩, 250))
  else (s, 550)
def quitS : Sb := ⟨6, eB, [], eB⟩
def cmdF (s : Sb) (l : ByteArray) : Sb × Int :=
  if l = wDATA then (if s.st = 4 then (⟨5, s.us, s.to, s.tx⟩, 354) else (s, 503)) else if l = wRSET then (backF s, 250) else if l = wNOOP then (s, 250) else if l = wQUIT then (quitS, 221) else (s, 500)
/-- What a line does, and the reply; 'u', 'o': what UsersPlain tells of the third word. -/
def lineF (s : Sb) (L : List Us) (d l u : ByteArray) (o : Bool) : Sb × Int :=
  if s.st = 6 then (s, 503) else if s.st = 5 then dataF s l
  else if (wdsF l).getD 0 eB = wEHLO then helloF s (wdsF l) else if (wdsF l).getD 0 eB = wAUTH then authF s (wdsF l) u o
  else if (wdsF l).getD 0 eB = wMAIL then mailF s d l else if (wdsF l).getD 0 eB = wRCPT then rcptF s L d l else cmdF s l

theorem sbV_low {s : Sb} (h : s.st = 0 ∨ s.st = 1 ∨ s.st = 6) : sbV s = (decide (s.us = eB) && (decide (s.to = []) && decide (s.tx = eB))) := by unfold sbV; rw [if_pos h]
theorem sbV_mid {s : Sb} (h : s.st = 2 ∨ s.st = 3) : sbV s = (nameB (kb s.us) && (decide (s.to = []) && decide (s.tx = eB))) := by unfold sbV; rw [if_neg (by omega), if_pos h]
theorem sbV_to {s : Sb} (h : s.st = 4) : sbV s = (nameB (kb s.us) && (recB s.to && decide (s.tx = eB))) := by unfold sbV; rw [if_neg (by omega), if_neg (by omega), if_pos h]
theorem sbV_data {s : Sb} (h : s.st = 5) : sbV s = (nameB (kb s.us) && (recB s.to && decide (s.tx.size ≤ 21))) := by unfold sbV; rw [if_neg (by omega), if_neg (by omega), if_neg (by omega), if_pos h]
theorem sbV_off {s : Sb} (h : s.st < 0 ∨ 6 < s.st) : sbV s = false := by unfold sbV; rw [if_neg (by omega), if_neg (by omega), if_neg (by omega), if_neg (by omega)]
theorem sbV_range {s : Sb} (h : sbV s = true) : 0 ≤ s.st ∧ s.st ≤ 6 := by
  by_cases h1 : s.st < 0 ∨ 6 < s.st
  · rw [sbV_off h1] at h; cases h
  · omega
theorem eB_size : eB.size = 0 := rfl
theorem nm_size {n : ByteArray} (h : nameB (kb n) = true) : 1 ≤ n.size ∧ n.size ≤ 8 := by
  have h1 := nameB_iff.1 h
  have e : (kb n).length = n.size := by unfold kb; simp
  omega
/-- What a valid submission has. -/
theorem sbV_has {s : Sb} (h : sbV s = true) : s.us.size ≤ 8 ∧ s.to.length ≤ 3 ∧ (∀ x ∈ s.to, x.size ≤ 8) ∧ s.tx.size ≤ 21 ∧ (s.st ≠ 5 → s.tx = eB) ∧ (s.st ≠ 4 → s.st ≠ 5 → s.to = []) ∧ (s.st < 2 → s.us = eB) ∧ ((2 ≤ s.st ∧ s.st ≤ 5) → nameB (kb s.us) = true) ∧ (s.st = 6 → s.us = eB) := by
  obtain ⟨h0, h6⟩ := sbV_range h
  have hnil : ∀ T : List ByteArray, T = [] → T.length ≤ 3 ∧ ∀ x ∈ T, x.size ≤ 8 := fun T e => by subst e; exact ⟨by simp, fun x hx => by cases hx⟩
  have hrec : ∀ T : List ByteArray, recB T = true → T.length ≤ 3 ∧ ∀ x ∈ T, x.size ≤ 8 := fun T e => by
    obtain ⟨h1, h2, h3⟩ := recB_parts e
    exact ⟨h3, fun x hx => (nm_size ((namesB_iff.1 h1).1 x hx)).2⟩
  obtain ⟨st, us, to, tx⟩ := s
  simp only at *
  rcases (show (st = 0 ∨ st = 1 ∨ st = 6) ∨ (st = 2 ∨ st = 3) ∨ st = 4 ∨ st = 5 by omega) with h1 | h1 | h1 | h1
  · rw [sbV_low (by exact h1)] at h
    simp at h
    obtain ⟨rfl, rfl, rfl⟩ := h
    exact ⟨by rw [eB_size]; omega, (hnil _ rfl).1, (hnil _ rfl).2, by rw [eB_size]; omega, fun _ => rfl, fun _ _ => rfl, fun _ => rfl, fun h => by omega, fun _ => rfl⟩
  · rw [sbV_mid (by exact h1)] at h
    simp at h
    obtain ⟨hn, rfl, rfl⟩ := h
    exact ⟨(nm_size hn).2, (hnil _ rfl).1, (hnil _ rfl).2, by rw [eB_size]; omega, fun _ => rfl, fun _ _ => rfl, fun h => by omega, fun _ => hn, fun h => by omega⟩
  · rw [sbV_to (by exact h1)] at h
    simp at h
    obtain ⟨hn, hr, rfl⟩ := h
    exact ⟨(nm_size hn).2, (hrec _ hr).1, (hrec _ hr).2, by rw [eB_size]; omega, fun _ => rfl, fun h => absurd h1 h, fun h => by omega, fun _ => hn, fun h => by omega⟩
  · rw [sbV_data (by exact h1)] at h
    simp at h
    obtain ⟨hn, hr, ht⟩ := h
    exact ⟨(nm_size hn).2, (hrec _ hr).1, (hrec _ hr).2, ht, fun h => absurd h1 h, fun _ h => absurd h1 h, fun h => by omega, fun _ => hn, fun h => by omega⟩
theorem backF_valid {s : Sb} (h : sbV s = true) (h6 : s.st ≠ 6) : sbV (backF s) = true := by
  obtain ⟨h1, h2⟩ := sbV_range h
  obtain ⟨_, _, _, _, _, _, _, hn, _⟩ := sbV_has h
  unfold backF
  by_cases h3 : 2 ≤ s.st
  · rw [if_pos h3, sbV_mid (.inl rfl)]
    simp [hn ⟨h3, by omega⟩]
  · rw [if_neg h3, sbV_low (by simp only; omega)]
    simp
theorem addF_size (t l : ByteArray) : (addF t l).size ≤ 21 := by unfold addF; rw [ByteArray.size_extract]; omega
theorem pt_name {b l : ByteArray} (h : ptO b l = true) : nameB (kb (ptU b l)) = true ∧ domB (kb (ptD b l)) = true := by
  unfold ptO at h
  simp only [Bool.and_eq_true, decide_eq_true_eq] at h
  obtain ⟨h1, h2, h3⟩ := h
  unfold ptU ptD
  rw [if_pos h1, if_pos h1]
  unfold kb
  rw [bs_list, bs_list]
  unfold spP at h2
  unfold qU at h3 ⊢
  unfold qD
  by_cases hb : tlB b l = bare
  · rw [if_pos hb] at h3; exact absurd rfl h3
  · rw [decide_eq_false hb, Bool.false_or, Bool.and_eq_true] at h2
    rw [if_neg hb, if_neg hb, if_pos h2.1, if_pos h2.1]
    obtain ⟨u, d, e1, e2, e3, e4⟩ := sp_parts h2.2
    unfold pU pD
    rw [if_pos h2.2, if_pos h2.2, e1]
    exact ⟨e3, e4⟩
theorem isUp_name {L : List Us} {t u : ByteArray} (h : IsUp L t u true) : nameB (kb u) = true := by
  obtain ⟨ok, n, p, h1, h2⟩ := h
  unfold upU at h2
  split at h2
  · rename_i h3
    cases h2
    simp at h3
    obtain ⟨_, _, h4, _⟩ := prU_true h3.2
    exact h4
  · cases h2
/-- A line leaves a valid submission. -/
theorem lineF_valid {s : Sb} {L : List Us} {d l u : ByteArray} {o : Bool} (h : sbV s = true) (hu : o = true → nameB (kb u) = true) : sbV (lineF s L d l u o).1 = true := by
  obtain ⟨h0, h6⟩ := sbV_range h
  obtain ⟨k1, k2, k3, k4, k5, k6, k7, k8, k9⟩ := sbV_has h
  unfold lineF
  split
  · exact h
  rename_i n6
  split
  · rename_i n5
    unfold dataF
    split
    · exact backF_valid h n6
    · rw [sbV_data n5] at h
      simp at h
      rw [sbV_data (by exact n5)]
      simp [h.1, h.2.1, addF_size]
  rename_i n5
  have e5 := k5 n5
  split
  · unfold helloF
    split
    · unfold backF
      have hs : (if s.st = 0 then (1 : Int) else s.st) ≠ 6 := by split <;> omega
      by_cases h2 : 2 ≤ s.st
      · rw [if_neg (show ¬ s.st = 0 by omega), if_pos h2, sbV_mid (.inl rfl)]
        simp [k8 ⟨h2, by omega⟩]
      · have h3 : (if s.st = 0 then (1 : Int) else s.st) = 1 := by split <;> omega
        rw [h3, if_neg (show ¬ (2 : Int) ≤ 1 by omega), sbV_low (.inr (.inl rfl))]
        simp
    · exact h
  split
  · unfold authF
    split
    · exact h
    split
    · split
      · rename_i ho
        rw [sbV_mid (.inl rfl)]
        simp [hu ho]
      · exact h
    · exact h
  split
  · unfold mailF
    split
    · exact h
    split
    · exact h
    rename_i n2
    split
    · exact h
    split
    · have hst : s.st = 2 := by omega
      rw [sbV_mid (.inl hst)] at h
      rw [sbV_mid (.inr rfl)]
      exact h
    · exact h
  split
  · unfold rcptF
    split
    · exact h
    rename_i n3
    split
    · exact h
    rename_i npt
    have hpt : ptO bRCPT l = true := by simpa using npt
    split
    · split
      · exact h
      rename_i nin
      split
      · exact h
      rename_i nl
      have hn := k8 (by omega)
      rw [sbV_to rfl]
      simp only [hn, Bool.true_and, decide_true, Bool.and_true]
      have hT : namesB s.to = true := by
        rcases (show s.st = 3 ∨ s.st = 4 by omega) with h4 | h4
        · rw [k6 (by omega) (by omega)]; exact namesB_nil
        · rw [sbV_to h4] at h
          simp at h
          exact (recB_parts h.2.1).1
      obtain ⟨q1, q2⟩ := namesB_iff.1 hT
      have h5 : namesB (s.to ++ [ptU bRCPT l]) = true := by
        refine namesB_iff.2 ⟨fun x hx => ?_, ?_⟩
        · rcases List.mem_append.1 hx with h6 | h6
          · exact q1 x h6
          · simp at h6; rw [h6]; exact (pt_name hpt).1
        · rw [List.nodup_append]
          refine ⟨q2, by simp, fun a ha b hb => ?_⟩
          simp at hb
          subst hb
          rintro rfl
          exact nin ha
      refine (by unfold recB n21; rw [h5]; simp; omega)
    · exact h
  unfold cmdF
  split
  · split
    · rename_i h4
      rw [sbV_to h4] at h
      simp at h
      rw [sbV_data rfl]
      simp [h.1, h.2.1, h.2.2, eB_size]
    · exact h
  split
  · exact backF_valid h n6
  split
  · exact h
  split
  · rfl
  · exact h
end Go.Proofs.Ytichajalinkcdaa
namespace Go.Proofs.Ytichajalinkcdaa
open Go.RowKit
set_option linter.unusedVariables false

def stR : RowT ByteArray where
  t := 9
  sz := 1
  enc := fun g => [.string g]
  len := fun _ => rfl
  one := fun x u hu => by
    simp at hu
    subst hu
    rfl
theorem str_at {w : World} {A : Option Addr} {L : List ByteArray} {k : Nat} {x : ByteArray} (h : RAt stR w A L) (hx : L[k]? = some x) :
    ∃ b o, A = some ⟨b, o, none⟩ ∧ b < w.heap.size ∧ w.cell? ⟨b, o + k, none⟩ = some (.string x) := by
  obtain ⟨b, o, hA, hb, h1⟩ := h k _ hx
  have := h1 0 _ rfl
  simp only [stR, Nat.mul_one, Nat.add_zero] at this
  exact ⟨b, o, hA, hb, this⟩
/-- A slice of texts that came in. -/
def SIn (w : World) (A : Option Addr) (N cap : Nat) (L : List ByteArray) : Prop := L.length = N ∧ N ≤ 4194304 ∧ RAt stR w A L ∧ (A = none → cap = 0) ∧ (∀ q, A = some q → q.spot = none) ∧ (∀ g ∈ L, g.size ≤ 16777216) ∧ N ≤ cap ∧ (∀ q, A = some q → q.block < w.heap.size)
theorem SIn.below {w w' : World} {A : Option Addr} {N cap B : Nat} {L : List ByteArray} (h : SIn w A N cap L) (hb : Below B w w') (hB : w.heap.size ≤ B) : SIn w' A N cap L := ⟨h.1, h.2.1, h.2.2.1.below hb hB, h.2.2.2.1, h.2.2.2.2.1, h.2.2.2.2.2.1, h.2.2.2.2.2.2.1, fun q e => Nat.lt_of_lt_of_le (h.2.2.2.2.2.2.2 q e) hb.size⟩
theorem SIn.made {w : World} {B N cap : Nat} {A : Option Addr} {L : List ByteArray} (h : ROwn stR w B (.slice A N cap) L) (hl : L.length ≤ 4194304) (hs : ∀ g ∈ L, g.size ≤ 16777216) : SIn w A N cap L := ⟨h.len.1.symm, h.len.1 ▸ hl, h.at, h.nilcap, h.spot, hs, h.len.2.1, fun q e => by
  subst e
  obtain ⟨A', c', he, _, _, _, hb, _⟩ := h.form
  cases he
  rcases h.2 with ⟨he, _⟩ | ⟨g, c, cur, he, _⟩
  · cases he
  · cases he
    exact (World.ownsRow.lt h g rfl).2⟩
theorem SIn.nil (w : World) : SIn w none 0 0 [] := ⟨rfl, by omega, RAt.nil _ _, fun _ => rfl, fun q h => (by cases h), fun g h => (by cases h), by omega, fun q h => (by cases h)⟩
theorem SIn.front {w : World} {A : Option Addr} {N cap k : Nat} {L : List ByteArray} (h : SIn w A N cap L) (hk : k ≤ N) : SIn w A k cap (L.take k) := ⟨by rw [List.length_take, h.1]; omega, by have := h.2.1; omega, h.2.2.1.take k, h.2.2.2.1, h.2.2.2.2.1, fun g hg => h.2.2.2.2.2.1 g (List.mem_of_mem_take hg), by have := h.2.2.2.2.2.2.1; omega, h.2.2.2.2.2.2.2⟩
theorem SIn.lt {w : World} {A : Option Addr} {N cap : Nat} {L : List ByteArray} (h : SIn w A N cap L) : ∀ q, A = some q → q.block < w.heap.size := h.2.2.2.2.2.2.2
/-- Texts that can be read, no more. -/
def WIn (w : World) (A : Option Addr) (N : Nat) (L : List ByteArray) : Prop := L.length = N ∧ RAt stR w A L
theorem WIn.below {w w' : World} {A : Option Addr} {N B : Nat} {L : List ByteArray} (h : WIn w A N L) (hb : Below B w w') (hB : w.heap.size ≤ B) : WIn w' A N L := ⟨h.1, h.2.below hb hB⟩
theorem mem_here {L : List ByteArray} {k : Nat} {x n : ByteArray} (hx : L[k]? = some x) (hn : x = n) : decide (n ∈ L) = true := decide_eq_true (hn ▸ List.mem_of_getElem? hx)
theorem mem_step {L : List ByteArray} {k : Nat} {x n : ByteArray} (h : ¬ n ∈ L.take k) (hx : L[k]? = some x) (hn : x ≠ n) : ¬ n ∈ L.take (k + 1) := by
  rw [tsnoc hx]
  simp
  exact ⟨h, fun e => hn e.symm⟩
end Go.Proofs.Ytichajalinkcdaa
namespace Go.Proofs.Ytichajalinkcdaa
set_option linter.unusedVariables false

theorem splitK_one (c : UInt8) (l : List UInt8) : ∃ p ps, Lib.splitK [c] 0 (l.count c) l = p :: ps ∧ ∀ cur, cutGo c cur l = (cur ++ p) :: ps := by
  induction l with
  | nil => exact ⟨[], [], rfl, fun cur => by simp [cutGo]⟩
  | cons x l ih =>
    obtain ⟨p, ps, h1, h2⟩ := ih
    by_cases hx : x = c
    · subst hx
      refine ⟨[], p :: ps, ?_, fun cur => ?_⟩
      · have hi : Lib.index (x :: l) [x] = 0 := by
          rw [Lib.index_one]
          unfold Lib.indexByte
          simp
        rw [List.count_cons_self, Lib.splitK, hi]
        simp [h1]
      · have := h2 []
        rw [List.nil_append] at this
        rw [cutGo, if_pos rfl, this, List.append_nil]
    · refine ⟨x :: p, ps, ?_, fun cur => ?_⟩
      · rw [List.count_cons_of_ne (by simpa using hx)]
        cases hk : l.count c with
        | zero =>
          rw [hk, Lib.splitK] at h1
          rw [Lib.splitK]
          simp at h1 ⊢
          exact ⟨h1.1, h1.2⟩
        | succ k =>
          rw [hk, Lib.splitK] at h1
          rw [Lib.splitK]
          rw [Lib.index_one] at h1 ⊢
          have hb : Lib.indexByte (x :: l) c = if Lib.indexByte l c == -1 then -1 else Lib.indexByte l c + 1 := by
            rw [Lib.indexByte, if_neg (by simpa using hx)]
          have hge := Lib.indexByte_ge l c
          rw [hb]
          by_cases hm : Lib.indexByte l c = -1
          · rw [hm] at h1 ⊢
            simp at h1 ⊢
            exact ⟨h1.1, h1.2⟩
          · have hm' : (Lib.indexByte l c == -1) = false := beq_eq_false_iff_ne.2 hm
            rw [hm'] at h1 ⊢
            obtain ⟨i, hi⟩ : ∃ i : Nat, Lib.indexByte l c = (i : Int) := ⟨(Lib.indexByte l c).toNat, by omega⟩
            rw [hi] at h1 ⊢
            have e1 : (((i : Int) + 1) == -1) = false := beq_eq_false_iff_ne.2 (by omega)
            have e2 : ((i : Int) + 1).toNat = i + 1 := by omega
            have e3 : ((i : Int)).toNat = i := by omega
            simp only [Bool.false_eq_true, if_false, e1, e2, e3, List.length_cons, List.length_nil, Nat.zero_add, Nat.add_zero] at h1 ⊢
            rw [List.take_succ_cons, List.drop_succ_cons]
            simp only [List.cons.injEq] at h1 ⊢
            first
              | exact ⟨⟨rfl, h1.1⟩, h1.2⟩
              | exact ⟨⟨trivial, h1.1⟩, h1.2⟩
              | exact ⟨h1.1, h1.2⟩
      · rw [cutGo, if_neg hx, h2]
        simp
theorem cutGo_part (c : UInt8) (l : List UInt8) : ∀ cur p, p ∈ cutGo c cur l → p.length ≤ cur.length + l.length := by
  induction l with
  | nil => intro cur p hp; simp [cutGo] at hp; subst hp; simp
  | cons x l ih =>
    intro cur p hp
    rw [cutGo] at hp
    split at hp
    · rcases List.mem_cons.1 hp with h | h
      · rw [h, List.length_cons]; omega
      · have := ih [] p h; simp at this; rw [List.length_cons]; omega
    · have := ih _ p hp; simp at this; rw [List.length_cons]; omega
theorem cut_part {c : UInt8} {l p : List UInt8} (hp : p ∈ cut c l) : p.length ≤ l.length := by
  have := cutGo_part c l [] p hp
  simpa using this
theorem split_words (s : ByteArray) : Lib.splitB ⟨#[32]⟩ 0 (Lib.countB s ⟨#[32]⟩) s = wdsF s := by
  have h1 : Lib.countB s ⟨#[32]⟩ = (kb s).count 32 := Lib.count_one 32 s.data.toList
  have h2 := Lib.splitB_data ⟨#[32]⟩ 0 (Lib.countB s ⟨#[32]⟩) s
  obtain ⟨p, ps, h3, h4⟩ := splitK_one 32 (kb s)
  have h5 : (Lib.splitB ⟨#[32]⟩ 0 (Lib.countB s ⟨#[32]⟩) s).map (·.data.toList) = cut 32 (kb s) := by
    rw [h2, h1]
    unfold cut
    rw [h4 []]
    exact h3
  unfold wdsF
  rw [← h5, List.map_map]
  conv => lhs; rw [← List.map_id (Lib.splitB ⟨#[32]⟩ 0 (Lib.countB s ⟨#[32]⟩) s)]
  exact List.map_congr_left fun x _ => (rB_of x).symm
theorem split_count (s : ByteArray) : Lib.countB s ⟨#[32]⟩ + 1 = (wdsF s).length := by
  rw [← split_words]
  exact (Lib.splitB_all ⟨#[32]⟩ (by decide) 0 _ s rfl).symm
end Go.Proofs.Ytichajalinkcdaa
namespace Go.Proofs.Ytichajalinkcdaa
open Go.Shelf
def Try.lays110_ren : Go.Shelf.Ren := ⟨fun | 110 => 52 | 109 => 63 | n => n, fun | 31 => 23 | 9 => 9 | 4 => 4 | 3 => 3 | 0 => 0 | n => n, fun | n => n⟩
theorem Try.lays110 : Go.Proofs.Lays.n110 Try.prog Try.lays110_ren := {
  mixed := by kernel_rfl
  f109 := Try.func63.trans (congrArg some (by kernel_rfl))
  f110 := Try.func52.trans (congrArg some (by kernel_rfl))
  t0 := Try.underlying0
  a0 := Try.isAgg0
  z0 := Try.sizeOf0
  v0 := Try.zeroValue0
  t3 := Try.underlying3
  a3 := Try.isAgg3
  z3 := Try.sizeOf3
  v3 := Try.zeroValue3
  t4 := Try.underlying4
  a4 := Try.isAgg4
  z4 := Try.sizeOf4
  v4 := Try.zeroValue4
  t9 := Try.underlying9
  a9 := Try.isAgg9
  z9 := Try.sizeOf9
  v9 := Try.zeroValue9
  t31 := Try.underlying23
  a31 := Try.isAgg23
  z31 := Try.sizeOf23
  v31 := Try.zeroValue23 }
open Go.Lib in
/-- slices.Contains at []string: "Contains reports whether v is present in s.": IT RETURNS 'Lib.containsS (the elements) v', which is true just where v is among them ('Lib.containsS_iff'); the world is as it was. ITS CALLEE slices.Index IS MET BY ITS OWN CONTRACT OFF THE SHELF (lay that first): no loop is walked here. (LAID: no walk: one application.) -/
theorem Try.slices_Contains_string (b off n c : Nat) (zs : List ByteArray) (x : ByteArray) (w : World) (hz : n ≤ zs.length) (hbig : n ≤ 9223372036854775807) (hc : ∀ j, j < zs.length → w.cell? ⟨b, off + j, none⟩ = some (.string (zs.getD j ByteArray.empty))) :
    Calls Try.prog 52 #[.slice (some ⟨b, off, none⟩) n c, .string x] w fun e w' => e = .returned (.bool (Lib.containsS (zs.take n) x)) ∧ w' = w := Any.slices_Contains_string Try.lays110 b off n c zs x w hz hbig hc
open Go.Lib in
/-- The same at a slice of length 0, a nil one too. (LAID: no walk: one application.) -/
theorem Try.slices_Contains_string_empty (a : Option Addr) (c : Nat) (x : ByteArray) (w : World) :
    Calls Try.prog 52 #[.slice a 0 c, .string x] w fun e w' => e = .returned (.bool false) ∧ w' = w := Any.slices_Contains_string_empty Try.lays110 a c x w
def Try.laysNm216_ren : Go.Shelf.Ren := ⟨fun | 16 => 30 | n => n, fun | 24 => 23 | 9 => 9 | 4 => 4 | n => n, fun | n => n⟩
theorem Try.laysNm216 : Go.Proofs.Lays2.n16 Try.prog Try.laysNm216_ren := {
  mixed := by kernel_rfl
  f16 := Try.func30.trans (congrArg some (by kernel_rfl))
  t4 := Try.underlying4
  a4 := Try.isAgg4
  z4 := Try.sizeOf4
  v4 := Try.zeroValue4
  t9 := Try.underlying9
  a9 := Try.isAgg9
  z9 := Try.sizeOf9
  v9 := Try.zeroValue9
  t24 := Try.underlying23
  a24 := Try.isAgg23
  z24 := Try.sizeOf23
  v24 := Try.zeroValue23
  i9 := by kernel_rfl }
open Go.RowKit Go.Lib in
/-- slices.Clone at []string: "Clone returns a copy of the slice. The elements are copied using assignment, so this is a shallow clone. The result may have additional unused capacity. The result preserves the nilness of s.": OF A SLICE THAT IS NOT nil IT RETURNS A SLICE THAT IS NOT nil, OF THE SAME ELEMENTS, IN MEMORY OF THE CALL's OWN: in the how-to's words (6f): 'w'.ownsRow B e 1 v' n cells': v' begins at the head of a row among the blocks from B on (B: the heap's size at the call), not frozen, whose first cells are the elements · 'Below B w w'': below B all is as it was. The capacity is whatever the run-time gives. 'zs': what the cells behind the slice's address hold; 'zs.take n': its elements. (LAID: no walk: one application.) -/
theorem Try.slices_Clone_string (b off n c : Nat) (zs : List ByteArray) (w : World) (hz : n ≤ zs.length) (hbig : n * 16 ≤ 140737488355328) (hc : ∀ j, j < zs.length → w.cell? ⟨b, off + j, none⟩ = some (.string (zs.getD j ByteArray.empty))) :
    Calls Try.prog 30 #[.slice (some ⟨b, off, none⟩) n c] w fun e w' => ∃ v', e = .returned v' ∧ w'.ownsRow w.heap.size 9 1 v' n ((zs.take n).map (Value.string)) ∧ v' ≠ .slice none 0 0 ∧ Below w.heap.size w w' := Any.slices_Clone_string Try.laysNm216 b off n c zs w hz hbig hc
open Go.RowKit Go.Lib in
/-- The same at nil: nil comes back; the world is as it was. (LAID: no walk: one application.) -/
theorem Try.slices_Clone_string_nil (n c : Nat) (w : World) :
    Calls Try.prog 30 #[.slice none n c] w fun e w' => e = .returned (.slice none 0 0) ∧ w' = w := Any.slices_Clone_string_nil Try.laysNm216 n c w
open Go.RowKit Go.Lib in
/-- The same at a slice of length 0 that is not nil, WHATEVER ITS ADDRESS (no cell is asked for): a slice that is not nil and owns nothing comes back. (LAID: no walk: one application.) -/
theorem Try.slices_Clone_string_zero (a : Addr) (c : Nat) (w : World) :
    Calls Try.prog 30 #[.slice (some a) 0 c] w fun e w' => ∃ v', e = .returned v' ∧ w'.ownsRow w.heap.size 9 1 v' 0 [] ∧ v' ≠ .slice none 0 0 ∧ Below w.heap.size w w' := Any.slices_Clone_string_zero Try.laysNm216 a c w
end Go.Proofs.Ytichajalinkcdaa
namespace Go.Proofs.Ytichajalinkcdaa
open Go.RowKit
set_option linter.unusedVariables false

theorem contains_mem {L : List ByteArray} {x : ByteArray} {z : Bool} (h : decide (x ∈ L) = z) : Lib.containsS L x = z := by
  subst h
  cases hc : Lib.containsS L x with
  | true => exact (decide_eq_true ((Lib.containsS_iff L x).1 hc)).symm
  | false =>
    symm
    refine decide_eq_false fun hm => ?_
    rw [(Lib.containsS_iff L x).2 hm] at hc
    cases hc
theorem txt_cells {w : World} {A : Option Addr} {N cap : Nat} {L : List ByteArray} (h : SIn w A N cap L) (h0 : N ≠ 0) : ∃ b o, A = some ⟨b, o, none⟩ ∧ ∀ j, j < L.length → w.cell? ⟨b, o + j, none⟩ = some (.string (L.getD j ByteArray.empty)) := by
  obtain ⟨x, hx⟩ : ∃ x, L[0]? = some x := ⟨_, List.getElem?_eq_getElem (by rw [h.1]; omega)⟩
  obtain ⟨b, o, hA, _, _⟩ := str_at h.2.2.1 hx
  refine ⟨b, o, hA, fun j hj => ?_⟩
  obtain ⟨b', o', hA', _, hc⟩ := str_at h.2.2.1 (List.getElem?_eq_getElem hj)
  rw [hA] at hA'
  cases hA'
  rw [hc, List.getD_eq_getElem?_getD, List.getElem?_eq_getElem hj]
  rfl
theorem lib_has {A : Option Addr} {N cap : Nat} {L : List ByteArray} {n : ByteArray} {z : Bool} (hz : decide (n ∈ L) = z) (w : World) (h : SIn w A N cap L) : Calls Try.prog 52 #[.slice A N cap, .string n] w fun e w' => e = .returned (.bool z) ∧ w' = w := by
  by_cases h0 : N = 0
  · have e : z = false := by
      rw [← hz]
      have : L = [] := List.eq_nil_of_length_eq_zero (by rw [h.1]; exact h0)
      subst this
      rfl
    subst h0
    rw [e]
    exact Try.slices_Contains_string_empty A cap n w
  · obtain ⟨b, o, rfl, hc⟩ := txt_cells h h0
    have c := Try.slices_Contains_string b o N cap L n w (by rw [h.1]; exact Nat.le_refl _) (by have := h.2.1; omega) hc
    rw [List.take_of_length_le (by rw [h.1]; exact Nat.le_refl _), contains_mem hz] at c
    exact c
theorem rcells_str (L : List ByteArray) : rcells stR L = L.map Value.string := by
  induction L with
  | nil => rfl
  | cons x L ih =>
    unfold rcells at ih ⊢
    rw [List.flatMap_cons, ih]
    rfl
/-- A copy of a slice of texts. -/
def Cloned (w : World) (L : List ByteArray) (e : Ending) (w' : World) : Prop := ∃ v, e = .returned v ∧ ROwn stR w' w.heap.size v L ∧ Below w.heap.size w w'
theorem lib_clone {A : Option Addr} {N cap : Nat} {L : List ByteArray} (w : World) (h : SIn w A N cap L) : Calls Try.prog 30 #[.slice A N cap] w (Cloned w L) := by
  by_cases h0 : N = 0
  · subst h0
    have : L = [] := List.eq_nil_of_length_eq_zero h.1
    subst this
    cases A with
    | none => exact (Try.slices_Clone_string_nil 0 cap w).mono fun e w' ⟨he, hw⟩ => ⟨_, he, by rw [hw]; exact ROwn.nil w _, by rw [hw]; exact Below.refl _ _⟩
    | some a => exact (Try.slices_Clone_string_zero a cap w).mono fun e w' ⟨v, he, ho, _, hb⟩ => ⟨v, he, ho, hb⟩
  · obtain ⟨b, o, rfl, hc⟩ := txt_cells h h0
    have hN := h.2.1
    refine (Try.slices_Clone_string b o N cap L w (by rw [h.1]; exact Nat.le_refl _) (by omega) hc).mono ?_
    rintro e w' ⟨v, he, ho, _, hb⟩
    refine ⟨v, he, ?_, hb⟩
    rw [List.take_of_length_le (by rw [h.1]; exact Nat.le_refl _), ← rcells_str] at ho
    exact ROwn.of ho h.1.symm
/-- The words of a line, in memory. -/
def Worded (w : World) (l : ByteArray) (e : Ending) (w' : World) : Prop := ∃ g N, e = .returned (.slice (some ⟨g, 0, none⟩) N N) ∧ SIn w' (some ⟨g, 0, none⟩) N N (wdsF l) ∧ Below w.heap.size w w'
theorem wdsF_sizes (l : ByteArray) : ∀ x ∈ wdsF l, x.size ≤ l.size := by
  intro x hx
  unfold wdsF at hx
  obtain ⟨p, hp, rfl⟩ := List.mem_map.1 hx
  rw [rB_size]
  have := cut_part (c := 32) hp
  have e : (kb l).length = l.size := by unfold kb; simp
  omega
theorem pre_has (b l : ByteArray) : Lib.hasPrefix l.data.toList b.data.toList = preB b l := by
  unfold Lib.hasPrefix preB kb
  rw [Bool.eq_iff_iff]
  rw [List.isPrefixOf_iff_prefix, List.prefix_iff_eq_take, decide_eq_true_eq]
  exact eq_comm
end Go.Proofs.Ytichajalinkcdaa
namespace Go.Proofs.Ytichajalinkcdaa
open Go.RowKit
set_option linter.unusedVariables false

/-- A world in which nothing of 'w' below 'G' has changed. -/
structure Later (G : Nat) (w : World) where
  v : World
  h : Below G w v
instance (G : Nat) (w : World) : Nonempty (Later G w) := ⟨⟨w, Below.refl G w⟩⟩
theorem Later.cell {G : Nat} {w : World} (x : Later G w) {p : Addr} {u : Value} (hp : p.block < G) (h : w.cell? p = some u) : x.v.cell? p = some u := (x.h.cell hp).trans h
theorem Later.call {G : Nat} {w : World} (x : Later G w) {w' : World} (hb : Below x.v.heap.size x.v w') (hG : G ≤ w.heap.size) : ∃ y : Later G w, w' = y.v := ⟨⟨w', x.h.trans (hb.mono (Nat.le_trans hG x.h.size))⟩, rfl⟩
theorem wp_region_later {P : Program} {id : Nat} {Q : Exit → Act → World → Prop} {a : Act} {l : List Oper} (G : Nat) (w : World) (hm : P.follows .mixedOrders = true) (hB : Region.lexB .any l.toArray = true)
    (h : wpQuiet P l.toArray (fun w' => ∃ x : Later G w, w' = x.v) (fun a' => ∀ w', (∃ x : Later G w, w' = x.v) → Q .normal a' w') l a) : (Code.region id l.toArray true).wp P Q a w :=
  wp_region_quiet (C := fun w' => ∃ x : Later G w, w' = x.v) hm hB ⟨⟨w.drew, ⟨(Below.refl G w).os, (Below.refl G w).tape, (Below.refl G w).output, (Below.refl G w).size, (Below.refl G w).block⟩⟩, rfl⟩ (by simpa using h)
end Go.Proofs.Ytichajalinkcdaa
namespace Go.Proofs.Ytichajalinkcdaa
open Go.RowKit
set_option linter.unusedVariables false

set_option maxHeartbeats 1000000 in
theorem spec_has {A : Option Addr} {N cap : Nat} {L : List ByteArray} {n : ByteArray} {z : Bool} (hz : decide (n ∈ L) = z) (w : World) (h : SIn w A N cap L) : Calls Try.prog 55 #[.slice A N cap, .string n] w fun e w' => e = .returned (.bool z) ∧ w' = w := by
  have H := Lib.hid h
  have HZ := Lib.hid hz
  have hl := h.2.1
  clear h hz
  go_enter Try.func55, Try.ntmps55
  go_wp2
  go_loopw [5] (fun i wr => ∃ k : Nat, k ≤ N ∧ i = .int .i64 (k : Int) ∧ Hid (¬ n ∈ L.take k) ∧ wr = w) (fun i _ => N - (intOf i).toNat)
  case atStart => exact ⟨0, Nat.zero_le _, by go_num, Lib.hid (by simp), rfl⟩
  case round =>
    obtain ⟨k, hk, rfl, HG, rfl⟩ := hrel
    by_cases hlt : k < N
    · have h0 : (0 : Int) ≤ (k : Int) := by omega
      have h5 : (k : Int) < (N : Int) := by omega
      obtain ⟨x, hx⟩ : ∃ x, L[k]? = some x := ⟨_, List.getElem?_eq_getElem (by rw [H.out.1]; exact hlt)⟩
      obtain ⟨b, o, rfl, hb, c0⟩ := str_at H.out.2.2.1 hx
      by_cases hn : x = n
      · have HE := Lib.hid (HZ.out.symm.trans (mem_here hx hn))
        subst hn
        clear hx
        go_wp2
        go_ret
        exact ⟨ret_bl HE.out.symm, rfl⟩
      · have HE := Lib.hid (mem_step HG.out hx hn)
        obtain ⟨v1, v2⟩ := ne_walk hn
        clear hx hn
        go_wp2
        go_roundw
        case rel => exact ⟨k + 1, by omega, by go_num, HE, trivial⟩
        case measure => simp [intOf]; omega
    · have h5 : ¬ (k : Int) < (N : Int) := by omega
      have HE : Hid (z = false) := Lib.hid (HZ.out.symm.trans (decide_eq_false (by have := HG.out; rw [List.take_of_length_le (by rw [H.out.1]; omega)] at this; exact this)))
      go_wp2
      go_ret
      exact ⟨ret_bl HE.out.symm, rfl⟩
set_option maxRecDepth 20000 in
set_option maxHeartbeats 2000000 in
theorem spec_names {A : Option Addr} {N cap : Nat} {T : List ByteArray} (w : World) (h : SIn w A N cap T) : Calls Try.prog 36 #[.slice A N cap] w (SayB w (n21 T)) := by
  have H := Lib.hid h
  have hl := h.2.1
  have hcap := h.2.2.2.2.2.2.1
  clear h
  go_enter Try.func36, Try.ntmps36
  go_wp2
  go_loopw [3] (fun i wr => ∃ k : Nat, k ≤ N ∧ i = .int .i64 (k : Int) ∧ Hid (namesB (T.take k) = true) ∧ Hid (Below w.heap.size w wr)) (fun i _ => N - (intOf i).toNat)
  case atStart => exact ⟨0, Nat.zero_le _, by go_num, Lib.hid (by rw [List.take_zero]; exact namesB_nil), Below.refl _ _⟩
  case round =>
    obtain ⟨k, hk, rfl, HG, HB⟩ := hrel
    by_cases hlt : k < N
    · have h0 : (0 : Int) ≤ (k : Int) := by omega
      have h5 : (k : Int) < (N : Int) := by omega
      have h6 : (k : Int) ≤ (cap : Int) := by omega
      obtain ⟨x, hx⟩ : ∃ x, T[k]? = some x := ⟨_, List.getElem?_eq_getElem (by rw [H.out.1]; exact hlt)⟩
      have hxs : x.size ≤ 16777216 := H.out.2.2.2.2.2.1 x (List.mem_of_getElem? hx)
      have HW := Lib.hid (H.out.below HB.out (Nat.le_refl _))
      obtain ⟨b, o, rfl, hb, c0⟩ := str_at HW.out.2.2.1 hx
      have HX := Lib.hid hx
      have l0 : ∀ y : Later wr.heap.size wr, y.v.cell? ⟨b, o + k, none⟩ = some (.string x) := fun y => y.cell hb c0
      have HF := Lib.hid (HW.out.front (show k ≤ N by omega))
      clear hx
      cases hn : nameB (kb x) with
      | false =>
        have HN := Lib.hid hn
        have HE := Lib.hid (n21_bad (namesB_bad HX.out hn))
        clear hn
        go_wp2
        refine wp_region_later wr.heap.size wr (by kernel_rfl) (by kernel_rfl) ?_
        repeat (go_big_quiet_step ((go_at_call 35; refine (sname_at HN.out hxs _).mono ?_; rintro e w2 ⟨rfl, rfl⟩; exact ⟨rfl, _, rfl⟩)))
        refine wpQuiet_nil ?_
        intro _ hw'
        obtain ⟨⟨w2, hb2⟩, rfl⟩ := hw'
        have H6 := Lib.hid (HB.out.trans (hb2.mono HB.out.size))
        clear hb2
        go_wp2
        go_ret
        exact says_b HE.out H6.out
      | true =>
        have HN := Lib.hid hn
        clear hn
        cases hm : decide (x ∈ T.take k) with
        | true =>
          have HM := Lib.hid hm
          have HE := Lib.hid (n21_bad (namesB_twice HX.out hm))
          clear hm
          go_wp2
          refine wp_region_later wr.heap.size wr (by kernel_rfl) (by kernel_rfl) ?_
          have HL : ∀ y : Later wr.heap.size wr, Calls Try.prog 55 #[.slice (some ⟨b, o, none⟩) k cap, .string x] y.v fun e w' => e = .returned (.bool true) ∧ w' = y.v := fun y => spec_has HM.out y.v (HF.out.below y.h (Nat.le_refl _))
          repeat (go_big_quiet_step (first | (go_at_call 35; refine (sname_at HN.out hxs _).mono ?_; rintro e w2 ⟨rfl, rfl⟩; exact ⟨rfl, _, rfl⟩) | (go_at_call 55; refine (HL _).mono ?_; rintro e w2 ⟨rfl, rfl⟩; exact ⟨rfl, _, rfl⟩)))
          refine wpQuiet_nil ?_
          intro _ hw'
          obtain ⟨⟨w2, hb2⟩, rfl⟩ := hw'
          have H6 := Lib.hid (HB.out.trans (hb2.mono HB.out.size))
          clear hb2 HL
          go_wp2
          go_ret
          exact says_b HE.out H6.out
        | false =>
          have HM := Lib.hid hm
          have HE := Lib.hid (namesB_next HG.out HX.out HN.out hm)
          clear hm
          go_wp2
          refine wp_region_later wr.heap.size wr (by kernel_rfl) (by kernel_rfl) ?_
          have HL : ∀ y : Later wr.heap.size wr, Calls Try.prog 55 #[.slice (some ⟨b, o, none⟩) k cap, .string x] y.v fun e w' => e = .returned (.bool false) ∧ w' = y.v := fun y => spec_has HM.out y.v (HF.out.below y.h (Nat.le_refl _))
          repeat (go_big_quiet_step (first | (go_at_call 35; refine (sname_at HN.out hxs _).mono ?_; rintro e w2 ⟨rfl, rfl⟩; exact ⟨rfl, _, rfl⟩) | (go_at_call 55; refine (HL _).mono ?_; rintro e w2 ⟨rfl, rfl⟩; exact ⟨rfl, _, rfl⟩)))
          refine wpQuiet_nil ?_
          intro _ hw'
          obtain ⟨⟨w2, hb2⟩, rfl⟩ := hw'
          have H6 := Lib.hid (HB.out.trans (hb2.mono HB.out.size))
          clear hb2 HL
          go_wp2
          go_roundw
          case rel => exact ⟨k + 1, by omega, by go_num, HE, H6⟩
          case measure => simp [intOf]; omega
    · have h5 : ¬ (k : Int) < (N : Int) := by omega
      have HE : Hid (n21 T = decide (N ≤ 3)) := Lib.hid ((n21_all HG.out (by rw [H.out.1]; omega)).trans (by rw [H.out.1]))
      by_cases h3 : N ≤ 3
      · have h3' : (N : Int) ≤ 3 := by omega
        go_wp2
        go_ret
        exact says_b (HE.out.trans (decide_eq_true h3)) HB.out
      · have h3' : ¬ (N : Int) ≤ 3 := by omega
        go_wp2
        go_ret
        exact says_b (HE.out.trans (decide_eq_false h3)) HB.out
theorem names_at {A : Option Addr} {N cap : Nat} {T : List ByteArray} {z : Bool} (hz : n21 T = z) (w : World) (h : SIn w A N cap T) : Calls Try.prog 36 #[.slice A N cap] w (SayB w z) := by
  subst hz
  exact spec_names w h
set_option maxRecDepth 20000 in
set_option maxHeartbeats 2000000 in
theorem impl_receivers {A : Option Addr} {N cap : Nat} {T : List ByteArray} (w : World) (h : SIn w A N cap T) : Calls Try.prog 33 #[.slice A N cap] w (SayB w (recB T)) := by
  have H := Lib.hid h
  have hl := h.2.1
  have hcap := h.2.2.2.2.2.2.1
  clear h
  by_cases h0N : N = 0
  · subst h0N
    have HE : Hid (recB T = false) := Lib.hid (recB_long (by rw [H.out.1]; omega))
    go_enter Try.func33, Try.ntmps33
    go_wp2
    go_ret
    exact says_b HE.out (Below.refl _ _)
  have hN0 : ((N : Int) == 0) = false := beq_eq_false_iff_ne.2 (by omega)
  have hN1 : 1 ≤ N := by omega
  clear h0N
  by_cases h3 : N ≤ 3
  · have h3' : ¬ (3 : Int) < (N : Int) := by omega
    go_enter Try.func33, Try.ntmps33
    go_wp2
    go_loopw [15] (fun i wr => ∃ k : Nat, k ≤ N ∧ i = .int .i64 (k : Int) ∧ Hid (namesB (T.take k) = true) ∧ Hid (Below w.heap.size w wr)) (fun i _ => N - (intOf i).toNat)
    case atStart => exact ⟨0, Nat.zero_le _, by go_num, Lib.hid (by rw [List.take_zero]; exact namesB_nil), Below.refl _ _⟩
    case round =>
      obtain ⟨k, hk, rfl, HG, HB⟩ := hrel
      by_cases hlt : k < N
      · have h0 : (0 : Int) ≤ (k : Int) := by omega
        have h5 : (k : Int) < (N : Int) := by omega
        have h6 : (k : Int) ≤ (cap : Int) := by omega
        obtain ⟨x, hx⟩ : ∃ x, T[k]? = some x := ⟨_, List.getElem?_eq_getElem (by rw [H.out.1]; exact hlt)⟩
        have hxs : x.size ≤ 16777216 := H.out.2.2.2.2.2.1 x (List.mem_of_getElem? hx)
        have HW := Lib.hid (H.out.below HB.out (Nat.le_refl _))
        obtain ⟨b, o, rfl, hb, c0⟩ := str_at HW.out.2.2.1 hx
        have HX := Lib.hid hx
        have HF := Lib.hid (HW.out.front (show k ≤ N by omega))
        clear hx
        cases hn : nameB (kb x) with
        | false =>
          have HN := Lib.hid hn
          have HE := Lib.hid (recB_bad (namesB_bad HX.out hn))
          clear hn
          go_wp2_with fail
          refine (iname_at HN.out hxs _).mono ?_
          rintro e w2 ⟨rfl, hb2⟩
          have H6 := Lib.hid (HB.out.trans (hb2.mono HB.out.size))
          clear hb2
          go_wp2
          go_ret
          exact says_b HE.out H6.out
        | true =>
          have HN := Lib.hid hn
          clear hn
          cases hm : decide (x ∈ T.take k) with
          | true =>
            have HM := Lib.hid hm
            have HE := Lib.hid (recB_bad (namesB_twice HX.out hm))
            clear hm
            go_wp2_with fail
            refine (iname_at HN.out hxs _).mono ?_
            rintro e w2 ⟨rfl, hb2⟩
            have H6 := Lib.hid (HB.out.trans (hb2.mono HB.out.size))
            have HF2 := Lib.hid (HF.out.below hb2 (Nat.le_refl _))
            clear hb2
            go_wp2_with fail
            refine (lib_has HM.out _ HF2.out).mono ?_
            rintro e w3 ⟨rfl, rfl⟩
            go_wp2
            go_ret
            exact says_b HE.out H6.out
          | false =>
            have HM := Lib.hid hm
            have HE := Lib.hid (namesB_next HG.out HX.out HN.out hm)
            clear hm
            go_wp2_with fail
            refine (iname_at HN.out hxs _).mono ?_
            rintro e w2 ⟨rfl, hb2⟩
            have H6 := Lib.hid (HB.out.trans (hb2.mono HB.out.size))
            have HF2 := Lib.hid (HF.out.below hb2 (Nat.le_refl _))
            clear hb2
            go_wp2_with fail
            refine (lib_has HM.out _ HF2.out).mono ?_
            rintro e w3 ⟨rfl, rfl⟩
            go_wp2
            go_roundw
            case rel => exact ⟨k + 1, by omega, by go_num, HE, H6⟩
            case measure => simp [intOf]; omega
      · have h5 : ¬ (k : Int) < (N : Int) := by omega
        have HE : Hid (recB T = true) := Lib.hid (recB_all HG.out (by rw [H.out.1]; omega) (by rw [H.out.1]; exact hN1) (by rw [H.out.1]; exact h3))
        go_wp2
        go_ret
        exact says_b HE.out HB.out
  · have h3' : (3 : Int) < (N : Int) := by omega
    have HE : Hid (recB T = false) := Lib.hid (recB_long (by rw [H.out.1]; omega))
    go_enter Try.func33, Try.ntmps33
    go_wp2
    go_ret
    exact says_b HE.out (Below.refl _ _)
theorem receivers_at {A : Option Addr} {N cap : Nat} {T : List ByteArray} {z : Bool} (hz : recB T = z) (w : World) (h : SIn w A N cap T) : Calls Try.prog 33 #[.slice A N cap] w (SayB w z) := by
  subst hz
  exact impl_receivers w h
end Go.Proofs.Ytichajalinkcdaa
namespace Go.Proofs.Ytichajalinkcdaa
open Go.RowKit
set_option linter.unusedVariables false

theorem sz_eB {v : ByteArray} (h : v.size = 0) : v = eB := by
  refine rB_ext ?_
  have : v.data.toList.length = 0 := by simpa using h
  rw [List.eq_nil_of_length_eq_zero this]
  rfl
theorem ne_eB {v : ByteArray} (h : v.size ≠ 0) : decide (v = eB) = false := decide_eq_false fun e => h (by rw [e]; rfl)
theorem ne_nil {L : List ByteArray} (h : L.length ≠ 0) : decide (L = []) = false := decide_eq_false fun e => h (by rw [e]; rfl)
theorem recB_n21 {L : List ByteArray} (h : n21 L = true) (h1 : L.length ≠ 0) : recB L = true := by unfold recB; rw [h, decide_eq_true (show 1 ≤ L.length by omega)]; rfl
theorem recB_zero {L : List ByteArray} (h : L.length = 0) : recB L = false := recB_long (by omega)
theorem sbV_names {s : Sb} (h : n21 s.to = false) : sbV s = false := by
  cases hv : sbV s with
  | false => rfl
  | true =>
    exfalso
    obtain ⟨h0, h6⟩ := sbV_range hv
    have hnil : s.to = [] → False := fun e => by rw [e] at h; cases h
    have hrec : recB s.to = true → False := fun e => by unfold recB at e; rw [h] at e; cases e
    rcases (show (s.st = 0 ∨ s.st = 1 ∨ s.st = 6) ∨ (s.st = 2 ∨ s.st = 3) ∨ s.st = 4 ∨ s.st = 5 by omega) with h1 | h1 | h1 | h1
    · rw [sbV_low h1] at hv; simp at hv; exact hnil hv.2.1
    · rw [sbV_mid h1] at hv; simp at hv; exact hnil hv.2.1
    · rw [sbV_to h1] at hv; simp at hv; exact hrec hv.2.1
    · rw [sbV_data h1] at hv; simp at hv; exact hrec hv.2.1
theorem sbV_long {s : Sb} (h : ¬ s.tx.size ≤ 21) : sbV s = false := by
  cases hv : sbV s with
  | false => rfl
  | true => exact absurd (sbV_has hv).2.2.2.1 h
theorem two_in {a b x : Int} {z : Bool} (h : (decide (a ≤ x) && decide (x ≤ b)) = z) : (decide (a ≤ x) && decide (x ≤ b)) = z := h
set_option maxRecDepth 20000 in
set_option maxHeartbeats 3000000 in
theorem spec_subvalid (st : Int) (us tx : ByteArray) (T : List ByteArray) (A : Option Addr) (N cap : Nat) (w : World) (h : SIn w A N cap T) (hu : us.size ≤ 16777216) : Calls Try.prog 21 #[.agg #[.int .i64 st, .string us, .slice A N cap, .string tx]] w (SayB w (sbV ⟨st, us, T, tx⟩)) := by
  have HT := Lib.hid h.1
  have hS := h.below ((Below.refl w.heap.size w).alloc (Nat.le_refl _) (.cells #[.int .i64 st, .string us, .slice A N cap, .string tx] 25)) (Nat.le_refl _)
  have HS := Lib.hid hS
  have hW := Whole.made w 25 #[.int .i64 st, .string us, .slice A N cap, .string tx]
  have c0 := hW.cell 0
  have c1 := hW.cell 1
  have c2 := hW.cell 2
  have c3 := hW.cell 3
  simp at c0 c1 c2 c3
  have HW := Lib.hid hW
  have HB := Lib.hid ((Below.refl w.heap.size w).alloc (Nat.le_refl _) (.cells #[.int .i64 st, .string us, .slice A N cap, .string tx] 25))
  clear h hS hW
  cases hr : (decide ((0 : Int) ≤ st) && decide (st ≤ 6)) with
  | false =>
    have HR := Lib.hid hr
    have HE : Hid (sbV ⟨st, us, T, tx⟩ = false) := Lib.hid (sbV_off (by simp at hr; simp only; omega))
    clear hr
    go_enter Try.func21, Try.ntmps21
    go_wp2_with fail
    refine (sin_at HR.out _).mono ?_
    rintro e w1 ⟨rfl, rfl⟩
    go_wp2
    go_ret
    exact says_b HE.out HB.out
  | true =>
    have HR := Lib.hid hr
    have hr0 : 0 ≤ st ∧ st ≤ 6 := by simpa using hr
    clear hr
    cases hn : n21 T with
    | false =>
      have HN := Lib.hid hn
      have HE : Hid (sbV ⟨st, us, T, tx⟩ = false) := Lib.hid (sbV_names hn)
      clear hn hr0
      go_enter Try.func21, Try.ntmps21
      go_wp2_with fail
      refine (sin_at HR.out _).mono ?_
      rintro e w1 ⟨rfl, rfl⟩
      go_wp2_with fail
      refine (names_at HN.out _ HS.out).mono ?_
      rintro e w2 ⟨rfl, hb⟩
      have HB2 := Lib.hid (HB.out.trans (hb.mono HB.out.size))
      clear hb
      go_wp2
      go_ret
      exact says_b HE.out HB2.out
    | true =>
      have HN := Lib.hid hn
      clear hn
      by_cases hx : tx.size ≤ 21
      ·
        have hx' : ¬ (21 : Int) < (tx.size : Int) := by omega
        have HX := Lib.hid hx
        clear hx
        rcases (show st = 0 ∨ st = 1 ∨ st = 2 ∨ st = 3 ∨ st = 4 ∨ st = 5 ∨ st = 6 by omega) with rfl | rfl | rfl | rfl | rfl | rfl | rfl
        ·
          clear hr0
          cases hm : nameB (kb us) with
          | true =>
            have HM := Lib.hid hm
            have HE : Hid (sbV ⟨0, us, T, tx⟩ = false) := Lib.hid (((sbV_low (by simp)).trans (by simp only; rw [ne_eB (show us.size ≠ 0 by have := (nm_size hm).1; omega)]; rfl)))
            clear hm
            try clear hN
            try clear hz
            try clear ht
            go_enter Try.func21, Try.ntmps21
            go_wp2_with fail
            refine (sin_at HR.out _).mono ?_
            rintro e w1 ⟨rfl, rfl⟩
            go_wp2_with fail
            refine (names_at HN.out _ HS.out).mono ?_
            rintro e w2 ⟨rfl, hb⟩
            have HB2 := Lib.hid (HB.out.trans (hb.mono HB.out.size))
            have hW2 := HW.out.below hb HW.out.lt
            have d0 := hW2.cell 0
            have d1 := hW2.cell 1
            have d2 := hW2.cell 2
            have d3 := hW2.cell 3
            simp at d0 d1 d2 d3
            clear hb hW2 c0 c1 c2 c3
            go_wp2_with fail
            refine (sin_at (z := false) (by decide) _).mono ?_
            rintro e w3 ⟨rfl, rfl⟩
            go_wp2_with fail
            refine (sname_at HM.out hu _).mono ?_
            rintro e w4 ⟨rfl, rfl⟩
            go_wp2
            go_ret
            exact says_b HE.out HB2.out
          | false =>
            by_cases hz : us.size = 0
            · have he : us = ⟨#[]⟩ := sz_eB hz
              subst he
              by_cases hN : N = 0
              · by_cases ht : tx.size = 0
                · have he : tx = ⟨#[]⟩ := sz_eB ht
                  subst he
                  have HM := Lib.hid hm
                  have hN0 : decide ((0 : Int) < (N : Int)) = false := decide_eq_false (by omega)
                  have hN9 : decide (0 < N) = false := decide_eq_false (by omega)
                  have q1 := isEmpty (v := ⟨#[]⟩) rfl
                  have q2 := isEmpty (v := ⟨#[]⟩) rfl
                  have HE : Hid (sbV ⟨0, eB, T, eB⟩ = true) := Lib.hid ((sbV_low (by simp)).trans (by simp only; rw [List.eq_nil_of_length_eq_zero (HT.out.trans hN)]; rfl))
                  clear hm
                  try clear hN
                  try clear hz
                  try clear ht
                  go_enter Try.func21, Try.ntmps21
                  go_wp2_with fail
                  refine (sin_at HR.out _).mono ?_
                  rintro e w1 ⟨rfl, rfl⟩
                  go_wp2_with fail
                  refine (names_at HN.out _ HS.out).mono ?_
                  rintro e w2 ⟨rfl, hb⟩
                  have HB2 := Lib.hid (HB.out.trans (hb.mono HB.out.size))
                  have hW2 := HW.out.below hb HW.out.lt
                  have d0 := hW2.cell 0
                  have d1 := hW2.cell 1
                  have d2 := hW2.cell 2
                  have d3 := hW2.cell 3
                  simp at d0 d1 d2 d3
                  clear hb hW2 c0 c1 c2 c3
                  go_wp2_with fail
                  refine (sin_at (z := false) (by decide) _).mono ?_
                  rintro e w3 ⟨rfl, rfl⟩
                  go_wp2_with fail
                  refine (sname_at HM.out hu _).mono ?_
                  rintro e w4 ⟨rfl, rfl⟩
                  go_wp2
                  go_ret
                  exact says_b HE.out HB2.out
                ·
                  have HM := Lib.hid hm
                  have hN0 : decide ((0 : Int) < (N : Int)) = false := decide_eq_false (by omega)
                  have hN9 : decide (0 < N) = false := decide_eq_false (by omega)
                  have q1 := isEmpty (v := ⟨#[]⟩) rfl
                  obtain ⟨q2, q3⟩ := noEmpty ht
                  have HE : Hid (sbV ⟨0, eB, T, tx⟩ = false) := Lib.hid ((sbV_low (by simp)).trans (by simp only; rw [ne_eB ht]; simp))
                  clear hm
                  try clear hN
                  try clear hz
                  try clear ht
                  go_enter Try.func21, Try.ntmps21
                  go_wp2_with fail
                  refine (sin_at HR.out _).mono ?_
                  rintro e w1 ⟨rfl, rfl⟩
                  go_wp2_with fail
                  refine (names_at HN.out _ HS.out).mono ?_
                  rintro e w2 ⟨rfl, hb⟩
                  have HB2 := Lib.hid (HB.out.trans (hb.mono HB.out.size))
                  have hW2 := HW.out.below hb HW.out.lt
                  have d0 := hW2.cell 0
                  have d1 := hW2.cell 1
                  have d2 := hW2.cell 2
                  have d3 := hW2.cell 3
                  simp at d0 d1 d2 d3
                  clear hb hW2 c0 c1 c2 c3
                  go_wp2_with fail
                  refine (sin_at (z := false) (by decide) _).mono ?_
                  rintro e w3 ⟨rfl, rfl⟩
                  go_wp2_with fail
                  refine (sname_at HM.out hu _).mono ?_
                  rintro e w4 ⟨rfl, rfl⟩
                  go_wp2
                  go_ret
                  exact says_b HE.out HB2.out
              ·
                have HM := Lib.hid hm
                have hN0 : decide ((0 : Int) < (N : Int)) = true := decide_eq_true (by omega)
                have hN9 : decide (0 < N) = true := decide_eq_true (by omega)
                have q1 := isEmpty (v := ⟨#[]⟩) rfl
                have HE : Hid (sbV ⟨0, eB, T, tx⟩ = false) := Lib.hid ((sbV_low (by simp)).trans (by simp only; rw [ne_nil (by rw [HT.out]; exact hN)]; simp))
                clear hm
                try clear hN
                try clear hz
                try clear ht
                go_enter Try.func21, Try.ntmps21
                go_wp2_with fail
                refine (sin_at HR.out _).mono ?_
                rintro e w1 ⟨rfl, rfl⟩
                go_wp2_with fail
                refine (names_at HN.out _ HS.out).mono ?_
                rintro e w2 ⟨rfl, hb⟩
                have HB2 := Lib.hid (HB.out.trans (hb.mono HB.out.size))
                have hW2 := HW.out.below hb HW.out.lt
                have d0 := hW2.cell 0
                have d1 := hW2.cell 1
                have d2 := hW2.cell 2
                have d3 := hW2.cell 3
                simp at d0 d1 d2 d3
                clear hb hW2 c0 c1 c2 c3
                go_wp2_with fail
                refine (sin_at (z := false) (by decide) _).mono ?_
                rintro e w3 ⟨rfl, rfl⟩
                go_wp2_with fail
                refine (sname_at HM.out hu _).mono ?_
                rintro e w4 ⟨rfl, rfl⟩
                go_wp2
                go_ret
                exact says_b HE.out HB2.out
            ·
              have HM := Lib.hid hm
              obtain ⟨q1, q3⟩ := noEmpty hz
              have HE : Hid (sbV ⟨0, us, T, tx⟩ = false) := Lib.hid ((sbV_low (by simp)).trans (by simp only; rw [ne_eB hz]; rfl))
              clear hm
              try clear hN
              try clear hz
              try clear ht
              go_enter Try.func21, Try.ntmps21
              go_wp2_with fail
              refine (sin_at HR.out _).mono ?_
              rintro e w1 ⟨rfl, rfl⟩
              go_wp2_with fail
              refine (names_at HN.out _ HS.out).mono ?_
              rintro e w2 ⟨rfl, hb⟩
              have HB2 := Lib.hid (HB.out.trans (hb.mono HB.out.size))
              have hW2 := HW.out.below hb HW.out.lt
              have d0 := hW2.cell 0
              have d1 := hW2.cell 1
              have d2 := hW2.cell 2
              have d3 := hW2.cell 3
              simp at d0 d1 d2 d3
              clear hb hW2 c0 c1 c2 c3
              go_wp2_with fail
              refine (sin_at (z := false) (by decide) _).mono ?_
              rintro e w3 ⟨rfl, rfl⟩
              go_wp2_with fail
              refine (sname_at HM.out hu _).mono ?_
              rintro e w4 ⟨rfl, rfl⟩
              go_wp2
              go_ret
              exact says_b HE.out HB2.out
        ·
          clear hr0
          cases hm : nameB (kb us) with
          | true =>
            have HM := Lib.hid hm
            have HE : Hid (sbV ⟨1, us, T, tx⟩ = false) := Lib.hid (((sbV_low (by simp)).trans (by simp only; rw [ne_eB (show us.size ≠ 0 by have := (nm_size hm).1; omega)]; rfl)))
            clear hm
            try clear hN
            try clear hz
            try clear ht
            go_enter Try.func21, Try.ntmps21
            go_wp2_with fail
            refine (sin_at HR.out _).mono ?_
            rintro e w1 ⟨rfl, rfl⟩
            go_wp2_with fail
            refine (names_at HN.out _ HS.out).mono ?_
            rintro e w2 ⟨rfl, hb⟩
            have HB2 := Lib.hid (HB.out.trans (hb.mono HB.out.size))
            have hW2 := HW.out.below hb HW.out.lt
            have d0 := hW2.cell 0
            have d1 := hW2.cell 1
            have d2 := hW2.cell 2
            have d3 := hW2.cell 3
            simp at d0 d1 d2 d3
            clear hb hW2 c0 c1 c2 c3
            go_wp2_with fail
            refine (sin_at (z := false) (by decide) _).mono ?_
            rintro e w3 ⟨rfl, rfl⟩
            go_wp2_with fail
            refine (sname_at HM.out hu _).mono ?_
            rintro e w4 ⟨rfl, rfl⟩
            go_wp2
            go_ret
            exact says_b HE.out HB2.out
          | false =>
            by_cases hz : us.size = 0
            · have he : us = ⟨#[]⟩ := sz_eB hz
              subst he
              by_cases hN : N = 0
              · by_cases ht : tx.size = 0
                · have he : tx = ⟨#[]⟩ := sz_eB ht
                  subst he
                  have HM := Lib.hid hm
                  have hN0 : decide ((0 : Int) < (N : Int)) = false := decide_eq_false (by omega)
                  have hN9 : decide (0 < N) = false := decide_eq_false (by omega)
                  have q1 := isEmpty (v := ⟨#[]⟩) rfl
                  have q2 := isEmpty (v := ⟨#[]⟩) rfl
                  have HE : Hid (sbV ⟨1, eB, T, eB⟩ = true) := Lib.hid ((sbV_low (by simp)).trans (by simp only; rw [List.eq_nil_of_length_eq_zero (HT.out.trans hN)]; rfl))
                  clear hm
                  try clear hN
                  try clear hz
                  try clear ht
                  go_enter Try.func21, Try.ntmps21
                  go_wp2_with fail
                  refine (sin_at HR.out _).mono ?_
                  rintro e w1 ⟨rfl, rfl⟩
                  go_wp2_with fail
                  refine (names_at HN.out _ HS.out).mono ?_
                  rintro e w2 ⟨rfl, hb⟩
                  have HB2 := Lib.hid (HB.out.trans (hb.mono HB.out.size))
                  have hW2 := HW.out.below hb HW.out.lt
                  have d0 := hW2.cell 0
                  have d1 := hW2.cell 1
                  have d2 := hW2.cell 2
                  have d3 := hW2.cell 3
                  simp at d0 d1 d2 d3
                  clear hb hW2 c0 c1 c2 c3
                  go_wp2_with fail
                  refine (sin_at (z := false) (by decide) _).mono ?_
                  rintro e w3 ⟨rfl, rfl⟩
                  go_wp2_with fail
                  refine (sname_at HM.out hu _).mono ?_
                  rintro e w4 ⟨rfl, rfl⟩
                  go_wp2
                  go_ret
                  exact says_b HE.out HB2.out
                ·
                  have HM := Lib.hid hm
                  have hN0 : decide ((0 : Int) < (N : Int)) = false := decide_eq_false (by omega)
                  have hN9 : decide (0 < N) = false := decide_eq_false (by omega)
                  have q1 := isEmpty (v := ⟨#[]⟩) rfl
                  obtain ⟨q2, q3⟩ := noEmpty ht
                  have HE : Hid (sbV ⟨1, eB, T, tx⟩ = false) := Lib.hid ((sbV_low (by simp)).trans (by simp only; rw [ne_eB ht]; simp))
                  clear hm
                  try clear hN
                  try clear hz
                  try clear ht
                  go_enter Try.func21, Try.ntmps21
                  go_wp2_with fail
                  refine (sin_at HR.out _).mono ?_
                  rintro e w1 ⟨rfl, rfl⟩
                  go_wp2_with fail
                  refine (names_at HN.out _ HS.out).mono ?_
                  rintro e w2 ⟨rfl, hb⟩
                  have HB2 := Lib.hid (HB.out.trans (hb.mono HB.out.size))
                  have hW2 := HW.out.below hb HW.out.lt
                  have d0 := hW2.cell 0
                  have d1 := hW2.cell 1
                  have d2 := hW2.cell 2
                  have d3 := hW2.cell 3
                  simp at d0 d1 d2 d3
                  clear hb hW2 c0 c1 c2 c3
                  go_wp2_with fail
                  refine (sin_at (z := false) (by decide) _).mono ?_
                  rintro e w3 ⟨rfl, rfl⟩
                  go_wp2_with fail
                  refine (sname_at HM.out hu _).mono ?_
                  rintro e w4 ⟨rfl, rfl⟩
                  go_wp2
                  go_ret
                  exact says_b HE.out HB2.out
              ·
                have HM := Lib.hid hm
                have hN0 : decide ((0 : Int) < (N : Int)) = true := decide_eq_true (by omega)
                have hN9 : decide (0 < N) = true := decide_eq_true (by omega)
                have q1 := isEmpty (v := ⟨#[]⟩) rfl
                have HE : Hid (sbV ⟨1, eB, T, tx⟩ = false) := Lib.hid ((sbV_low (by simp)).trans (by simp only; rw [ne_nil (by rw [HT.out]; exact hN)]; simp))
                clear hm
                try clear hN
                try clear hz
                try clear ht
                go_enter Try.func21, Try.ntmps21
                go_wp2_with fail
                refine (sin_at HR.out _).mono ?_
                rintro e w1 ⟨rfl, rfl⟩
                go_wp2_with fail
                refine (names_at HN.out _ HS.out).mono ?_
                rintro e w2 ⟨rfl, hb⟩
                have HB2 := Lib.hid (HB.out.trans (hb.mono HB.out.size))
                have hW2 := HW.out.below hb HW.out.lt
                have d0 := hW2.cell 0
                have d1 := hW2.cell 1
                have d2 := hW2.cell 2
                have d3 := hW2.cell 3
                simp at d0 d1 d2 d3
                clear hb hW2 c0 c1 c2 c3
                go_wp2_with fail
                refine (sin_at (z := false) (by decide) _).mono ?_
                rintro e w3 ⟨rfl, rfl⟩
                go_wp2_with fail
                refine (sname_at HM.out hu _).mono ?_
                rintro e w4 ⟨rfl, rfl⟩
                go_wp2
                go_ret
                exact says_b HE.out HB2.out
            ·
              have HM := Lib.hid hm
              obtain ⟨q1, q3⟩ := noEmpty hz
              have HE : Hid (sbV ⟨1, us, T, tx⟩ = false) := Lib.hid ((sbV_low (by simp)).trans (by simp only; rw [ne_eB hz]; rfl))
              clear hm
              try clear hN
              try clear hz
              try clear ht
              go_enter Try.func21, Try.ntmps21
              go_wp2_with fail
              refine (sin_at HR.out _).mono ?_
              rintro e w1 ⟨rfl, rfl⟩
              go_wp2_with fail
              refine (names_at HN.out _ HS.out).mono ?_
              rintro e w2 ⟨rfl, hb⟩
              have HB2 := Lib.hid (HB.out.trans (hb.mono HB.out.size))
              have hW2 := HW.out.below hb HW.out.lt
              have d0 := hW2.cell 0
              have d1 := hW2.cell 1
              have d2 := hW2.cell 2
              have d3 := hW2.cell 3
              simp at d0 d1 d2 d3
              clear hb hW2 c0 c1 c2 c3
              go_wp2_with fail
              refine (sin_at (z := false) (by decide) _).mono ?_
              rintro e w3 ⟨rfl, rfl⟩
              go_wp2_with fail
              refine (sname_at HM.out hu _).mono ?_
              rintro e w4 ⟨rfl, rfl⟩
              go_wp2
              go_ret
              exact says_b HE.out HB2.out
        ·
          clear hr0
          cases hm : nameB (kb us) with
          | false =>
            have HM := Lib.hid hm
            have HE : Hid (sbV ⟨2, us, T, tx⟩ = false) := Lib.hid ((sbV_mid (by simp)).trans (by simp only; rw [hm]; rfl))
            clear hm
            try clear hN
            try clear hz
            try clear ht
            go_enter Try.func21, Try.ntmps21
            go_wp2_with fail
            refine (sin_at HR.out _).mono ?_
            rintro e w1 ⟨rfl, rfl⟩
            go_wp2_with fail
            refine (names_at HN.out _ HS.out).mono ?_
            rintro e w2 ⟨rfl, hb⟩
            have HB2 := Lib.hid (HB.out.trans (hb.mono HB.out.size))
            have hW2 := HW.out.below hb HW.out.lt
            have d0 := hW2.cell 0
            have d1 := hW2.cell 1
            have d2 := hW2.cell 2
            have d3 := hW2.cell 3
            simp at d0 d1 d2 d3
            clear hb hW2 c0 c1 c2 c3
            go_wp2_with fail
            refine (sin_at (z := true) (by decide) _).mono ?_
            rintro e w3 ⟨rfl, rfl⟩
            go_wp2_with fail
            refine (sname_at HM.out hu _).mono ?_
            rintro e w4 ⟨rfl, rfl⟩
            go_wp2
            go_ret
            exact says_b HE.out HB2.out
          | true =>
            by_cases hN : N = 0
            ·
              by_cases ht : tx.size = 0
              · have he : tx = ⟨#[]⟩ := sz_eB ht
                subst he
                have HM := Lib.hid hm
                have hN0 : decide ((0 : Int) < (N : Int)) = false := decide_eq_false (by omega)
                have hN9 : decide (0 < N) = false := decide_eq_false (by omega)
                have q2 := isEmpty (v := ⟨#[]⟩) rfl
                have HE : Hid (sbV ⟨2, us, T, eB⟩ = true) := Lib.hid ((sbV_mid (by simp)).trans (by simp only; rw [List.eq_nil_of_length_eq_zero (HT.out.trans hN), hm]; rfl))
                clear hm
                try clear hN
                try clear hz
                try clear ht
                go_enter Try.func21, Try.ntmps21
                go_wp2_with fail
                refine (sin_at HR.out _).mono ?_
                rintro e w1 ⟨rfl, rfl⟩
                go_wp2_with fail
                refine (names_at HN.out _ HS.out).mono ?_
                rintro e w2 ⟨rfl, hb⟩
                have HB2 := Lib.hid (HB.out.trans (hb.mono HB.out.size))
                have hW2 := HW.out.below hb HW.out.lt
                have d0 := hW2.cell 0
                have d1 := hW2.cell 1
                have d2 := hW2.cell 2
                have d3 := hW2.cell 3
                simp at d0 d1 d2 d3
                clear hb hW2 c0 c1 c2 c3
                go_wp2_with fail
                refine (sin_at (z := true) (by decide) _).mono ?_
                rintro e w3 ⟨rfl, rfl⟩
                go_wp2_with fail
                refine (sname_at HM.out hu _).mono ?_
                rintro e w4 ⟨rfl, rfl⟩
                go_wp2
                go_ret
                exact says_b HE.out HB2.out
              ·
                have HM := Lib.hid hm
                have hN0 : decide ((0 : Int) < (N : Int)) = false := decide_eq_false (by omega)
                have hN9 : decide (0 < N) = false := decide_eq_false (by omega)
                obtain ⟨q2, q3⟩ := noEmpty ht
                have HE : Hid (sbV ⟨2, us, T, tx⟩ = false) := Lib.hid ((sbV_mid (by simp)).trans (by simp only; rw [ne_eB ht]; simp))
                clear hm
                try clear hN
                try clear hz
                try clear ht
                go_enter Try.func21, Try.ntmps21
                go_wp2_with fail
                refine (sin_at HR.out _).mono ?_
                rintro e w1 ⟨rfl, rfl⟩
                go_wp2_with fail
                refine (names_at HN.out _ HS.out).mono ?_
                rintro e w2 ⟨rfl, hb⟩
                have HB2 := Lib.hid (HB.out.trans (hb.mono HB.out.size))
                have hW2 := HW.out.below hb HW.out.lt
                have d0 := hW2.cell 0
                have d1 := hW2.cell 1
                have d2 := hW2.cell 2
                have d3 := hW2.cell 3
                simp at d0 d1 d2 d3
                clear hb hW2 c0 c1 c2 c3
                go_wp2_with fail
                refine (sin_at (z := true) (by decide) _).mono ?_
                rintro e w3 ⟨rfl, rfl⟩
                go_wp2_with fail
                refine (sname_at HM.out hu _).mono ?_
                rintro e w4 ⟨rfl, rfl⟩
                go_wp2
                go_ret
                exact says_b HE.out HB2.out
            ·
              have HM := Lib.hid hm
              have hN0 : decide ((0 : Int) < (N : Int)) = true := decide_eq_true (by omega)
              have hN9 : decide (0 < N) = true := decide_eq_true (by omega)
              have HE : Hid (sbV ⟨2, us, T, tx⟩ = false) := Lib.hid ((sbV_mid (by simp)).trans (by simp only; rw [ne_nil (by rw [HT.out]; exact hN)]; simp))
              clear hm
              try clear hN
              try clear hz
              try clear ht
              go_enter Try.func21, Try.ntmps21
              go_wp2_with fail
              refine (sin_at HR.out _).mono ?_
              rintro e w1 ⟨rfl, rfl⟩
              go_wp2_with fail
              refine (names_at HN.out _ HS.out).mono ?_
              rintro e w2 ⟨rfl, hb⟩
              have HB2 := Lib.hid (HB.out.trans (hb.mono HB.out.size))
              have hW2 := HW.out.below hb HW.out.lt
              have d0 := hW2.cell 0
              have d1 := hW2.cell 1
              have d2 := hW2.cell 2
              have d3 := hW2.cell 3
              simp at d0 d1 d2 d3
              clear hb hW2 c0 c1 c2 c3
              go_wp2_with fail
              refine (sin_at (z := true) (by decide) _).mono ?_
              rintro e w3 ⟨rfl, rfl⟩
              go_wp2_with fail
              refine (sname_at HM.out hu _).mono ?_
              rintro e w4 ⟨rfl, rfl⟩
              go_wp2
              go_ret
              exact says_b HE.out HB2.out
        ·
          clear hr0
          cases hm : nameB (kb us) with
          | false =>
            have HM := Lib.hid hm
            have HE : Hid (sbV ⟨3, us, T, tx⟩ = false) := Lib.hid ((sbV_mid (by simp)).trans (by simp only; rw [hm]; rfl))
            clear hm
            try clear hN
            try clear hz
            try clear ht
            go_enter Try.func21, Try.ntmps21
            go_wp2_with fail
            refine (sin_at HR.out _).mono ?_
            rintro e w1 ⟨rfl, rfl⟩
            go_wp2_with fail
            refine (names_at HN.out _ HS.out).mono ?_
            rintro e w2 ⟨rfl, hb⟩
            have HB2 := Lib.hid (HB.out.trans (hb.mono HB.out.size))
            have hW2 := HW.out.below hb HW.out.lt
            have d0 := hW2.cell 0
            have d1 := hW2.cell 1
            have d2 := hW2.cell 2
            have d3 := hW2.cell 3
            simp at d0 d1 d2 d3
            clear hb hW2 c0 c1 c2 c3
            go_wp2_with fail
            refine (sin_at (z := true) (by decide) _).mono ?_
            rintro e w3 ⟨rfl, rfl⟩
            go_wp2_with fail
            refine (sname_at HM.out hu _).mono ?_
            rintro e w4 ⟨rfl, rfl⟩
            go_wp2
            go_ret
            exact says_b HE.out HB2.out
          | true =>
            by_cases hN : N = 0
            ·
              by_cases ht : tx.size = 0
              · have he : tx = ⟨#[]⟩ := sz_eB ht
                subst he
                have HM := Lib.hid hm
                have hN0 : decide ((0 : Int) < (N : Int)) = false := decide_eq_false (by omega)
                have hN9 : decide (0 < N) = false := decide_eq_false (by omega)
                have q2 := isEmpty (v := ⟨#[]⟩) rfl
                have HE : Hid (sbV ⟨3, us, T, eB⟩ = true) := Lib.hid ((sbV_mid (by simp)).trans (by simp only; rw [List.eq_nil_of_length_eq_zero (HT.out.trans hN), hm]; rfl))
                clear hm
                try clear hN
                try clear hz
                try clear ht
                go_enter Try.func21, Try.ntmps21
                go_wp2_with fail
                refine (sin_at HR.out _).mono ?_
                rintro e w1 ⟨rfl, rfl⟩
                go_wp2_with fail
                refine (names_at HN.out _ HS.out).mono ?_
                rintro e w2 ⟨rfl, hb⟩
                have HB2 := Lib.hid (HB.out.trans (hb.mono HB.out.size))
                have hW2 := HW.out.below hb HW.out.lt
                have d0 := hW2.cell 0
                have d1 := hW2.cell 1
                have d2 := hW2.cell 2
                have d3 := hW2.cell 3
                simp at d0 d1 d2 d3
                clear hb hW2 c0 c1 c2 c3
                go_wp2_with fail
                refine (sin_at (z := true) (by decide) _).mono ?_
                rintro e w3 ⟨rfl, rfl⟩
                go_wp2_with fail
                refine (sname_at HM.out hu _).mono ?_
                rintro e w4 ⟨rfl, rfl⟩
                go_wp2
                go_ret
                exact says_b HE.out HB2.out
              ·
                have HM := Lib.hid hm
                have hN0 : decide ((0 : Int) < (N : Int)) = false := decide_eq_false (by omega)
                have hN9 : decide (0 < N) = false := decide_eq_false (by omega)
                obtain ⟨q2, q3⟩ := noEmpty ht
                have HE : Hid (sbV ⟨3, us, T, tx⟩ = false) := Lib.hid ((sbV_mid (by simp)).trans (by simp only; rw [ne_eB ht]; simp))
                clear hm
                try clear hN
                try clear hz
                try clear ht
                go_enter Try.func21, Try.ntmps21
                go_wp2_with fail
                refine (sin_at HR.out _).mono ?_
                rintro e w1 ⟨rfl, rfl⟩
                go_wp2_with fail
                refine (names_at HN.out _ HS.out).mono ?_
                rintro e w2 ⟨rfl, hb⟩
                have HB2 := Lib.hid (HB.out.trans (hb.mono HB.out.size))
                have hW2 := HW.out.below hb HW.out.lt
                have d0 := hW2.cell 0
                have d1 := hW2.cell 1
                have d2 := hW2.cell 2
                have d3 := hW2.cell 3
                simp at d0 d1 d2 d3
                clear hb hW2 c0 c1 c2 c3
                go_wp2_with fail
                refine (sin_at (z := true) (by decide) _).mono ?_
                rintro e w3 ⟨rfl, rfl⟩
                go_wp2_with fail
                refine (sname_at HM.out hu _).mono ?_
                rintro e w4 ⟨rfl, rfl⟩
                go_wp2
                go_ret
                exact says_b HE.out HB2.out
            ·
              have HM := Lib.hid hm
              have hN0 : decide ((0 : Int) < (N : Int)) = true := decide_eq_true (by omega)
              have hN9 : decide (0 < N) = true := decide_eq_true (by omega)
              have HE : Hid (sbV ⟨3, us, T, tx⟩ = false) := Lib.hid ((sbV_mid (by simp)).trans (by simp only; rw [ne_nil (by rw [HT.out]; exact hN)]; simp))
              clear hm
              try clear hN
              try clear hz
              try clear ht
              go_enter Try.func21, Try.ntmps21
              go_wp2_with fail
              refine (sin_at HR.out _).mono ?_
              rintro e w1 ⟨rfl, rfl⟩
              go_wp2_with fail
              refine (names_at HN.out _ HS.out).mono ?_
              rintro e w2 ⟨rfl, hb⟩
              have HB2 := Lib.hid (HB.out.trans (hb.mono HB.out.size))
              have hW2 := HW.out.below hb HW.out.lt
              have d0 := hW2.cell 0
              have d1 := hW2.cell 1
              have d2 := hW2.cell 2
              have d3 := hW2.cell 3
              simp at d0 d1 d2 d3
              clear hb hW2 c0 c1 c2 c3
              go_wp2_with fail
              refine (sin_at (z := true) (by decide) _).mono ?_
              rintro e w3 ⟨rfl, rfl⟩
              go_wp2_with fail
              refine (sname_at HM.out hu _).mono ?_
              rintro e w4 ⟨rfl, rfl⟩
              go_wp2
              go_ret
              exact says_b HE.out HB2.out
        ·
          clear hr0
          cases hm : nameB (kb us) with
          | false =>
            have HM := Lib.hid hm
            have HE : Hid (sbV ⟨4, us, T, tx⟩ = false) := Lib.hid ((sbV_to rfl).trans (by simp only; rw [hm]; rfl))
            clear hm
            try clear hN
            try clear hz
            try clear ht
            go_enter Try.func21, Try.ntmps21
            go_wp2_with fail
            refine (sin_at HR.out _).mono ?_
            rintro e w1 ⟨rfl, rfl⟩
            go_wp2_with fail
            refine (names_at HN.out _ HS.out).mono ?_
            rintro e w2 ⟨rfl, hb⟩
            have HB2 := Lib.hid (HB.out.trans (hb.mono HB.out.size))
            have hW2 := HW.out.below hb HW.out.lt
            have d0 := hW2.cell 0
            have d1 := hW2.cell 1
            have d2 := hW2.cell 2
            have d3 := hW2.cell 3
            simp at d0 d1 d2 d3
            clear hb hW2 c0 c1 c2 c3
            go_wp2_with fail
            refine (sin_at (z := true) (by decide) _).mono ?_
            rintro e w3 ⟨rfl, rfl⟩
            go_wp2_with fail
            refine (sname_at HM.out hu _).mono ?_
            rintro e w4 ⟨rfl, rfl⟩
            go_wp2
            go_ret
            exact says_b HE.out HB2.out
          | true =>
            by_cases hN : N = 0
            ·
              have HM := Lib.hid hm
              have hN0 : decide ((0 : Int) < (N : Int)) = false := decide_eq_false (by omega)
              have hN9 : decide (0 < N) = false := decide_eq_false (by omega)
              have HE : Hid (sbV ⟨4, us, T, tx⟩ = false) := Lib.hid ((sbV_to rfl).trans (by simp only; rw [recB_zero (HT.out.trans hN)]; simp))
              clear hm
              try clear hN
              try clear hz
              try clear ht
              go_enter Try.func21, Try.ntmps21
              go_wp2_with fail
              refine (sin_at HR.out _).mono ?_
              rintro e w1 ⟨rfl, rfl⟩
              go_wp2_with fail
              refine (names_at HN.out _ HS.out).mono ?_
              rintro e w2 ⟨rfl, hb⟩
              have HB2 := Lib.hid (HB.out.trans (hb.mono HB.out.size))
              have hW2 := HW.out.below hb HW.out.lt
              have d0 := hW2.cell 0
              have d1 := hW2.cell 1
              have d2 := hW2.cell 2
              have d3 := hW2.cell 3
              simp at d0 d1 d2 d3
              clear hb hW2 c0 c1 c2 c3
              go_wp2_with fail
              refine (sin_at (z := true) (by decide) _).mono ?_
              rintro e w3 ⟨rfl, rfl⟩
              go_wp2_with fail
              refine (sname_at HM.out hu _).mono ?_
              rintro e w4 ⟨rfl, rfl⟩
              go_wp2
              go_ret
              exact says_b HE.out HB2.out
            ·
              by_cases ht : tx.size = 0
              · have he : tx = ⟨#[]⟩ := sz_eB ht
                subst he
                have HM := Lib.hid hm
                have hN0 : decide ((0 : Int) < (N : Int)) = true := decide_eq_true (by omega)
                have hN9 : decide (0 < N) = true := decide_eq_true (by omega)
                have q2 := isEmpty (v := ⟨#[]⟩) rfl
                have HE : Hid (sbV ⟨4, us, T, eB⟩ = true) := Lib.hid ((sbV_to rfl).trans (by simp only; rw [recB_n21 HN.out (by rw [HT.out]; exact hN), hm]; rfl))
                clear hm
                try clear hN
                try clear hz
                try clear ht
                go_enter Try.func21, Try.ntmps21
                go_wp2_with fail
                refine (sin_at HR.out _).mono ?_
                rintro e w1 ⟨rfl, rfl⟩
                go_wp2_with fail
                refine (names_at HN.out _ HS.out).mono ?_
                rintro e w2 ⟨rfl, hb⟩
                have HB2 := Lib.hid (HB.out.trans (hb.mono HB.out.size))
                have hW2 := HW.out.below hb HW.out.lt
                have d0 := hW2.cell 0
                have d1 := hW2.cell 1
                have d2 := hW2.cell 2
                have d3 := hW2.cell 3
                simp at d0 d1 d2 d3
                clear hb hW2 c0 c1 c2 c3
                go_wp2_with fail
                refine (sin_at (z := true) (by decide) _).mono ?_
                rintro e w3 ⟨rfl, rfl⟩
                go_wp2_with fail
                refine (sname_at HM.out hu _).mono ?_
                rintro e w4 ⟨rfl, rfl⟩
                go_wp2
                go_ret
                exact says_b HE.out HB2.out
              ·
                have HM := Lib.hid hm
                have hN0 : decide ((0 : Int) < (N : Int)) = true := decide_eq_true (by omega)
                have hN9 : decide (0 < N) = true := decide_eq_true (by omega)
                obtain ⟨q2, q3⟩ := noEmpty ht
                have HE : Hid (sbV ⟨4, us, T, tx⟩ = false) := Lib.hid ((sbV_to rfl).trans (by simp only; rw [ne_eB ht]; simp))
                clear hm
                try clear hN
                try clear hz
                try clear ht
                go_enter Try.func21, Try.ntmps21
                go_wp2_with fail
                refine (sin_at HR.out _).mono ?_
                rintro e w1 ⟨rfl, rfl⟩
                go_wp2_with fail
                refine (names_at HN.out _ HS.out).mono ?_
                rintro e w2 ⟨rfl, hb⟩
                have HB2 := Lib.hid (HB.out.trans (hb.mono HB.out.size))
                have hW2 := HW.out.below hb HW.out.lt
                have d0 := hW2.cell 0
                have d1 := hW2.cell 1
                have d2 := hW2.cell 2
                have d3 := hW2.cell 3
                simp at d0 d1 d2 d3
                clear hb hW2 c0 c1 c2 c3
                go_wp2_with fail
                refine (sin_at (z := true) (by decide) _).mono ?_
                rintro e w3 ⟨rfl, rfl⟩
                go_wp2_with fail
                refine (sname_at HM.out hu _).mono ?_
                rintro e w4 ⟨rfl, rfl⟩
                go_wp2
                go_ret
                exact says_b HE.out HB2.out
        ·
          clear hr0
          cases hm : nameB (kb us) with
          | false =>
            have HM := Lib.hid hm
            have HE : Hid (sbV ⟨5, us, T, tx⟩ = false) := Lib.hid ((sbV_data rfl).trans (by simp only; rw [hm]; rfl))
            clear hm
            try clear hN
            try clear hz
            try clear ht
            go_enter Try.func21, Try.ntmps21
            go_wp2_with fail
            refine (sin_at HR.out _).mono ?_
            rintro e w1 ⟨rfl, rfl⟩
            go_wp2_with fail
            refine (names_at HN.out _ HS.out).mono ?_
            rintro e w2 ⟨rfl, hb⟩
            have HB2 := Lib.hid (HB.out.trans (hb.mono HB.out.size))
            have hW2 := HW.out.below hb HW.out.lt
            have d0 := hW2.cell 0
            have d1 := hW2.cell 1
            have d2 := hW2.cell 2
            have d3 := hW2.cell 3
            simp at d0 d1 d2 d3
            clear hb hW2 c0 c1 c2 c3
            go_wp2_with fail
            refine (sin_at (z := true) (by decide) _).mono ?_
            rintro e w3 ⟨rfl, rfl⟩
            go_wp2_with fail
            refine (sname_at HM.out hu _).mono ?_
            rintro e w4 ⟨rfl, rfl⟩
            go_wp2
            go_ret
            exact says_b HE.out HB2.out
          | true =>
            by_cases hN : N = 0
            ·
              have HM := Lib.hid hm
              have hN0 : decide ((0 : Int) < (N : Int)) = false := decide_eq_false (by omega)
              have hN9 : decide (0 < N) = false := decide_eq_false (by omega)
              have HE : Hid (sbV ⟨5, us, T, tx⟩ = false) := Lib.hid ((sbV_data rfl).trans (by simp only; rw [recB_zero (HT.out.trans hN)]; simp))
              clear hm
              try clear hN
              try clear hz
              try clear ht
              go_enter Try.func21, Try.ntmps21
              go_wp2_with fail
              refine (sin_at HR.out _).mono ?_
              rintro e w1 ⟨rfl, rfl⟩
              go_wp2_with fail
              refine (names_at HN.out _ HS.out).mono ?_
              rintro e w2 ⟨rfl, hb⟩
              have HB2 := Lib.hid (HB.out.trans (hb.mono HB.out.size))
              have hW2 := HW.out.below hb HW.out.lt
              have d0 := hW2.cell 0
              have d1 := hW2.cell 1
              have d2 := hW2.cell 2
              have d3 := hW2.cell 3
              simp at d0 d1 d2 d3
              clear hb hW2 c0 c1 c2 c3
              go_wp2_with fail
              refine (sin_at (z := true) (by decide) _).mono ?_
              rintro e w3 ⟨rfl, rfl⟩
              go_wp2_with fail
              refine (sname_at HM.out hu _).mono ?_
              rintro e w4 ⟨rfl, rfl⟩
              go_wp2
              go_ret
              exact says_b HE.out HB2.out
            ·
              have HM := Lib.hid hm
              have hN0 : decide ((0 : Int) < (N : Int)) = true := decide_eq_true (by omega)
              have hN9 : decide (0 < N) = true := decide_eq_true (by omega)
              have HE : Hid (sbV ⟨5, us, T, tx⟩ = true) := Lib.hid ((sbV_data rfl).trans (by simp only; rw [recB_n21 HN.out (by rw [HT.out]; exact hN), hm, decide_eq_true HX.out]; rfl))
              clear hm
              try clear hN
              try clear hz
              try clear ht
              go_enter Try.func21, Try.ntmps21
              go_wp2_with fail
              refine (sin_at HR.out _).mono ?_
              rintro e w1 ⟨rfl, rfl⟩
              go_wp2_with fail
              refine (names_at HN.out _ HS.out).mono ?_
              rintro e w2 ⟨rfl, hb⟩
              have HB2 := Lib.hid (HB.out.trans (hb.mono HB.out.size))
              have hW2 := HW.out.below hb HW.out.lt
              have d0 := hW2.cell 0
              have d1 := hW2.cell 1
              have d2 := hW2.cell 2
              have d3 := hW2.cell 3
              simp at d0 d1 d2 d3
              clear hb hW2 c0 c1 c2 c3
              go_wp2_with fail
              refine (sin_at (z := true) (by decide) _).mono ?_
              rintro e w3 ⟨rfl, rfl⟩
              go_wp2_with fail
              refine (sname_at HM.out hu _).mono ?_
              rintro e w4 ⟨rfl, rfl⟩
              go_wp2
              go_ret
              exact says_b HE.out HB2.out
        ·
          clear hr0
          cases hm : nameB (kb us) with
          | true =>
            have HM := Lib.hid hm
            have HE : Hid (sbV ⟨6, us, T, tx⟩ = false) := Lib.hid (((sbV_low (by simp)).trans (by simp only; rw [ne_eB (show us.size ≠ 0 by have := (nm_size hm).1; omega)]; rfl)))
            clear hm
            try clear hN
            try clear hz
            try clear ht
            go_enter Try.func21, Try.ntmps21
            go_wp2_with fail
            refine (sin_at HR.out _).mono ?_
            rintro e w1 ⟨rfl, rfl⟩
            go_wp2_with fail
            refine (names_at HN.out _ HS.out).mono ?_
            rintro e w2 ⟨rfl, hb⟩
            have HB2 := Lib.hid (HB.out.trans (hb.mono HB.out.size))
            have hW2 := HW.out.below hb HW.out.lt
            have d0 := hW2.cell 0
            have d1 := hW2.cell 1
            have d2 := hW2.cell 2
            have d3 := hW2.cell 3
            simp at d0 d1 d2 d3
            clear hb hW2 c0 c1 c2 c3
            go_wp2_with fail
            refine (sin_at (z := false) (by decide) _).mono ?_
            rintro e w3 ⟨rfl, rfl⟩
            go_wp2_with fail
            refine (sname_at HM.out hu _).mono ?_
            rintro e w4 ⟨rfl, rfl⟩
            go_wp2
            go_ret
            exact says_b HE.out HB2.out
          | false =>
            by_cases hz : us.size = 0
            · have he : us = ⟨#[]⟩ := sz_eB hz
              subst he
              by_cases hN : N = 0
              · by_cases ht : tx.size = 0
                · have he : tx = ⟨#[]⟩ := sz_eB ht
                  subst he
                  have HM := Lib.hid hm
                  have hN0 : decide ((0 : Int) < (N : Int)) = false := decide_eq_false (by omega)
                  have hN9 : decide (0 < N) = false := decide_eq_false (by omega)
                  have q1 := isEmpty (v := ⟨#[]⟩) rfl
                  have q2 := isEmpty (v := ⟨#[]⟩) rfl
                  have HE : Hid (sbV ⟨6, eB, T, eB⟩ = true) := Lib.hid ((sbV_low (by simp)).trans (by simp only; rw [List.eq_nil_of_length_eq_zero (HT.out.trans hN)]; rfl))
                  clear hm
                  try clear hN
                  try clear hz
                  try clear ht
                  go_enter Try.func21, Try.ntmps21
                  go_wp2_with fail
                  refine (sin_at HR.out _).mono ?_
                  rintro e w1 ⟨rfl, rfl⟩
                  go_wp2_with fail
                  refine (names_at HN.out _ HS.out).mono ?_
                  rintro e w2 ⟨rfl, hb⟩
                  have HB2 := Lib.hid (HB.out.trans (hb.mono HB.out.size))
                  have hW2 := HW.out.below hb HW.out.lt
                  have d0 := hW2.cell 0
                  have d1 := hW2.cell 1
                  have d2 := hW2.cell 2
                  have d3 := hW2.cell 3
                  simp at d0 d1 d2 d3
                  clear hb hW2 c0 c1 c2 c3
                  go_wp2_with fail
                  refine (sin_at (z := false) (by decide) _).mono ?_
                  rintro e w3 ⟨rfl, rfl⟩
                  go_wp2_with fail
                  refine (sname_at HM.out hu _).mono ?_
                  rintro e w4 ⟨rfl, rfl⟩
                  go_wp2
                  go_ret
                  exact says_b HE.out HB2.out
                ·
                  have HM := Lib.hid hm
                  have hN0 : decide ((0 : Int) < (N : Int)) = false := decide_eq_false (by omega)
                  have hN9 : decide (0 < N) = false := decide_eq_false (by omega)
                  have q1 := isEmpty (v := ⟨#[]⟩) rfl
                  obtain ⟨q2, q3⟩ := noEmpty ht
                  have HE : Hid (sbV ⟨6, eB, T, tx⟩ = false) := Lib.hid ((sbV_low (by simp)).trans (by simp only; rw [ne_eB ht]; simp))
                  clear hm
                  try clear hN
                  try clear hz
                  try clear ht
                  go_enter Try.func21, Try.ntmps21
                  go_wp2_with fail
                  refine (sin_at HR.out _).mono ?_
                  rintro e w1 ⟨rfl, rfl⟩
                  go_wp2_with fail
                  refine (names_at HN.out _ HS.out).mono ?_
                  rintro e w2 ⟨rfl, hb⟩
                  have HB2 := Lib.hid (HB.out.trans (hb.mono HB.out.size))
                  have hW2 := HW.out.below hb HW.out.lt
                  have d0 := hW2.cell 0
                  have d1 := hW2.cell 1
                  have d2 := hW2.cell 2
                  have d3 := hW2.cell 3
                  simp at d0 d1 d2 d3
                  clear hb hW2 c0 c1 c2 c3
                  go_wp2_with fail
                  refine (sin_at (z := false) (by decide) _).mono ?_
                  rintro e w3 ⟨rfl, rfl⟩
                  go_wp2_with fail
                  refine (sname_at HM.out hu _).mono ?_
                  rintro e w4 ⟨rfl, rfl⟩
                  go_wp2
                  go_ret
                  exact says_b HE.out HB2.out
              ·
                have HM := Lib.hid hm
                have hN0 : decide ((0 : Int) < (N : Int)) = true := decide_eq_true (by omega)
                have hN9 : decide (0 < N) = true := decide_eq_true (by omega)
                have q1 := isEmpty (v := ⟨#[]⟩) rfl
                have HE : Hid (sbV ⟨6, eB, T, tx⟩ = false) := Lib.hid ((sbV_low (by simp)).trans (by simp only; rw [ne_nil (by rw [HT.out]; exact hN)]; simp))
                clear hm
                try clear hN
                try clear hz
                try clear ht
                go_enter Try.func21, Try.ntmps21
                go_wp2_with fail
                refine (sin_at HR.out _).mono ?_
                rintro e w1 ⟨rfl, rfl⟩
                go_wp2_with fail
                refine (names_at HN.out _ HS.out).mono ?_
                rintro e w2 ⟨rfl, hb⟩
                have HB2 := Lib.hid (HB.out.trans (hb.mono HB.out.size))
                have hW2 := HW.out.below hb HW.out.lt
                have d0 := hW2.cell 0
                have d1 := hW2.cell 1
                have d2 := hW2.cell 2
                have d3 := hW2.cell 3
                simp at d0 d1 d2 d3
                clear hb hW2 c0 c1 c2 c3
                go_wp2_with fail
                refine (sin_at (z := false) (by decide) _).mono ?_
                rintro e w3 ⟨rfl, rfl⟩
                go_wp2_with fail
                refine (sname_at HM.out hu _).mono ?_
                rintro e w4 ⟨rfl, rfl⟩
                go_wp2
                go_ret
                exact says_b HE.out HB2.out
            ·
              have HM := Lib.hid hm
              obtain ⟨q1, q3⟩ := noEmpty hz
              have HE : Hid (sbV ⟨6, us, T, tx⟩ = false) := Lib.hid ((sbV_low (by simp)).trans (by simp only; rw [ne_eB hz]; rfl))
              clear hm
              try clear hN
              try clear hz
              try clear ht
              go_enter Try.func21, Try.ntmps21
              go_wp2_with fail
              refine (sin_at HR.out _).mono ?_
              rintro e w1 ⟨rfl, rfl⟩
              go_wp2_with fail
              refine (names_at HN.out _ HS.out).mono ?_
              rintro e w2 ⟨rfl, hb⟩
              have HB2 := Lib.hid (HB.out.trans (hb.mono HB.out.size))
              have hW2 := HW.out.below hb HW.out.lt
              have d0 := hW2.cell 0
              have d1 := hW2.cell 1
              have d2 := hW2.cell 2
              have d3 := hW2.cell 3
              simp at d0 d1 d2 d3
              clear hb hW2 c0 c1 c2 c3
              go_wp2_with fail
              refine (sin_at (z := false) (by decide) _).mono ?_
              rintro e w3 ⟨rfl, rfl⟩
              go_wp2_with fail
              refine (sname_at HM.out hu _).mono ?_
              rintro e w4 ⟨rfl, rfl⟩
              go_wp2
              go_ret
              exact says_b HE.out HB2.out
      · have hx' : (21 : Int) < (tx.size : Int) := by omega
        have HE : Hid (sbV ⟨st, us, T, tx⟩ = false) := Lib.hid (sbV_long hx)
        clear hr0 hx
        go_enter Try.func21, Try.ntmps21
        go_wp2_with fail
        refine (sin_at HR.out _).mono ?_
        rintro e w1 ⟨rfl, rfl⟩
        go_wp2_with fail
        refine (names_at HN.out _ HS.out).mono ?_
        rintro e w2 ⟨rfl, hb⟩
        have HB2 := Lib.hid (HB.out.trans (hb.mono HB.out.size))
        have d3 := (HW.out.below hb HW.out.lt).cell 3
        simp at d3
        clear hb
        go_wp2
        go_ret
        exact says_b HE.out HB2.out
end Go.Proofs.Ytichajalinkcdaa
