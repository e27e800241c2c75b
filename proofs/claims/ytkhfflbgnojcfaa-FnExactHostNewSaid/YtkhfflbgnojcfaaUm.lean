/-
  The plain mathematics of users: lists in the order of their names, who is found, and whose password is right. Plain definitions and lemmas; no condition.
-/
import Derived.Test.YtkhfflbgnojcfaaOd
import Derived.Test.YtkhfflbgnojcfaaVals
import Derived.Test.YtkhfflbgnojcfaaPmake
import Derived.Test.YtkhfflbgnojcfaaPparse
namespace Go.Proofs.Ytkhfflbgnojcfaa
set_option linter.unusedVariables false

/-- A user: a name, a password, a quota. -/
abbrev Us := ByteArray × ByteArray × Int
/-- The name of everybody. -/
def evB : ByteArray := ⟨#[97, 110, 121, 111, 110, 101]⟩
/-- A valid user. -/
def okU (u : Us) : Bool := nameB (kb u.1) && (!(kb u.1 == kb evB) && (nameB (kb u.2.1) && (decide (0 ≤ u.2.2) && decide (u.2.2 ≤ 200))))
def ascU (L : List Us) : Prop := L.Pairwise fun a b => ltG a.1 b.1 = true
instance (L : List Us) : Decidable (ascU L) := by unfold ascU; infer_instance
/-- Valid users. -/
def vU (L : List Us) : Bool := (decide (1 ≤ L.length) && decide (L.length ≤ 4)) && (L.all okU && decide (ascU L))
theorem vU_iff {L : List Us} : vU L = true ↔ (1 ≤ L.length ∧ L.length ≤ 4) ∧ (∀ g ∈ L, okU g = true) ∧ ascU L := by
  unfold vU
  simp [List.all_eq_true]
theorem vU_long {L : List Us} (h : ¬ (1 ≤ L.length ∧ L.length ≤ 4)) : vU L = false := by
  cases hv : vU L with
  | false => rfl
  | true => exact absurd (vU_iff.1 hv).1 h
/-- The first users are valid. -/
def goodU (L : List Us) (k : Nat) : Prop := (∀ g ∈ L.take k, okU g = true) ∧ ascU (L.take k)
theorem goodU_zero (L : List Us) : goodU L 0 := ⟨fun g hg => by simp at hg, by unfold ascU; simp⟩
theorem goodU_all {L : List Us} {k : Nat} (h : goodU L k) (hk : L.length ≤ k) : vU L = (decide (1 ≤ L.length) && decide (L.length ≤ 4)) := by
  unfold goodU at h
  rw [List.take_of_length_le hk] at h
  by_cases h4 : 1 ≤ L.length ∧ L.length ≤ 4
  · rw [decide_eq_true h4.1, decide_eq_true h4.2]
    exact vU_iff.2 ⟨h4, h⟩
  · rw [vU_long h4]
    symm
    rw [Bool.and_eq_false_iff]
    by_cases h1 : 1 ≤ L.length
    · exact .inr (decide_eq_false fun h2 => h4 ⟨h1, h2⟩)
    · exact .inl (decide_eq_false h1)
theorem goodU_first {L : List Us} {g : Us} (hg : L[0]? = some g) (ho : okU g = true) : goodU L 1 := by
  unfold goodU
  rw [tsnoc hg, List.take_zero]
  exact ⟨fun x hx => by simp at hx; rw [hx]; exact ho, by unfold ascU; simp⟩
theorem goodU_next {L : List Us} {k : Nat} {p g : Us} (h : goodU L (k + 1)) (hp : L[k]? = some p) (hg : L[k + 1]? = some g) (ho : okU g = true) (hl : ltG p.1 g.1 = true) : goodU L (k + 1 + 1) := by
  unfold goodU at *
  rw [tsnoc hg]
  rw [tsnoc hp] at h ⊢
  refine ⟨fun x hx => ?_, ?_⟩
  · rcases List.mem_append.1 hx with h1 | h1
    · exact h.1 x h1
    · simp at h1
      rw [h1]
      exact ho
  · unfold ascU at *
    rw [List.pairwise_append]
    refine ⟨h.2, by simp, fun a ha b hb => ?_⟩
    simp at hb
    subst hb
    rcases List.mem_append.1 ha with h1 | h1
    · exact ltG_trans ((List.pairwise_append.1 h.2).2.2 a h1 p (by simp)) hl
    · simp at h1
      rw [h1]
      exact hl
theorem vU_bad {L : List Us} {k : Nat} {g : Us} (hg : L[k]? = some g) (ho : okU g = false) : vU L = false := by
  cases hv : vU L with
  | false => rfl
  | true => have := (vU_iff.1 hv).2.1 g (List.mem_of_getElem? hg); rw [ho] at this; cases this
theorem vU_order {L : List Us} {k : Nat} {p g : Us} (hp : L[k]? = some p) (hg : L[k + 1]? = some g) (hl : ltG p.1 g.1 = false) : vU L = false := by
  cases hv : vU L with
  | false => rfl
  | true =>
    have h3 := (vU_iff.1 hv).2.2
    have hk := (List.getElem?_eq_some_iff.1 hp)
    have hk1 := (List.getElem?_eq_some_iff.1 hg)
    have := List.pairwise_iff_getElem.1 h3 k (k + 1) hk.1 hk1.1 (by omega)
    rw [hk.2, hk1.2, hl] at this
    cases this

/-- The place of the first user with a name, counted from 'k', or -1. -/
def ixG : List Us → ByteArray → Nat → Int
  | [], _, _ => -1
  | u :: L, n, k => if kb u.1 = kb n then (k : Int) else ixG L n (k + 1)
/-- The user with a name. -/
def fU (L : List Us) (n : ByteArray) : Option Us := L.find? fun u => kb u.1 == kb n
def noU : Us := (⟨#[]⟩, ⟨#[]⟩, 0)
/-- What UsersFind answers. -/
def usF (L : List Us) (n : ByteArray) : Us × Bool := if vU L then (match fU L n with | some u => (u, true) | none => (noU, false)) else (noU, false)
/-- What UsersProve answers. -/
def prU (L : List Us) (n p : ByteArray) : Bool := (usF L n).2 && (kb (usF L n).1.2.1 == kb p)
/-- What UsersPlain answers, if PlainParse of the text is 'n', 'p', 'o'. -/
def upU (L : List Us) (n p : ByteArray) (o : Bool) : ByteArray × Bool := if o && prU L n p then (n, true) else (⟨#[]⟩, false)

theorem fU_skip {L : List Us} {k : Nat} {u : Us} {n : ByteArray} (hx : L[k]? = some u) (hne : u.1 ≠ n) : fU (L.drop k) n = fU (L.drop (k + 1)) n := by
  obtain ⟨hk, rfl⟩ := List.getElem?_eq_some_iff.1 hx
  unfold fU
  rw [List.drop_eq_getElem_cons hk, List.find?_cons, ne_kb hne]
theorem fU_here {L : List Us} {k : Nat} {u : Us} (hx : L[k]? = some u) : fU (L.drop k) u.1 = some u := by
  obtain ⟨hk, rfl⟩ := List.getElem?_eq_some_iff.1 hx
  unfold fU
  rw [List.drop_eq_getElem_cons hk, List.find?_cons, show (kb L[k].1 == kb L[k].1) = true by simp]
/-- What findBy answers. -/
def fuF (L : List Us) (n : ByteArray) : Us × Bool := match fU L n with | some u => (u, true) | none => (noU, false)
theorem usF_fu (L : List Us) (n : ByteArray) : usF L n = if vU L then fuF L n else (noU, false) := rfl
theorem fuF_skip {L : List Us} {k : Nat} {u : Us} {n : ByteArray} (hx : L[k]? = some u) (hne : u.1 ≠ n) : fuF (L.drop k) n = fuF (L.drop (k + 1)) n := by unfold fuF; rw [fU_skip hx hne]
theorem fuF_here {L : List Us} {k : Nat} {u : Us} (hx : L[k]? = some u) : fuF (L.drop k) u.1 = (u, true) := by unfold fuF; rw [fU_here hx]
theorem ixG_skip {L : List Us} {k : Nat} {u : Us} {n : ByteArray} (hx : L[k]? = some u) (hne : u.1 ≠ n) : ixG (L.drop k) n k = ixG (L.drop (k + 1)) n (k + 1) := by
  obtain ⟨hk, rfl⟩ := List.getElem?_eq_some_iff.1 hx
  rw [List.drop_eq_getElem_cons hk, ixG, if_neg (fun e => hne (kb_inj e))]
theorem ixG_here {L : List Us} {k : Nat} {u : Us} (hx : L[k]? = some u) : ixG (L.drop k) u.1 k = (k : Int) := by
  obtain ⟨hk, rfl⟩ := List.getElem?_eq_some_iff.1 hx
  rw [List.drop_eq_getElem_cons hk, ixG, if_pos rfl]
theorem ixG_case : ∀ (L : List Us) (n : ByteArray) (k : Nat), (fU L n = none ∧ ixG L n k = -1) ∨ ∃ j u, L[j]? = some u ∧ fU L n = some u ∧ ixG L n k = ((k + j : Nat) : Int)
  | [], n, k => .inl ⟨rfl, rfl⟩
  | a :: L, n, k => by
    by_cases h : a.1 = n
    · refine .inr ⟨0, a, rfl, ?_, ?_⟩
      · unfold fU; rw [List.find?_cons, h]; simp
      · rw [ixG, if_pos (by rw [h])]; rfl
    · have e1 : fU (a :: L) n = fU L n := by unfold fU; rw [List.find?_cons, ne_kb h]
      have e2 : ixG (a :: L) n k = ixG L n (k + 1) := by rw [ixG, if_neg (fun e => h (kb_inj e))]
      rcases ixG_case L n (k + 1) with ⟨h1, h2⟩ | ⟨j, u, h1, h2, h3⟩
      · exact .inl ⟨e1.trans h1, e2.trans h2⟩
      · exact .inr ⟨j + 1, u, h1, e1.trans h2, e2.trans (h3.trans (by omega))⟩
theorem fU_some {L : List Us} {n : ByteArray} {u : Us} (h : fU L n = some u) : u ∈ L ∧ u.1 = n := by
  unfold fU at h
  refine ⟨List.mem_of_find?_eq_some h, kb_inj ?_⟩
  have := List.find?_some h
  simpa using this
theorem fU_mem {L : List Us} (ha : ascU L) {u : Us} (hu : u ∈ L) : fU L u.1 = some u := by
  induction L with
  | nil => cases hu
  | cons a L ih =>
    unfold ascU at ha
    rw [List.pairwise_cons] at ha
    unfold fU at ih ⊢
    rw [List.find?_cons]
    rcases List.mem_cons.1 hu with rfl | h
    · rw [show (kb u.1 == kb u.1) = true by simp]
    · rw [ne_kb (ltG_ne (ha.1 u h))]
      exact ih ha.2 h
theorem usF_no {L : List Us} (n : ByteArray) (h : vU L = false) : usF L n = (noU, false) := by unfold usF; rw [h]; rfl
theorem usF_yes {L : List Us} {n : ByteArray} {u : Us} (h : vU L = true) (hf : fU L n = some u) : usF L n = (u, true) := by unfold usF; rw [h, hf]; rfl
theorem usF_none {L : List Us} {n : ByteArray} (h : vU L = true) (hf : fU L n = none) : usF L n = (noU, false) := by unfold usF; rw [h, hf]; rfl
theorem usF_true {L : List Us} {n : ByteArray} {u : Us} (h : usF L n = (u, true)) : vU L = true ∧ fU L n = some u ∧ u ∈ L ∧ u.1 = n ∧ okU u = true := by
  cases hv : vU L with
  | false => rw [usF_no n hv] at h; cases h
  | true =>
    cases hf : fU L n with
    | none => rw [usF_none hv hf] at h; cases h
    | some v =>
      rw [usF_yes hv hf] at h
      cases h
      obtain ⟨h1, h2⟩ := fU_some hf
      exact ⟨rfl, rfl, h1, h2, (vU_iff.1 hv).2.1 u h1⟩
theorem usF_false {L : List Us} {n : ByteArray} {u : Us} (h : usF L n = (u, false)) : u = noU := by
  cases hv : vU L with
  | false => rw [usF_no n hv] at h; cases h; rfl
  | true =>
    cases hf : fU L n with
    | none => rw [usF_none hv hf] at h; cases h; rfl
    | some v => rw [usF_yes hv hf] at h; cases h
theorem okU_parts {u : Us} (h : okU u = true) : nameB (kb u.1) = true ∧ u.1 ≠ evB ∧ nameB (kb u.2.1) = true ∧ 0 ≤ u.2.2 ∧ u.2.2 ≤ 200 := by
  unfold okU at h
  simp at h
  exact ⟨h.1, fun e => h.2.1 (by rw [e]), h.2.2.1, h.2.2.2.1, h.2.2.2.2⟩
theorem usF_ev (L : List Us) : usF L evB = (noU, false) := by
  cases hu : usF L evB with
  | mk u z =>
    cases z with
    | false => rw [usF_false hu]
    | true =>
      obtain ⟨_, _, _, h1, h2⟩ := usF_true hu
      exact absurd h1 (okU_parts h2).2.1
theorem prU_true {L : List Us} {n p : ByteArray} (h : prU L n p = true) : ∃ q : Int, usF L n = ((n, p, q), true) ∧ nameB (kb n) = true ∧ nameB (kb p) = true := by
  unfold prU at h
  cases hu : usF L n with
  | mk u z =>
    rw [hu] at h
    simp only [Bool.and_eq_true] at h
    obtain ⟨h1, h2⟩ := h
    subst h1
    obtain ⟨_, _, _, h3, h4⟩ := usF_true hu
    obtain ⟨u1, u2, q⟩ := u
    obtain rfl : u1 = n := h3
    obtain rfl : u2 = p := kb_inj (by simpa using h2)
    have h5 := okU_parts h4
    exact ⟨q, rfl, h5.1, h5.2.2.1⟩
theorem prU_other {L : List Us} {n p p' : ByteArray} (h : prU L n p = true) (hne : p' ≠ p) : prU L n p' = false := by
  obtain ⟨q, h1, _⟩ := prU_true h
  unfold prU
  rw [h1]
  exact ne_kb (fun e => hne e.symm)
theorem prU_is {L : List Us} {n p : ByteArray} {u : Us} {z : Bool} (h : usF L n = (u, z)) : prU L n p = (z && (kb u.2.1 == kb p)) := by unfold prU; rw [h]
theorem prU_nil {L : List Us} {n p : ByteArray} (h : prU L n p = true) : prU L n ⟨#[]⟩ = false := by
  refine prU_other h ?_
  rintro rfl
  obtain ⟨_, _, _, h3⟩ := prU_true h
  exact absurd h3 (by decide)
theorem prU_more {L : List Us} {n p : ByteArray} (h : prU L n p = true) : prU L n (p ++ ⟨#[97]⟩) = false := by
  refine prU_other h ?_
  intro e
  have := congrArg ByteArray.size e
  rw [ByteArray.size_append] at this
  have h2 : (⟨#[97]⟩ : ByteArray).size = 1 := rfl
  omega
/-- A proof that was made of a name and a password tells them, or nothing if one is none. -/
theorem up_made {L : List Us} {n p v q t : ByteArray} {o : Bool} (hm : mkB n p = t) (hp : IsPP t o v q) : upU L v q o = if prU L n p then (n, true) else (⟨#[]⟩, false) := by
  cases hr : prU L n p with
  | true =>
    obtain ⟨_, _, h2, h3⟩ := prU_true hr
    have hq : IsPP t true n p := by
      rw [← hm]
      exact pp_mk (by rw [mk_yes (u := n.data.toList) (p := p.data.toList) h2 h3]; exact enc_ne (by unfold two0; simp))
    obtain ⟨h4, h5, h6⟩ := isPP_one hp hq
    subst h4 h5 h6
    unfold upU
    rw [hr]
    rfl
  | false =>
    unfold upU
    cases o with
    | false => rfl
    | true =>
      cases hv : prU L v q with
      | false => rfl
      | true =>
        exfalso
        obtain ⟨_, _, h2, h3⟩ := prU_true hv
        have h1 : mk v.data.toList q.data.toList = t.data.toList := mk_pp hp
        have hne : mk n.data.toList p.data.toList ≠ [] := by
          intro e
          have h4 : t.data.toList = [] := by rw [← hm]; unfold mkB; rw [e]; rfl
          rw [h4] at h1
          rw [mk_yes (u := v.data.toList) (p := q.data.toList) h2 h3] at h1
          exact enc_ne (by unfold two0; simp) h1
        have hq : IsPP t true n p := by
          rw [← hm]
          exact pp_mk hne
        obtain ⟨_, h5, h6⟩ := isPP_one hp hq
        subst h5 h6
        rw [hr] at hv
        cases hv
end Go.Proofs.Ytkhfflbgnojcfaa
