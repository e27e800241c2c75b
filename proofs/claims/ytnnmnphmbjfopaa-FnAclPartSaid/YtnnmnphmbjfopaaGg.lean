/-
  The plain mathematics of grants: lists in the order of their users, and what becomes of them when a user's rights are changed. Plain definitions and lemmas; no condition.
-/
import Derived.Test.YtnnmnphmbjfopaaRgm
import Derived.Test.YtnnmnphmbjfopaaVals
import Derived.Test.YtnnmnphmbjfopaaRow
import Derived.Sort.KeysCollected
import Derived.Sort.Walk0
import Derived.Maps.OwnSet
namespace Go.Proofs.Ytnnmnphmbjfopaa
open Go.Maps
set_option linter.unusedVariables false

/-- A grant: a user, rights. -/
abbrev Gr := ByteArray × Int
def kb (s : ByteArray) : List UInt8 := s.data.toList
theorem kb_inj {a b : ByteArray} (h : kb a = kb b) : a = b := by
  cases a
  cases b
  congr
  exact Array.toList_inj.1 h
/-- The order of names. -/
def ltG (a b : ByteArray) : Bool := decide (kb a < kb b)
theorem less_walk (a b : ByteArray) : Op.bytesLess a.toList b.toList = ltG a b := by
  rw [bytesLess_eq, ByteArray.toList_eq, ByteArray.toList_eq]
  rfl
theorem ltG_trans {a b c : ByteArray} (h1 : ltG a b = true) (h2 : ltG b c = true) : ltG a c = true := by
  unfold ltG at *
  simp only [decide_eq_true_eq] at *
  exact List.lt_trans h1 h2
theorem ltG_irrefl (a : ByteArray) : ltG a a = false := by
  unfold ltG
  exact decide_eq_false (List.lt_irrefl _)
theorem ltG_ne {a b : ByteArray} (h : ltG a b = true) : a ≠ b := by
  rintro rfl
  rw [ltG_irrefl] at h
  cases h
theorem ltG_total {a b : ByteArray} (h : ltG a b = false) (hne : a ≠ b) : ltG b a = true := by
  unfold ltG at *
  simp only [decide_eq_false_iff_not, decide_eq_true_eq] at *
  rcases List.le_iff_lt_or_eq.1 (List.not_lt.1 h) with h1 | h1
  · exact h1
  · exact absurd (kb_inj h1.symm) hne
theorem ltG_asymm {a b : ByteArray} (h : ltG a b = true) : ltG b a = false := by
  cases h2 : ltG b a with
  | false => rfl
  | true => have := ltG_trans h h2; rw [ltG_irrefl] at this; cases this
/-- A valid grant. -/
def okG (g : Gr) : Bool := nameB (kb g.1) && (decide (1 ≤ g.2) && decide (g.2 ≤ 63))
def ascG (L : List Gr) : Prop := L.Pairwise fun a b => ltG a.1 b.1 = true
instance (L : List Gr) : Decidable (ascG L) := by unfold ascG; infer_instance
/-- Valid grants. -/
def vG (L : List Gr) : Bool := decide (L.length ≤ 4) && (L.all okG && decide (ascG L))
theorem vG_iff {L : List Gr} : vG L = true ↔ L.length ≤ 4 ∧ (∀ g ∈ L, okG g = true) ∧ ascG L := by
  unfold vG
  simp [List.all_eq_true]
theorem vG_long {L : List Gr} (h : ¬ L.length ≤ 4) : vG L = false := by
  cases hv : vG L with
  | false => rfl
  | true => exact absurd (vG_iff.1 hv).1 h
/-- The first grants are valid. -/
def goodG (L : List Gr) (k : Nat) : Prop := (∀ g ∈ L.take k, okG g = true) ∧ ascG (L.take k)
theorem goodG_zero (L : List Gr) : goodG L 0 := ⟨fun g hg => by simp at hg, by unfold ascG; simp⟩
theorem goodG_all {L : List Gr} {k : Nat} (h : goodG L k) (hk : L.length ≤ k) : vG L = decide (L.length ≤ 4) := by
  unfold goodG at h
  rw [List.take_of_length_le hk] at h
  by_cases h4 : L.length ≤ 4
  · rw [decide_eq_true h4]
    exact vG_iff.2 ⟨h4, h⟩
  · rw [vG_long h4, decide_eq_false h4]
theorem take_snoc {L : List Gr} {k : Nat} {g : Gr} (hg : L[k]? = some g) : L.take (k + 1) = L.take k ++ [g] := by
  rw [List.take_add_one, hg]
  rfl
theorem goodG_first {L : List Gr} {g : Gr} (hg : L[0]? = some g) (ho : okG g = true) : goodG L 1 := by
  unfold goodG
  rw [take_snoc hg, List.take_zero]
  exact ⟨fun x hx => by simp at hx; rw [hx]; exact ho, by unfold ascG; simp⟩
theorem goodG_next {L : List Gr} {k : Nat} {p g : Gr} (h : goodG L (k + 1)) (hp : L[k]? = some p) (hg : L[k + 1]? = some g) (ho : okG g = true) (hl : ltG p.1 g.1 = true) : goodG L (k + 1 + 1) := by
  unfold goodG at *
  rw [take_snoc hg]
  rw [take_snoc hp] at h ⊢
  refine ⟨fun x hx => ?_, ?_⟩
  · rcases List.mem_append.1 hx with h1 | h1
    · exact h.1 x h1
    · simp at h1
      rw [h1]
      exact ho
  · unfold ascG at *
    rw [List.pairwise_append]
    refine ⟨h.2, by simp, fun a ha b hb => ?_⟩
    simp at hb
    subst hb
    rcases List.mem_append.1 ha with h1 | h1
    · exact ltG_trans ((List.pairwise_append.1 h.2).2.2 a h1 p (by simp)) hl
    · simp at h1
      rw [h1]
      exact hl
theorem vG_bad {L : List Gr} {k : Nat} {g : Gr} (hg : L[k]? = some g) (ho : okG g = false) : vG L = false := by
  cases hv : vG L with
  | false => rfl
  | true => have := (vG_iff.1 hv).2.1 g (List.mem_of_getElem? hg); rw [ho] at this; cases this
theorem vG_order {L : List Gr} {k : Nat} {p g : Gr} (hp : L[k]? = some p) (hg : L[k + 1]? = some g) (hl : ltG p.1 g.1 = false) : vG L = false := by
  cases hv : vG L with
  | false => rfl
  | true =>
    have h3 := (vG_iff.1 hv).2.2
    have hk := (List.getElem?_eq_some_iff.1 hp)
    have hk1 := (List.getElem?_eq_some_iff.1 hg)
    have := List.pairwise_iff_getElem.1 h3 k (k + 1) hk.1 hk1.1 (by omega)
    rw [hk.2, hk1.2, hl] at this
    cases this

/-- The grants but those of a user. -/
def delG (L : List Gr) (u : ByteArray) : List Gr := L.filter fun g => !(kb g.1 == kb u)
/-- The grants with those of a user in their place. -/
def insG (L : List Gr) (u : ByteArray) (r : Int) : List Gr := L.filter (fun g => ltG g.1 u) ++ (u, r) :: L.filter fun g => ltG u g.1
/-- The rights of a user by name. -/
def valG : List Gr → ByteArray → Int
  | [], _ => 0
  | g :: L, u => if kb g.1 = kb u then g.2 else valG L u
def hasG (L : List Gr) (u : ByteArray) : Bool := L.any fun g => kb g.1 == kb u

theorem ne_kb {a b : ByteArray} (h : a ≠ b) : (kb a == kb b) = false := beq_eq_false_iff_ne.2 fun e => h (kb_inj e)
theorem hasG_mem {L : List Gr} {u : ByteArray} : hasG L u = true ↔ ∃ g ∈ L, g.1 = u := by
  unfold hasG
  rw [List.any_eq_true]
  constructor
  · rintro ⟨g, hg, h⟩; exact ⟨g, hg, kb_inj (beq_iff_eq.1 h)⟩
  · rintro ⟨g, hg, rfl⟩; exact ⟨g, hg, by simp⟩
theorem hasG_no {L : List Gr} {u : ByteArray} (h : hasG L u = false) : ∀ g ∈ L, g.1 ≠ u := fun g hg e => by
  have := hasG_mem.2 ⟨g, hg, e⟩
  rw [h] at this
  cases this
theorem valG_no {L : List Gr} {u : ByteArray} (h : hasG L u = false) : valG L u = 0 := by
  have := hasG_no h
  clear h
  induction L with
  | nil => rfl
  | cons g L ih =>
    rw [valG, if_neg (fun e => this g (by simp) (kb_inj e))]
    exact ih fun g hg => this g (by simp [hg])
theorem valG_yes {L : List Gr} {u : ByteArray} (hv : ∀ g ∈ L, okG g = true) (h : hasG L u = true) : 1 ≤ valG L u ∧ valG L u ≤ 63 := by
  obtain ⟨g, hg, rfl⟩ := hasG_mem.1 h
  clear h
  induction L with
  | nil => cases hg
  | cons a L ih =>
    rw [valG]
    split
    · have := hv a (by simp)
      unfold okG at this
      simp at this
      exact ⟨this.2.1, this.2.2⟩
    · rename_i hne
      rcases List.mem_cons.1 hg with rfl | hg
      · exact absurd rfl hne
      · exact ih (fun x hx => hv x (by simp [hx])) hg
theorem valG_zero {L : List Gr} {u : ByteArray} (hv : ∀ g ∈ L, okG g = true) : valG L u = 0 ↔ hasG L u = false := by
  constructor
  · intro h
    cases hh : hasG L u with
    | false => rfl
    | true => have := (valG_yes hv hh).1; omega
  · exact valG_no
theorem valG_mem {L : List Gr} (ha : ascG L) {g : Gr} (hg : g ∈ L) : valG L g.1 = g.2 := by
  induction L with
  | nil => cases hg
  | cons a L ih =>
    unfold ascG at ha
    rw [List.pairwise_cons] at ha
    rw [valG]
    rcases List.mem_cons.1 hg with rfl | hg
    · rw [if_pos rfl]
    · rw [if_neg (fun e => ltG_ne (ha.1 g hg) (kb_inj e))]
      exact ih ha.2 hg
theorem asc_nodup {L : List Gr} (ha : ascG L) : (L.map fun g => kb g.1).Nodup := by
  refine List.pairwise_map.2 (ha.imp fun h e => ltG_ne h (kb_inj e))
theorem asc_filter {L : List Gr} (ha : ascG L) (p : Gr → Bool) : ascG (L.filter p) := List.Pairwise.filter p ha
theorem insG_asc {L : List Gr} (ha : ascG L) (u : ByteArray) (r : Int) : ascG (insG L u r) := by
  unfold insG ascG
  rw [List.pairwise_append, List.pairwise_cons]
  refine ⟨List.Pairwise.filter _ ha, ⟨fun g hg => (List.mem_filter.1 hg).2, List.Pairwise.filter _ ha⟩, fun a h1 b h2 => ?_⟩
  have h3 : ltG a.1 u = true := (List.mem_filter.1 h1).2
  rcases List.mem_cons.1 h2 with rfl | h2
  · exact h3
  · exact ltG_trans h3 (List.mem_filter.1 h2).2
/-- The grants of the others, in two pieces. -/
theorem delG_two {L : List Gr} (ha : ascG L) (u : ByteArray) : delG L u = L.filter (fun g => ltG g.1 u) ++ L.filter fun g => ltG u g.1 := by
  induction L with
  | nil => rfl
  | cons a L ih =>
    unfold ascG at ha
    rw [List.pairwise_cons] at ha
    have ih := ih ha.2
    unfold delG at ih ⊢
    rw [List.filter_cons, List.filter_cons, List.filter_cons]
    by_cases h1 : a.1 = u
    · have e1 : ltG a.1 u = false := by rw [h1]; exact ltG_irrefl _
      have e2 : ltG u a.1 = false := by rw [h1]; exact ltG_irrefl _
      have e3 : (!(kb a.1 == kb u)) = false := by rw [h1]; simp
      rw [e1, e2, e3]
      exact ih
    · have e3 : (!(kb a.1 == kb u)) = true := by rw [ne_kb h1]; rfl
      rw [e3]
      cases h2 : ltG a.1 u with
      | true =>
        rw [ltG_asymm h2]
        simp only [if_true, Bool.false_eq_true, if_false]
        rw [ih]
        rfl
      | false =>
        have h3 := ltG_total h2 h1
        rw [h3]
        simp only [if_true, Bool.false_eq_true, if_false]
        have hn : L.filter (fun g => ltG g.1 u) = [] := List.filter_eq_nil_iff.2 fun g hg => by
          rw [ltG_asymm (ltG_trans h3 (ha.1 g hg))]
          simp
        rw [hn] at ih ⊢
        rw [ih]
        rfl
theorem insG_perm {L : List Gr} (ha : ascG L) (u : ByteArray) (r : Int) : (delG L u ++ [(u, r)]).Perm (insG L u r) := by
  rw [delG_two ha]
  unfold insG
  rw [List.append_assoc]
  exact List.Perm.append_left _ (List.perm_append_comm)
theorem delG_none {L : List Gr} {u : ByteArray} (h : hasG L u = false) : delG L u = L := by
  unfold delG
  rw [List.filter_eq_self]
  intro g hg
  rw [ne_kb (hasG_no h g hg)]
  rfl
theorem delG_len {L : List Gr} (ha : ascG L) (u : ByteArray) : (delG L u).length + (if hasG L u then 1 else 0) = L.length := by
  induction L with
  | nil => rfl
  | cons a L ih =>
    unfold ascG at ha
    rw [List.pairwise_cons] at ha
    have ih := ih ha.2
    unfold delG hasG at ih ⊢
    rw [List.filter_cons, List.any_cons]
    by_cases h1 : a.1 = u
    · have e3 : (kb a.1 == kb u) = true := by rw [h1]; simp
      have e4 : L.any (fun g => kb g.1 == kb u) = false := by
        rw [List.any_eq_false]
        intro g hg
        rw [ne_kb (fun e => ltG_ne (ha.1 g hg) (h1.trans e.symm))]
        simp
      rw [e4] at ih
      rw [e3, e4]
      simp at ih ⊢
      exact ih
    · rw [ne_kb h1]
      simp only [Bool.not_false, if_true, Bool.false_or, List.length_cons]
      omega
theorem insG_len {L : List Gr} (ha : ascG L) (u : ByteArray) (r : Int) : (insG L u r).length = (if hasG L u then L.length else L.length + 1) := by
  have h1 := (insG_perm ha u r).length_eq
  have h2 := delG_len ha u
  rw [List.length_append, List.length_singleton] at h1
  split
  · rename_i h; rw [h, if_pos rfl] at h2; omega
  · rename_i h; rw [if_neg h] at h2; omega
theorem insG_ok {L : List Gr} {u : ByteArray} {r : Int} (hv : ∀ g ∈ L, okG g = true) (ho : okG (u, r) = true) : ∀ g ∈ insG L u r, okG g = true := by
  intro g hg
  unfold insG at hg
  rcases List.mem_append.1 hg with h | h
  · exact hv g (List.mem_filter.1 h).1
  · rcases List.mem_cons.1 h with rfl | h
    · exact ho
    · exact hv g (List.mem_filter.1 h).1
theorem delG_mem {L : List Gr} {u : ByteArray} {g : Gr} : g ∈ delG L u ↔ g ∈ L ∧ g.1 ≠ u := by
  unfold delG
  rw [List.mem_filter]
  constructor
  · rintro ⟨h1, h2⟩
    refine ⟨h1, ?_⟩
    rintro rfl
    simp at h2
  · rintro ⟨h1, h2⟩
    exact ⟨h1, by rw [ne_kb h2]; rfl⟩
theorem insG_mem {L : List Gr} (ha : ascG L) {u : ByteArray} {r : Int} {g : Gr} : g ∈ insG L u r ↔ (g ∈ L ∧ g.1 ≠ u) ∨ g = (u, r) := by
  rw [← (insG_perm ha u r).mem_iff, List.mem_append, delG_mem, List.mem_singleton]
/-- A change of valid grants. -/
def setG (L : List Gr) (u : ByteArray) (r : Int) : List Gr := if r = 0 then delG L u else insG L u r
/-- What the function answers. -/
def aclG (L : List Gr) (u : ByteArray) (r : Int) : List Gr × Bool :=
  if vG L && (nameB (kb u) && isR r) then (if (setG L u r).length ≤ 4 then (setG L u r, true) else (L, false)) else ([], false)
end Go.Proofs.Ytnnmnphmbjfopaa
