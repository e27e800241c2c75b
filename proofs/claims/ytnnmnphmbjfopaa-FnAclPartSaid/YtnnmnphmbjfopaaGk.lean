/-
  How a map of the call's own says the grants of a list: what look-ups, stores and removals make of it, and that its keys in order are the list's. Plain lemmas; no condition.
-/
import Derived.Test.YtnnmnphmbjfopaaGg
import Derived.Maps.OwnSet
import Derived.Maps.Range
namespace Go.Proofs.Ytnnmnphmbjfopaa
open Go.Maps
set_option linter.unusedVariables false

def gi (r : Int) : DataW Unit := .lit (.int .i64 r)
/-- The datum says these grants. -/
structure MapIs (D : DataW Unit) (L : List Gr) : Prop where
  tidy : Tidy D
  has : ∀ x, Maps.has D (.string x) = L.any fun g => kb g.1 == x
  val : ∀ u, D.atKey (.string (kb u)) (gi 0) = gi (valG L u)
  size : Maps.size D = L.length
theorem key_ok (x : List UInt8) : WideAt.IsKeyLit (.string x) := by simp [WideAt.IsKeyLit]
theorem str_ne {x y : List UInt8} (h : x ≠ y) : (Lit.string x) ≠ .string y := fun e => h (by injection e)
theorem MapIs.start : MapIs (.map []) [] := ⟨tidy_empty, fun x => rfl, fun u => rfl, rfl⟩
theorem MapIs.del {D : DataW Unit} {L : List Gr} (h : MapIs D L) (ha : ascG L) (u : ByteArray) : MapIs (D.del (.string (kb u))) (delG L u) := by
  refine ⟨h.tidy.del _, fun x => ?_, fun v => ?_, ?_⟩
  · by_cases hx : x = kb u
    · subst hx
      rw [has_del_same]
      symm
      rw [List.any_eq_false]
      intro g hg
      rw [ne_kb (delG_mem.1 hg).2]
      simp
    · rw [has_del_other (str_ne hx), h.has]
      rw [Bool.eq_iff_iff, List.any_eq_true, List.any_eq_true]
      constructor
      · rintro ⟨g, hg, h1⟩
        refine ⟨g, delG_mem.2 ⟨hg, ?_⟩, h1⟩
        rintro rfl
        exact hx (beq_iff_eq.1 h1).symm
      · rintro ⟨g, hg, h1⟩
        exact ⟨g, (delG_mem.1 hg).1, h1⟩
  · by_cases hv : v = u
    · subst hv
      rw [atKey_del_same, valG_no]
      cases hh : hasG (delG L v) v with
      | false => rfl
      | true => obtain ⟨g, hg, e⟩ := hasG_mem.1 hh; exact absurd e (delG_mem.1 hg).2
    · rw [atKey_del_other (str_ne (fun e => hv (kb_inj e))), h.val]
      congr 1
      cases hh : hasG L v with
      | false =>
        rw [valG_no hh, valG_no]
        cases h2 : hasG (delG L u) v with
        | false => rfl
        | true => obtain ⟨g, hg, e⟩ := hasG_mem.1 h2; exact absurd e (hasG_no hh g (delG_mem.1 hg).1)
      | true =>
        obtain ⟨g, hg, rfl⟩ := hasG_mem.1 hh
        rw [valG_mem ha hg]
        exact (valG_mem (L := delG L u) (asc_filter ha _) (delG_mem.2 ⟨hg, hv⟩)).symm
  · have h1 := size_del (k := .string (kb u)) h.tidy
    have h2 := delG_len ha u
    rw [h.has, h.size] at h1
    unfold hasG at h2
    omega
theorem MapIs.put {D : DataW Unit} {L : List Gr} (h : MapIs D L) (ha : ascG L) (u : ByteArray) (r : Int) : MapIs (D.put (.string (kb u)) (gi r)) (insG L u r) := by
  have hia := insG_asc ha u r
  refine ⟨h.tidy.put (key_ok _) _, fun x => ?_, fun v => ?_, ?_⟩
  · by_cases hx : x = kb u
    · subst hx
      rw [has_put_same h.tidy.isMap (key_ok _)]
      symm
      rw [List.any_eq_true]
      exact ⟨(u, r), (insG_mem ha).2 (.inr rfl), by simp⟩
    · rw [has_put_other (str_ne hx), h.has]
      rw [Bool.eq_iff_iff, List.any_eq_true, List.any_eq_true]
      constructor
      · rintro ⟨g, hg, h1⟩
        refine ⟨g, (insG_mem ha).2 (.inl ⟨hg, ?_⟩), h1⟩
        rintro rfl
        exact hx (beq_iff_eq.1 h1).symm
      · rintro ⟨g, hg, h1⟩
        rcases (insG_mem ha).1 hg with h2 | rfl
        · exact ⟨g, h2.1, h1⟩
        · exact absurd (beq_iff_eq.1 h1).symm hx
  · by_cases hv : v = u
    · subst hv
      rw [atKey_put_same h.tidy.isMap (key_ok _)]
      have := valG_mem hia (g := (v, r)) ((insG_mem ha).2 (.inr rfl))
      rw [this]
    · rw [atKey_put_other (str_ne (fun e => hv (kb_inj e))), h.val]
      congr 1
      cases hh : hasG L v with
      | false =>
        rw [valG_no hh, valG_no]
        cases h2 : hasG (insG L u r) v with
        | false => rfl
        | true =>
          obtain ⟨g, hg, e⟩ := hasG_mem.1 h2
          rcases (insG_mem ha).1 hg with h3 | rfl
          · exact absurd e (hasG_no hh g h3.1)
          · exact absurd e.symm hv
      | true =>
        obtain ⟨g, hg, rfl⟩ := hasG_mem.1 hh
        rw [valG_mem ha hg, valG_mem hia ((insG_mem ha).2 (.inl ⟨hg, hv⟩))]
  · rw [size_put h.tidy, h.has, h.size, insG_len ha]
    rfl
theorem insG_last {L : List Gr} {u : ByteArray} {r : Int} (h : ascG (L ++ [(u, r)])) : insG L u r = L ++ [(u, r)] := by
  unfold ascG at h
  rw [List.pairwise_append] at h
  have h1 : ∀ g ∈ L, ltG g.1 u = true := fun g hg => h.2.2 g hg (u, r) (by simp)
  unfold insG
  rw [List.filter_eq_self.2 h1, List.filter_eq_nil_iff.2 (fun g hg => by rw [ltG_asymm (h1 g hg)]; simp)]
theorem MapIs.snoc {D : DataW Unit} {L : List Gr} {k : Nat} {u : ByteArray} {r : Int} (h : MapIs D (L.take k)) (ha : ascG L) (hx : L[k]? = some (u, r)) : MapIs (D.put (.string (kb u)) (gi r)) (L.take (k + 1)) := by
  have h1 : ascG (L.take (k + 1)) := List.Pairwise.sublist (List.take_sublist _ _) ha
  have h2 : ascG (L.take k) := List.Pairwise.sublist (List.take_sublist _ _) ha
  rw [take_snoc hx] at h1 ⊢
  rw [← insG_last h1]
  exact h.put h2 u r
/-- The keys in order are the users in order. -/
theorem keys_sorted {P : Program} {k : TypeId} {R : Value → Option (DataW Unit × List MemPlace)} {w : World} {b n : Nat} {D : DataW Unit} {L : List Gr} (hown : w.ownsMap P k R b n D) (K : Keyed P k) (hk : P.underlying k = some .string) (h : MapIs D L) (ha : ascG L) {ss : List (List UInt8)} (hs : ss.Perm (strKeys D)) :
    ss.mergeSort leB = L.map fun g => kb g.1 := by
  obtain ⟨es, hD, hpw, _⟩ := hown.entries K
  obtain ⟨es', hD', hko⟩ := hown.keysOf
  obtain rfl : es = es' := by rw [hD] at hD'; simpa using hD'
  subst hD
  have h1 : (L.map fun g => kb g.1).Perm (strKeys (.map es)) := by
    refine perm_strKeys hpw (fun p hp => by obtain ⟨v, hv⟩ := hko p hp; obtain ⟨x, _, hx, _⟩ := Maps.keyOf_str hk hv; exact ⟨x, hx⟩) (asc_nodup ha) (fun x => ?_)
    rw [h.has, List.any_eq_true, List.mem_map]
    constructor
    · rintro ⟨g, hg, e⟩; exact ⟨g, hg, by rw [e]; simp⟩
    · rintro ⟨g, hg, e⟩; exact ⟨g, hg, beq_iff_eq.1 e⟩
  rw [mergeSort_of_perm (hs.trans h1.symm)]
  refine List.mergeSort_of_pairwise (List.pairwise_map.2 (ha.imp fun {a b} h => ?_))
  unfold ltG at h
  simp only [leB, decide_eq_true_eq] at h ⊢
  exact List.le_of_lt h
end Go.Proofs.Ytnnmnphmbjfopaa
