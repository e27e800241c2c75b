/-
  How the code's cursor reads a proof of a user's password, on lists of bytes. Plain definitions and lemmas; no condition.
-/
import Derived.Test.YtkhfflbgnojcfaaBplain
namespace Go.Proofs.Ytkhfflbgnojcfaa
set_option linter.unusedVariables false

/-- The place behind the user. -/
def pk (L : List UInt8) : Nat := 1 + nmLen L 1
/-- The tests of the reader. -/
def Reads (L : List UInt8) : Prop := nextIs L 0 0 = true ∧ okLen (nmLen L 1) = true ∧ nextIs L (pk L) 0 = true ∧ okLen (nmLen L (pk L + 1)) = true ∧ pk L + 1 + nmLen L (pk L + 1) = L.length
def rdU (L : List UInt8) : List UInt8 := (L.drop 1).take (nmLen L 1)
def rdP (L : List UInt8) : List UInt8 := (L.drop (pk L + 1)).take (nmLen L (pk L + 1))
theorem take_name {u q : List UInt8} (hu : u.all sgn = true) (hq : q = [] ∨ ∃ t, q = 0 :: t) : (u ++ q).takeWhile sgn = u := by
  rw [List.takeWhile_append_of_pos (fun a h => List.all_eq_true.1 hu a h)]
  rcases hq with rfl | ⟨t, rfl⟩
  · simp
  · rw [List.takeWhile_cons, if_neg (by rw [sgn0]; decide)]
    simp
theorem reads_of {L u p : List UInt8} (h : L = two0 u p) (hu : nameB u = true) (hp : nameB p = true) : Reads L ∧ rdU L = u ∧ rdP L = p := by
  obtain ⟨u1, u2, u3⟩ := nameB_iff.1 hu
  obtain ⟨p1, p2, p3⟩ := nameB_iff.1 hp
  have d0 : L.drop 0 = 0 :: (u ++ 0 :: p) := h
  obtain ⟨n0, d1, _⟩ := next_cons (c := 0) d0
  have d1' : L.drop 1 = u ++ 0 :: p := d1
  obtain ⟨e1, d2⟩ := nm_eq L 1 d1' (by rw [d1']; exact take_name u1 (.inr ⟨p, rfl⟩))
  obtain ⟨n2, d3, _⟩ := next_cons (c := 0) d2
  obtain ⟨e2, d4⟩ := nm_eq L (1 + nmLen L 1 + 1) (p := p) (q := []) (by rw [d3, List.append_nil]) (by rw [d3]; have := take_name p1 (.inl rfl); rwa [List.append_nil] at this)
  have hL : L.length = u.length + p.length + 2 := by rw [h]; unfold two0; simp only [List.length_cons, List.length_append]; omega
  refine ⟨⟨by rw [n0]; rfl, by rw [e1]; unfold okLen; simp; omega, by unfold pk; rw [n2]; rfl, by unfold pk; rw [e2]; unfold okLen; simp; omega, by unfold pk; rw [e2, e1, hL]; omega⟩, ?_, ?_⟩
  · unfold rdU; rw [d1', e1]; simp
  · unfold rdP pk; rw [d3, e2]; simp
theorem tk_while (l : List UInt8) : l.take (l.takeWhile sgn).length = l.takeWhile sgn := by
  conv => lhs; arg 2; rw [← List.takeWhile_append_dropWhile (p := sgn) (l := l)]
  exact List.take_left
theorem of_reads {L : List UInt8} (h : Reads L) : L = two0 (rdU L) (rdP L) ∧ nameB (rdU L) = true ∧ nameB (rdP L) = true := by
  obtain ⟨h0, h1, h2, h3, h4⟩ := h
  have hl0 := nextIs_lt h0
  have hl2 := nextIs_lt h2
  unfold pk at *
  have a0 : L.drop 0 = L[0] :: L.drop 1 := List.drop_eq_getElem_cons hl0
  have c0 : L[0] = 0 := by
    have h := (next_cons (c := 0) a0).1
    rw [h0] at h
    exact (beq_iff_eq.1 h.symm)
  have a2 : L.drop (1 + nmLen L 1) = L[1 + nmLen L 1] :: L.drop (1 + nmLen L 1 + 1) := List.drop_eq_getElem_cons hl2
  have c2 : L[1 + nmLen L 1] = 0 := by
    have h := (next_cons (c := 0) a2).1
    rw [h2] at h
    exact (beq_iff_eq.1 h.symm)
  have e1 : (L.drop 1).take (nmLen L 1) = (L.drop 1).takeWhile sgn := by
    unfold nmLen
    exact tk_while _
  have e2 : (L.drop (1 + nmLen L 1 + 1)).take (nmLen L (1 + nmLen L 1 + 1)) = (L.drop (1 + nmLen L 1 + 1)).takeWhile sgn := by
    unfold nmLen
    exact tk_while _
  have all1 : (rdU L).all sgn = true := by unfold rdU; rw [e1]; exact List.all_takeWhile
  have all2 : (rdP L).all sgn = true := by unfold rdP pk; rw [e2]; exact List.all_takeWhile
  have l1 : (rdU L).length = nmLen L 1 := by unfold rdU; rw [e1]; rfl
  have l2 : (rdP L).length = nmLen L (1 + nmLen L 1 + 1) := by unfold rdP pk; rw [e2]; rfl
  refine ⟨?_, by rw [nameB_all all1, l1]; exact h1, by rw [nameB_all all2, l2]; exact h3⟩
  have hfull : (L.drop (1 + nmLen L 1 + 1)).take (nmLen L (1 + nmLen L 1 + 1)) = L.drop (1 + nmLen L 1 + 1) := List.take_of_length_le (by rw [List.length_drop]; omega)
  unfold two0 rdU rdP pk
  rw [hfull]
  have x1 : L = L[0] :: L.drop 1 := a0
  conv => lhs; rw [x1, c0]
  congr 1
  conv => lhs; rw [← List.take_append_drop (nmLen L 1) (L.drop 1), List.drop_drop, a2, c2]
/-- A proof is read. -/
theorem pp_reads {text s : List UInt8} (hd : Dec text true s) (h : Reads s) : PP text true (rdU s) (rdP s) := by
  obtain ⟨h1, h2, h3⟩ := of_reads h
  exact ⟨fun _ => ⟨h2, h3, by rw [← h1]; exact (hd.1 rfl).2⟩, fun h => by cases h⟩
theorem pp_fails {text s : List UInt8} (hd : Dec text true s) (h : ¬ Reads s) : PP text false [] [] :=
  pp_no hd fun _ u p hc hu hp => h (by
    have h1 := cutGo_three 0 s [] [] u p hc
    exact (reads_of (u := u) (p := p) (by unfold two0; simpa using h1) hu hp).1)
theorem pp_off {text s : List UInt8} (hd : Dec text false s) : PP text false [] [] := pp_no hd fun h => by cases h
end Go.Proofs.Ytkhfflbgnojcfaa
