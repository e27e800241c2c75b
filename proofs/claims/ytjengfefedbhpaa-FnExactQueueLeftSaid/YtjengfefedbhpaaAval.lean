/-
  The contracts of the code's and the model's functions on addresses and paths, with results that are told. No condition beyond a bound on the text's length.
-/
import Derived.Test.YtjengfefedbhpaaAmath
namespace Go.Proofs.Ytjengfefedbhpaa
open Go.RowKit
set_option linter.unusedVariables false

/-- The bytes 'l' as a text. -/
def bs (l : List UInt8) : ByteArray := ⟨l.toArray⟩
theorem bs_of (v : ByteArray) : bs v.data.toList = v := by cases v; simp [bs]
theorem bs_eq {v : ByteArray} {l : List UInt8} (h : v.data.toList = l) : v = bs l := by rw [← h, bs_of]
theorem bs_list (l : List UInt8) : (bs l).data.toList = l := rfl
theorem bs_size (l : List UInt8) : (bs l).size = l.length := rfl
/-- What a parser leaves. -/
def Gave (w : World) (ok : Bool) (u d : ByteArray) (e : Ending) (w' : World) : Prop :=
  e = .returned (.tuple #[.agg #[.string u, .string d], .bool ok]) ∧ Below w.heap.size w w'
theorem gave_of {w w' : World} {ok : Bool} {U D : List UInt8} {e : Ending} {u d : ByteArray} (h : Parsed w ok U D e w') (hy : ok = true → u = bs U ∧ d = bs D) (hn : ok = false → u = ⟨#[]⟩ ∧ d = ⟨#[]⟩) : Gave w ok u d e w' := by
  obtain ⟨u', d', he, h1, h2, hb⟩ := h
  refine ⟨?_, hb⟩
  rw [he]
  cases hok : ok
  · obtain ⟨e1, e2⟩ := h2 hok
    obtain ⟨e3, e4⟩ := hn hok
    rw [e1, e2, e3, e4]
  · obtain ⟨e1, e2⟩ := h1 hok
    obtain ⟨e3, e4⟩ := hy hok
    rw [e3, e4, bs_eq e1, bs_eq e2]
theorem gave_ad {L : List UInt8} {w w' : World} {e : Ending} (h : Parsed w (spB L) ((two L).getD 0 []) ((two L).getD 1 []) e w') : Gave w (spB L) (bs (pU L)) (bs (pD L)) e w' :=
  gave_of h (fun h => by unfold pU pD; rw [if_pos h, if_pos h]; exact ⟨rfl, rfl⟩) (fun h => by rw [pU_no h, pD_no h]; exact ⟨rfl, rfl⟩)
theorem pU_size (s : ByteArray) : (bs (pU s.data.toList)).size ≤ s.size := by
  have := pU_le s.data.toList
  rw [bs_size]
  simpa using this
theorem pD_size (s : ByteArray) : (bs (pD s.data.toList)).size ≤ s.size := by
  have := pD_le s.data.toList
  rw [bs_size]
  simpa using this

/-- What a writer leaves. -/
def Told (w : World) (t : ByteArray) (e : Ending) (w' : World) : Prop := e = .returned (.string t) ∧ Below w.heap.size w w'
theorem told_of {w w' : World} {L : List UInt8} {e : Ending} (h : Wrote w L e w') : Told w (bs L) e w' := by
  obtain ⟨v, h1, h2, h3⟩ := h
  exact ⟨by rw [h2, bs_eq h1], h3⟩
/-- The text of an address. -/
def adT (u d : ByteArray) : ByteArray := bs (adText u.data.toList d.data.toList)
theorem adT_le (u d : ByteArray) : (adT u d).size ≤ 29 := by
  unfold adT
  rw [bs_size]
  cases h : (nameB u.data.toList && domB d.data.toList)
  · rw [adText_no h]; simp
  · rw [adText_yes h]
    rw [Bool.and_eq_true] at h
    have h1 := (nameB_iff.1 h.1).2.2
    have h2 := dom_len h.2
    simp only [List.length_append, List.length_cons]
    omega

theorem gave_path {L : List UInt8} {w w' : World} {e : Ending} (h : Parsed w (ppA L) (pathU L) (pathD L) e w') : Gave w (spP L) (bs (qU L)) (bs (qD L)) e w' := by
  obtain ⟨h1, h2⟩ := pa_eq L
  have h3 := gave_of (u := bs (qU L)) (d := bs (qD L)) h (fun h => by rw [(h2 h).1, (h2 h).2]; exact ⟨rfl, rfl⟩) (fun h => by rw [h1] at h; obtain ⟨e1, e2⟩ := q_no h; rw [e1, e2]; exact ⟨rfl, rfl⟩)
  rw [h1] at h3
  exact h3
theorem qU_size (s : ByteArray) : (bs (qU s.data.toList)).size ≤ s.size := by
  have := (q_le s.data.toList).1
  rw [bs_size]
  simpa using this
theorem qD_size (s : ByteArray) : (bs (qD s.data.toList)).size ≤ s.size := by
  have := (q_le s.data.toList).2
  rw [bs_size]
  simpa using this

/-- A text and what its reading tells. -/
def Is (s : ByteArray) (o : Bool) (u d : ByteArray) : Prop := spB s.data.toList = o ∧ bs (pU s.data.toList) = u ∧ bs (pD s.data.toList) = d
theorem read_any (s : ByteArray) : ∃ o u d, Is s o u d ∧ u.size ≤ s.size ∧ d.size ≤ s.size := ⟨_, _, _, ⟨rfl, rfl, rfl⟩, pU_size s, pD_size s⟩
/-- A path and what its reading tells. -/
def IsP (s : ByteArray) (o : Bool) (u d : ByteArray) : Prop := spP s.data.toList = o ∧ bs (qU s.data.toList) = u ∧ bs (qD s.data.toList) = d
theorem readP_any (s : ByteArray) : ∃ o u d, IsP s o u d ∧ u.size ≤ s.size ∧ d.size ≤ s.size := ⟨_, _, _, ⟨rfl, rfl, rfl⟩, qU_size s, qD_size s⟩
end Go.Proofs.Ytjengfefedbhpaa
