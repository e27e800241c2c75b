/-
  How the arguments of the exact laws of chapter 11 are opened: a list of messages, a list of numbers. Condition: the argument reads as plain data.
-/
import Derived.Test.YtmljdbbbfpmbcaaEz
import Derived.Deep.Slices
import Derived.Deep.SlicePairs
import Derived.ChangeArms
namespace Go.Proofs.Ytmljdbbbfpmbcaa
open Go.RowKit Go.ChangeShapes Go.WideShapes
set_option linter.unusedVariables false

section
variable {H : Type} {enc : TypeId × Value → H} {P : Program} {w : World} {base : Nat} {spare : Nat → Bool} {held : Bool}
theorem each3 {e : TypeId} {f0 f1 f2 : Field} {n : Nat} {a : Addr} {cs : List Value} {x : DataW H × List MemPlace} (he : P.underlying e = some (.struct #[f0, f1, f2]))
    (o0 : f0.offset = 0) (o1 : f1.offset = 1) (o2 : f2.offset = 2) (c0 : P.cellsOf f0.type = 1) (c1 : P.cellsOf f1.type = 1) (c2 : P.cellsOf f2.type = 1)
    (h1 : w.cells? base a 3 = some cs) (h2 : DataW.trod enc P w base spare held n e cs = some x) :
    ∃ (v0 v1 v2 : Value) (k : Nat) (y0 y1 y2 : DataW H × List MemPlace), w.cell? (a.add 0) = some v0 ∧ w.cell? (a.add 1) = some v1 ∧ w.cell? (a.add 2) = some v2 ∧
      DataW.trod enc P w base spare held k f0.type [v0] = some y0 ∧ DataW.trod enc P w base spare held k f1.type [v1] = some y1 ∧ DataW.trod enc P w base spare held k f2.type [v2] = some y2 := by
  obtain ⟨_, hlen, hcell⟩ := World.cells?_some h1
  obtain ⟨xs, k, hk, hxy, _, hxl, hf⟩ := DataW.trod_struct he h2
  match xs, hxl, cs, hlen with
  | [y0, y1, y2], _, [v0, v1, v2], _ =>
    have g0 := hf 0 f0 rfl
    have g1 := hf 1 f1 rfl
    have g2 := hf 2 f2 rfl
    simp [o0, o1, o2, c0, c1, c2] at g0 g1 g2
    have e0 := hcell 0 (by omega)
    have e1 := hcell 1 (by omega)
    have e2 := hcell 2 (by omega)
    exact ⟨v0, v1, v2, k, y0, y1, y2, by simpa using e0, by simpa using e1, by simpa using e2, g0, g1, g2⟩
end
section
variable {H : Type} {enc : TypeId × Value → H} {w : World} {base : Nat} {spare : Nat → Bool} {held : Bool}
theorem open_mails {fuel : Nat} {cs : List Value} {x : DataW H × List MemPlace} (h : DataW.trod enc Try.prog w base spare held fuel 43 cs = some x) :
    ∃ A len cap, cs = [.slice A len cap] ∧ BoxArg w A len cap := by
  rcases Deep.open_slice Try.underlying43 h with ⟨hcs, _⟩ | ⟨a, len, cap, m, n, D, Pl, hcs, hb, hl, hm, hmm, _, hx⟩
  · exact ⟨none, 0, 0, hcs, [], rfl, Nat.le_refl _, by unfold maxLen; omega, RAt.nil _ _, fun m hm => by simp at hm⟩
  · have ce : Try.prog.cellsOf 98 = 3 := by kernel_rfl
    rw [ce] at hx
    have each : ∀ i, i < len → ∃ q : ML, w.cell? ((a.add (i * 3)).add 0) = some (.int .i64 q.1) ∧ w.cell? ((a.add (i * 3)).add 1) = some (.int .i64 q.2.1) ∧ w.cell? ((a.add (i * 3)).add 2) = some (.string (sB q.2.2)) ∧ q.2.2.length ≤ maxLen := by
      intro i hi
      obtain ⟨cs', h1, h2⟩ := hx i (by rw [hmm]; split <;> omega)
      obtain ⟨v0, v1, v2, k, y0, y1, y2, e0, e1, e2, g0, g1, g2⟩ := each3 Try.underlying98 rfl rfl rfl (by kernel_rfl) (by kernel_rfl) (by kernel_rfl) h1 h2
      obtain ⟨u, hu, _, _⟩ := DataW.trod_int Try.underlying3 g0
      obtain ⟨f, hf, _, _⟩ := DataW.trod_int Try.underlying3 g1
      obtain ⟨s, hs, _, hsz⟩ := DataW.trod_string Try.underlying9 g2
      simp only [List.cons.injEq, and_true] at hu hf hs
      subst hu
      subst hf
      subst hs
      refine ⟨(u, f, s.data.toList), e0, e1, ?_, ?_⟩
      · show _ = some (Value.string (sB s.data.toList))
        rw [sB_of]
        exact e2
      · show s.data.toList.length ≤ maxLen
        have h3 := sB_size s.data.toList
        rw [sB_of] at h3
        omega
    obtain ⟨q, hq⟩ := Deep.choose_lt each
    refine ⟨some a, len, cap, hcs, (List.range len).map q, by simp, hl, hm, ?_, ?_⟩
    · intro i y hy
      have hi : i < len := by have := (List.getElem?_eq_some_iff.1 hy).1; simpa using this
      obtain ⟨e0, e1, e2, _⟩ := hq i hi
      have hs : a.spot = none := by
        have := World.cell?_spot (hq 0 (by omega)).1
        simpa [Addr.add] using this
      obtain ⟨xb, xo, spot⟩ := a
      simp only at hs
      subst hs
      have he : y = q i := by simp [hi] at hy; exact hy.symm
      subst he
      simp only [radd] at e0 e1 e2
      refine ⟨xb, xo, rfl, by simpa using block_lt_of_cell e0, fun j u hu => ?_⟩
      match j, hu with
      | 0, hu => cases hu; exact e0
      | 1, hu => cases hu; exact e1
      | 2, hu => cases hu; exact e2
      | j + 3, hu => simp [mailR] at hu
    · intro m hm2
      obtain ⟨i, hi, rfl⟩ := List.mem_map.1 hm2
      exact (hq i (List.mem_range.1 hi)).2.2.2
theorem open_nums {fuel : Nat} {cs : List Value} {x : DataW H × List MemPlace} (h : DataW.trod enc Try.prog w base spare held fuel 32 cs = some x) :
    ∃ A len cap, cs = [.slice A len cap] ∧ NumArg w A len cap := by
  rcases Deep.open_slice1 Try.underlying32 (by kernel_rfl) h with ⟨hcs, _⟩ | ⟨a, len, cap, m, n, V, D, Pl, hcs, hb, hl, hm, hmm, _, hx⟩
  · exact ⟨none, 0, 0, hcs, [], rfl, Nat.le_refl _, by unfold maxLen; omega, RAt.nil _ _⟩
  · have each : ∀ i, i < len → ∃ q : Int, w.cell? (a.add i) = some (.int .i64 q) := by
      intro i hi
      obtain ⟨h1, h2⟩ := hx i (by rw [hmm]; split <;> omega)
      obtain ⟨u, hu, _, _⟩ := DataW.trod_int Try.underlying3 h2
      simp only [List.cons.injEq, and_true] at hu
      exact ⟨u, by rw [h1, hu]⟩
    obtain ⟨q, hq⟩ := Deep.choose_lt each
    refine ⟨some a, len, cap, hcs, (List.range len).map q, by simp, hl, hm, ?_⟩
    intro i y hy
    have hi : i < len := by have := (List.getElem?_eq_some_iff.1 hy).1; simpa using this
    have e0 := hq i hi
    have hs : a.spot = none := by
      have := World.cell?_spot (hq 0 (by omega))
      simpa [Addr.add] using this
    obtain ⟨xb, xo, spot⟩ := a
    simp only at hs
    subst hs
    have he : y = q i := by simp [hi] at hy; exact hy.symm
    subst he
    rw [radd] at e0
    refine ⟨xb, xo, rfl, by simpa using block_lt_of_cell e0, fun j u hu => ?_⟩
    match j, hu with
    | 0, hu => cases hu; show w.cell? ⟨xb, xo + i * 1 + 0, none⟩ = _; rw [Nat.mul_one, Nat.add_zero]; exact e0
    | j + 1, hu => simp [intR] at hu
end
end Go.Proofs.Ytmljdbbbfpmbcaa
