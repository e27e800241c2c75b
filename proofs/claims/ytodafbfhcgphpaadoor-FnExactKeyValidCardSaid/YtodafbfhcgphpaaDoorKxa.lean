/-
  How an argument of the type laws.Key is opened: a tree of keys, without bounds on its sizes but those of Go. Condition: the argument reads as plain data.
-/
import Derived.Test.YtodafbfhcgphpaaDoorKc
import Derived.Deep.Slices
import Derived.Deep.SlicePairs
import Derived.ChangeArms
namespace Go.Proofs.YtodafbfhcgphpaaDoor
open Go.RowKit Go.ChangeShapes Go.WideShapes
set_option linter.unusedVariables false

mutual
/-- How a key lies in memory, with Go's own bounds only. -/
def KZ (w : World) : KT → Value → Prop
  | .mk kd f t S ks, v => ∃ (AS : Option Addr) (nS cS : Nat) (AK : Option Addr) (nK cK : Nat), v = .agg #[.int .i64 kd, .int .i64 f, .string t, .slice AS nS cS, .slice AK nK cK] ∧ S.length = nS ∧ nS ≤ maxLen ∧ t.size ≤ maxLen ∧ SpA w AS S ∧ ks.length = nK ∧ nK ≤ maxLen ∧ KZs w AK 0 ks
def KZs (w : World) (AK : Option Addr) : Nat → List KT → Prop
  | _, [] => True
  | i, k :: r => (∃ (b o : Nat) (v0 v1 v2 v3 v4 : Value), AK = some ⟨b, o, none⟩ ∧ b < w.heap.size ∧ w.cell? ⟨b, o + i * 5, none⟩ = some v0 ∧ w.cell? ⟨b, o + i * 5 + 1, none⟩ = some v1 ∧ w.cell? ⟨b, o + i * 5 + 2, none⟩ = some v2 ∧
      w.cell? ⟨b, o + i * 5 + 3, none⟩ = some v3 ∧ w.cell? ⟨b, o + i * 5 + 4, none⟩ = some v4 ∧ KZ w k (.agg #[v0, v1, v2, v3, v4])) ∧ KZs w AK (i + 1) r
end
theorem kzs_of {w : World} {b o : Nat} {g : Nat → KT} : ∀ (n i : Nat), (∀ j, j < n → ∃ v0 v1 v2 v3 v4 : Value, b < w.heap.size ∧ w.cell? ⟨b, o + (i + j) * 5, none⟩ = some v0 ∧ w.cell? ⟨b, o + (i + j) * 5 + 1, none⟩ = some v1 ∧ w.cell? ⟨b, o + (i + j) * 5 + 2, none⟩ = some v2 ∧ w.cell? ⟨b, o + (i + j) * 5 + 3, none⟩ = some v3 ∧ w.cell? ⟨b, o + (i + j) * 5 + 4, none⟩ = some v4 ∧ KZ w (g (i + j)) (.agg #[v0, v1, v2, v3, v4])) →
    KZs w (some ⟨b, o, none⟩) i ((List.range' i n).map g)
  | 0, i, _ => by simp [KZs]
  | n + 1, i, h => by
    rw [List.range'_succ, List.map_cons, KZs]
    refine ⟨?_, kzs_of n (i + 1) fun j hj => ?_⟩
    · obtain ⟨v0, v1, v2, v3, v4, h0, h1⟩ := h 0 (by omega)
      rw [Nat.add_zero] at h1
      exact ⟨b, o, v0, v1, v2, v3, v4, rfl, h0, h1⟩
    · have h1 := h (j + 1) (by omega)
      rw [show i + (j + 1) = i + 1 + j by omega] at h1
      exact h1
section
variable {H : Type} {enc : TypeId × Value → H} {w : World} {base : Nat} {spare : Nat → Bool} {held : Bool}
theorem open_spansz {fuel : Nat} {cs : List Value} {x : DataW H × List MemPlace} (h : DataW.trod enc Tryd.prog w base spare held fuel 33 cs = some x) :
    ∃ A len cap, cs = [.slice A len cap] ∧ len ≤ maxLen ∧ ∃ S : List (Int × Int), S.length = len ∧ SpA w A S := by
  rcases Deep.open_slice_pairs Tryd.underlying33 Tryd.underlying80 (by kernel_rfl) rfl rfl (by kernel_rfl) (by kernel_rfl) h with ⟨hcs, _⟩ | ⟨a, len, cap, m, n, V0, V1, D0, D1, P0, P1, hcs, hb, hl, hm, hmm, _, hx⟩
  · exact ⟨none, 0, 0, hcs, Nat.zero_le _, [], rfl, SpA.nil _ _⟩
  · have each : ∀ i, i < len → ∃ q : Int × Int, w.cell? (a.add (i * 2)) = some (.int .i64 q.1) ∧ w.cell? (a.add (i * 2 + 1)) = some (.int .i64 q.2) := by
      intro i hi
      obtain ⟨e0, e1, g0, g1⟩ := hx i (by rw [hmm]; split <;> omega)
      obtain ⟨u, hu, _, _⟩ := DataW.trod_int Tryd.underlying3 g0
      obtain ⟨f, hf, _, _⟩ := DataW.trod_int Tryd.underlying3 g1
      simp only [List.cons.injEq, and_true] at hu hf
      rw [hu] at e0
      rw [hf] at e1
      exact ⟨(u, f), e0, e1⟩
    obtain ⟨q, hq⟩ := Deep.choose_lt each
    refine ⟨some a, len, cap, hcs, Nat.le_trans hl hm, (List.range len).map q, by simp, ?_⟩
    intro i y hy
    have hi : i < len := by have := (List.getElem?_eq_some_iff.1 hy).1; simpa using this
    obtain ⟨e0, e1⟩ := hq i hi
    have hs : a.spot = none := by
      have := World.cell?_spot (hq 0 (by omega)).1
      simpa [Addr.add] using this
    obtain ⟨xb, xo, spot⟩ := a
    simp only at hs
    subst hs
    have he : y = q i := by simp [hi] at hy; exact hy.symm
    subst he
    simp only [radd] at e0 e1
    refine ⟨xb, xo, rfl, by simpa using block_lt_of_cell e0, e0, ?_⟩
    rw [Nat.add_assoc]
    exact e1
set_option maxRecDepth 20000 in
set_option maxHeartbeats 1000000 in
theorem open_keyz : ∀ (fuel : Nat) {cs : List Value} {x : DataW H × List MemPlace}, DataW.trod enc Tryd.prog w base spare held fuel 36 cs = some x → ∃ k, KZ w k (.agg cs.toArray) := by
  intro fuel
  induction fuel using Nat.strongRecOn with
  | _ fuel ih =>
    intro cs x h
    obtain ⟨xs, n, hn, hxy, hlen, hxl, hf⟩ := DataW.trod_struct Tryd.underlying36 h
    have hlen5 : cs.length = 5 := hlen.trans (by kernel_rfl)
    match xs, hxl, cs, hlen5 with
    | [y0, y1, y2, y3, y4], _, [v0, v1, v2, v3, v4], _ =>
      have g0 := hf 0 _ rfl
      have g1 := hf 1 _ rfl
      have g2 := hf 2 _ rfl
      have g3 := hf 3 _ rfl
      have g4 := hf 4 _ rfl
      have c0 : Tryd.prog.cellsOf 3 = 1 := by kernel_rfl
      have c2 : Tryd.prog.cellsOf 9 = 1 := by kernel_rfl
      have c3 : Tryd.prog.cellsOf 33 = 1 := by kernel_rfl
      have c4 : Tryd.prog.cellsOf 34 = 1 := by kernel_rfl
      simp [c0, c2, c3, c4] at g0 g1 g2 g3 g4
      obtain ⟨kd, hkd, _, _⟩ := DataW.trod_int Tryd.underlying3 g0
      obtain ⟨f, hff, _, _⟩ := DataW.trod_int Tryd.underlying3 g1
      obtain ⟨t, ht, _, htz⟩ := DataW.trod_string Tryd.underlying9 g2
      obtain ⟨AS, nS, cS, hS, hSl, S, hSn, hsp⟩ := open_spansz g3
      simp only [List.cons.injEq, and_true] at hkd hff ht hS
      subst hkd
      subst hff
      subst ht
      subst hS
      rcases DataW.trod_slice Tryd.underlying34 g4 with ⟨hK, _⟩ | ⟨a, len, cap, elems, rest, m, hm, hK, _, hb, hl, hc, hel, he, _, _⟩
      · simp only [List.cons.injEq, and_true] at hK
        subst hK
        refine ⟨.mk kd f t S [], ?_⟩
        rw [KZ]
        exact ⟨AS, nS, cS, none, 0, 0, rfl, hSn, hSl, htz, hsp, rfl, Nat.zero_le _, by rw [KZs]; trivial⟩
      · simp only [List.cons.injEq, and_true] at hK
        subst hK
        have ce : Tryd.prog.cellsOf 36 = 5 := by kernel_rfl
        rw [ce] at he
        have each : ∀ i, i < len → ∃ k : KT, ∃ u0 u1 u2 u3 u4 : Value, w.cell? ((a.add (i * 5)).add 0) = some u0 ∧ w.cell? ((a.add (i * 5)).add 1) = some u1 ∧ w.cell? ((a.add (i * 5)).add 2) = some u2 ∧ w.cell? ((a.add (i * 5)).add 3) = some u3 ∧ w.cell? ((a.add (i * 5)).add 4) = some u4 ∧ KZ w k (.agg #[u0, u1, u2, u3, u4]) := by
          intro i hi
          have h1 := he i hi
          obtain ⟨z, hz⟩ : ∃ z, elems[i]? = some z := ⟨_, List.getElem?_eq_getElem (by omega)⟩
          rw [hz] at h1
          obtain ⟨cs', h2, h3⟩ := Option.bind_eq_some_iff.1 h1
          obtain ⟨_, hl5, hcell⟩ := World.cells?_some h2
          obtain ⟨k, hk⟩ := ih m (by omega) h3
          match cs', hl5 with
          | [u0, u1, u2, u3, u4], _ =>
            exact ⟨k, u0, u1, u2, u3, u4, by simpa using hcell 0 (by omega), by simpa using hcell 1 (by omega), by simpa using hcell 2 (by omega), by simpa using hcell 3 (by omega), by simpa using hcell 4 (by omega), hk⟩
        have : Inhabited KT := ⟨.mk 0 0 ⟨#[]⟩ [] []⟩
        obtain ⟨q, hq⟩ := Deep.choose_lt each
        refine ⟨.mk kd f t S ((List.range' 0 len).map q), ?_⟩
        rw [KZ]
        refine ⟨AS, nS, cS, some a, len, cap, rfl, hSn, hSl, htz, hsp, by simp, Nat.le_trans hl hc, ?_⟩
        by_cases h0 : len = 0
        · subst h0
          simp [KZs]
        · have hs : a.spot = none := by
            obtain ⟨u0, _, _, _, _, e0, _⟩ := hq 0 (by omega)
            have := World.cell?_spot e0
            simpa [Addr.add] using this
          obtain ⟨xb, xo, spot⟩ := a
          simp only at hs
          subst hs
          refine kzs_of len 0 fun j hj => ?_
          obtain ⟨u0, u1, u2, u3, u4, e0, e1, e2, e3, e4, hk⟩ := hq j hj
          simp only [radd, Nat.add_zero] at e0 e1 e2 e3 e4
          rw [Nat.zero_add]
          exact ⟨u0, u1, u2, u3, u4, by simpa using block_lt_of_cell e0, e0, e1, e2, e3, e4, hk⟩
end
end Go.Proofs.YtodafbfhcgphpaaDoor
