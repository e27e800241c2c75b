/-
  The contracts of the functions that draw a name, a domain, an address and a path. Condition: the code can be read.
-/
import Derived.Test.YtkhfflbgnojcfaaDrawn
import Derived.OpenShut
namespace Go.Proofs.Ytkhfflbgnojcfaa
open Go.RowKit
set_option linter.unusedVariables false

theorem one_size (c : UInt8) : (⟨#[c]⟩ : ByteArray).size = 1 := rfl
/-- A code that can be read. -/
def Coded (w : World) (A : Option Addr) (len cap : Nat) : Prop :=
  len ≤ cap ∧ cap ≤ maxLen ∧ (0 < len → ∃ (xb xo : Nat) (f : Nat → Int), A = some ⟨xb, xo, none⟩ ∧ xb < w.heap.size ∧ ∀ i, i < len → w.cell? ⟨xb, xo + i, none⟩ = some (.int .u8 (f i)) ∧ 0 ≤ f i ∧ f i ≤ 255)
theorem Coded.below {w w' : World} {B : Nat} {A : Option Addr} {len cap : Nat} (h : Coded w A len cap) (hb : Below B w w') (hB : w.heap.size ≤ B) : Coded w' A len cap :=
  ⟨h.1, h.2.1, fun hl => by
    obtain ⟨xb, xo, f, hA, hx, hc⟩ := h.2.2 hl
    have hsz := hb.size
    exact ⟨xb, xo, f, hA, by omega, fun i hi => ⟨(hb.cell (p := ⟨xb, xo + i, none⟩) (by simp; omega)).trans (hc i hi).1, (hc i hi).2⟩⟩⟩
theorem coded_nil (w : World) : Coded w none 0 0 := ⟨Nat.le_refl _, by unfold maxLen; omega, fun h => absurd h (by omega)⟩
theorem coded_row {w : World} {x : Addr} {len cap : Nat} {zs : List Int} (hl : len ≤ cap) (hm : cap ≤ maxLen) (hz : zs.length = cap)
    (hc : ∀ i, i < zs.length → w.cell? (x.add i) = some (.int .u8 (zs.getD i 0))) (hw : ∀ n ∈ zs, (Lit.int .u8 n).wf = true) : Coded w (some x) len cap := by
  refine ⟨hl, hm, fun h0 => ?_⟩
  have h1 := hc 0 (by omega)
  have hs : x.spot = none := by simpa [Addr.add] using World.cell?_spot h1
  obtain ⟨xb, xo, spot⟩ := x
  simp only at hs
  subst hs
  refine ⟨xb, xo, fun i => zs.getD i 0, rfl, ?_, fun i hi => ?_⟩
  · have := block_lt_of_cell h1
    simpa [Addr.add] using this
  · have h2 := hc i (by omega)
    have hb : zs.getD i 0 ∈ zs := by
      rw [List.getD_eq_getElem?_getD, List.getElem?_eq_getElem (by omega)]
      exact List.getElem_mem _
    have hwf := hw _ hb
    have e : (⟨xb, xo, none⟩ : Addr).add i = ⟨xb, xo + i, none⟩ := by unfold Addr.add; split <;> simp_all
    rw [e] at h2
    have := bounds_u8 hwf
    exact ⟨h2, this.1, this.2⟩
/-- What a drawer of texts leaves. -/
def DrewText (w : World) (e : Ending) (w' : World) : Prop := ∃ s : ByteArray, s.size ≤ 100 ∧ e = .returned (.string s) ∧ Below w.heap.size w w'

/-- What the drawer of addresses leaves. -/
def DrewAddr (w : World) (e : Ending) (w' : World) : Prop := ∃ u d : ByteArray, u.size ≤ 100 ∧ d.size ≤ 100 ∧ e = .returned (.agg #[.string u, .string d]) ∧ Below w.heap.size w w'
end Go.Proofs.Ytkhfflbgnojcfaa
