/-
  What the row's list gives: the table of the flags' names holds the five names. No condition.
-/
import Derived.Test.YtbcooiifpfdiaaaDoorRows
import Derived.Test.YtbcooiifpfdiaaaDoorFown
import Derived.ProofKit
import Derived.LaidMore
import Derived.OpenShut
import Derived.OpenVars
namespace Go.Proofs.YtbcooiifpfdiaaaDoor
open Go.ChangeShapes Go.WideShapes Go.ChangeAt Go.WideElems Go.RowKit
set_option linter.unusedVariables false

theorem gNames : Tryd.prog.globalNamed "loop.example/mailhost/impl.flagNames" = some 0 := by kernel_rfl
theorem tNames : (Tryd.prog.globals[0]?).map (·.type) = some 41 := by kernel_rfl
theorem cOne : Tryd.prog.cellsOf 9 = 1 := by kernel_rfl
theorem lit_at {k : Nat} (hk : k < 5) {s : ByteArray} (h : ([.lit (.string [83, 101, 101, 110]), .lit (.string [65, 110, 115, 119, 101, 114, 101, 100]), .lit (.string [70, 108, 97, 103, 103, 101, 100]), .lit (.string [68, 101, 108, 101, 116, 101, 100]), .lit (.string [68, 114, 97, 102, 116])] : List (DataW Unit))[k]? = some (.lit (.string s.data.toList))) : s = sB (fnm k) := by
  match k, hk with
  | 0, _ | 1, _ | 2, _ | 3, _ | 4, _ =>
    simp at h
    refine sB_ext ?_
    rw [sB_list]
    exact h.symm
theorem lst_of_laid {W : World} (h : laidMetH Tryd.prog [("loop.example/mailhost/impl.flagNames", Rows.laid_loop_example_mailhost_impl_flagNames)] W) : Lst W := by
  rw [MakeChecks.laidMetH_plain _ _ _ (by kernel_rfl)] at h
  obtain ⟨ps, ⟨g0, t0, cs0, f0, p0, q0, hg0, ht0, hv0, hd0, _, _⟩, _, _⟩ := h
  obtain rfl := Option.some.inj (gNames.symm.trans hg0)
  obtain rfl := Option.some.inj (tNames.symm.trans ht0)
  obtain ⟨xs, m1, rfl, hx1, hlen, hn, hel⟩ := DataW.trod_array Tryd.underlying41 hd0
  rw [Prod.mk.injEq] at hx1
  have hmap : xs.map (·.1) = [.lit (.string [83, 101, 101, 110]), .lit (.string [65, 110, 115, 119, 101, 114, 101, 100]), .lit (.string [70, 108, 97, 103, 103, 101, 100]), .lit (.string [68, 101, 108, 101, 116, 101, 100]), .lit (.string [68, 114, 97, 102, 116])] := (DataW.agg.inj hx1.1).symm
  have key : ∀ k, k < 5 → W.cell? ⟨0, k, none⟩ = fnames[k]? := by
    intro k hk
    have hk1 := hel k hk
    rw [cOne, Nat.mul_one] at hk1
    obtain ⟨s, e1, e2, _⟩ := DataW.trod_string Tryd.underlying9 (hk1.trans (List.getElem?_eq_getElem (by omega)))
    have e3 : (xs.map (·.1))[k]? = some (.lit (.string s.data.toList)) := by
      rw [List.getElem?_map, List.getElem?_eq_getElem (by omega), e2]
      rfl
    rw [hmap] at e3
    have e4 : cs0.toList[k]? = some (.string s) := by
      have : ((cs0.toList.drop k).take 1)[0]? = cs0.toList[k]? := by simp
      rw [← this, e1]
      rfl
    rw [World.var?_cell gNames hv0 k, fnames_at hk, ← lit_at hk e3, ← Array.getElem?_toList]
    exact e4
  exact ⟨block_lt_of_cell ((key 0 (by omega)).trans (fnames_at (by omega))), key⟩
theorem one_var {H : Type} {enc : TypeId × Value → H} {P : Program} {w : World} {sp : Nat → Bool} {n : String} {gs : List (DataW H)} {q : List MemPlace} (h : DataW.TrodVars enc P w sp [n] gs q) : ∃ g, gs = [g] := by
  match gs, h with
  | [], h => exact h.elim
  | [g], _ => exact ⟨g, rfl⟩
  | _ :: _ :: _, h =>
    obtain ⟨_, _, _, _, _, _, _, _, _, _, hs, _⟩ := h
    exact hs.elim
end Go.Proofs.YtbcooiifpfdiaaaDoor
