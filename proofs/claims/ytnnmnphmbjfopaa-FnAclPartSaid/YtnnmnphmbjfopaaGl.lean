/-
  The contracts of the code's grantsOf, set and list: a map of the call's own. Condition: the grants can be read, and are not too many.
-/
import Derived.Test.YtnnmnphmbjfopaaGv
import Derived.Test.YtnnmnphmbjfopaaGk
import Derived.Test.YtnnmnphmbjfopaaIter
import Derived.Maps.OwnOps
namespace Go.Proofs.Ytnnmnphmbjfopaa
open Go.RowKit Go.Maps Go.WideMaps
set_option linter.unusedVariables false

theorem lawS : Keyed Try.prog 9 := string_keyed Try.underlying9
theorem zeroI (w : World) : (zeroValue 3).run Try.prog w = .ok (.int .i64 0) w := by kernel_rfl
/-- A map of the call's own that says these grants. -/
def GMap (w : World) (g n : Nat) (L : List Gr) : Prop := ∃ D : DataW Unit, w.ownsMap Try.prog 9 (plainElem Try.prog 3) g n D ∧ MapIs D L
theorem GMap.lt {w : World} {g n : Nat} {L : List Gr} (h : GMap w g n L) : g < w.heap.size := by
  obtain ⟨D, h, _⟩ := h
  exact h.lt
theorem GMap.below {w w' : World} {g n B : Nat} {L : List Gr} (h : GMap w g n L) (hb : Below B w w') (hB : w.heap.size ≤ B) : GMap w' g n L := by
  have hlt := h.lt
  obtain ⟨D, ⟨es, clock, h1, F, h2, h3⟩, h4⟩ := h
  exact ⟨D, ⟨es, clock, (hb.block g (by omega)).trans h1, F, h2, h3⟩, h4⟩
theorem GMap.alloc {w : World} {g n : Nat} {L : List Gr} (h : GMap w g n L) (o : Obj) : GMap (w.alloc o) g n L := by
  obtain ⟨D, h1, h2⟩ := h
  exact ⟨D, h1.alloc o, h2⟩
theorem GMap.made (w : World) : GMap (w.alloc (.map #[] 0)) w.heap.size 0 [] := ⟨_, World.ownsMap_made w _ _ _, MapIs.start⟩
/-- No grants are told. -/
def NoMap (w : World) (e : Ending) (w' : World) : Prop := e = .returned (.tuple #[.map none, .bool false]) ∧ Below w.heap.size w w'
/-- Grants are told. -/
def YesMap (w : World) (L : List Gr) (e : Ending) (w' : World) : Prop := ∃ g n, e = .returned (.tuple #[.map (some g), .bool true]) ∧ n ≤ 4 ∧ w.heap.size ≤ g ∧ GMap w' g n L ∧ Below w.heap.size w w'
theorem aclv_at {A : Option Addr} {N cap : Nat} {L : List Gr} {z : Bool} (hv : vG L = z) (w : World) (h : GIn w A N cap L) : Calls Try.prog 28 #[.slice A N cap] w (SayB w z) := by
  subst hv
  exact impl_aclvalid w h
set_option maxHeartbeats 1000000 in
theorem grants_no {A : Option Addr} {N cap : Nat} {L : List Gr} (w : World) (h : GIn w A N cap L) (hv : vG L = false) : Calls Try.prog 58 #[.slice A N cap] w (NoMap w) := by
  have H := Lib.hid h
  have HV := Lib.hid hv
  clear h hv
  go_enter Try.func58, Try.ntmps58
  go_wp2_with fail
  refine (aclv_at HV.out _ H.out).mono ?_
  rintro e w1 ⟨rfl, hb⟩
  have HB1 := Lib.hid hb
  clear hb
  go_wp2
  go_ret2
  exact ⟨rfl, HB1.out⟩
set_option maxRecDepth 20000 in
set_option maxHeartbeats 4000000 in
theorem grants_yes {A : Option Addr} {N cap : Nat} {L : List Gr} (w : World) (h : GIn w A N cap L) (hv : vG L = true) : Calls Try.prog 58 #[.slice A N cap] w (YesMap w L) := by
  have H := Lib.hid h
  have HV := Lib.hid hv
  have h4 : N ≤ 4 := by rw [← h.1]; exact (vG_iff.1 hv).1
  have hmm := @run_makeMap Try.prog
  clear h hv
  go_enter Try.func58, Try.ntmps58
  go_wp2_with fail
  refine (aclv_at HV.out _ H.out).mono ?_
  rintro e w1 ⟨rfl, hb⟩
  have HB1 := Lib.hid hb
  obtain ⟨B, hB⟩ : ∃ B, w1.heap.size = B := ⟨_, rfl⟩
  have hwB : w.heap.size ≤ B := hB ▸ hb.size
  clear hb
  obtain ⟨wm, hwm⟩ : ∃ wm, w1.alloc (.map #[] 0) = wm := ⟨_, rfl⟩
  have HM0 : Hid (GMap wm B 0 []) := Lib.hid (by rw [← hwm, ← hB]; exact GMap.made w1)
  have HBM : Hid (Below w.heap.size w wm) := Lib.hid (by rw [← hwm]; exact HB1.out.alloc HB1.out.size _)
  have HWM := Lib.hid hwm
  have HBB := Lib.hid hB
  clear hwm
  go_wp2
  rw [HWM.out]
  clear hB
  go_loopw [13] (fun i wr => ∃ k : Nat, k ≤ N ∧ i = .int .i64 (k : Int) ∧ Hid (GMap wr B k (L.take k)) ∧ Hid (Below w.heap.size w wr)) (fun i _ => N - (intOf i).toNat)
  case atStart => exact ⟨0, Nat.zero_le _, by go_num, by rw [List.take_zero]; exact HM0, HBM.out⟩
  case round =>
    obtain ⟨k, hk, rfl, HM, HB⟩ := hrel
    by_cases hlt : k < N
    · have h0 : (0 : Int) ≤ (k : Int) := by omega
      have h5 : (k : Int) < (N : Int) := by omega
      obtain ⟨⟨u, r⟩, hx⟩ : ∃ x, L[k]? = some x := ⟨_, List.getElem?_eq_getElem (by rw [H.out.1]; exact hlt)⟩
      have hu : u.size ≤ maxLen := Nat.le_trans (H.out.2.2.2.2.2 (u, r) (List.mem_of_getElem? hx)) (by unfold maxLen; omega)
      have hro : 1 ≤ r ∧ r ≤ 63 := by
        have := (vG_iff.1 HV.out).2.1 (u, r) (List.mem_of_getElem? hx)
        unfold okG at this
        simp at this
        exact this.2
      obtain ⟨b, o, rfl, hb, c0, c1⟩ := grant_at (H.out.2.2.1.below HB.out (Nat.le_refl _)) hx
      have HX := Lib.hid hx
      have W := Whole.made wr 40 #[.string u, .int .i64 r]
      have g0 : (wr.alloc (.cells #[.string u, .int .i64 r] 40)).cell? ⟨wr.heap.size, 0, none⟩ = some (.string u) := W.cell 0
      have g1 : (wr.alloc (.cells #[.string u, .int .i64 r] 40)).cell? ⟨wr.heap.size, 1, none⟩ = some (.int .i64 r) := W.cell 1
      obtain ⟨D, hown, hD⟩ := HM.out
      have hown2 := hown.alloc (.cells #[.string u, .int .i64 r] 40)
      have HO2 := Lib.hid hown2
      have HDD := Lib.hid hD
      have HBA := Lib.hid (HB.out.alloc HB.out.size (.cells #[.string u, .int .i64 r] 40))
      clear hx hown hD hown2 W
      have HKEY : Hid (keyOf Try.prog 9 (.string u) = some (.string u.data.toList)) := Lib.hid (keyOf_string_mk Try.underlying9 hu)
      have HVAL : Hid (plainElem (H := Unit) Try.prog 3 (.int .i64 r) = some (.lit (.int .i64 r), [])) := Lib.hid (plainElem_int Try.underlying3 (WalkArith.wf_i64 (by omega)))
      have HMAX : Hid (k < maxLen) := Lib.hid (by unfold maxLen; omega)
      go_wp2_with (at_mapUpdate; refine wpList_mapUpdate_own _ rfl (.tmp 17) (.tmp 19) (.tmp 21) 66 rfl 9 3 lawS Try.underlying66 _ B k _ rfl HO2.out HMAX.out _ _ _ rfl rfl HKEY.out _ [] HVAL.out ?_)
      intro w2 hown3 hg3
      have HM3 : Hid (GMap w2 B (k + 1) (L.take (k + 1))) := Lib.hid ⟨_, hown3, MapIs.snoc HDD.out (vG_iff.1 HV.out).2.2 HX.out⟩
      have HB3 : Hid (Below w.heap.size w w2) := Lib.hid (HBA.out.grown hg3 HBA.out.size (fun j hj => by cases hj; exact hwB))
      clear hown3 hg3
      go_wp2
      go_roundw
      case rel => exact ⟨k + 1, by omega, by go_num, HM3, HB3.out⟩
      case measure => simp [intOf]; omega
    · have h5 : ¬ (k : Int) < (N : Int) := by omega
      have HE : Hid (L.take k = L) := Lib.hid (List.take_of_length_le (by rw [H.out.1]; omega))
      go_wp2
      go_ret2
      exact ⟨B, k, rfl, by omega, hwB, by rw [← HE.out]; exact HM.out, HB.out⟩
end Go.Proofs.Ytnnmnphmbjfopaa
