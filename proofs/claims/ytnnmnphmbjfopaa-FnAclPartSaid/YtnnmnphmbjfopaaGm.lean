/-
  The contracts of the methods set and list of the code's map of grants. Condition: the map is one of the call's own.
-/
import Derived.Test.YtnnmnphmbjfopaaGl
namespace Go.Proofs.Ytnnmnphmbjfopaa
open Go.RowKit Go.Maps Go.WideMaps
set_option linter.unusedVariables false

/-- A map that was changed. -/
def SetMap (w : World) (g : Nat) (L : List Gr) (b : Bool) (e : Ending) (w' : World) : Prop := ∃ n, e = .returned (.bool b) ∧ n ≤ 5 ∧ GMap w' g n L ∧ w.grownBy w' (some g)
theorem key_in {u : ByteArray} (hu : u.size ≤ 16777216) : keyOf Try.prog 9 (.string u) = some (.string (kb u)) := keyOf_string_mk Try.underlying9 (Nat.le_trans hu (by unfold maxLen; omega))
theorem val_in {r : Int} (h0 : 0 ≤ r) (h1 : r ≤ 63) : plainElem (H := Unit) Try.prog 3 (.int .i64 r) = some (gi r, []) := plainElem_int Try.underlying3 (WalkArith.wf_i64 (by omega))
set_option maxHeartbeats 1000000 in
theorem set_zero {g n : Nat} {L : List Gr} (u : ByteArray) (w : World) (hn : n ≤ 4) (h : GMap w g n L) (ha : ascG L) (hu : u.size ≤ 16777216) : Calls Try.prog 59 #[.map (some g), .string u, .int .i64 0] w (SetMap w g (delG L u) true) := by
  obtain ⟨D, ho, hd⟩ := h
  have HO := Lib.hid ho
  have HD := Lib.hid (hd.del ha u)
  have HK := Lib.hid (key_in hu)
  clear ho hd
  go_enter Try.func59, Try.ntmps59
  go_wp2_with (at_delete; refine wpList_delete_own _ rfl (.tmp 9) (.tmp 10) 66 9 rfl 3 lawS Try.underlying66 _ g n _ rfl HO.out _ _ rfl HK.out ?_)
  intro w2 ho2 ht2
  have HM2 : Hid (GMap w2 g n (delG L u)) := Lib.hid ⟨_, ho2, HD.out⟩
  have HG2 := Lib.hid ht2.grown
  clear ho2 ht2
  go_wp2
  go_ret
  exact ⟨n, rfl, by omega, HM2.out, HG2.out⟩
theorem look_val {D : DataW Unit} {L : List Gr} (hD : MapIs D L) {u : ByteArray} {c : Int} (h : D.atKey (.string (kb u)) (.lit (.int .i64 0)) = .lit (.int .i64 c)) : c = valG L u := by
  have h1 := hD.val u
  have e : D.atKey (.string (kb u)) (gi 0) = .lit (.int .i64 c) := h
  rw [e] at h1
  injection h1 with h2
  injection h2
set_option maxRecDepth 20000 in
set_option maxHeartbeats 4000000 in
theorem set_more {g n : Nat} {L : List Gr} (u : ByteArray) (r : Int) (w : World) (hn : n ≤ 4) (h : GMap w g n L) (ha : ascG L) (hok : ∀ x ∈ L, okG x = true) (hu : u.size ≤ 16777216) (h1 : 1 ≤ r) (h2 : r ≤ 63) (h4 : L.length ≤ 4) :
    Calls Try.prog 59 #[.map (some g), .string u, .int .i64 r] w (SetMap w g (if (insG L u r).length ≤ 4 then insG L u r else L) (decide ((insG L u r).length ≤ 4))) := by
  have hlen := insG_len ha u r
  obtain ⟨D, ho, hd⟩ := h
  have HO := Lib.hid ho
  have HD0 := Lib.hid hd
  have HD := Lib.hid (hd.put ha u r)
  have HK := Lib.hid (key_in hu)
  have HV := Lib.hid (val_in (r := r) (by omega) h2)
  have HMX : Hid (n < maxLen) := Lib.hid (by unfold maxLen; omega)
  have hsz : Maps.size D = L.length := hd.size
  have HSZ := Lib.hid hsz
  have r0 : (r == 0) = false := beq_eq_false_iff_ne.2 (by omega)
  cases hh : hasG L u with
  | true =>
    have hv : valG L u ≠ 0 := by have := valG_yes hok hh; omega
    have HVN := Lib.hid hv
    have HLE : Hid ((insG L u r).length ≤ 4) := Lib.hid (by rw [hlen, if_pos hh]; exact h4)
    rw [if_pos HLE.out, decide_eq_true HLE.out]
    clear hlen ho hd hsz hv hh
    go_enter Try.func59, Try.ntmps59
    go_wp2_with (at_lookup; refine wpList_lookup_own_int _ rfl (.tmp 11) (.tmp 12) 66 rfl 9 3 .i64 lawS Try.underlying66 Try.underlying3 (zeroI _) g n _ rfl HO.out _ _ rfl HK.out ?_)
    intro c hat _
    have hc : (c == 0) = false := beq_eq_false_iff_ne.2 (by rw [look_val HD0.out hat]; exact HVN.out)
    clear hat
    go_wp2_with (at_mapUpdate; refine wpList_mapUpdate_in _ rfl (.tmp 20) (.tmp 21) (.tmp 22) 66 rfl 9 3 lawS Try.underlying66 _ g n _ rfl HO.out HMX.out _ _ _ rfl rfl HK.out _ [] HV.out ?_)
    intro w2 ho2 ht2
    have HM2 : Hid (GMap w2 g (n + 1) (insG L u r)) := Lib.hid ⟨_, ho2, HD.out⟩
    have HG2 := Lib.hid ht2.grown
    clear ho2 ht2
    go_wp2
    go_ret
    exact ⟨n + 1, rfl, by omega, HM2.out, HG2.out⟩
  | false =>
    have HVN := Lib.hid (valG_no hh)
    by_cases hl : L.length = 4
    · have HLE : Hid (¬ (insG L u r).length ≤ 4) := Lib.hid (by rw [hlen, hh, if_neg (by simp)]; omega)
      have HL4 : Hid (Maps.size D = 4) := Lib.hid (hsz.trans hl)
      rw [if_neg HLE.out, decide_eq_false HLE.out]
      clear hlen ho hd hsz hh
      go_enter Try.func59, Try.ntmps59
      go_wp2_with (at_lookup; refine wpList_lookup_own_int _ rfl (.tmp 11) (.tmp 12) 66 rfl 9 3 .i64 lawS Try.underlying66 Try.underlying3 (zeroI _) g n _ rfl HO.out _ _ rfl HK.out ?_)
      intro c hat _
      have hc : c = 0 := (look_val HD0.out hat).trans HVN.out
      clear hat
      subst hc
      have HRUN : ∀ ty, (Builtin.len_ #[66] ty #[.map (some g)]).run Try.prog w = .ok (.int .i64 4) w := fun ty => by
        have := HO.out.len Try.underlying66 ty
        rw [HL4.out] at this
        exact this
      go_wp2
      go_ret
      exact ⟨n, rfl, by omega, ⟨D, HO.out, HD0.out⟩, World.grownBy.refl _ _⟩
    · have HLE : Hid ((insG L u r).length ≤ 4) := Lib.hid (by rw [hlen, hh, if_neg (by simp)]; omega)
      rw [if_pos HLE.out, decide_eq_true HLE.out]
      obtain ⟨m, hm⟩ : ∃ m, Maps.size D = m := ⟨_, rfl⟩
      have hm4 : ((m : Int) == 4) = false := beq_eq_false_iff_ne.2 (by omega)
      have HM := Lib.hid hm
      clear hlen ho hd hsz hh hm
      go_enter Try.func59, Try.ntmps59
      go_wp2_with (at_lookup; refine wpList_lookup_own_int _ rfl (.tmp 11) (.tmp 12) 66 rfl 9 3 .i64 lawS Try.underlying66 Try.underlying3 (zeroI _) g n _ rfl HO.out _ _ rfl HK.out ?_)
      intro c hat _
      have hc : c = 0 := (look_val HD0.out hat).trans HVN.out
      clear hat
      subst hc
      have HRUN : ∀ ty, (Builtin.len_ #[66] ty #[.map (some g)]).run Try.prog w = .ok (.int .i64 (m : Int)) w := fun ty => by
        have := HO.out.len Try.underlying66 ty
        rw [HM.out] at this
        exact this
      go_wp2_with (at_mapUpdate; refine wpList_mapUpdate_in _ rfl (.tmp 20) (.tmp 21) (.tmp 22) 66 rfl 9 3 lawS Try.underlying66 _ g n _ rfl HO.out HMX.out _ _ _ rfl rfl HK.out _ [] HV.out ?_)
      intro w2 ho2 ht2
      have HM2 : Hid (GMap w2 g (n + 1) (insG L u r)) := Lib.hid ⟨_, ho2, HD.out⟩
      have HG2 := Lib.hid ht2.grown
      clear ho2 ht2
      go_wp2
      go_ret
      exact ⟨n + 1, rfl, by omega, HM2.out, HG2.out⟩
end Go.Proofs.Ytnnmnphmbjfopaa
