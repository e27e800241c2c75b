/-
  The contract of the method list of the code's map of grants. Condition: the map is one of the call's own.
-/
import Derived.Test.YtnnmnphmbjfopaaGm
namespace Go.Proofs.Ytnnmnphmbjfopaa
open Go.RowKit Go.Maps Go.WideMaps Go.Sort
set_option linter.unusedVariables false

def txR : RowT ByteArray where
  t := 9
  sz := 1
  enc := fun s => [.string s]
  len := fun _ => rfl
  one := fun x u hu => by
    simp at hu
    subst hu
    rfl
theorem tx_cells (L : List Gr) : (L.map fun g => kb g.1).map encStr = rcells txR (L.map (·.1)) := by
  induction L with
  | nil => rfl
  | cons g L ih =>
    rw [List.map_cons, List.map_cons, List.map_cons, ih]
    rfl
theorem tx_at {w : World} {A : Option Addr} {P : List ByteArray} {k : Nat} {s : ByteArray} (h : RAt txR w A P) (hx : P[k]? = some s) : ∃ b o, A = some ⟨b, o, none⟩ ∧ b < w.heap.size ∧ w.cell? ⟨b, o + k, none⟩ = some (.string s) := by
  obtain ⟨b, o, hA, hb, h1⟩ := h k _ hx
  have := h1 0 _ rfl
  have e : txR.sz = 1 := rfl
  rw [e, Nat.mul_one, Nat.add_zero] at this
  exact ⟨b, o, hA, hb, this⟩
theorem map_keys (g : Nat) (W : World) : Calls Try.prog 70 #[.map (some g)] W fun e w' => e = .returned (.func (.func 75) #[] #[.pointer (some ⟨W.heap.size, 0, none⟩)]) ∧ w' = W.alloc (.cells #[.map (some g)] 66) := (callsIn_wide (n := 5)).1 (it_maps_Keys (some g) W)
theorem map_sorted {g n : Nat} {L : List Gr} (W : World) (S1 : Nat) (hS1 : W.heap.size = S1) (h : GMap W g n L) (ha : ascG L) (hl : L.length ≤ 100) :
    Calls Try.prog 69 #[.func (.func 75) #[] #[.pointer (some ⟨S1, 0, none⟩)]] (W.alloc (.cells #[.map (some g)] 66)) fun e w' => ∃ A N cap, e = .returned (.slice A N cap) ∧ N = L.length ∧ ROwn txR w' (S1 + 1) (.slice A N cap) (L.map (·.1)) ∧ Below (S1 + 1) (W.alloc (.cells #[.map (some g)] 66)) w' := by
  subst hS1
  obtain ⟨D, ho, hd⟩ := h
  refine ((callsIn_wide (n := 5)).1 (it_sorted g n D _ W ho (by rw [hd.size]; unfold maxLen; omega) (by rw [hd.size]; omega))).mono ?_
  rintro e w' ⟨v, ss, rfl, hp, hrow, hnil, hb⟩
  have hk := keys_sorted ho lawS Try.underlying9 hd ha hp
  have hlen : ss.length = L.length := by
    have h1 := congrArg List.length hk
    rw [List.length_mergeSort, List.length_map] at h1
    exact h1
  have hsz : (W.alloc (.cells #[.map (some g)] 66)).heap.size = W.heap.size + 1 := by simp
  rw [hk, tx_cells, hlen, hsz] at hrow
  have hown : ROwn txR w' (W.heap.size + 1) v (L.map (·.1)) := ROwn.of (R := txR) hrow (by rw [List.length_map])
  obtain ⟨A, cap, rfl, _⟩ := hown.form
  rw [hsz] at hb
  exact ⟨A, _, cap, rfl, by rw [List.length_map], hown, hb⟩
theorem GMap.grown {w w' : World} {g n : Nat} {row : Option Nat} {L : List Gr} (h : GMap w g n L) (hg : w.grownBy w' row) (hne : some g ≠ row) : GMap w' g n L := by
  obtain ⟨D, ho, hd⟩ := h
  exact ⟨D, ho.kept hg hne, hd⟩
/-- Grants of the call's own are handed back. -/
def GivesG (w : World) (L : List Gr) (e : Ending) (w' : World) : Prop := ∃ A N cap, e = .returned (.slice A N cap) ∧ ROwn grR w' w.heap.size (.slice A N cap) L ∧ Below w.heap.size w w'
set_option maxRecDepth 20000 in
set_option maxHeartbeats 8000000 in
theorem map_list {g n : Nat} {L : List Gr} (w : World) (h : GMap w g n L) (ha : ascG L) (hl : L.length ≤ 100) (hs : ∀ x ∈ L, x.1.size ≤ 16777216) : Calls Try.prog 60 #[.map (some g)] w (GivesG w L) := by
  have HM := Lib.hid h
  have HA := Lib.hid ha
  have HS := Lib.hid hs
  obtain ⟨i0, hi, hq0, hq1, hq2⟩ := info_parts Try.infoGrant
  obtain ⟨m, hm⟩ : ∃ m, L.length = m := ⟨_, rfl⟩
  have HLM := Lib.hid hm
  have hm100 : m ≤ 100 := by omega
  have HL100 := Lib.hid hl
  have HRUN : ∀ ty, (Builtin.len_ #[66] ty #[.map (some g)]).run Try.prog w = .ok (.int .i64 (m : Int)) w := fun ty => by
    obtain ⟨D, ho, hd⟩ := h
    have := ho.len Try.underlying66 ty
    rw [hd.size, hm] at this
    exact this
  have hb2 : i0.bytes * m ≤ 281474976710656 := by rw [hq2]; omega
  have hb3 : m ≤ maxLen := by unfold maxLen; omega
  obtain ⟨S, hS⟩ : ∃ S, w.heap.size = S := ⟨_, rfl⟩
  have HSS := Lib.hid hS
  clear h ha hs hl hm
  go_enter Try.func60, Try.ntmps60
  go_wp2_with (at_make; refine wpList_make_own _ rfl _ _ 29 rfl w.heap.size 40 i0 (.agg #[.string ⟨#[]⟩, .int .i64 0]) 2 Try.underlying29 hi hq0 hq1 .i64 .i64 (m : Int) m rfl rfl rfl hb2 hb3 (Nat.le_refl _) ?_)
  intro w1 hown hgrow
  have HB1 : Hid (Below S w w1) := Lib.hid (hS ▸ (Below.refl _ _).grown hgrow (Nat.le_refl _) (fun z hz => by cases hz))
  have HO1 : Hid (ROwn grR w1 S (.slice (some ⟨S, 0, none⟩) 0 m) []) := Lib.hid (ROwn.of (R := grR) (L := []) hown rfl)
  have HM1 : Hid (GMap w1 g n L) := Lib.hid (HM.out.below HB1.out (by omega))
  have hS1 : S < w1.heap.size := (World.ownsRow.lt HO1.out S rfl).2
  clear hown hgrow hS
  obtain ⟨S1, hS1e⟩ : ∃ S1, w1.heap.size = S1 := ⟨_, rfl⟩
  have HS1E := Lib.hid hS1e
  go_wp2_with fail
  refine (map_keys g _).mono ?_
  rintro e w2 ⟨rfl, hw2⟩
  subst hw2
  go_wp2_with fail
  refine (map_sorted w1 S1 HS1E.out HM1.out HA.out HL100.out).mono ?_
  rintro e w3 ⟨A3, N3, cap3, rfl, hN3, ho3, hb3'⟩
  subst hN3
  have HB3 : Hid (Below S w w3) := Lib.hid ((HB1.out.alloc (by omega) _).trans (hb3'.mono (by omega)))
  have hw1' : (w1.alloc (.cells #[.map (some g)] 66)).heap.size = S1 + 1 := by rw [← HS1E.out]; simp
  have HO3 : Hid (ROwn grR w3 S (.slice (some ⟨S, 0, none⟩) 0 m) (L.take 0)) := Lib.hid (by
    rw [List.take_zero]
    exact (HO1.out.alloc _).kept (by rw [hw1']; exact hb3'))
  have HM3 : Hid (GMap w3 g n L) := Lib.hid ((HM1.out.alloc _).below hb3' (by rw [hw1']; exact Nat.le_refl _))
  have HT3 : Hid (ROwn txR w3 (S1 + 1) (.slice A3 L.length cap3) (L.map (·.1))) := Lib.hid ho3
  have hgS : g < S := by rw [← HSS.out]; exact HM.out.lt
  have hS3 : S ≤ w3.heap.size := Nat.le_trans (Nat.le_of_eq HSS.out.symm) HB3.out.size
  clear ho3 hb3' hw1'
  have hm5 : L.length ≤ 100 := HL100.out
  go_wp2
  go_loopw [3, 13] (fun v i wr => ∃ (k : Nat) (A : Option Addr) (cap : Nat), k ≤ L.length ∧ v = .slice A k cap ∧ i = .int .i64 (k : Int) ∧ S ≤ wr.heap.size ∧ Hid (Below S w wr) ∧ Hid (ROwn grR wr S (.slice A k cap) (L.take k)) ∧ Hid (GMap wr g n L) ∧ Hid (ROwn txR wr (S1 + 1) (.slice A3 L.length cap3) (L.map (·.1)))) (fun _ i _ => L.length - (intOf i).toNat)
  case atStart => exact ⟨0, _, _, Nat.zero_le _, rfl, by go_num, hS3, HB3.out, HO3.out, HM3.out, HT3.out⟩
  case round =>
    obtain ⟨k, A, cap, hk, rfl, rfl, hSr, HB, HO, HMr, HT⟩ := hrel
    by_cases hlt : k < L.length
    · have h0 : (0 : Int) ≤ (k : Int) := by omega
      have h5 : (k : Int) < (L.length : Int) := by omega
      obtain ⟨⟨u, r⟩, hx⟩ : ∃ x, L[k]? = some x := ⟨_, List.getElem?_eq_getElem hlt⟩
      have hxu : (L.map (·.1))[k]? = some u := by rw [List.getElem?_map, hx]; rfl
      have HX := Lib.hid hx
      obtain ⟨b, o, rfl, hb, c0⟩ := tx_at HT.out.at hxu
      have HK := Lib.hid (key_in (HS.out (u, r) (List.mem_of_getElem? hx)))
      have HV : Hid (valG L u = r) := Lib.hid (valG_mem HA.out (List.mem_of_getElem? hx))
      obtain ⟨D, ho, hd⟩ := HMr.out
      have HOD := Lib.hid ho
      have HDD := Lib.hid hd
      clear hx hxu ho hd
      go_wp2_with (at_lookup; refine wpList_lookup_own_int _ rfl (.tmp 19) (.tmp 20) 66 rfl 9 3 .i64 lawS Try.underlying66 Try.underlying3 (zeroI _) g n _ rfl HOD.out _ _ rfl HK.out ?_)
      intro c hat _
      have hc : c = r := (look_val HDD.out hat).trans HV.out
      clear hat
      subst hc
      have hml : k + 1 ≤ maxLen := by unfold maxLen; omega
      have hby : (k + 1) * 24 ≤ 140737488355328 := by omega
      have hown6 := HO.out.alloc (.cells #[.string u, .int .i64 c] 40)
      have hnew6 := RAt.made grR wr [(u, c)] wr.heap.size rfl
      have hlk : (L.take k).length = k := by rw [List.length_take]; omega
      have HLK := Lib.hid hlk
      have HALL := Lib.hid (HB.out.alloc hSr (.cells #[.string u, .int .i64 c] 40))
      clear hlk
      go_wp2_with (at_builtin; refine wpList_append_rows rfl (.tmp 17) (.tmp 23) 29 rfl grR S i0 _ 24 Try.underlying29 hi hq0 hq1 hq2 rfl (by decide) _ (L.take k) [(u, c)] k HLK.out rfl hown6 (some ⟨wr.heap.size, 0, none⟩) 1 1 rfl rfl hnew6 (fun e => by cases e) (fun q e => by cases e; rfl) hml hby (by simp; omega) ?_)
      intro v' w7 hown hgrow hnn
      obtain ⟨A7, N7, cap7, rfl⟩ := hown.val
      have hN7 : N7 = k + 1 := by
        have := hown.len.1
        rw [List.length_append, HLK.out] at this
        exact this
      subst hN7
      have HO7 : Hid (ROwn grR w7 S (.slice A7 (k + 1) cap7) (L.take (k + 1))) := Lib.hid (by rw [take_snoc HX.out]; exact hown)
      have HB7 : Hid (Below S w w7) := Lib.hid (HALL.out.grown hgrow (by simp; omega) (fun j hj => (World.ownsRow.lt HO.out j hj).1))
      have HM7 : Hid (GMap w7 g n L) := Lib.hid ((GMap.alloc ⟨D, HOD.out, HDD.out⟩ _).grown hgrow (fun e => by have := (World.ownsRow.lt HO.out g e.symm).1; omega))
      have HT7 : Hid (ROwn txR w7 (S1 + 1) (.slice (some ⟨b, o, none⟩) L.length cap3) (L.map (·.1))) := Lib.hid ((HT.out.alloc _).apart hgrow (own_apart HT.out HO.out (by decide)))
      have hS7 : S ≤ w7.heap.size := Nat.le_trans (by simp; omega) hgrow.size
      clear hown hgrow hnn hown6 hnew6
      go_wp2
      go_roundw
      case rel => exact ⟨k + 1, A7, cap7, by omega, rfl, by go_num, hS7, HB7, HO7, HM7, HT7.out⟩
      case measure => simp [intOf]; omega
    · have h5 : ¬ (k : Int) < (L.length : Int) := by omega
      have hkk : k = L.length := by omega
      subst hkk
      have HOE : Hid (ROwn grR wr S (.slice A L.length cap) L) := Lib.hid (by have := HO.out; rw [List.take_length] at this; exact this)
      go_wp2
      go_ret
      exact ⟨A, L.length, cap, rfl, by rw [HSS.out]; exact HOE.out, by rw [HSS.out]; exact HB.out⟩
end Go.Proofs.Ytnnmnphmbjfopaa
