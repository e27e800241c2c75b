/-
  Keys over a set: how they lie in memory, when they are valid, what they find; the contract of DrawSetText; the code's SetNumbers and BoxUids by name. Conditions: the code can be read; the set lies in memory.
-/
import Derived.Test.YtpihibconbejlaaDoorKv2
namespace Go.Proofs.YtpihibconbejlaaDoor
open Go.RowKit
set_option linter.unusedVariables false

/-- A drawn set in new memory. -/
def DrewTk (w : World) (e : Ending) (w' : World) : Prop := ∃ (A : Option Addr) (n cap : Nat) (L : List (Int × Int)), L.length = n ∧ n ≤ 8 ∧ e = .returned (.slice A n cap) ∧ SpA w' A L ∧ Below w.heap.size w w'
theorem drewTk_mk {w w' : World} {B : Nat} {v : Value} {L : List (Int × Int)} (hl : L.length ≤ 8) (h : Own w' B v L) (hb : Below w.heap.size w w') : DrewTk w (.returned v) w' := by
  obtain ⟨A, cap, rfl, h1, h2, h3⟩ := h.form
  exact ⟨A, _, cap, L, rfl, hl, rfl, h3, hb⟩
set_option maxHeartbeats 1000000 in
theorem draw_tk (A : Option Addr) (len cap : Nat) (w : World) (h : Coded w A len cap) :
    Calls Tryd.prog 36 #[.slice A len cap] w (DrewTk w) := by
  have HK := Lib.hid h.2.2
  have hk1 := h.1
  have hk2 := h.2.1
  clear h
  go_enter Tryd.func36, Tryd.ntmps36
  go_wp2_with fail
  refine (open_any A len cap _ hk1 hk2 HK.out).mono ?_
  rintro e w1 ⟨rfl, hr, hb, hz⟩
  have HR := Lib.hid hr
  have HB := Lib.hid hb
  clear hr hb
  go_wp2_with fail
  refine (set_draw w.heap.size 0 w1 HR.out (by omega)).mono ?_
  rintro e w2 ⟨v, L, q, hL, hq, rfl, hr, hg, ho⟩
  have HG := Lib.hid hg
  have HO := Lib.hid ho
  clear hr hg ho
  go_wp2_with fail
  go_ret
  exact drewTk_mk hL HO.out (below_gr HB.out HG.out (by omega) (Nat.le_refl _))
theorem kv_set {w : World} (kd : Int) {S : List (Int × Int)} {A : Option Addr} {n c : Nat} (hn : S.length = n) (hs : n ≤ 33554432) (h : SpA w A S) : KV w (.mk kd 0 ⟨#[]⟩ S []) (kval (kd, 0, ⟨#[]⟩, (A, n, c), (none, 0, 0))) := by
  rw [KV]
  exact ⟨A, n, c, none, 0, 0, rfl, hn, hs, by decide, h, rfl, by rw [KVs]; trivial⟩
theorem key_set {kd : Int} {S : List (Int × Int)} {z : Bool} (hkd : kd = 3 ∨ kd = 4) (h : setB S = z) : keyB (.mk kd 0 ⟨#[]⟩ S []) = z := by
  unfold keyB
  rcases hkd with rfl | rfl
  all_goals
    simp [allT, allL, nodeB, nodesT, nodesL, h]
    intro _
    rfl
theorem nodes_set (kd : Int) (S : List (Int × Int)) : nodesT (.mk kd 0 ⟨#[]⟩ S []) ≤ 1000000 := by simp [nodesT, nodesL]
theorem setnums_in {S : List (Int × Int)} {A : Option Addr} {n c : Nat} {last : Int} {G : List Int} (hn : S.length = n) (hs : n ≤ 33554432) (hG : ((numsB S last).map fun (n : Nat) => (n : Int)) = G) (w : World) (h : SpA w A S) :
    Calls Tryd.prog 37 #[.slice A n c, .int .i64 last] w fun e w' => ∃ A4 N4 c4, e = .returned (.slice A4 N4 c4) ∧ IIn w' A4 N4 c4 G ∧ Below w.heap.size w w' := by
  subst hn
  subst hG
  refine (impl_setnumbers A c S last w h hs).mono ?_
  rintro e w' ⟨v, rfl, ho, hb⟩
  have hr := ownI_row ho
  obtain ⟨A4, N4, c4, rfl⟩ := hr.val
  have hl4 := hr.len.1
  have hll := numsB_len S last
  rw [List.length_map] at hl4
  exact ⟨A4, N4, c4, rfl, IIn.of hr (by omega), hb⟩
theorem uids_by {n : Int} {L : List ML} {U G : List Int} (hG : bxUI n L U = G) (A : Option Addr) (N cap : Nat) (A2 : Option Addr) (N2 cap2 : Nat) (w : World) (hM : MIn w A N cap L) (hI : IIn w A2 N2 cap2 U) : Calls Tryd.prog 38 #[.agg #[.int .i64 n, .slice A N cap], .slice A2 N2 cap2] w (GivesN w G) := by
  subst hG
  exact impl_uids n A N cap L A2 N2 cap2 U w hM hI
theorem pl_cnt {L : List ML} {k : KT} {f : Nat → Bool} (h : ∀ m i, findT L m i k = f (i + 1)) : ∀ n : Nat, plT L k n = (cnt f n).map fun (n : Nat) => (n : Int)
  | 0 => rfl
  | n + 1 => by
    rw [plT, pl_cnt h n, h]
    cases hf : f (n + 1) with
    | true =>
      rw [cnt_yes hf, List.map_append]
      rfl
    | false =>
      rw [cnt_no hf]
      rfl
theorem pl_place {L : List ML} {S : List (Int × Int)} (hs : setB S = true) (h9 : L.length ≤ 99) : plT L (.mk 3 0 ⟨#[]⟩ S []) L.length = (numsB S (L.length : Int)).map fun (n : Nat) => (n : Int) := by
  rw [pl_cnt (f := fun n => hasB S (L.length : Int) (n : Int)) (fun m i => find_is.2.2.2.1.trans (by simp))]
  by_cases h0 : L.length = 0
  · rw [numsB_low _ (by omega), h0]
    rfl
  · have hl : lst (L.length : Int) = (L.length : Int) := by unfold lst; omega
    rw [numsB_yes hs (by omega), hl, Int.toNat_natCast]
theorem pl_uid {n : Int} {L : List ML} {S : List (Int × Int)} (hb : bOk n L = true) (hs : setB S = true) : plT L (.mk 4 0 ⟨#[]⟩ S []) L.length = bxUI n L ((numsB S (lastU L)).map fun (n : Nat) => (n : Int)) := by
  rw [bxUI_yes hb]
  obtain ⟨U, hU⟩ : ∃ U, ((numsB S (lastU L)).map fun (n : Nat) => (n : Int)) = U := ⟨_, rfl⟩
  have H : ∀ j, j ≤ L.length → plT L (.mk 4 0 ⟨#[]⟩ S []) j = udI U (L.take j) := by
    intro j
    induction j with
    | zero => intro _; rfl
    | succ j ih =>
      intro hj
      obtain ⟨m, hm⟩ : ∃ m, L[j]? = some m := ⟨_, List.getElem?_eq_getElem (by omega)⟩
      obtain ⟨x, hlx, hlu, hl1, hl2, hl3⟩ := last_is hb hm
      have hf : findT L m j (.mk 4 0 ⟨#[]⟩ S []) = U.contains m.1 := by
        refine find_is.2.2.2.2.trans ?_
        rw [← hU, hlu]
        exact (nums_has hs hl1 hl2 hl3).symm
      rw [plT, ih (by omega), List.getD_eq_getElem?_getD, hm, Option.getD_some, hf]
      cases hc : U.contains m.1 with
      | true =>
        rw [udI_yes hm hc]
        simp
      | false =>
        rw [udI_no hm hc]
        simp
  have h1 := H L.length (Nat.le_refl _)
  rw [List.take_length] at h1
  rw [hU]
  exact h1
theorem ln_yes {n : Nat} (h : n = 0) : ((n : Int) == 0) = true := by subst h; rfl
theorem ln_no {n : Nat} (h : n ≠ 0) : ((n : Int) == 0) = false := beq_eq_false_iff_ne.2 (by omega)
end Go.Proofs.YtpihibconbejlaaDoor
