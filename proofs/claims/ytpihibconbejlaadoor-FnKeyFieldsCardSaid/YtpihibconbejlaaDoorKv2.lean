/-
  Keys that the laws on searches build, and what they find. Plain lemmas; no condition.
-/
import Derived.Test.YtpihibconbejlaaDoorQj
namespace Go.Proofs.YtpihibconbejlaaDoor
open Go.RowKit
set_option linter.unusedVariables false

theorem kv_leaf {w : World} (kd f : Int) {t : ByteArray} (ht : t.size ≤ 16777216) : KV w (.mk kd f t [] []) (kval (kd, f, t, (none, 0, 0), (none, 0, 0))) := by
  rw [KV]
  exact ⟨none, 0, 0, none, 0, 0, rfl, rfl, by omega, ht, fun i x hx => by simp at hx, rfl, by rw [KVs]; trivial⟩
theorem kv_node {w : World} {kd : Int} {ks : List KT} {rs : List KR} {A : Option Addr} {n c : Nat} (hat : RAt keyR w A rs) (hk : KRs (KV w) ks rs) (hn : ks.length = n) : KV w (.mk kd 0 ⟨#[]⟩ [] ks) (kval (kd, 0, ⟨#[]⟩, (none, 0, 0), (A, n, c))) := by
  rw [KV]
  exact ⟨none, 0, 0, A, n, c, rfl, rfl, by omega, by show 0 ≤ _; omega, fun i x hx => by simp at hx, hn, RAt.kvs (i := 0) hat (fun j r h => by rw [Nat.zero_add]; exact h) hk⟩
theorem key_flag {f : Int} (h : flag1 f = true) : keyB (.mk 1 f ⟨#[]⟩ [] []) = true := by
  unfold keyB
  simp [allT, allL, nodeB, nodesT, nodesL, h]
  rfl
theorem key_text {t : ByteArray} (h : nameB t.data.toList = true) : keyB (.mk 2 0 t [] []) = true := by
  unfold keyB
  simp [allT, allL, nodeB, nodesT, nodesL, h]
theorem key_all0 : keyB (.mk 0 0 ⟨#[]⟩ [] []) = true := by
  unfold keyB
  simp [allT, allL, nodeB, nodesT, nodesL]
  rfl
theorem key_not {k : KT} {z : Bool} (h : keyB k = true) (hz : decide (nodesT k + 1 ≤ 9) = z) : keyB (.mk 5 0 ⟨#[]⟩ [] [k]) = z := by
  unfold keyB at h ⊢
  rw [Bool.and_eq_true] at h
  rw [nodes_one, hz]
  simp [allT, allL, nodeB, h.1]
  intro _
  rfl
theorem key_two {kd : Int} {k k2 : KT} {z : Bool} (hkd : kd = 6 ∨ kd = 7) (h : allT k = true) (h2 : allT k2 = true) (hz : decide (nodesT k + nodesT k2 + 1 ≤ 9) = z) : keyB (.mk kd 0 ⟨#[]⟩ [] [k, k2]) = z := by
  unfold keyB
  rw [nodes_two, hz]
  rcases hkd with rfl | rfl
  all_goals
    simp [allT, allL, nodeB, h, h2]
    intro _
    rfl
theorem pl_has {L : List ML} {k : KT} {i : Nat} {m : ML} {z : Bool} (hi : L[i]? = some m) (hz : findT L m i k = z) : hasI (plT L k L.length) ((i : Int) + 1) = z := by
  rw [plT_has, List.getD_eq_getElem?_getD, hi, decide_eq_true (List.getElem?_eq_some_iff.1 hi).1]
  exact hz
theorem pl_not (L : List ML) {f : Int} {t : ByteArray} {S : List (Int × Int)} {k : KT} : ∀ n : Nat, (plT L (.mk 5 f t S [k]) n).length + (plT L k n).length = n
  | 0 => rfl
  | n + 1 => by
    have ih := pl_not L (f := f) (t := t) (S := S) (k := k) n
    rw [plT, plT]
    cases h : findT L (L.getD n (0, 0, [])) n k with
    | true =>
      rw [find_not h]
      simp
      omega
    | false =>
      rw [find_not h]
      simp
      omega
theorem pl_sub (L : List ML) {k k2 : KT} (h : ∀ m i, findT L m i k2 = true → findT L m i k = true) : ∀ n : Nat, (plT L k2 n).length ≤ (plT L k n).length
  | 0 => Nat.le_refl _
  | n + 1 => by
    have ih := pl_sub L h n
    rw [plT, plT]
    cases h2 : findT L (L.getD n (0, 0, [])) n k2 with
    | true =>
      rw [h _ _ h2]
      simp
      omega
    | false =>
      rw [if_neg (by simp)]
      split
      · rw [List.length_append]; omega
      · exact ih
theorem pl_same (L : List ML) {k k2 : KT} (h : ∀ m i, findT L m i k2 = findT L m i k) : ∀ n : Nat, plT L k2 n = plT L k n
  | 0 => rfl
  | n + 1 => by rw [plT, plT, h, pl_same L h n]
theorem hasint_later {A : Option Addr} {N cap : Nat} {P : List Int} {x : Int} {z : Bool} {G : Nat} {wo : World} (hz : hasI P x = z) (h : IIn wo A N cap P) (hG : wo.heap.size ≤ G) (y : Later G wo) : Calls Tryd.prog 33 #[.slice A N cap, .int .i64 x] y.v (SaysB y.v z) := by
  subst hz
  exact has_int x y.v (h.below y.h hG)
theorem hasint_at {A : Option Addr} {N cap : Nat} {P : List Int} {x : Int} {z : Bool} (hz : hasI P x = z) (w : World) (h : IIn w A N cap P) : Calls Tryd.prog 33 #[.slice A N cap, .int .i64 x] w (SaysB w z) := by
  subst hz
  exact has_int x w h
theorem krs_one {P : KT → Value → Prop} {k : KT} {r : KR} (h : P k (kval r)) : KRs P [k] [r] := ⟨r, [], rfl, h, rfl⟩
theorem krs_two {P : KT → Value → Prop} {k k2 : KT} {r r2 : KR} (h : P k (kval r)) (h2 : P k2 (kval r2)) : KRs P [k, k2] [r, r2] := ⟨r, [r2], rfl, h, r2, [], rfl, h2, rfl⟩
/-- A list of keys that is built, and a key that has it. -/
theorem kv_made {w : World} {kd : Int} {ks : List KT} {rs : List KR} {Q n : Nat} (hQ : w.heap.size = Q) (hk : KRs (KV w) ks rs) (hn : ks.length = n) (o : Obj) :
    KV ((w.alloc (.cells (rcells keyR rs).toArray 26)).alloc o) (.mk kd 0 ⟨#[]⟩ [] ks) (kval (kd, 0, ⟨#[]⟩, (none, 0, 0), (some ⟨Q, 0, none⟩, n, n))) := by
  have h1 : Below w.heap.size w (w.alloc (.cells (rcells keyR rs).toArray 26)) := below_new w _
  have hr : RAt keyR (w.alloc (.cells (rcells keyR rs).toArray 26)) (some ⟨Q, 0, none⟩) rs := RAt.made keyR w rs Q hQ
  have h2 := below_new (w.alloc (.cells (rcells keyR rs).toArray 26)) o
  exact KV.below h2 (Nat.le_refl _) _ _ (kv_node hr (hk.imp fun k v h => KV.below h1 (Nat.le_refl _) k v h) hn)
theorem bool_same (z : Bool) : (z != z) = false := by simp
end Go.Proofs.YtpihibconbejlaaDoor
