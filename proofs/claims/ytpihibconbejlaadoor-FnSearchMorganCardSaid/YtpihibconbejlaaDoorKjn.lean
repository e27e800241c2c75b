/-
  The contract of the laws' join: a key of two keys. Condition: both keys lie in memory.
-/
import Derived.Test.YtpihibconbejlaaDoorKv2
namespace Go.Proofs.YtpihibconbejlaaDoor
open Go.RowKit
set_option linter.unusedVariables false

theorem four_below {w : World} (a b c d : Obj) : Below w.heap.size w ((((w.alloc a).alloc b).alloc c).alloc d) := ((((Below.refl _ _).alloc (Nat.le_refl _) _).alloc (by simp) _).alloc (by simp; omega) _).alloc (by simp; omega) _
theorem kv_four {w : World} {kd : Int} {ks : List KT} {rs : List KR} {n : Nat} (a b c : Obj) (hk : KRs (KV w) ks rs) (hn : ks.length = n) :
    KV ((((w.alloc a).alloc b).alloc c).alloc (.cells (rcells keyR rs).toArray 26)) (.mk kd 0 ⟨#[]⟩ [] ks) (kval (kd, 0, ⟨#[]⟩, (none, 0, 0), (some ⟨w.heap.size + 1 + 1 + 1, 0, none⟩, n, n))) :=
  kv_node (RAt.made keyR _ rs (w.heap.size + 1 + 1 + 1) (by simp)) (hk.imp fun k v h => KV.below (four_below a b c _) (Nat.le_refl _) k v h) hn
set_option maxRecDepth 20000 in
set_option maxHeartbeats 2000000 in
theorem join_at {k k2 : KT} {a0 a1 : Int} {a2 : ByteArray} {a3 : Option Addr} {a4 a5 : Nat} {a6 : Option Addr} {a7 a8 : Nat} {b0 b1 : Int} {b2 : ByteArray} {b3 : Option Addr} {b4 b5 : Nat} {b6 : Option Addr} {b7 b8 : Nat} (kd : Int) (w : World) (h : KV w k (kval (a0, a1, a2, (a3, a4, a5), (a6, a7, a8)))) (h2 : KV w k2 (kval (b0, b1, b2, (b3, b4, b5), (b6, b7, b8)))) :
    Calls Tryd.prog 34 #[.int .i64 kd, .agg #[.int .i64 a0, .int .i64 a1, .string a2, .slice a3 a4 a5, .slice a6 a7 a8], .agg #[.int .i64 b0, .int .i64 b1, .string b2, .slice b3 b4 b5, .slice b6 b7 b8]] w fun e w' => ∃ Q : Nat, e = .returned (.agg #[.int .i64 kd, .int .i64 0, .string ⟨#[]⟩, .slice none 0 0, .slice (some ⟨Q, 0, none⟩) 2 2]) ∧ KV w' (.mk kd 0 ⟨#[]⟩ [] [k, k2]) (kval (kd, 0, ⟨#[]⟩, (none, 0, 0), (some ⟨Q, 0, none⟩, 2, 2))) ∧ Below w.heap.size w w' := by
  have H := Lib.hid h
  have H2 := Lib.hid h2
  clear h h2
  go_enter Tryd.func34, Tryd.ntmps34
  go_wp2
  refine bodyPost_ret (v := .agg #[.int .i64 kd, .int .i64 0, .string ⟨#[]⟩, .slice none 0 0, .slice (some ⟨w.heap.size + 1 + 1 + 1, 0, none⟩) 2 2]) (by simp [results, Tryd.results34, go_sem]) rfl ?_
  refine ⟨_, rfl, ?_, ?_⟩
  · exact kv_four _ _ _ (rs := [(a0, a1, a2, (a3, a4, a5), (a6, a7, a8)), (b0, b1, b2, (b3, b4, b5), (b6, b7, b8))]) (krs_two H.out H2.out) rfl
  · exact four_below _ _ _ _
end Go.Proofs.YtpihibconbejlaaDoor
