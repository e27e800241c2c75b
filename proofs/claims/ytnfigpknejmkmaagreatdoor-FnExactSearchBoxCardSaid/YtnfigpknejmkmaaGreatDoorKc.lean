/-
  What drawing a key leaves. Plain lemmas; no condition.
-/
import Derived.Test.YtnfigpknejmkmaaGreatDoorKa
import Derived.Deep.RegionWith
import Derived.Deep.RegionLaw
namespace Go.Proofs.YtnfigpknejmkmaaGreatDoor
open Go.RowKit
set_option linter.unusedVariables false

theorem kbit_at {k q : Nat} (hk : k < 5) (hq : 2 ^ k = q) : (#[Value.int .i64 1, .int .i64 2, .int .i64 4, .int .i64 8, .int .i64 16] : Array Value)[k]? = some (.int .i64 (q : Int)) := by
  subst hq
  match k, hk with
  | 0, _ => rfl
  | 1, _ => rfl
  | 2, _ => rfl
  | 3, _ => rfl
  | 4, _ => rfl
set_option maxHeartbeats 400000 in
theorem kspec_bit (k : Nat) (w : World) (hk : k < 5) : Calls Tryz.prog 57 #[.int .i64 (k : Int)] w fun e w' => ∃ q : Int, e = .returned (.int .i64 q) ∧ Below w.heap.size w w' := by
  obtain ⟨q, hq⟩ : ∃ q, 2 ^ k = q := ⟨_, rfl⟩
  have hb := kbit_at hk hq
  have hc : (w.alloc (.cells #[.int .i64 1, .int .i64 2, .int .i64 4, .int .i64 8, .int .i64 16] 3)).cell? ⟨w.heap.size, k, none⟩ = some (.int .i64 (q : Int)) := (Whole.made w 3 #[.int .i64 1, .int .i64 2, .int .i64 4, .int .i64 8, .int .i64 16]).cell k |>.trans hb
  have HB := Lib.hid ((Below.refl w.heap.size w).alloc (Nat.le_refl _) (.cells #[.int .i64 1, .int .i64 2, .int .i64 4, .int .i64 8, .int .i64 16] 3))
  have h0 : (0 : Int) ≤ (k : Int) := by omega
  have h5 : (k : Int) < 5 := by omega
  clear hb hq
  go_enter Tryz.func57, Tryz.ntmps57
  go_wp2_with fail
  go_ret
  exact ⟨_, rfl, HB.out⟩

def cD : Nat → Nat
  | 0 => 60
  | d + 1 => 2 * cD d + 60
def mD : Nat → Nat
  | 0 => 1
  | d + 1 => 2 * mD d + 1
theorem cD_pos (d : Nat) : 60 ≤ cD d := by cases d <;> simp [cD]
theorem mD_pos (d : Nat) : 1 ≤ mD d := by cases d <;> simp [mD]
/-- What an append asks of a row's slice of keys. -/
def Nice (r : KR) : Prop := (r.2.2.2.2.1 = none → r.2.2.2.2.2.2 = 0) ∧ ∀ q, r.2.2.2.2.1 = some q → q.spot = none
/-- A drawn key. -/
def DrewK (w : World) (b p d : Nat) (e : Ending) (w' : World) : Prop := ∃ (k : KT) (r : KR) (q : Nat), e = .returned (kval r) ∧ KA w.heap.size w'.heap.size w' k (kval r) ∧ Nice r ∧ nodesT k ≤ mD d ∧ q ≤ p + cD d ∧ Rd w' b q ∧ w.grownBy w' (some b)
/-- A whole key stored. -/
abbrev st5 (w : World) (S : Nat) (a0 a1 a2 a3 a4 : Value) : World := ((((w.setCell ⟨S, 0, none⟩ a0).setCell ⟨S, 1, none⟩ a1).setCell ⟨S, 2, none⟩ a2).setCell ⟨S, 3, none⟩ a3).setCell ⟨S, 4, none⟩ a4
theorem gr_one {a w : World} {g : Nat} (h : a.grownBy w (some g)) (i : Nat) (u : Value) : a.grownBy (w.setCell ⟨g, i, none⟩ u) (some g) := gr_store h (.inl rfl) u
theorem gr_st5 (w : World) (S : Nat) (a0 a1 a2 a3 a4 : Value) : w.grownBy (st5 w S a0 a1 a2 a3 a4) (some S) := gr_one (gr_one (gr_one (gr_one (gr_one (gr_refl _ _) _ _) _ _) _ _) _ _) _ _
theorem gr_row1 {a w w' : World} {b : Nat} {row : Option Nat} (h : a.grownBy w (some b)) (hg : w.grownBy w' row) (hr : ∀ g, row = some g → a.heap.size ≤ g) : a.grownBy w' (some b) :=
  ⟨hg.os.trans h.os, hg.tape.trans h.tape, hg.output.trans h.output, Nat.le_trans h.size hg.size, fun i hi hn => (hg.block i (Nat.lt_of_lt_of_le hi h.size) (fun e => by have := hr i e.symm; omega)).trans (h.block i hi hn)⟩
theorem drewk_end {w w2 : World} {b p d S q : Nat} {k : KT} {r : KR} {a0 a1 a2 a3 a4 : Value} (hS : w.heap.size = S) (hb : b < S) (hk : KA (S + 1) w2.heap.size w2 k (kval r)) (hn : nodesT k ≤ mD d) (hq : q ≤ p + cD d) (hr : Rd w2 b q) (hg : w.grownBy w2 (some b)) (hni : Nice r) :
    DrewK w b p d (.returned (kval r)) (st5 w2 S a0 a1 a2 a3 a4) := by
  have h5 := gr_st5 w2 S a0 a1 a2 a3 a4
  refine ⟨k, r, q, rfl, ?_, hni, hn, hq, hr.grown h5 hb, gr_row1 hg h5 (fun g e => by cases e; omega)⟩
  exact (hk.grown h5 (fun g e => by cases e; omega)).widen (by omega) h5.size
theorem ka_leaf {lo hi : Nat} {w : World} {kd f : Int} {t : ByteArray} {S : List (Int × Int)} {A : Option Addr} {n c : Nat} (ht : t.size ≤ 16777216) (hS : S.length = n) (hn : n ≤ 33554432) (hs : SpA (low lo hi w) A S) : KA lo hi w (.mk kd f t S []) (kval (kd, f, t, (A, n, c), (none, 0, 0))) := by
  unfold KA
  rw [KV]
  exact ⟨A, n, c, none, 0, 0, rfl, hS, hn, ht, hs, rfl, by rw [KVs]; trivial⟩
theorem nodes_leaf (kd f : Int) (t : ByteArray) (S : List (Int × Int)) (d : Nat) : nodesT (.mk kd f t S []) ≤ mD d := by
  have := mD_pos d
  rw [nodesT, nodesL]
  exact this
theorem spa_own1 {w : World} {S B n cap : Nat} {A : Option Addr} {L : List (Int × Int)} (ho : Own w B (.slice A n cap) L) (hB : S ≤ B) : SpA (low S w.heap.size w) A L ∧ L.length = n := by
  obtain ⟨A2, c2, he, -, -, hs⟩ := ho.form
  simp at he
  exact ⟨spa_own ho hB, he.2.1.symm⟩
theorem own_slice {w : World} {B : Nat} {v : Value} {L : List (Int × Int)} (ho : Own w B v L) : ∃ A n c, v = .slice A n c := by
  obtain ⟨A2, c2, he, -, -, hs⟩ := ho.form
  exact ⟨_, _, _, he⟩

theorem ka_node {w : World} {S B h n cap : Nat} {A : Option Addr} {ks : List KT} {rs : List KR} {kk : Int} (ho : ROwn keyR w B (.slice A n cap) rs) (hB : S + 1 ≤ B) {lo : Nat} (hk : KRs (KA lo h w) ks rs) (hlo : S + 1 ≤ lo) (hh : h ≤ w.heap.size) :
    KA (S + 1) w.heap.size w (.mk kk 0 ⟨#[]⟩ [] ks) (kval (kk, 0, ⟨#[]⟩, (none, 0, 0), (A, n, cap))) := by
  unfold KA
  rw [KV]
  have hl : ks.length = n := by rw [hk.len]; exact ho.len.1.symm
  exact ⟨none, 0, 0, A, n, cap, rfl, rfl, by omega, by decide, SpA.nil _ _, hl, kvs_own ho hB (KRs.imp (fun k v h => KA.widen h hlo (Nat.le_refl _)) hk) hh⟩
theorem own_base {wr w6 : World} {base b i cap D : Nat} {A : Option Addr} {rs : List KR} (ho : ROwn keyR wr base (.slice A i cap) rs) (h0 : i = 0 → A = none ∧ cap = 0) (hg : wr.drew.grownBy w6 (some b)) (hb : b < base) (hD : D + 1 ≤ base) (hDw : D + 1 ≤ wr.heap.size) :
    ∃ base2, ROwn keyR w6 base2 (.slice A i cap) rs ∧ D + 1 ≤ base2 ∧ base2 ≤ w6.heap.size ∧ (i = 0 → base2 = w6.heap.size) := by
  have hsz : wr.heap.size ≤ w6.heap.size := hg.size
  by_cases hi : i = 0
  · subst hi
    obtain ⟨rfl, rfl⟩ := h0 rfl
    have : rs = [] := List.eq_nil_of_length_eq_zero ho.len.1.symm
    subst this
    exact ⟨w6.heap.size, ROwn.nil _ _, by omega, Nat.le_refl _, fun _ => rfl⟩
  · have ho2 : ROwn keyR wr.drew base (.slice A i cap) rs := ho.drewN 1
    refine ⟨min base w6.heap.size, (ho2.grown hg hb).from (Nat.min_le_left _ _), by omega, Nat.min_le_right _ _, fun e => absurd e hi⟩
/-- What one more drawn key leaves. -/
theorem loop_rel {w wr w6 w7 : World} {S D b p q q6 e i NN base base2 h cap a4 a5 a7 a8 cap7 : Nat} {A A7 a3 a6 : Option Addr} {kd a0 a1 : Int} {a2 : ByteArray} {k6 : KT} {ks : List KT} {rs : List KR}
    (hSD : S + 1 ≤ D) (hbS : b < S) (hSS : w.heap.size = S) (hin : i ≤ NN) (hlt : i < NN) (hN : NN ≤ 2) (hq : q ≤ p + 3 + i * cD e) (hba : D + 1 ≤ base) (hDh : D + 1 ≤ h) (hhw : h ≤ wr.heap.size)
    (hOB : i < 2 → ∀ g, Value.ownBlock (.slice A i cap) = some g → h ≤ g) (hR6 : Rd w6 b q6) (hG : w.grownBy wr (some b))
    (hZ : Whole wr S 27 #[.int .i64 0, .int .i64 0, .string ⟨#[]⟩, .slice none 0 0, .slice none 0 0])
    (hX : Whole wr D 27 #[.int .i64 kd, .int .i64 0, .string ⟨#[]⟩, .slice none 0 0, .slice A i cap])
    (hO : ROwn keyR wr base (.slice A i cap) rs) (hK : KRs (KA (D + 1) h wr) ks rs) (hNL : nodesL ks ≤ i * mD e)
    (hGR6 : wr.drew.grownBy w6 (some b)) (hK6 : KA wr.drew.heap.size w6.heap.size w6 k6 (kval (a0, a1, a2, (a3, a4, a5), (a6, a7, a8)))) (hN6 : nodesT k6 ≤ mD e) (hq6 : q6 ≤ q + cD e)
    (hO6 : ROwn keyR w6 base2 (.slice A i cap) rs) (hb61 : D + 1 ≤ base2) (hb62 : base2 ≤ w6.heap.size) (hb63 : i = 0 → base2 = w6.heap.size)
    (hGW : (w6.alloc (.cells #[.int .i64 a0, .int .i64 a1, .string a2, .slice a3 a4 a5, .slice a6 a7 a8] 27)).grownBy w7 (Value.ownBlock (.slice A i cap)))
    (hX7 : Whole w7 D 27 #[.int .i64 kd, .int .i64 0, .string ⟨#[]⟩, .slice none 0 0, .slice A i cap])
    (hOW : ROwn keyR w7 base2 (.slice A7 (i + 1) cap7) (rs ++ [(a0, a1, a2, (a3, a4, a5), (a6, a7, a8))])) (hLN : rs.length = i) :
    ∃ (i' q' : Nat) (A' : Option Addr) (cap' base' h' : Nat) (ks' : List KT) (rs' : List KR), i' ≤ NN ∧ (Value.int .i64 ((i : Int) + 1)) = .int .i64 (i' : Int) ∧ q' ≤ p + 3 + i' * cD e ∧ D + 1 ≤ base' ∧ D + 1 ≤ h' ∧ h' ≤ (w7.setCell ⟨D, 4, none⟩ (.slice A7 (i + 1) cap7)).heap.size ∧ Hid (i' = 0 → A' = none ∧ cap' = 0) ∧ Hid (i' < 2 → ∀ g, Value.ownBlock (.slice A' i' cap') = some g → h' ≤ g) ∧ Hid (Rd (w7.setCell ⟨D, 4, none⟩ (.slice A7 (i + 1) cap7)) b q') ∧ Hid (w.grownBy (w7.setCell ⟨D, 4, none⟩ (.slice A7 (i + 1) cap7)) (some b)) ∧ Hid (Whole (w7.setCell ⟨D, 4, none⟩ (.slice A7 (i + 1) cap7)) S 27 #[.int .i64 0, .int .i64 0, .string ⟨#[]⟩, .slice none 0 0, .slice none 0 0]) ∧ Hid (Whole (w7.setCell ⟨D, 4, none⟩ (.slice A7 (i + 1) cap7)) D 27 #[.int .i64 kd, .int .i64 0, .string ⟨#[]⟩, .slice none 0 0, .slice A' i' cap']) ∧ Hid (ROwn keyR (w7.setCell ⟨D, 4, none⟩ (.slice A7 (i + 1) cap7)) base' (.slice A' i' cap') rs') ∧ Hid (KRs (KA (D + 1) h' (w7.setCell ⟨D, 4, none⟩ (.slice A7 (i + 1) cap7))) ks' rs') ∧ Hid (nodesL ks' ≤ i' * mD e) := by
  have hrow : ∀ g, Value.ownBlock (.slice A i cap) = some g → base2 ≤ g ∧ g < w6.heap.size := fun g hg => World.ownsRow.lt hO6 g hg
  have hrow0 : ∀ g, Value.ownBlock (.slice A i cap) = some g → base ≤ g ∧ g < wr.heap.size := fun g hg => World.ownsRow.lt hO g hg
  have hrow7 : ∀ g, Value.ownBlock (.slice A7 (i + 1) cap7) = some g → base2 ≤ g ∧ g < w7.heap.size := fun g hg => World.ownsRow.lt hOW g hg
  have hz6 : wr.heap.size ≤ w6.heap.size := hGR6.size
  have hz7 : w6.heap.size + 1 ≤ w7.heap.size := by have := hGW.size; simpa using this
  have hXl := hX.lt
  have g1 : w.grownBy w6 (some b) := gr_trans (gr_drew hG) hGR6
  have g2 : w.grownBy w7 (some b) := gr_row1 (gr_alloc g1 _) hGW (fun g hg => by have := hrow g hg; omega)
  have s7 : w7.grownBy (w7.setCell ⟨D, 4, none⟩ (.slice A7 (i + 1) cap7)) (some D) := gr_one (gr_refl _ _) _ _
  have al : w6.grownBy (w6.alloc (.cells #[.int .i64 a0, .int .i64 a1, .string a2, .slice a3 a4 a5, .slice a6 a7 a8] 27)) none := gr_alloc (gr_refl _ _) _
  have hm : (i + 1) * cD e = i * cD e + cD e := Nat.succ_mul _ _
  refine ⟨i + 1, q6, A7, cap7, base2, w6.heap.size, ks ++ [k6], rs ++ [(a0, a1, a2, (a3, a4, a5), (a6, a7, a8))], by omega, by simp, by omega, hb61, by omega, by simp [World.setCell]; omega, fun e => by omega, fun hi g hg => ?_, ?_, ?_, ?_, ?_, ?_, ?_, ?_⟩
  · have := hrow7 g hg
    have := hb63 (by omega)
    omega
  · exact (((hR6.keptRow al (fun g e => by cases e)).keptRow hGW (fun g e => by have := hrow g e; omega)).keptRow s7 (fun g e => by cases e; omega))
  · exact gr_row1 g2 s7 (fun g e => by cases e; omega)
  · exact ((((hZ.drew.grown hGR6 (fun e => by cases e; omega)).alloc _).grown hGW (fun e => by have := hrow S e.symm; omega)).apart (by show S ≠ D; omega) _)
  · exact hX7.store 4 _
  · exact hOW.store (fun e => by have := hrow7 D e; omega) _
  · refine KRs.push (KRs.imp (fun k v hk => ?_) hK) ?_
    · have hk1 : KA (D + 1) h wr.drew k v := KA.grown hk (gr_drew (gr_refl wr none)) (fun g e => by cases e)
      exact ((((hk1.grown hGR6 (fun g e => by cases e; omega)).grown al (fun g e => by cases e)).grown hGW (fun g e => .inr (hOB (by omega) g e))).grown s7 (fun g e => by cases e; omega)).widen (Nat.le_refl _) (by omega)
    · have hD2 : D + 1 ≤ wr.drew.heap.size := hXl
      exact ((((hK6.grown al (fun g e => by cases e)).grown hGW (fun g e => .inl (hrow0 g e).2)).grown s7 (fun g e => by cases e; exact .inl hD2))).widen hD2 (Nat.le_refl _)
  · rw [nodesL_app]
    show nodesL ks + (nodesT k6 + 0) ≤ _
    have : nodesL ks + nodesT k6 ≤ i * mD e + mD e := Nat.add_le_add hNL hN6
    show _ ≤ (i + 1) * mD e
    rw [Nat.add_mul, Nat.one_mul]
    omega
end Go.Proofs.YtnfigpknejmkmaaGreatDoor
