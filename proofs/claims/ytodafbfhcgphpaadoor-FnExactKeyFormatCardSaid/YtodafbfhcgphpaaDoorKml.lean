/-
  Kxa, Kxb, Kxs, Kxc in one text. Conditions: each contract's own.
-/
import Derived.Test.YtodafbfhcgphpaaDoorKc
import Derived.Deep.Slices
import Derived.Deep.SlicePairs
import Derived.ChangeArms
import Derived.Test.YtodafbfhcgphpaaDoorSdrk
import Derived.Deep.RegionHeld3
import Derived.OwnWalk
import Derived.Laws.OwnMore
import Derived.Test.YtodafbfhcgphpaaDoorTim
import Derived.Deep.Cut
import Derived.Deep.CutRange
import Derived.BigQuiet
namespace Go.Proofs.YtodafbfhcgphpaaDoor
open Go.RowKit Go.ChangeShapes Go.WideShapes
set_option linter.unusedVariables false

mutual
/-- How a key lies in memory, with Go's own bounds only. -/
def KZ (w : World) : KT → Value → Prop
  | .mk kd f t S ks, v => ∃ (AS : Option Addr) (nS cS : Nat) (AK : Option Addr) (nK cK : Nat), v = .agg #[.int .i64 kd, .int .i64 f, .string t, .slice AS nS cS, .slice AK nK cK] ∧ S.length = nS ∧ nS ≤ maxLen ∧ t.size ≤ maxLen ∧ SpA w AS S ∧ ks.length = nK ∧ nK ≤ maxLen ∧ KZs w AK 0 ks
def KZs (w : World) (AK : Option Addr) : Nat → List KT → Prop
  | _, [] => True
  | i, k :: r => (∃ (b o : Nat) (v0 v1 v2 v3 v4 : Value), AK = some ⟨b, o, none⟩ ∧ b < w.heap.size ∧ w.cell? ⟨b, o + i * 5, none⟩ = some v0 ∧ w.cell? ⟨b, o + i * 5 + 1, none⟩ = some v1 ∧ w.cell? ⟨b, o + i * 5 + 2, none⟩ = some v2 ∧
      w.cell? ⟨b, o + i * 5 + 3, none⟩ = some v3 ∧ w.cell? ⟨b, o + i * 5 + 4, none⟩ = some v4 ∧ KZ w k (.agg #[v0, v1, v2, v3, v4])) ∧ KZs w AK (i + 1) r
end
theorem kzs_of {w : World} {b o : Nat} {g : Nat → KT} : ∀ (n i : Nat), (∀ j, j < n → ∃ v0 v1 v2 v3 v4 : Value, b < w.heap.size ∧ w.cell? ⟨b, o + (i + j) * 5, none⟩ = some v0 ∧ w.cell? ⟨b, o + (i + j) * 5 + 1, none⟩ = some v1 ∧ w.cell? ⟨b, o + (i + j) * 5 + 2, none⟩ = some v2 ∧ w.cell? ⟨b, o + (i + j) * 5 + 3, none⟩ = some v3 ∧ w.cell? ⟨b, o + (i + j) * 5 + 4, none⟩ = some v4 ∧ KZ w (g (i + j)) (.agg #[v0, v1, v2, v3, v4])) →
    KZs w (some ⟨b, o, none⟩) i ((List.range' i n).map g)
  | 0, i, _ => by simp [KZs]
  | n + 1, i, h => by
    rw [List.range'_succ, List.map_cons, KZs]
    refine ⟨?_, kzs_of n (i + 1) fun j hj => ?_⟩
    · obtain ⟨v0, v1, v2, v3, v4, h0, h1⟩ := h 0 (by omega)
      rw [Nat.add_zero] at h1
      exact ⟨b, o, v0, v1, v2, v3, v4, rfl, h0, h1⟩
    · have h1 := h (j + 1) (by omega)
      rw [show i + (j + 1) = i + 1 + j by omega] at h1
      exact h1
section
variable {H : Type} {enc : TypeId × Value → H} {w : World} {base : Nat} {spare : Nat → Bool} {held : Bool}
theorem open_spansz {fuel : Nat} {cs : List Value} {x : DataW H × List MemPlace} (h : DataW.trod enc Tryd.prog w base spare held fuel 33 cs = some x) :
    ∃ A len cap, cs = [.slice A len cap] ∧ len ≤ maxLen ∧ ∃ S : List (Int × Int), S.length = len ∧ SpA w A S := by
  rcases Deep.open_slice_pairs Tryd.underlying33 Tryd.underlying80 (by kernel_rfl) rfl rfl (by kernel_rfl) (by kernel_rfl) h with ⟨hcs, _⟩ | ⟨a, len, cap, m, n, V0, V1, D0, D1, P0, P1, hcs, hb, hl, hm, hmm, _, hx⟩
  · exact ⟨none, 0, 0, hcs, Nat.zero_le _, [], rfl, SpA.nil _ _⟩
  · have each : ∀ i, i < len → ∃ q : Int × Int, w.cell? (a.add (i * 2)) = some (.int .i64 q.1) ∧ w.cell? (a.add (i * 2 + 1)) = some (.int .i64 q.2) := by
      intro i hi
      obtain ⟨e0, e1, g0, g1⟩ := hx i (by rw [hmm]; split <;> omega)
      obtain ⟨u, hu, _, _⟩ := DataW.trod_int Tryd.underlying3 g0
      obtain ⟨f, hf, _, _⟩ := DataW.trod_int Tryd.underlying3 g1
      simp only [List.cons.injEq, and_true] at hu hf
      rw [hu] at e0
      rw [hf] at e1
      exact ⟨(u, f), e0, e1⟩
    obtain ⟨q, hq⟩ := Deep.choose_lt each
    refine ⟨some a, len, cap, hcs, Nat.le_trans hl hm, (List.range len).map q, by simp, ?_⟩
    intro i y hy
    have hi : i < len := by have := (List.getElem?_eq_some_iff.1 hy).1; simpa using this
    obtain ⟨e0, e1⟩ := hq i hi
    have hs : a.spot = none := by
      have := World.cell?_spot (hq 0 (by omega)).1
      simpa [Addr.add] using this
    obtain ⟨xb, xo, spot⟩ := a
    simp only at hs
    subst hs
    have he : y = q i := by simp [hi] at hy; exact hy.symm
    subst he
    simp only [radd] at e0 e1
    refine ⟨xb, xo, rfl, by simpa using block_lt_of_cell e0, e0, ?_⟩
    rw [Nat.add_assoc]
    exact e1
set_option maxRecDepth 20000 in
set_option maxHeartbeats 1000000 in
theorem open_keyz : ∀ (fuel : Nat) {cs : List Value} {x : DataW H × List MemPlace}, DataW.trod enc Tryd.prog w base spare held fuel 36 cs = some x → ∃ k, KZ w k (.agg cs.toArray) := by
  intro fuel
  induction fuel using Nat.strongRecOn with
  | _ fuel ih =>
    intro cs x h
    obtain ⟨xs, n, hn, hxy, hlen, hxl, hf⟩ := DataW.trod_struct Tryd.underlying36 h
    have hlen5 : cs.length = 5 := hlen.trans (by kernel_rfl)
    match xs, hxl, cs, hlen5 with
    | [y0, y1, y2, y3, y4], _, [v0, v1, v2, v3, v4], _ =>
      have g0 := hf 0 _ rfl
      have g1 := hf 1 _ rfl
      have g2 := hf 2 _ rfl
      have g3 := hf 3 _ rfl
      have g4 := hf 4 _ rfl
      have c0 : Tryd.prog.cellsOf 3 = 1 := by kernel_rfl
      have c2 : Tryd.prog.cellsOf 9 = 1 := by kernel_rfl
      have c3 : Tryd.prog.cellsOf 33 = 1 := by kernel_rfl
      have c4 : Tryd.prog.cellsOf 34 = 1 := by kernel_rfl
      simp [c0, c2, c3, c4] at g0 g1 g2 g3 g4
      obtain ⟨kd, hkd, _, _⟩ := DataW.trod_int Tryd.underlying3 g0
      obtain ⟨f, hff, _, _⟩ := DataW.trod_int Tryd.underlying3 g1
      obtain ⟨t, ht, _, htz⟩ := DataW.trod_string Tryd.underlying9 g2
      obtain ⟨AS, nS, cS, hS, hSl, S, hSn, hsp⟩ := open_spansz g3
      simp only [List.cons.injEq, and_true] at hkd hff ht hS
      subst hkd
      subst hff
      subst ht
      subst hS
      rcases DataW.trod_slice Tryd.underlying34 g4 with ⟨hK, _⟩ | ⟨a, len, cap, elems, rest, m, hm, hK, _, hb, hl, hc, hel, he, _, _⟩
      · simp only [List.cons.injEq, and_true] at hK
        subst hK
        refine ⟨.mk kd f t S [], ?_⟩
        rw [KZ]
        exact ⟨AS, nS, cS, none, 0, 0, rfl, hSn, hSl, htz, hsp, rfl, Nat.zero_le _, by rw [KZs]; trivial⟩
      · simp only [List.cons.injEq, and_true] at hK
        subst hK
        have ce : Tryd.prog.cellsOf 36 = 5 := by kernel_rfl
        rw [ce] at he
        have each : ∀ i, i < len → ∃ k : KT, ∃ u0 u1 u2 u3 u4 : Value, w.cell? ((a.add (i * 5)).add 0) = some u0 ∧ w.cell? ((a.add (i * 5)).add 1) = some u1 ∧ w.cell? ((a.add (i * 5)).add 2) = some u2 ∧ w.cell? ((a.add (i * 5)).add 3) = some u3 ∧ w.cell? ((a.add (i * 5)).add 4) = some u4 ∧ KZ w k (.agg #[u0, u1, u2, u3, u4]) := by
          intro i hi
          have h1 := he i hi
          obtain ⟨z, hz⟩ : ∃ z, elems[i]? = some z := ⟨_, List.getElem?_eq_getElem (by omega)⟩
          rw [hz] at h1
          obtain ⟨cs', h2, h3⟩ := Option.bind_eq_some_iff.1 h1
          obtain ⟨_, hl5, hcell⟩ := World.cells?_some h2
          obtain ⟨k, hk⟩ := ih m (by omega) h3
          match cs', hl5 with
          | [u0, u1, u2, u3, u4], _ =>
            exact ⟨k, u0, u1, u2, u3, u4, by simpa using hcell 0 (by omega), by simpa using hcell 1 (by omega), by simpa using hcell 2 (by omega), by simpa using hcell 3 (by omega), by simpa using hcell 4 (by omega), hk⟩
        have : Inhabited KT := ⟨.mk 0 0 ⟨#[]⟩ [] []⟩
        obtain ⟨q, hq⟩ := Deep.choose_lt each
        refine ⟨.mk kd f t S ((List.range' 0 len).map q), ?_⟩
        rw [KZ]
        refine ⟨AS, nS, cS, some a, len, cap, rfl, hSn, hSl, htz, hsp, by simp, Nat.le_trans hl hc, ?_⟩
        by_cases h0 : len = 0
        · subst h0
          simp [KZs]
        · have hs : a.spot = none := by
            obtain ⟨u0, _, _, _, _, e0, _⟩ := hq 0 (by omega)
            have := World.cell?_spot e0
            simpa [Addr.add] using this
          obtain ⟨xb, xo, spot⟩ := a
          simp only at hs
          subst hs
          refine kzs_of len 0 fun j hj => ?_
          obtain ⟨u0, u1, u2, u3, u4, e0, e1, e2, e3, e4, hk⟩ := hq j hj
          simp only [radd, Nat.add_zero] at e0 e1 e2 e3 e4
          rw [Nat.zero_add]
          exact ⟨u0, u1, u2, u3, u4, by simpa using block_lt_of_cell e0, e0, e1, e2, e3, e4, hk⟩
end
end Go.Proofs.YtodafbfhcgphpaaDoor
namespace Go.Proofs.YtodafbfhcgphpaaDoor
open Go.RowKit
set_option linter.unusedVariables false

mutual
theorem KZ.below {w w' : World} {B : Nat} (hb : Below B w w') (hB : w.heap.size ≤ B) : ∀ (k : KT) (v : Value), KZ w k v → KZ w' k v
  | .mk kd f t S ks, v, h => by
    rw [KZ] at h ⊢
    obtain ⟨AS, nS, cS, AK, nK, cK, h1, h2, h3, h4, h5, h6, h7, h8⟩ := h
    exact ⟨AS, nS, cS, AK, nK, cK, h1, h2, h3, h4, h5.below hb hB, h6, h7, KZs.below hb hB AK 0 ks h8⟩
theorem KZs.below {w w' : World} {B : Nat} (hb : Below B w w') (hB : w.heap.size ≤ B) (AK : Option Addr) : ∀ (i : Nat) (ks : List KT), KZs w AK i ks → KZs w' AK i ks
  | i, [], h => by rw [KZs]; trivial
  | i, k :: r, h => by
    rw [KZs] at h ⊢
    obtain ⟨⟨b, o, v0, v1, v2, v3, v4, h1, h2, c0, c1, c2, c3, c4, h3⟩, h4⟩ := h
    have hc : ∀ j, w'.cell? ⟨b, j, none⟩ = w.cell? ⟨b, j, none⟩ := fun j => hb.cell (by show b < B; omega)
    exact ⟨⟨b, o, v0, v1, v2, v3, v4, h1, Nat.lt_of_lt_of_le h2 hb.size, (hc _).trans c0, (hc _).trans c1, (hc _).trans c2, (hc _).trans c3, (hc _).trans c4, KZ.below hb hB k _ h3⟩, KZs.below hb hB AK (i + 1) r h4⟩
end
theorem KZs.get {w : World} {AK : Option Addr} : ∀ {i : Nat} {ks : List KT} {j : Nat} {k : KT}, KZs w AK i ks → ks[j]? = some k →
    ∃ (b o : Nat) (v0 v1 v2 v3 v4 : Value), AK = some ⟨b, o, none⟩ ∧ b < w.heap.size ∧ w.cell? ⟨b, o + (i + j) * 5, none⟩ = some v0 ∧ w.cell? ⟨b, o + (i + j) * 5 + 1, none⟩ = some v1 ∧ w.cell? ⟨b, o + (i + j) * 5 + 2, none⟩ = some v2 ∧
      w.cell? ⟨b, o + (i + j) * 5 + 3, none⟩ = some v3 ∧ w.cell? ⟨b, o + (i + j) * 5 + 4, none⟩ = some v4 ∧ KZ w k (.agg #[v0, v1, v2, v3, v4])
  | i, [], j, k, h, hk => by simp at hk
  | i, x :: r, 0, k, h, hk => by
    rw [KZs] at h
    cases hk
    exact h.1
  | i, x :: r, j + 1, k, h, hk => by
    rw [KZs] at h
    have h1 := KZs.get h.2 hk
    rw [show i + 1 + j = i + (j + 1) by omega] at h1
    exact h1
mutual
/-- The size of a tree. -/
def szT : KT → Nat
  | .mk kd f t S ks => t.size + S.length + ks.length + szL ks
def szL : List KT → Nat
  | [] => 0
  | k :: r => szT k + szL r
end
theorem szL_take {k : KT} : ∀ {ks : List KT} {i : Nat}, ks[i]? = some k → szL (ks.take (i + 1)) = szL (ks.take i) + szT k
  | [], i, h => by simp at h
  | x :: r, 0, h => by
    cases h
    simp [szL]
  | x :: r, i + 1, h => by
    have h1 := szL_take (ks := r) h
    rw [List.take_succ_cons, List.take_succ_cons, szL, szL, h1]
    omega
theorem szL_le : ∀ (ks : List KT) (i : Nat), szL (ks.take i) ≤ szL ks
  | [], i => by simp
  | x :: r, 0 => by simp [szL]
  | x :: r, i + 1 => by
    have h1 := szL_le r i
    rw [List.take_succ_cons, szL, szL]
    omega
/-- What is left. -/
def lft (x : Int) : Int := if x < 0 then -1 else x
theorem lft_no {x : Int} (h : x < 0) : lft x = -1 := if_pos h
theorem lft_yes {x : Int} (h : 0 ≤ x) : lft x = x := if_neg (by omega)
theorem szk_spans {left : Int} {n : Nat} (A : Option Addr) (c : Nat) (w : World) (h0 : 0 ≤ left) (h1 : left ≤ 1048576) (hn : n ≤ maxLen) :
    Calls Tryd.prog 22 #[.slice A n c, .int .i64 left] w fun e w' => e = .returned (.int .i64 (lft (left - n))) ∧ Below w.heap.size w w' := by
  have hM : (n : Int) ≤ 9223372036854775807 := by unfold maxLen at hn; omega
  obtain ⟨x, hx⟩ : ∃ x, left - (n : Int) = x := ⟨_, rfl⟩
  have W : IntKind.i64.wrap (left - (n : Int)) = x := (IntWalk.i64_in _ (by omega)).trans hx
  rw [hx]
  by_cases hl : x < 0
  · rw [lft_no hl]
    clear hx hn
    go_enter Tryd.func22, Tryd.ntmps22
    go_wp2
    go_ret
    exact ⟨rfl, Below.refl _ _⟩
  · rw [lft_yes (by omega)]
    clear hx hn
    go_enter Tryd.func22, Tryd.ntmps22
    go_wp2
    go_ret
    exact ⟨rfl, Below.refl _ _⟩
/-- What szKey answers for a key. -/
def SzK (w : World) (k : KT) (l : Int) (e : Ending) (w' : World) : Prop := e = .returned (.int .i64 (lft (l - (szT k : Int)))) ∧ Below w.heap.size w w'
set_option maxRecDepth 20000 in
set_option maxHeartbeats 2000000 in
theorem sz_keys_step {n : Nat} (ih : ∀ (k : KT) (v : Value) (w1 : World) (l : Int), nodesT k ≤ n → 0 ≤ l → l ≤ 1048576 → KZ w1 k v → Calls Tryd.prog 11 #[v, .int .i64 l] w1 (SzK w1 k l))
    {ks : List KT} (hks : ∀ k ∈ ks, nodesT k ≤ n) {AK : Option Addr} {nK : Nat} (cK : Nat) (w : World) (h : KZs w AK 0 ks) (hn : ks.length = nK) (hm : nK ≤ maxLen) {left : Int} (h0 : 0 ≤ left) (h1 : left ≤ 1048576) :
    Calls Tryd.prog 23 #[.slice AK nK cK, .int .i64 left] w fun e w' => e = .returned (.int .i64 (lft (left - ((nK + szL ks : Nat) : Int)))) ∧ Below w.heap.size w w' := by
  have hM : (nK : Int) ≤ 9223372036854775807 := by unfold maxLen at hm; omega
  obtain ⟨R, hR⟩ : ∃ R, lft (left - ((nK + szL ks : Nat) : Int)) = R := ⟨_, rfl⟩
  have HNO : Hid (left < (nK : Int) + szL ks → R = -1) := Lib.hid fun hl => by rw [← hR]; exact lft_no (by omega)
  have HYES : Hid ((nK : Int) + szL ks ≤ left → R = left - nK - szL ks) := Lib.hid fun hl => by rw [← hR, lft_yes (by omega)]; omega
  obtain ⟨x, hx⟩ : ∃ x, left - (nK : Int) = x := ⟨_, rfl⟩
  have W : IntKind.i64.wrap (left - (nK : Int)) = x := (IntWalk.i64_in _ (by omega)).trans hx
  have HIH := Lib.hid ih
  have HKS := Lib.hid h
  have HNK := Lib.hid hn
  have HAL := Lib.hid hks
  rw [hR]
  clear ih h hn hks hR hm
  by_cases hl : x < 0
  · have HRR : Hid (R = -1) := Lib.hid (HNO.out (by omega))
    clear hx
    go_enter Tryd.func23, Tryd.ntmps23
    go_wp2
    go_ret
    exact ⟨by rw [HRR.out]; rfl, Below.refl _ _⟩
  · obtain ⟨s0, rfl⟩ : ∃ s0 : Nat, x = (s0 : Int) := ⟨x.toNat, by omega⟩
    have hs0 : s0 ≤ 1048576 := by omega
    have hnk : nK ≤ 1048576 := by omega
    have HX := Lib.hid hx
    have HBW := Lib.hid (Below.refl w.heap.size w)
    clear hx
    go_enter Tryd.func23, Tryd.ntmps23
    go_wp2
    go_loopw [1, 5] (fun lv iv wr => ∃ (i s : Nat), i ≤ nK ∧ s ≤ 1048576 ∧ lv = .int .i64 (s : Int) ∧ iv = .int .i64 (i : Int) ∧ Hid (s + szL (ks.take i) = s0) ∧ Hid (Below w.heap.size w wr)) (fun _ iv _ => nK - (intOf iv).toNat)
    case atStart => exact ⟨0, s0, Nat.zero_le _, hs0, by go_num, by go_num, Lib.hid (by simp [szL]), HBW⟩
    case round =>
      obtain ⟨i, s, hi, hs, rfl, rfl, HSR, HBr⟩ := hrel
      by_cases hlt : i < nK
      · have i0 : (0 : Int) ≤ (i : Int) := by omega
        have i5 : (i : Int) < (nK : Int) := by omega
        obtain ⟨k, hk⟩ : ∃ x, ks[i]? = some x := ⟨_, List.getElem?_eq_getElem (by rw [HNK.out]; exact hlt)⟩
        obtain ⟨b, o, v0, v1, v2, v3, v4, rfl, hbz, c0, c1, c2, c3, c4, hkz⟩ := (KZs.below HBr.out (Nat.le_refl _) _ _ _ HKS.out).get hk
        rw [Nat.zero_add] at c0 c1 c2 c3 c4
        have HC := Lib.hid (HIH.out k _ wr (s : Int) (HAL.out k (List.mem_of_getElem? hk)) (by omega) (by omega) hkz)
        have HT := Lib.hid (szL_take hk)
        have HLE := Lib.hid (szL_le ks (i + 1))
        have W1 : IntKind.i64.wrap ((i : Int) + 1) = (i : Int) + 1 := IntWalk.i64_in _ (by omega)
        clear hk hkz hbz
        go_wp2_with fail
        refine HC.out.mono ?_
        rintro e w2 ⟨rfl, hb⟩
        have HB2 := Lib.hid (HBr.out.trans (hb.mono HBr.out.size))
        clear hb c0 c1 c2 c3 c4
        obtain ⟨y, hy⟩ : ∃ y, lft ((s : Int) - (szT k : Int)) = y := ⟨_, rfl⟩
        rw [hy]
        by_cases hy0 : y < 0
        · have hlt2 : s < szT k := by
            rcases Nat.lt_or_ge s (szT k) with h | h
            · exact h
            · rw [lft_yes (by omega)] at hy; omega
          have HRR : Hid (R = -1) := Lib.hid (HNO.out (by have := HSR.out; have := HT.out; have := HLE.out; have := HX.out; omega))
          clear hy hlt2
          go_wp2
          go_ret
          exact ⟨by rw [HRR.out]; rfl, HB2.out⟩
        · have hge : szT k ≤ s := by
            rcases Nat.lt_or_ge s (szT k) with h | h
            · rw [lft_no (by omega)] at hy; omega
            · exact h
          obtain ⟨t, ht⟩ : ∃ t, s - szT k = t := ⟨_, rfl⟩
          have hyt : y = (t : Int) := by rw [← hy, lft_yes (by omega)]; omega
          subst hyt
          have HS2 : Hid (t + szL (ks.take (i + 1)) = s0) := Lib.hid (by rw [HT.out]; have := HSR.out; omega)
          have ht2 : t ≤ 1048576 := by omega
          clear hy hge ht
          go_wp2
          go_roundw
          case rel => exact ⟨i + 1, t, by omega, ht2, by go_num, by go_num, HS2, HB2⟩
          case measure => simp [intOf]; omega
      · have i5 : ¬ (i : Int) < (nK : Int) := by omega
        have hin : i = nK := by omega
        subst hin
        have HRR : Hid (R = (s : Int)) := Lib.hid (by
          have h1 := HSR.out
          rw [List.take_of_length_le (Nat.le_of_eq HNK.out)] at h1
          have h2 := HX.out
          rw [HYES.out (by omega)]
          omega)
        go_wp2
        go_ret
        exact ⟨by rw [HRR.out]; rfl, HBr.out⟩
set_option maxHeartbeats 2000000 in
theorem sz_key_step {n : Nat} (ih : ∀ (k : KT) (v : Value) (w1 : World) (l : Int), nodesT k ≤ n → 0 ≤ l → l ≤ 1048576 → KZ w1 k v → Calls Tryd.prog 11 #[v, .int .i64 l] w1 (SzK w1 k l))
    (k : KT) (v : Value) (w : World) {left : Int} (hn : nodesT k ≤ n + 1) (h0 : 0 ≤ left) (h1 : left ≤ 1048576) (h : KZ w k v) : Calls Tryd.prog 11 #[v, .int .i64 left] w (SzK w k left) := by
  obtain ⟨kd, f, t, S, ks⟩ := k
  rw [KZ] at h
  obtain ⟨AS, nS, cS, AK, nK, cK, rfl, h2, h3, h4, h5, h6, h7, h8⟩ := h
  have hT : szT (.mk kd f t S ks) = t.size + nS + (nK + szL ks) := by rw [szT, h2, h6]; omega
  have hall : ∀ k ∈ ks, nodesT k ≤ n := fun k hk => by
    rw [nodesT] at hn
    obtain ⟨i, hi⟩ := List.getElem?_of_mem hk
    have := nodesL_lt hi
    omega
  obtain ⟨B, hB⟩ : ∃ B, w.heap.size = B := ⟨_, rfl⟩
  obtain ⟨wa, hwa⟩ : ∃ wa, w.alloc (.cells #[.int .i64 kd, .int .i64 f, .string t, .slice AS nS cS, .slice AK nK cK] 36) = wa := ⟨_, rfl⟩
  have HC := Lib.hid (show Whole wa B 36 #[.int .i64 kd, .int .i64 f, .string t, .slice AS nS cS, .slice AK nK cK] by rw [← hwa]; exact hB ▸ Whole.made w _ _)
  have HBa := Lib.hid (show Below w.heap.size w wa by rw [← hwa]; exact below_newK w _)
  have HKS := Lib.hid (KZs.below HBa.out (Nat.le_refl _) _ _ _ h8)
  have HWA := Lib.hid hwa
  have HBB := Lib.hid hB
  have HNS := Lib.hid h3
  have HNK := Lib.hid h6
  have HNM := Lib.hid h7
  have HIH := Lib.hid ih
  have HALL := Lib.hid hall
  have htz : (t.size : Int) ≤ 9223372036854775807 := by unfold maxLen at h4; omega
  obtain ⟨R, hR⟩ : ∃ R, lft (left - (szT (.mk kd f t S ks) : Int)) = R := ⟨_, rfl⟩
  obtain ⟨x, hx⟩ : ∃ x, left - (t.size : Int) = x := ⟨_, rfl⟩
  have W : IntKind.i64.wrap (left - (t.size : Int)) = x := (IntWalk.i64_in _ (by omega)).trans hx
  have HNO : Hid (x - nS - (nK + szL ks) < 0 → R = -1) := Lib.hid fun hl => by rw [← hR]; exact lft_no (by rw [hT]; omega)
  have HYES : Hid (0 ≤ x - nS - (nK + szL ks) → R = x - nS - (nK + szL ks)) := Lib.hid fun hl => by rw [← hR, lft_yes (by rw [hT]; omega), hT]; omega
  have hx1 : x ≤ 1048576 := by omega
  unfold SzK
  rw [hR]
  clear hn h2 h3 h4 h5 h6 h7 h8 hT hall hwa hB ih hR
  have z2 : (w.alloc (.cells #[.int .i64 kd, .int .i64 f, .string t, .slice AS nS cS, .slice AK nK cK] 36)).cell? ⟨w.heap.size, 2, none⟩ = some (.string t) := by rw [HWA.out, HBB.out]; exact HC.out.cell 2
  have z3 : (w.alloc (.cells #[.int .i64 kd, .int .i64 f, .string t, .slice AS nS cS, .slice AK nK cK] 36)).cell? ⟨w.heap.size, 3, none⟩ = some (.slice AS nS cS) := by rw [HWA.out, HBB.out]; exact HC.out.cell 3
  by_cases hl : x < 0
  · have HRR : Hid (R = -1) := Lib.hid (HNO.out (by omega))
    clear hx
    go_enter Tryd.func11, Tryd.ntmps11
    go_wp2
    go_ret
    exact ⟨by rw [HRR.out]; rfl, HWA.out ▸ HBa.out⟩
  · have hl0 : 0 ≤ x := by omega
    clear hx
    go_enter Tryd.func11, Tryd.ntmps11
    go_wp2_with fail
    rw [HWA.out, HBB.out]
    refine (szk_spans AS cS wa hl0 hx1 HNS.out).mono ?_
    rintro e w2 ⟨rfl, hb⟩
    have HB2 := Lib.hid (HBa.out.trans (hb.mono HBa.out.size))
    have HC2 := Lib.hid (HC.out.below hb HC.out.lt)
    have HKS2 := Lib.hid (KZs.below hb (Nat.le_refl _) _ _ _ HKS.out)
    clear hb z2 z3
    obtain ⟨y, hy⟩ : ∃ y, lft (x - (nS : Int)) = y := ⟨_, rfl⟩
    rw [hy]
    by_cases hy0 : y < 0
    · have HRR : Hid (R = -1) := Lib.hid (HNO.out (by
        rcases Int.lt_or_le (x - nS) 0 with h | h
        · omega
        · rw [lft_yes h] at hy; omega))
      clear hy
      go_wp2
      go_ret
      exact ⟨by rw [HRR.out]; rfl, HB2.out⟩
    · have hyx : y = x - nS := by
        rcases Int.lt_or_le (x - nS) 0 with h | h
        · rw [lft_no h] at hy; omega
        · rw [← hy, lft_yes h]
      have HYX := Lib.hid hyx
      have hy1 : y ≤ 1048576 := by omega
      have hy00 : 0 ≤ y := by omega
      clear hy hyx
      have z4 : w2.cell? ⟨B, 4, none⟩ = some (.slice AK nK cK) := HC2.out.cell 4
      go_wp2_with fail
      refine (sz_keys_step HIH.out HALL.out cK w2 HKS2.out HNK.out HNM.out hy00 hy1).mono ?_
      rintro e w3 ⟨rfl, hb⟩
      have HB3 := Lib.hid (HB2.out.trans (hb.mono HB2.out.size))
      clear hb z4
      obtain ⟨u, hu⟩ : ∃ u, lft (y - ((nK + szL ks : Nat) : Int)) = u := ⟨_, rfl⟩
      rw [hu]
      have HRU : Hid (R = u) := Lib.hid (by
        have h1 := HYX.out
        rcases Int.lt_or_le (y - ((nK + szL ks : Nat) : Int)) 0 with h | h
        · rw [lft_no h] at hu
          rw [HNO.out (by omega)]
          exact hu
        · rw [lft_yes h] at hu
          rw [HYES.out (by omega)]
          omega)
      by_cases hu0 : u < 0
      · have hu1 : u = -1 := by
          rcases Int.lt_or_le (y - ((nK + szL ks : Nat) : Int)) 0 with h | h
          · rw [← hu]; exact lft_no h
          · rw [lft_yes h] at hu; omega
        have HUU := Lib.hid hu1
        clear hu hu1
        go_wp2
        go_ret
        exact ⟨by rw [HRU.out, HUU.out]; rfl, HB3.out⟩
      · clear hu
        go_wp2
        go_ret
        exact ⟨by rw [HRU.out]; rfl, HB3.out⟩
theorem sz_key : ∀ (n : Nat) (k : KT) (v : Value) (w : World) (l : Int), nodesT k ≤ n → 0 ≤ l → l ≤ 1048576 → KZ w k v → Calls Tryd.prog 11 #[v, .int .i64 l] w (SzK w k l)
  | 0, k, v, w, l, hn, _, _, _ => by have := nodesT_pos k; omega
  | n + 1, k, v, w, l, hn, h0, h1, h => sz_key_step (fun k v w1 l a b c d => sz_key n k v w1 l a b c d) k v w hn h0 h1 h
end Go.Proofs.YtodafbfhcgphpaaDoor
namespace Go.Proofs.YtodafbfhcgphpaaDoor
open Go.RowKit
set_option linter.unusedVariables false

theorem take_same {α : Type} {L M : List α} {k : Nat} {x : α} (h : L.take k = M.take k) (hl : L[k]? = some x) (hm : M[k]? = some x) : L.take (k + 1) = M.take (k + 1) := by
  rw [List.take_add_one, List.take_add_one, h, hl, hm]
theorem take_diff {α : Type} {L M : List α} {k : Nat} {x y : α} (hl : L[k]? = some x) (hm : M[k]? = some y) (h : x ≠ y) : L ≠ M := by
  rintro rfl
  rw [hl] at hm
  exact h (Option.some.inj hm)
theorem len_diff {α : Type} {L M : List α} (h : L.length ≠ M.length) : L ≠ M := fun e => h (by rw [e])
/-- A truth value is told, and old memory stays. -/
def Tests (w : World) (o : Bool) (e : Ending) (w' : World) : Prop := e = .returned (.bool o) ∧ Below w.heap.size w w'
theorem tests_mk {w w' : World} {o p : Bool} (h : o = p) (hb : Below w.heap.size w w') : Tests w o (.returned (.bool p)) w' := ⟨by rw [h], hb⟩
theorem dec_yes {p : Prop} [Decidable p] (h : p) : decide p = true := decide_eq_true h
theorem dec_no {p : Prop} [Decidable p] (h : ¬ p) : decide p = false := decide_eq_false h

theorem below_eq {a w w' : World} (h : Below a.heap.size a w) (h2 : Below w.drew.heap.size w.drew w') : Below a.heap.size a w' := by
  have h3 : Below w.heap.size w w' := ⟨h2.os, h2.tape, h2.output, h2.size, h2.block⟩
  exact h.trans (h3.mono h.size)
set_option maxHeartbeats 2000000 in
theorem eq_span_yes (x1 x2 : Int) (w : World) :
    Calls Tryd.prog 43 #[.agg #[.int .i64 x1, .int .i64 x2], .agg #[.int .i64 x1, .int .i64 x2]] w (Tests w true) := by
  have h1 : (x1 != x1) = false := by simp
  have h2 : (x2 != x2) = false := by simp
  go_enter Tryd.func43, Tryd.ntmps43
  go_wp2
  go_ret
  exact ⟨rfl, ((Below.refl _ _).alloc (Nat.le_refl _) _).alloc (by simp) _⟩
set_option maxHeartbeats 2000000 in
theorem eq_span_no (x1 x2 y1 y2 : Int) (w : World) (h : (x1, x2) ≠ (y1, y2)) :
    Calls Tryd.prog 43 #[.agg #[.int .i64 x1, .int .i64 x2], .agg #[.int .i64 y1, .int .i64 y2]] w (Tests w false) := by
  by_cases e1 : x1 = y1
  · have e2 : ¬ x2 = y2 := fun e => h (by rw [e1, e])
    subst e1
    have h1 : (x1 != x1) = false := by simp
    have h2 : (x2 != y2) = true := by simpa using e2
    clear e2 h
    go_enter Tryd.func43, Tryd.ntmps43
    go_wp2
    go_ret
    exact ⟨rfl, ((Below.refl _ _).alloc (Nat.le_refl _) _).alloc (by simp) _⟩
  · have h1 : (x1 != y1) = true := by simpa using e1
    clear e1 h
    go_enter Tryd.func43, Tryd.ntmps43
    go_wp2
    go_ret
    exact ⟨rfl, ((Below.refl _ _).alloc (Nat.le_refl _) _).alloc (by simp) _⟩
set_option maxHeartbeats 4000000 in
theorem eq_spans (A A2 : Option Addr) (cap cap2 : Nat) (L M : List (Int × Int)) (w : World) (h : SpA w A L) (h2 : SpA w A2 M) (hl : L.length ≤ 33554432) (hl2 : M.length ≤ 33554432) :
    Calls Tryd.prog 28 #[.slice A L.length cap, .slice A2 M.length cap2] w (Tests w (decide (L = M))) := by
  have H := Lib.hid h
  have H2 := Lib.hid h2
  clear h h2
  by_cases hlen : L.length = M.length
  · have hlb : ((L.length : Int) != (M.length : Int)) = false := by rw [hlen]; simp
    obtain ⟨m, hm⟩ : ∃ m, L.length = m := ⟨_, rfl⟩
    have hm2 : M.length = m := by rw [← hlen, hm]
    have HM := Lib.hid hm
    have HM2 := Lib.hid hm2
    rw [hm, hm2] at hlb
    rw [hm] at hl
    rw [hm, hm2]
    clear hlen hl2 hm hm2
    go_enter Tryd.func28, Tryd.ntmps28
    go_wp2
    go_loopw [5] (fun i wr => ∃ k : Nat, k ≤ m ∧ i = .int .i64 (k : Int) ∧ Hid (L.take k = M.take k) ∧ Hid (Below w.heap.size w wr)) (fun i _ => m - (intOf i).toNat)
    case atStart => exact ⟨0, Nat.zero_le _, by go_num, rfl, Below.refl _ _⟩
    case round =>
      obtain ⟨k, hk, rfl, HT, HB⟩ := hrel
      by_cases hlt : k < m
      · have h0 : (0 : Int) ≤ (k : Int) := by omega
        have h5 : (k : Int) < (m : Int) := by omega
        obtain ⟨⟨x1, x2⟩, hx⟩ : ∃ x, L[k]? = some x := ⟨_, List.getElem?_eq_getElem (by rw [HM.out]; exact hlt)⟩
        obtain ⟨⟨y1, y2⟩, hy⟩ : ∃ x, M[k]? = some x := ⟨_, List.getElem?_eq_getElem (by rw [HM2.out]; exact hlt)⟩
        obtain ⟨b, o, rfl, hb, c1, c2⟩ := (H.out.below HB.out (Nat.le_refl _)) k _ hx
        obtain ⟨b', o', rfl, hb', d1, d2⟩ := (H2.out.below HB.out (Nat.le_refl _)) k _ hy
        have HX := Lib.hid hx
        have HY := Lib.hid hy
        clear hx hy
        by_cases hd : (x1, x2) ≠ (y1, y2)
        · have HD := Lib.hid hd
          have HNE : Hid (L ≠ M) := take_diff HX.out HY.out hd
          clear hd
          go_wp2
          go_region_held3 (fun w' => w'.cell? ⟨b, o + k * 2, none⟩ = some (.int .i64 x1) ∧ w'.cell? ⟨b, o + k * 2 + 1, none⟩ = some (.int .i64 x2) ∧ w'.cell? ⟨b', o' + k * 2, none⟩ = some (.int .i64 y1) ∧ w'.cell? ⟨b', o' + k * 2 + 1, none⟩ = some (.int .i64 y2)) (go_keep) (first | (go_at_call 43; refine (eq_span_no _ _ _ _ _ HD.out).mono ?_; rintro e w5 ⟨rfl, hb5⟩; have k1 : w5.cell? ⟨b, o + k * 2, none⟩ = some (.int .i64 x1) := (hb5.cell (p := ⟨b, o + k * 2, none⟩) hb).trans c1; have k2 : w5.cell? ⟨b, o + k * 2 + 1, none⟩ = some (.int .i64 x2) := (hb5.cell (p := ⟨b, o + k * 2 + 1, none⟩) hb).trans c2; have k3 : w5.cell? ⟨b', o' + k * 2, none⟩ = some (.int .i64 y1) := (hb5.cell (p := ⟨b', o' + k * 2, none⟩) hb').trans d1; have k4 : w5.cell? ⟨b', o' + k * 2 + 1, none⟩ = some (.int .i64 y2) := (hb5.cell (p := ⟨b', o' + k * 2 + 1, none⟩) hb').trans d2; have HB5 := Lib.hid (below_eq HB.out hb5); clear hb5))
          all_goals
            go_wp2
            go_ret
            exact tests_mk (dec_no HNE.out) HB5.out
        · have hd := Prod.mk.inj (Decidable.not_not.1 hd)
          obtain ⟨rfl, rfl⟩ := hd
          go_wp2
          go_region_held3 (fun w' => w'.cell? ⟨b, o + k * 2, none⟩ = some (.int .i64 x1) ∧ w'.cell? ⟨b, o + k * 2 + 1, none⟩ = some (.int .i64 x2) ∧ w'.cell? ⟨b', o' + k * 2, none⟩ = some (.int .i64 x1) ∧ w'.cell? ⟨b', o' + k * 2 + 1, none⟩ = some (.int .i64 x2)) (go_keep) (first | (go_at_call 43; refine (eq_span_yes _ _ _).mono ?_; rintro e w5 ⟨rfl, hb5⟩; have k1 : w5.cell? ⟨b, o + k * 2, none⟩ = some (.int .i64 x1) := (hb5.cell (p := ⟨b, o + k * 2, none⟩) hb).trans c1; have k2 : w5.cell? ⟨b, o + k * 2 + 1, none⟩ = some (.int .i64 x2) := (hb5.cell (p := ⟨b, o + k * 2 + 1, none⟩) hb).trans c2; have k3 : w5.cell? ⟨b', o' + k * 2, none⟩ = some (.int .i64 x1) := (hb5.cell (p := ⟨b', o' + k * 2, none⟩) hb').trans d1; have k4 : w5.cell? ⟨b', o' + k * 2 + 1, none⟩ = some (.int .i64 x2) := (hb5.cell (p := ⟨b', o' + k * 2 + 1, none⟩) hb').trans d2; have HB5 := Lib.hid (below_eq HB.out hb5); clear hb5))
          all_goals
            go_wp2
            go_roundw
            case rel => exact ⟨k + 1, by omega, by go_num, take_same HT.out HX.out HY.out, HB5.out⟩
            case measure => simp [intOf]; omega
      · have h5 : ¬ (k : Int) < (m : Int) := by omega
        have HE : Hid (L = M) := by
          have h := HT.out
          rw [List.take_of_length_le (by rw [HM.out]; omega), List.take_of_length_le (by rw [HM2.out]; omega)] at h
          exact h
        go_wp2
        go_ret
        exact tests_mk (dec_yes HE.out) HB.out
  · have hlb : ((L.length : Int) != (M.length : Int)) = true := by simp; omega
    have HNE := Lib.hid (len_diff hlen)
    clear hlen
    go_enter Tryd.func28, Tryd.ntmps28
    go_wp2
    go_ret
    exact tests_mk (dec_no HNE.out) (Below.refl _ _)
set_option maxHeartbeats 1000000 in
theorem to_span (x1 x2 : Int) (w : World) : Calls Tryd.prog 42 #[.agg #[.int .i64 x1, .int .i64 x2]] w fun e w' => e = .returned (.agg #[.int .i64 x1, .int .i64 x2]) ∧ Below w.heap.size w w' := by
  go_enter Tryd.func42, Tryd.ntmps42
  go_wp2
  refine bodyPost_ret (v := .agg #[.int .i64 x1, .int .i64 x2]) (by simp [results, Tryd.results42, go_sem]) rfl ?_
  refine ⟨rfl, ?_⟩
  refine (((Below.refl _ _).alloc ?_ _).alloc ?_ _).alloc ?_ _ <;> (simp <;> try omega)

theorem made_spans (n : Nat) : (madeCells (Value.agg #[.int .i64 0, .int .i64 0]).cells (n * 2)).toList = spn (List.replicate n ((0 : Int), (0 : Int))) := by
  apply List.ext_getElem?
  intro j
  have hl : (spn (List.replicate n ((0 : Int), (0 : Int)))).length = n * 2 := by rw [spn_len, List.length_replicate]
  by_cases hj : j < n * 2
  · have h1 : (madeCells (Value.agg #[.int .i64 0, .int .i64 0]).cells (n * 2)).toList[j]? = some (.int .i64 0) := by
      simp [madeCells, Value.cells, hj]
      rcases (by omega : j % 2 = 0 ∨ j % 2 = 1) with e | e <;> simp [e]
    have hr : (List.replicate n ((0 : Int), (0 : Int)))[j / 2]? = some (0, 0) := by rw [List.getElem?_replicate, if_pos (by omega)]
    obtain ⟨s1, s2⟩ := spn_get _ _ _ hr
    rw [h1]
    rcases (by omega : j = j / 2 * 2 ∨ j = j / 2 * 2 + 1) with e | e
    · rw [e, s1]
    · rw [e, s2]
  · have h1 : (spn (List.replicate n ((0 : Int), (0 : Int))))[j]? = none := List.getElem?_eq_none (by rw [hl]; omega)
    have h2 : (madeCells (Value.agg #[.int .i64 0, .int .i64 0]).cells (n * 2)).toList[j]? = none := List.getElem?_eq_none (by simp [madeCells]; omega)
    rw [h1, h2]
theorem spn_set {L : List (Int × Int)} {k : Nat} {y x : Int × Int} (h : L[k]? = some y) : ((spn L).set (k * 2) (.int .i64 x.1)).set (k * 2 + 1) (.int .i64 x.2) = spn (L.set k x) := by
  have hk := (List.getElem?_eq_some_iff.1 h).1
  apply List.ext_getElem?
  intro j
  by_cases hj : j < L.length * 2
  · obtain ⟨z, hz⟩ : ∃ z, (L.set k x)[j / 2]? = some z := ⟨_, List.getElem?_eq_getElem (by rw [List.length_set]; omega)⟩
    obtain ⟨t1, t2⟩ := spn_get _ _ _ hz
    by_cases hjk : j / 2 = k
    · subst hjk
      rw [List.getElem?_set_self hk] at hz
      cases hz
      rcases (by omega : j = j / 2 * 2 ∨ j = j / 2 * 2 + 1) with e | e
      · rw [show (((spn L).set (j / 2 * 2) (.int .i64 x.1)).set (j / 2 * 2 + 1) (.int .i64 x.2))[j]? = (((spn L).set (j / 2 * 2) (.int .i64 x.1)).set (j / 2 * 2 + 1) (.int .i64 x.2))[j / 2 * 2]? from congrArg _ e, show (spn (L.set (j / 2) x))[j]? = (spn (L.set (j / 2) x))[j / 2 * 2]? from congrArg _ e, t1, List.getElem?_set_ne (by omega), List.getElem?_set_self (by rw [spn_len]; omega)]
      · rw [show (((spn L).set (j / 2 * 2) (.int .i64 x.1)).set (j / 2 * 2 + 1) (.int .i64 x.2))[j]? = (((spn L).set (j / 2 * 2) (.int .i64 x.1)).set (j / 2 * 2 + 1) (.int .i64 x.2))[j / 2 * 2 + 1]? from congrArg _ e, show (spn (L.set (j / 2) x))[j]? = (spn (L.set (j / 2) x))[j / 2 * 2 + 1]? from congrArg _ e, t2, List.getElem?_set_self (by rw [List.length_set, spn_len]; omega)]
    · rw [List.getElem?_set_ne (fun e => hjk e.symm)] at hz
      obtain ⟨s1, s2⟩ := spn_get _ _ _ hz
      rw [List.getElem?_set_ne (by omega), List.getElem?_set_ne (by omega)]
      rcases (by omega : j = j / 2 * 2 ∨ j = j / 2 * 2 + 1) with e | e
      · rw [show (spn L)[j]? = (spn L)[j / 2 * 2]? from congrArg _ e, show (spn (L.set k x))[j]? = (spn (L.set k x))[j / 2 * 2]? from congrArg _ e, s1, t1]
      · rw [show (spn L)[j]? = (spn L)[j / 2 * 2 + 1]? from congrArg _ e, show (spn (L.set k x))[j]? = (spn (L.set k x))[j / 2 * 2 + 1]? from congrArg _ e, s2, t2]
  · rw [List.getElem?_eq_none (by simp [spn_len]; omega), List.getElem?_eq_none (by simp [spn_len]; omega)]
theorem Own.stored {w : World} {B g n cap : Nat} {L : List (Int × Int)} (h : Own w B (.slice (some ⟨g, 0, none⟩) n cap) L) {k : Nat} (hk : k < L.length) (x : Int × Int) :
    Own ((w.setCell ⟨g, k * 2, none⟩ (.int .i64 x.1)).setCell ⟨g, k * 2 + 1, none⟩ (.int .i64 x.2)) B (.slice (some ⟨g, 0, none⟩) n cap) (L.set k x) ∧
    w.grownBy ((w.setCell ⟨g, k * 2, none⟩ (.int .i64 x.1)).setCell ⟨g, k * 2 + 1, none⟩ (.int .i64 x.2)) (some g) := by
  have hn : n = L.length := by
    obtain ⟨A, c, he, _⟩ := h.form
    cases he
    rfl
  subst hn
  obtain ⟨h1, g1⟩ := World.ownsRow.stored h (k * 2) (.int .i64 x.1)
  obtain ⟨h2, g2⟩ := World.ownsRow.stored h1 (k * 2 + 1) (.int .i64 x.2)
  refine ⟨?_, gr_trans g1 g2⟩
  rw [spn_set (List.getElem?_eq_getElem hk)] at h2
  unfold Own
  rw [List.length_set]
  exact h2

theorem set_step {L : List (Int × Int)} {n k : Nat} {x z : Int × Int} (hn : L.length = n) (hx : L[k]? = some x) : (L.take k ++ List.replicate (n - k) z).set k x = L.take (k + 1) ++ List.replicate (n - (k + 1)) z := by
  have hk := (List.getElem?_eq_some_iff.1 hx).1
  have hl : (L.take k).length = k := by rw [List.length_take]; omega
  rw [List.set_append_right _ _ (by omega), hl, Nat.sub_self, show n - k = (n - (k + 1)) + 1 by omega, List.replicate_succ, List.set_cons_zero, List.take_add_one, hx, List.append_assoc]
  rfl
theorem own_row' {w : World} {B n cap : Nat} {A : Option Addr} {L : List (Int × Int)} (h : Own w B (.slice A n cap) L) : w.ownsRow B 78 2 (.slice A n cap) n (spn L) := by
  have hn : n = L.length := by
    obtain ⟨A, c, he, _⟩ := h.form
    cases he
    rfl
  subst hn
  exact h
theorem own_cells {w : World} {B n cap g k : Nat} {L : List (Int × Int)} {x : Int × Int} (h : Own w B (.slice (some ⟨g, 0, none⟩) n cap) L) (hx : L[k]? = some x) :
    w.cell? ⟨g, k * 2, none⟩ = some (.int .i64 x.1) ∧ w.cell? ⟨g, k * 2 + 1, none⟩ = some (.int .i64 x.2) := by
  obtain ⟨A, c, he, _, _, hs⟩ := h.form
  cases he
  obtain ⟨b, o, he, _, h1, h2⟩ := hs k x hx
  cases he
  rw [Nat.zero_add] at h1 h2
  exact ⟨h1, h2⟩

set_option maxHeartbeats 4000000 in
theorem to_spans (A : Option Addr) (cap n : Nat) (L : List (Int × Int)) (w : World) (hn : L.length = n) (h : SpA w A L) (hl : n ≤ 1048576) :
    Calls Tryd.prog 26 #[.slice A n cap] w fun e w' => ∃ g, e = .returned (.slice (some ⟨g, 0, none⟩) n n) ∧ Own w' w.heap.size (.slice (some ⟨g, 0, none⟩) n n) L ∧ Below w.heap.size w w' := by
  obtain ⟨i0, hi, hq0, hq1, hq2⟩ := info_parts Tryd.infoSpan
  have HN := Lib.hid hn
  have H := Lib.hid h
  clear hn h
  have hb2 : i0.bytes * n ≤ 281474976710656 := by rw [hq2]; omega
  have hb3 : n ≤ maxLen := by unfold maxLen; omega
  go_enter Tryd.func26, Tryd.ntmps26
  go_wp2_with (at_make; refine wpList_make_full _ rfl _ _ 23 rfl w.heap.size 78 i0 (.agg #[.int .i64 0, .int .i64 0]) 2 Tryd.underlying23 hi hq0 hq1 .i64 .i64 (n : Int) (n : Int) n rfl rfl rfl rfl hb2 hb3 (Nat.le_refl _) ?_)
  intro w1 hown hgrow
  obtain ⟨N, hN⟩ : ∃ N, w.heap.size = N := ⟨_, rfl⟩
  have HNN := Lib.hid hN
  have HB1 : Hid (Below N w w1) := hN ▸ (Below.refl _ _).grown hgrow (Nat.le_refl _) (fun z hz => by cases hz)
  have hN1 : N ≤ w1.heap.size := hN ▸ hgrow.size
  have ho1 : Own w1 N (.slice (some ⟨N, 0, none⟩) n n) (List.replicate n ((0 : Int), (0 : Int))) := by
    unfold Own
    rw [List.length_replicate, ← made_spans, ← hN]
    exact hown
  have HO1 := Lib.hid ho1
  rw [hN]
  clear hown hgrow ho1 hN
  go_wp2
  go_loopw [4] (fun i wr => ∃ k : Nat, k ≤ n ∧ i = .int .i64 (k : Int) ∧ N ≤ wr.heap.size ∧ Hid (Below N w wr) ∧ Hid (Own wr N (.slice (some ⟨N, 0, none⟩) n n) (L.take k ++ List.replicate (n - k) ((0 : Int), (0 : Int))))) (fun i _ => n - (intOf i).toNat)
  case atStart => exact ⟨0, Nat.zero_le _, by go_num, hN1, HB1, by rw [List.take_zero, List.nil_append, Nat.sub_zero]; exact HO1⟩
  case round =>
    obtain ⟨k, hk, rfl, hNr, HB, HO⟩ := hrel
    by_cases hlt : k < n
    · have h0 : (0 : Int) ≤ (k : Int) := by omega
      have h5 : (k : Int) < (n : Int) := by omega
      obtain ⟨⟨x1, x2⟩, hx⟩ : ∃ x, L[k]? = some x := ⟨_, List.getElem?_eq_getElem (by rw [HN.out]; omega)⟩
      obtain ⟨b, o, rfl, hbz, c1, c2⟩ := (H.out.below HB.out (Nat.le_of_eq HNN.out)) k _ hx
      have HX := Lib.hid hx
      clear hx
      go_wp2_with fail
      refine (to_span x1 x2 _).mono ?_
      rintro e w2 ⟨rfl, hb⟩
      have HB2 := Lib.hid (HB.out.trans (hb.mono hNr))
      have HO2 := Lib.hid (HO.out.kept hb)
      have hN2 := Nat.le_trans hNr hb.size
      clear hb
      obtain ⟨y, hy⟩ : ∃ y, (L.take k ++ List.replicate (n - k) ((0 : Int), (0 : Int)))[k]? = some y := ⟨_, List.getElem?_eq_getElem (by rw [List.length_append, List.length_take, List.length_replicate, HN.out]; omega)⟩
      obtain ⟨d1, d2⟩ := own_cells HO2.out hy
      have d3 := World.ownsRow.frozenAt (show w2.ownsRow N 78 2 (.slice (some ⟨N, 0, none⟩) n n) n _ from own_row' HO2.out) (k * 2)
      have d4 := World.ownsRow.frozenAt (show w2.ownsRow N 78 2 (.slice (some ⟨N, 0, none⟩) n n) n _ from own_row' HO2.out) (k * 2 + 1)
      have HST := Lib.hid (HO2.out.stored (k := k) (List.getElem?_eq_some_iff.1 hy).1 (x1, x2))
      clear hy
      go_wp2
      go_roundw
      case rel =>
        refine ⟨k + 1, by omega, by go_num, by simpa using hN2, (HB2.out.setCell (Nat.le_refl _) _).setCell (Nat.le_refl _) _, ?_⟩
        rw [← set_step HN.out HX.out]
        exact HST.out.1
      case measure => simp [intOf]; omega
    · have h5 : ¬ (k : Int) < (n : Int) := by omega
      have hkn : k = n := by omega
      have ho := HO.out
      rw [hkn, List.take_of_length_le (by rw [HN.out]; exact Nat.le_refl _), Nat.sub_self, List.replicate_zero, List.append_nil] at ho
      have HOE := Lib.hid ho
      clear ho hkn
      go_wp2
      go_ret
      exact ⟨N, rfl, HNN.out ▸ HOE.out, HNN.out ▸ HB.out⟩
end Go.Proofs.YtodafbfhcgphpaaDoor
namespace Go.Proofs.YtodafbfhcgphpaaDoor
open Go.RowKit
set_option linter.unusedVariables false

mutual
/-- A key that is not too large reads as the contracts want it. -/
theorem kv_of {w : World} : ∀ (k : KT) (v : Value), KZ w k v → szT k ≤ 1048576 → KV w k v
  | .mk kd f t S ks, v, h, hs => by
    rw [KZ] at h
    rw [KV]
    rw [szT] at hs
    obtain ⟨AS, nS, cS, AK, nK, cK, h1, h2, h3, h4, h5, h6, h7, h8⟩ := h
    exact ⟨AS, nS, cS, AK, nK, cK, h1, h2, by omega, by omega, h5, h6, kvs_of ks 0 h8 (by omega)⟩
theorem kvs_of {w : World} {AK : Option Addr} : ∀ (ks : List KT) (i : Nat), KZs w AK i ks → szL ks ≤ 1048576 → KVs w AK i ks
  | [], i, h, _ => by rw [KVs]; trivial
  | k :: r, i, h, hs => by
    rw [KZs] at h
    rw [KVs]
    rw [szL] at hs
    obtain ⟨⟨b, o, v0, v1, v2, v3, v4, h1, h2, c0, c1, c2, c3, c4, h3⟩, h4⟩ := h
    exact ⟨⟨b, o, v0, v1, v2, v3, v4, h1, h2, c0, c1, c2, c3, c4, kv_of k _ h3 (by omega)⟩, kvs_of r (i + 1) h4 (by omega)⟩
end
mutual
theorem nodes_sz : ∀ k : KT, nodesT k ≤ szT k + 1
  | .mk kd f t S ks => by
    have := nodes_szL ks
    rw [nodesT, szT]
    omega
theorem nodes_szL : ∀ ks : List KT, nodesL ks ≤ szL ks + ks.length
  | [] => by rw [nodesL]; omega
  | k :: r => by
    have h1 := nodes_sz k
    have h2 := nodes_szL r
    rw [nodesL, szL, List.length_cons]
    omega
end
theorem szT_get : ∀ {ks : List KT} {i : Nat} {k : KT}, ks[i]? = some k → szT k ≤ szL ks
  | [], i, k, h => by simp at h
  | x :: r, 0, k, h => by cases h; rw [szL]; omega
  | x :: r, i + 1, k, h => by have := szT_get (ks := r) h; rw [szL]; omega
/-- What is in a key's row of nought. -/
def zR : KR := (0, 0, ⟨#[]⟩, (none, 0, 0), (none, 0, 0))
theorem gr_belowK {w w' : World} {row : Option Nat} (h : Below w.heap.size w w') : w.grownBy w' row := ⟨h.os, h.tape, h.output, h.size, fun b hb _ => h.block b hb⟩
theorem put_key {w : World} {B g n cap k : Nat} {L : List KR} {y : KR} (h : ROwn keyR w B (.slice (some ⟨g, 0, none⟩) n cap) L) (hy : L[k]? = some y) (x : KR) :
    ROwn keyR (((((w.setCell ⟨g, k * 5, none⟩ (.int .i64 x.1)).setCell ⟨g, k * 5 + 1, none⟩ (.int .i64 x.2.1)).setCell ⟨g, k * 5 + 2, none⟩ (.string x.2.2.1)).setCell ⟨g, k * 5 + 3, none⟩ (.slice x.2.2.2.1.1 x.2.2.2.1.2.1 x.2.2.2.1.2.2)).setCell ⟨g, k * 5 + 4, none⟩ (.slice x.2.2.2.2.1 x.2.2.2.2.2.1 x.2.2.2.2.2.2)) B (.slice (some ⟨g, 0, none⟩) n cap) (L.set k x) := by
  have hk : k < L.length := (List.getElem?_eq_some_iff.1 hy).1
  obtain ⟨y0, y1, y2, y3, y4⟩ := y
  obtain ⟨x0, x1, x2, x3, x4⟩ := x
  have h1 := (h.stored (y := (x0, y1, y2, y3, y4)) (j := 0) (u := .int .i64 x0) hy (by decide) rfl).1
  have h2 := (h1.stored (x := (x0, y1, y2, y3, y4)) (y := (x0, x1, y2, y3, y4)) (j := 1) (u := .int .i64 x1) (by rw [List.getElem?_set_self hk]) (by decide) rfl).1
  rw [List.set_set] at h2
  have h3 := (h2.stored (x := (x0, x1, y2, y3, y4)) (y := (x0, x1, x2, y3, y4)) (j := 2) (u := .string x2) (by rw [List.getElem?_set_self hk]) (by decide) rfl).1
  rw [List.set_set] at h3
  have h4 := (h3.stored (x := (x0, x1, x2, y3, y4)) (y := (x0, x1, x2, x3, y4)) (j := 3) (u := .slice x3.1 x3.2.1 x3.2.2) (by rw [List.getElem?_set_self hk]) (by decide) rfl).1
  rw [List.set_set] at h4
  have h5 := (h4.stored (x := (x0, x1, x2, x3, y4)) (y := (x0, x1, x2, x3, x4)) (j := 4) (u := .slice x4.1 x4.2.1 x4.2.2) (by rw [List.getElem?_set_self hk]) (by decide) rfl).1
  rw [List.set_set] at h5
  exact h5
theorem set_tailK {α : Type} {M : List α} {n k : Nat} {x z : α} (hm : M.length = k) (hk : k < n) : (M ++ List.replicate (n - k) z).set k x = (M ++ [x]) ++ List.replicate (n - (k + 1)) z := by
  obtain ⟨d, hd⟩ : ∃ d, n - k = d + 1 := ⟨n - k - 1, by omega⟩
  rw [hd, show n - (k + 1) = d by omega, List.replicate_succ, List.set_append_right k x (by omega), hm, Nat.sub_self, List.append_assoc]
  rfl
theorem takeK {α : Type} {L : List α} {k : Nat} {x : α} (h : L[k]? = some x) : L.take (k + 1) = L.take k ++ [x] := by rw [List.take_add_one, h]; rfl
/-- A key that was copied: its value, its memory in new blocks. -/
def ToK (w : World) (k : KT) (e : Ending) (w' : World) : Prop := ∃ r : KR, e = .returned (kval r) ∧ KA w.heap.size w'.heap.size w' k (kval r) ∧ Below w.heap.size w w'
set_option maxRecDepth 20000 in
set_option maxHeartbeats 8000000 in
theorem to_keys_step {n : Nat} (ih : ∀ (k : KT) (v : Value) (w1 : World), nodesT k ≤ n → szT k ≤ 1048576 → KV w1 k v → Calls Tryd.prog 13 #[v] w1 (ToK w1 k))
    {ks : List KT} (hks : ∀ k ∈ ks, nodesT k ≤ n) (hsz : ∀ k ∈ ks, szT k ≤ 1048576) {AK : Option Addr} {nK : Nat} (cK : Nat) (w : World) (h : KVs w AK 0 ks) (hn : ks.length = nK) (hm : nK ≤ 1048576) :
    Calls Tryd.prog 27 #[.slice AK nK cK] w fun e w' => ∃ g rs, e = .returned (.slice (some ⟨g, 0, none⟩) nK nK) ∧ ROwn keyR w' w.heap.size (.slice (some ⟨g, 0, none⟩) nK nK) rs ∧ KRs (KA w.heap.size w'.heap.size w') ks rs ∧ Below w.heap.size w w' := by
  obtain ⟨i0, hi, hq0, hq1, hq2⟩ := info_parts Tryd.infoKey
  have HIH := Lib.hid ih
  have HKS := Lib.hid h
  have HN := Lib.hid hn
  have HAL := Lib.hid hks
  have HSL := Lib.hid hsz
  clear ih h hn hks hsz
  have hb2 : i0.bytes * nK ≤ 281474976710656 := by rw [hq2]; omega
  have hb3 : nK ≤ maxLen := by unfold maxLen; omega
  go_enter Tryd.func27, Tryd.ntmps27
  go_wp2_with (at_make; refine wpList_make_full _ rfl _ _ 24 rfl w.heap.size 26 i0 (.agg #[.int .i64 0, .int .i64 0, .string ⟨#[]⟩, .slice none 0 0, .slice none 0 0]) 5 Tryd.underlying24 hi hq0 hq1 .i64 .i64 (nK : Int) (nK : Int) nK rfl rfl rfl rfl hb2 hb3 (Nat.le_refl _) ?_)
  intro w1 hown hgrow
  obtain ⟨N, hN⟩ : ∃ N, w.heap.size = N := ⟨_, rfl⟩
  have HNN := Lib.hid hN
  have HB1 : Hid (Below N w w1) := hN ▸ (Below.refl _ _).grown hgrow (Nat.le_refl _) (fun z hz => by cases hz)
  have ho1 : ROwn keyR w1 N (.slice (some ⟨N, 0, none⟩) nK nK) (List.replicate nK zR) := by
    unfold ROwn
    rw [List.length_replicate, ← made_rows keyR (.agg #[.int .i64 0, .int .i64 0, .string ⟨#[]⟩, .slice none 0 0, .slice none 0 0]) zR rfl (by decide), ← hN]
    exact hown
  have HO1 := Lib.hid ho1
  have hN1 : N + 1 ≤ w1.heap.size := by
    have := (World.ownsRow.lt ho1 N rfl).2
    omega
  rw [hN]
  clear hown hgrow ho1 hN
  go_wp2
  go_loopw [4] (fun i wr => ∃ (k : Nat) (rs : List KR), k ≤ nK ∧ i = .int .i64 (k : Int) ∧ N + 1 ≤ wr.heap.size ∧ Hid (rs.length = k) ∧ Hid (Below N w wr) ∧ Hid (KRs (KA (N + 1) wr.heap.size wr) (ks.take k) rs) ∧ Hid (ROwn keyR wr N (.slice (some ⟨N, 0, none⟩) nK nK) (rs ++ List.replicate (nK - k) zR))) (fun i _ => nK - (intOf i).toNat)
  case atStart => exact ⟨0, [], Nat.zero_le _, by go_num, hN1, rfl, HB1, rfl, by rw [List.nil_append, Nat.sub_zero]; exact HO1⟩
  case round =>
    obtain ⟨k, rs, hk, rfl, hNr, HL, HB, HK, HO⟩ := hrel
    by_cases hlt : k < nK
    · have h0 : (0 : Int) ≤ (k : Int) := by omega
      have h5 : (k : Int) < (nK : Int) := by omega
      obtain ⟨x, hx⟩ : ∃ x, ks[k]? = some x := ⟨_, List.getElem?_eq_getElem (by rw [HN.out]; exact hlt)⟩
      obtain ⟨b, o, v0, v1, v2, v3, v4, rfl, hbz, c0, c1, c2, c3, c4, hkv⟩ := (KVs.below HB.out (Nat.le_of_eq HNN.out) _ _ _ HKS.out).get hx
      rw [Nat.zero_add] at c0 c1 c2 c3 c4
      have HC := Lib.hid (HIH.out x _ wr (HAL.out x (List.mem_of_getElem? hx)) (HSL.out x (List.mem_of_getElem? hx)) hkv)
      have HTK := Lib.hid (takeK hx)
      clear hx hkv
      go_wp2_with fail
      refine HC.out.mono ?_
      rintro e w2 ⟨r, rfl, hka, hb⟩
      have HB2 := Lib.hid (HB.out.trans (hb.mono (Nat.le_trans (Nat.le_succ N) hNr)))
      have HO2 := Lib.hid (HO.out.kept hb)
      have hz2 := Nat.le_trans hNr hb.size
      have HK2 : Hid (KRs (KA (N + 1) w2.heap.size w2) (ks.take (k + 1)) (rs ++ [r])) := Lib.hid (by
        rw [HTK.out]
        exact KRs.push (KRs.imp (fun k' v' h' => (h'.grown (gr_belowK (row := none) hb) (fun g e => by cases e)).widen (Nat.le_refl _) hb.size) HK.out) (hka.widen hNr (Nat.le_refl _)))
      obtain ⟨y, hy⟩ : ∃ y, (rs ++ List.replicate (nK - k) zR)[k]? = some y := ⟨_, List.getElem?_eq_getElem (by rw [List.length_append, List.length_replicate, HL.out]; omega)⟩
      have d0 := HO2.out.cell hy (j := 0) rfl
      have d1 := HO2.out.cell hy (j := 1) rfl
      have d2 := HO2.out.cell hy (j := 2) rfl
      have d3 := HO2.out.cell hy (j := 3) rfl
      have d4 := HO2.out.cell hy (j := 4) rfl
      have f0 := HO2.out.free (k * 5)
      have f1 := HO2.out.free (k * 5 + 1)
      have f2 := HO2.out.free (k * 5 + 2)
      have f3 := HO2.out.free (k * 5 + 3)
      have f4 := HO2.out.free (k * 5 + 4)
      have hst := put_key HO2.out hy r
      obtain ⟨r0, r1, r2, ⟨r3, r4, r5⟩, ⟨r6, r7, r8⟩⟩ := r
      obtain ⟨ws, hws⟩ : ∃ z, (((((w2.setCell ⟨N, k * 5, none⟩ (.int .i64 r0)).setCell ⟨N, k * 5 + 1, none⟩ (.int .i64 r1)).setCell ⟨N, k * 5 + 2, none⟩ (.string r2)).setCell ⟨N, k * 5 + 3, none⟩ (.slice r3 r4 r5)).setCell ⟨N, k * 5 + 4, none⟩ (.slice r6 r7 r8)) = z := ⟨_, rfl⟩
      have hgs : w2.grownBy ws (some N) := by rw [← hws]; exact gr_one (gr_one (gr_one (gr_one (gr_one (gr_refl _ _) _ _) _ _) _ _) _ _) _ _
      have HST : Hid (ROwn keyR ws N (.slice (some ⟨N, 0, none⟩) nK nK) ((rs ++ [(r0, r1, r2, (r3, r4, r5), (r6, r7, r8))]) ++ List.replicate (nK - (k + 1)) zR)) := Lib.hid (by
        rw [← hws, ← set_tailK HL.out hlt]
        exact hst)
      have HBS : Hid (Below N w ws) := Lib.hid (HB2.out.grown hgs (by omega) (fun g e => by have := Option.some.inj e; omega))
      have HKS2 : Hid (KRs (KA (N + 1) ws.heap.size ws) (ks.take (k + 1)) (rs ++ [(r0, r1, r2, (r3, r4, r5), (r6, r7, r8))])) := Lib.hid (KRs.imp (fun k' v' h' => (h'.grown hgs (fun g e => by have := Option.some.inj e; omega)).widen (Nat.le_refl _) hgs.size) HK2.out)
      have HLS : Hid ((rs ++ [(r0, r1, r2, (r3, r4, r5), (r6, r7, r8))]).length = k + 1) := Lib.hid (by rw [List.length_append, HL.out]; rfl)
      have hzs : N + 1 ≤ ws.heap.size := Nat.le_trans hz2 hgs.size
      have HWS := Lib.hid hws
      simp only [keyR, Nat.add_zero] at d0 d1 d2 d3 d4
      clear hy hst hka hb hgs hws c0 c1 c2 c3 c4
      go_wp2
      try rw [HWS.out]
      go_roundw
      case rel => exact ⟨k + 1, _, by omega, by go_num, hzs, HLS, HBS, HKS2, HST⟩
      case measure => simp [intOf]; omega
    · have h5 : ¬ (k : Int) < (nK : Int) := by omega
      have hkn : k = nK := by omega
      have ho := HO.out
      have hkk := HK.out
      rw [hkn, Nat.sub_self, List.replicate_zero, List.append_nil] at ho
      rw [hkn, List.take_of_length_le (by rw [HN.out]; exact Nat.le_refl _)] at hkk
      have HOE := Lib.hid ho
      have HKE := Lib.hid (KRs.imp (fun k' v' h' => KA.widen h' (Nat.le_succ N) (Nat.le_refl _)) hkk)
      clear ho hkn hkk
      go_wp2
      go_ret
      exact ⟨N, rfl, rs, HNN.out ▸ HOE.out, HNN.out ▸ HKE.out, HNN.out ▸ HB.out⟩
set_option maxRecDepth 20000 in
set_option maxHeartbeats 4000000 in
theorem to_key_step {n : Nat} (ih : ∀ (k : KT) (v : Value) (w1 : World), nodesT k ≤ n → szT k ≤ 1048576 → KV w1 k v → Calls Tryd.prog 13 #[v] w1 (ToK w1 k))
    {kd f : Int} {t : ByteArray} {S : List (Int × Int)} {ks : List KT} {v : Value} (hks : ∀ k ∈ ks, nodesT k ≤ n) (hsz : szT (.mk kd f t S ks) ≤ 1048576) (w : World) (h : KV w (.mk kd f t S ks) v) :
    Calls Tryd.prog 13 #[v] w (ToK w (.mk kd f t S ks)) := by
  obtain ⟨AS, nS, cS, AK, nK, cK, rfl, h2, h3, h4, h5, h6, h7⟩ := h.open
  rw [szT] at hsz
  have hnS : nS ≤ 1048576 := by omega
  have hnK : nK ≤ 1048576 := by omega
  have hsk : ∀ k ∈ ks, szT k ≤ 1048576 := fun k hk => by
    obtain ⟨i, hi⟩ := List.mem_iff_getElem?.1 hk
    have := szT_get hi
    omega
  have HIH := Lib.hid ih
  have HKS := Lib.hid hks
  have HSK := Lib.hid hsk
  have HL := Lib.hid h2
  have HT := Lib.hid h4
  have HLK := Lib.hid h6
  obtain ⟨B, hB⟩ : ∃ B, w.heap.size = B := ⟨_, rfl⟩
  have HBB := Lib.hid hB
  obtain ⟨wq, hwq⟩ : ∃ wq, (((w.alloc (.cells #[.int .i64 kd, .int .i64 f, .string t, .slice AS nS cS, .slice AK nK cK] 36)).alloc (.cells #[.int .i64 0, .int .i64 0, .string ⟨#[]⟩, .slice none 0 0, .slice none 0 0] 26)).alloc (.cells #[.int .i64 kd, .int .i64 f, .string t, .slice none 0 0, .slice none 0 0] 26)) = wq := ⟨_, rfl⟩
  have HBA : Hid (Below B w wq) := Lib.hid (by rw [← hwq, ← hB]; exact (((Below.refl _ _).alloc (Nat.le_refl _) _).alloc (by simp) _).alloc (by simp; omega) _)
  have HW0 : Hid (Whole wq B 36 #[.int .i64 kd, .int .i64 f, .string t, .slice AS nS cS, .slice AK nK cK]) := Lib.hid (by
    rw [← hwq, ← hB]
    exact ((Whole.made w _ _).alloc _).alloc _)
  have HW1 : Hid (Whole wq (B + 1) 26 #[.int .i64 0, .int .i64 0, .string ⟨#[]⟩, .slice none 0 0, .slice none 0 0]) := Lib.hid (by
    rw [← hwq, ← hB]
    have h2 := Whole.made (w.alloc (.cells #[.int .i64 kd, .int .i64 f, .string t, .slice AS nS cS, .slice AK nK cK] 36)) 26 #[.int .i64 0, .int .i64 0, .string ⟨#[]⟩, .slice none 0 0, .slice none 0 0]
    rw [show (w.alloc (.cells #[.int .i64 kd, .int .i64 f, .string t, .slice AS nS cS, .slice AK nK cK] 36)).heap.size = w.heap.size + 1 by simp] at h2
    exact h2.alloc _)
  have HW2 : Hid (Whole wq (B + 1 + 1) 26 #[.int .i64 kd, .int .i64 f, .string t, .slice none 0 0, .slice none 0 0]) := Lib.hid (by
    rw [← hwq, ← hB]
    have h2 := Whole.made ((w.alloc (.cells #[.int .i64 kd, .int .i64 f, .string t, .slice AS nS cS, .slice AK nK cK] 36)).alloc (.cells #[.int .i64 0, .int .i64 0, .string ⟨#[]⟩, .slice none 0 0, .slice none 0 0] 26)) 26 #[.int .i64 kd, .int .i64 f, .string t, .slice none 0 0, .slice none 0 0]
    rw [show ((w.alloc (.cells #[.int .i64 kd, .int .i64 f, .string t, .slice AS nS cS, .slice AK nK cK] 36)).alloc (.cells #[.int .i64 0, .int .i64 0, .string ⟨#[]⟩, .slice none 0 0, .slice none 0 0] 26)).heap.size = w.heap.size + 1 + 1 by simp] at h2
    exact h2)
  have hzq : B + 1 + 1 < wq.heap.size := HW2.out.lt
  have HA := Lib.hid (h5.below HBA.out (Nat.le_of_eq hB))
  have HQ := Lib.hid h7
  clear h h2 h3 h4 h5 h6 h7 hsz hsk hks ih
  have c0 := HW0.out.cell 0
  have c1 := HW0.out.cell 1
  have c2 := HW0.out.cell 2
  have c3 := HW0.out.cell 3
  have c4 := HW0.out.cell 4
  simp at c0 c1 c2 c3 c4
  have HWQ := Lib.hid hwq
  go_enter Tryd.func13, Tryd.ntmps13
  go_wp2_with fail
  clear hwq
  refine (to_spans AS cS nS S wq HL.out HA.out hnS).mono ?_
  rintro e w2 ⟨g, rfl, hown, hb⟩
  have hgz : wq.heap.size ≤ g := (World.ownsRow.lt hown g rfl).1
  have HB2 := Lib.hid (HBA.out.trans (hb.mono (show B ≤ wq.heap.size by omega)))
  have HV0 := Lib.hid (HW0.out.below hb HW0.out.lt)
  have HV1 := Lib.hid (HW1.out.below hb HW1.out.lt)
  have HV2 := Lib.hid (HW2.out.below hb HW2.out.lt)
  have hz2 : wq.heap.size ≤ w2.heap.size := hb.size
  obtain ⟨w3, hw3⟩ : ∃ z, w2.setCell ⟨B + 1 + 1, 3, none⟩ (.slice (some ⟨g, 0, none⟩) nS nS) = z := ⟨_, rfl⟩
  have hg3 : w2.grownBy w3 (some (B + 1 + 1)) := by rw [← hw3]; exact gr_one (gr_refl _ _) _ _
  have HO3 : Hid (Own w3 wq.heap.size (.slice (some ⟨g, 0, none⟩) nS nS) S) := Lib.hid (World.ownsRow.kept hown hg3 (.inr (fun e => by have := Option.some.inj (show some g = some (B + 1 + 1) from e); omega)))
  have HU0 := Lib.hid (HV0.out.grown hg3 (fun e => by have := Option.some.inj e; omega))
  have HU1 := Lib.hid (HV1.out.grown hg3 (fun e => by have := Option.some.inj e; omega))
  have HU2 : Hid (Whole w3 (B + 1 + 1) 26 #[.int .i64 kd, .int .i64 f, .string t, .slice (some ⟨g, 0, none⟩) nS nS, .slice none 0 0]) := Lib.hid (by rw [← hw3]; exact HV2.out.store 3 _)
  have HB3 := Lib.hid (HB2.out.grown hg3 (by omega) (fun k e => by have := Option.some.inj e; omega))
  have HW3 := Lib.hid hw3
  have b3 := HV2.out.cell 3
  have e3 := HV2.out.free 3
  have hz3 : wq.heap.size ≤ w3.heap.size := Nat.le_trans hz2 hg3.size
  have q0 := HU0.out.cell 4
  simp at b3 q0
  clear hown hb hg3 c0 c1 c2 c3 c4
  go_wp2_with fail
  try rw [HW3.out]
  clear hw3
  refine (to_keys_step HIH.out HKS.out HSK.out cK w3 (KVs.below HB3.out (Nat.le_of_eq HBB.out) _ _ _ HQ.out) HLK.out hnK).mono ?_
  rintro e w4 ⟨g2, rs, rfl, hok, hkr, hb⟩
  have hg2 : w3.heap.size ≤ g2 := (World.ownsRow.lt hok g2 rfl).1
  have HO4 := Lib.hid (HO3.out.kept hb)
  have HB4 := Lib.hid (HB3.out.trans (hb.mono (show B ≤ w3.heap.size by omega)))
  have HX0 := Lib.hid (HU0.out.below hb HU0.out.lt)
  have HX1 := Lib.hid (HU1.out.below hb HU1.out.lt)
  have HX2 := Lib.hid (HU2.out.below hb HU2.out.lt)
  have hz4 : w3.heap.size ≤ w4.heap.size := hb.size
  obtain ⟨w5, hw5⟩ : ∃ z, w4.setCell ⟨B + 1 + 1, 4, none⟩ (.slice (some ⟨g2, 0, none⟩) nK nK) = z := ⟨_, rfl⟩
  have hg5 : w4.grownBy w5 (some (B + 1 + 1)) := by rw [← hw5]; exact gr_one (gr_refl _ _) _ _
  obtain ⟨w6, hw6⟩ : ∃ z, (((((w5.setCell ⟨B + 1, 0, none⟩ (.int .i64 kd)).setCell ⟨B + 1, 1, none⟩ (.int .i64 f)).setCell ⟨B + 1, 2, none⟩ (.string t)).setCell ⟨B + 1, 3, none⟩ (.slice (some ⟨g, 0, none⟩) nS nS)).setCell ⟨B + 1, 4, none⟩ (.slice (some ⟨g2, 0, none⟩) nK nK)) = z := ⟨_, rfl⟩
  have hg6 : w5.grownBy w6 (some (B + 1)) := by rw [← hw6]; exact gr_one (gr_one (gr_one (gr_one (gr_one (gr_refl _ _) _ _) _ _) _ _) _ _) _ _
  have HO6 : Hid (Own w6 wq.heap.size (.slice (some ⟨g, 0, none⟩) nS nS) S) := Lib.hid (World.ownsRow.kept (World.ownsRow.kept HO4.out hg5 (.inr (fun e => by have := Option.some.inj (show some g = some (B + 1 + 1) from e); omega))) hg6 (.inr (fun e => by have := Option.some.inj (show some g = some (B + 1) from e); omega)))
  have HR6 : Hid (ROwn keyR w6 w3.heap.size (.slice (some ⟨g2, 0, none⟩) nK nK) rs) := Lib.hid ((hok.apart hg5 (.inr (fun e => by have := Option.some.inj (show some g2 = some (B + 1 + 1) from e); omega))).apart hg6 (.inr (fun e => by have := Option.some.inj (show some g2 = some (B + 1) from e); omega)))
  have HK6 : Hid (KRs (KA B w6.heap.size w6) ks rs) := Lib.hid (KRs.imp (fun k' v' h' => ((h'.grown hg5 (fun g' e => by have := Option.some.inj e; omega)).grown hg6 (fun g' e => by have := Option.some.inj e; omega)).widen (by omega) (Nat.le_trans hg5.size hg6.size)) hkr)
  have HB6 := Lib.hid ((HB4.out.grown hg5 (by omega) (fun k e => by have := Option.some.inj e; omega)).grown hg6 (by have := hg5.size; omega) (fun k e => by have := Option.some.inj e; omega))
  have HY2 := Lib.hid (HX2.out.store 4 (.slice (some ⟨g2, 0, none⟩) nK nK))
  have HY1 := Lib.hid (HX1.out.grown hg5 (fun e => by have := Option.some.inj e; omega))
  rw [hw5] at HY2
  have x0 := HX2.out.cell 4
  have y0 := HX2.out.free 4
  have u0 := HY2.out.cell 0
  have u1 := HY2.out.cell 1
  have u2 := HY2.out.cell 2
  have u3 := HY2.out.cell 3
  have u4 := HY2.out.cell 4
  have j0 := HY1.out.cell 0
  have j1 := HY1.out.cell 1
  have j2 := HY1.out.cell 2
  have j3 := HY1.out.cell 3
  have j4 := HY1.out.cell 4
  have l0 := HY1.out.free 0
  have l1 := HY1.out.free 1
  have l2 := HY1.out.free 2
  have l3 := HY1.out.free 3
  have l4 := HY1.out.free 4
  simp at x0 u0 u1 u2 u3 u4 j0 j1 j2 j3 j4
  have HFIN : Hid (KA w.heap.size w6.heap.size w6 (.mk kd f t S ks) (kval (kd, f, t, (some ⟨g, 0, none⟩, nS, nS), (some ⟨g2, 0, none⟩, nK, nK)))) := Lib.hid (by
    rw [HBB.out]
    unfold KA
    rw [KV]
    exact ⟨_, _, _, _, _, _, rfl, HL.out, (show nS ≤ 33554432 by omega), HT.out, spa_own HO6.out (by omega), HLK.out, kvs_own HR6.out (by omega) HK6.out (Nat.le_refl _)⟩)
  have HB7 : Hid (Below w.heap.size w w6) := Lib.hid (by rw [HBB.out]; exact HB6.out)
  have HW5 := Lib.hid hw5
  have HW6 := Lib.hid hw6
  have hz1 := ((((HY1.out.store 0 (.int .i64 kd)).store 1 (.int .i64 f)).store 2 (.string t)).store 3 (.slice (some ⟨g, 0, none⟩) nS nS)).store 4 (.slice (some ⟨g2, 0, none⟩) nK nK)
  rw [hw6] at hz1
  have r0 := hz1.cell 0
  have r1 := hz1.cell 1
  have r2 := hz1.cell 2
  have r3 := hz1.cell 3
  have r4 := hz1.cell 4
  simp at r0 r1 r2 r3 r4
  clear hok hkr hb hg5 hg6 hw6 hz1 b3 e3 q0
  go_wp2
  try rw [HW6.out]
  refine bodyPost_ret (v := .agg #[.int .i64 kd, .int .i64 f, .string t, .slice (some ⟨g, 0, none⟩) nS nS, .slice (some ⟨g2, 0, none⟩) nK nK]) (by simp [results, Tryd.results13, go_sem, *]) rfl ?_
  exact ⟨(kd, f, t, (some ⟨g, 0, none⟩, nS, nS), (some ⟨g2, 0, none⟩, nK, nK)), rfl, HFIN.out, HB7.out⟩
theorem nodes_mem {ks : List KT} {n : Nat} (h : nodesL ks ≤ n) : ∀ k ∈ ks, nodesT k ≤ n := fun k hk => by
  obtain ⟨i, hi⟩ := List.mem_iff_getElem?.1 hk
  have := nodesL_lt hi
  omega
theorem to_key : ∀ (n : Nat) (k : KT) (v : Value) (w : World), nodesT k ≤ n → szT k ≤ 1048576 → KV w k v → Calls Tryd.prog 13 #[v] w (ToK w k)
  | 0, k, v, w, hn, _, _ => by have := nodesT_pos k; omega
  | n + 1, .mk kd f t S ks, v, w, hn, hs, h => by
    rw [nodesT] at hn
    exact to_key_step (n := n) (fun k' v' w1 h1 h2 h3 => to_key n k' v' w1 h1 h2 h3) (nodes_mem (by omega)) hs w h
set_option maxRecDepth 20000 in
set_option maxHeartbeats 8000000 in
theorem eq_keys_step {n : Nat} (ih : ∀ (k : KT) (v1 v2 : Value) (w1 : World), nodesT k ≤ n → KV w1 k v1 → KV w1 k v2 → Calls Tryd.prog 15 #[v1, v2] w1 fun e w' => e = .returned (.bool true) ∧ Below w1.heap.size w1 w')
    {ks : List KT} (hks : ∀ k ∈ ks, nodesT k ≤ n) {AK AL : Option Addr} {nK : Nat} (cK cL : Nat) (w : World) (h : KVs w AK 0 ks) (h2 : KVs w AL 0 ks) (hn : ks.length = nK) (hm : nK ≤ 33554432) :
    Calls Tryd.prog 29 #[.slice AK nK cK, .slice AL nK cL] w fun e w' => e = .returned (.bool true) ∧ Below w.heap.size w w' := by
  have HIH := Lib.hid ih
  have HKS := Lib.hid h
  have HLS := Lib.hid h2
  have HN := Lib.hid hn
  have HAL := Lib.hid hks
  have hnn : ((nK : Int) != (nK : Int)) = false := by simp
  clear ih h h2 hn hks
  go_enter Tryd.func29, Tryd.ntmps29
  go_wp2
  go_loopw [5] (fun i wr => ∃ k : Nat, k ≤ nK ∧ i = .int .i64 (k : Int) ∧ Hid (Below w.heap.size w wr)) (fun i _ => nK - (intOf i).toNat)
  case atStart => exact ⟨0, Nat.zero_le _, by go_num, Below.refl _ _⟩
  case round =>
    obtain ⟨k, hk, rfl, HB⟩ := hrel
    by_cases hlt : k < nK
    · have h0 : (0 : Int) ≤ (k : Int) := by omega
      have h5 : (k : Int) < (nK : Int) := by omega
      obtain ⟨x, hx⟩ : ∃ x, ks[k]? = some x := ⟨_, List.getElem?_eq_getElem (by rw [HN.out]; exact hlt)⟩
      have HBD : Hid (Below w.heap.size w wr.drew) := Lib.hid HB.out.drew
      obtain ⟨wd, hwd⟩ : ∃ z, wr.drew = z := ⟨_, rfl⟩
      rw [hwd] at HBD
      obtain ⟨b, o, v0, v1, v2, v3, v4, rfl, hbz, c0, c1, c2, c3, c4, hkv⟩ := (KVs.below HBD.out (Nat.le_refl _) _ _ _ HKS.out).get hx
      obtain ⟨b', o', u0, u1, u2, u3, u4, rfl, hbz', d0, d1, d2, d3, d4, hkv'⟩ := (KVs.below HBD.out (Nat.le_refl _) _ _ _ HLS.out).get hx
      rw [Nat.zero_add] at c0 c1 c2 c3 c4 d0 d1 d2 d3 d4
      have HC := Lib.hid (HIH.out x _ _ wd (HAL.out x (List.mem_of_getElem? hx)) hkv hkv')
      have HWD := Lib.hid hwd
      have HBZ := Lib.hid (And.intro hbz hbz')
      clear hx hkv hkv' hbz hbz' hwd
      go_upto_region 6 with fail
      refine wp_region_late (fun w' => w'.cell? ⟨b, o + k * 5, none⟩ = some v0 ∧ w'.cell? ⟨b, o + k * 5 + 1, none⟩ = some v1 ∧ w'.cell? ⟨b, o + k * 5 + 2, none⟩ = some v2 ∧ w'.cell? ⟨b, o + k * 5 + 3, none⟩ = some v3 ∧ w'.cell? ⟨b, o + k * 5 + 4, none⟩ = some v4 ∧ w'.cell? ⟨b', o' + k * 5, none⟩ = some u0 ∧ w'.cell? ⟨b', o' + k * 5 + 1, none⟩ = some u1 ∧ w'.cell? ⟨b', o' + k * 5 + 2, none⟩ = some u2 ∧ w'.cell? ⟨b', o' + k * 5 + 3, none⟩ = some u3 ∧ w'.cell? ⟨b', o' + k * 5 + 4, none⟩ = some u4) 9 (by kernel_rfl) ?_
      rw [HWD.out]
      refine wpLate_take (i := 0) (v := ?v0) rfl (by kernel_rfl) (by kernel_rfl) (by kernel_rfl) (by kernel_rfl) (by kernel_rfl) (fun _ _ _ h => h) ⟨c0, c1, c2, c3, c4, d0, d1, d2, d3, d4⟩ (by rfl) ?hy0 ?r0
      case hy0 =>
        rintro wz ⟨z0, z1, z2, z3, z4, z5, z6, z7, z8, z9⟩
        go_simp
        try with_reducible rfl
      try simp only [Act.put]
      refine wpLate_take (i := 1) (v := ?v1) rfl (by kernel_rfl) (by kernel_rfl) (by kernel_rfl) (by kernel_rfl) (by kernel_rfl) (fun _ _ _ h => h) ⟨c0, c1, c2, c3, c4, d0, d1, d2, d3, d4⟩ (by rfl) ?hy1 ?r1
      case hy1 =>
        rintro wz ⟨z0, z1, z2, z3, z4, z5, z6, z7, z8, z9⟩
        go_simp
        try with_reducible rfl
      try simp only [Act.put]
      refine wpLate_take (i := 2) (v := ?v2) rfl (by kernel_rfl) (by kernel_rfl) (by kernel_rfl) (by kernel_rfl) (by kernel_rfl) (fun _ _ _ h => h) ⟨c0, c1, c2, c3, c4, d0, d1, d2, d3, d4⟩ (by rfl) ?hy2 ?r2
      case hy2 =>
        rintro wz ⟨z0, z1, z2, z3, z4, z5, z6, z7, z8, z9⟩
        go_simp
        try with_reducible rfl
      try simp only [Act.put]
      refine wpLate_take (i := 3) (v := ?v3) rfl (by kernel_rfl) (by kernel_rfl) (by kernel_rfl) (by kernel_rfl) (by kernel_rfl) (fun _ _ _ h => h) ⟨c0, c1, c2, c3, c4, d0, d1, d2, d3, d4⟩ (by rfl) ?hy3 ?r3
      case hy3 =>
        rintro wz ⟨z0, z1, z2, z3, z4, z5, z6, z7, z8, z9⟩
        go_simp
        try with_reducible rfl
      try simp only [Act.put]
      refine wpLate_take (i := 4) (v := ?v4) rfl (by kernel_rfl) (by kernel_rfl) (by kernel_rfl) (by kernel_rfl) (by kernel_rfl) (fun _ _ _ h => h) ⟨c0, c1, c2, c3, c4, d0, d1, d2, d3, d4⟩ (by rfl) ?hy4 ?r4
      case hy4 =>
        rintro wz ⟨z0, z1, z2, z3, z4, z5, z6, z7, z8, z9⟩
        go_simp
        try with_reducible rfl
      try simp only [Act.put]
      refine wpLate_take (i := 5) (v := ?v5) rfl (by kernel_rfl) (by kernel_rfl) (by kernel_rfl) (by kernel_rfl) (by kernel_rfl) (fun _ _ _ h => h) ⟨c0, c1, c2, c3, c4, d0, d1, d2, d3, d4⟩ (by rfl) ?hy5 ?r5
      case hy5 =>
        rintro wz ⟨z0, z1, z2, z3, z4, z5, z6, z7, z8, z9⟩
        go_simp
        try with_reducible rfl
      try simp only [Act.put]
      refine wpLate_take (i := 6) (v := ?v6) rfl (by kernel_rfl) (by kernel_rfl) (by kernel_rfl) (by kernel_rfl) (by kernel_rfl) (fun _ _ _ h => h) ⟨c0, c1, c2, c3, c4, d0, d1, d2, d3, d4⟩ (by rfl) ?hy6 ?r6
      case hy6 =>
        rintro wz ⟨z0, z1, z2, z3, z4, z5, z6, z7, z8, z9⟩
        go_simp
        try with_reducible rfl
      try simp only [Act.put]
      refine wpLate_take (i := 7) (v := ?v7) rfl (by kernel_rfl) (by kernel_rfl) (by kernel_rfl) (by kernel_rfl) (by kernel_rfl) (fun _ _ _ h => h) ⟨c0, c1, c2, c3, c4, d0, d1, d2, d3, d4⟩ (by rfl) ?hy7 ?r7
      case hy7 =>
        rintro wz ⟨z0, z1, z2, z3, z4, z5, z6, z7, z8, z9⟩
        go_simp
        try with_reducible rfl
      try simp only [Act.put]
      refine wpLate_one (i := 8) (by kernel_rfl) rfl (fun K hK => ?_)
      go_simp
      refine HC.out.mono ?_
      rintro e w3 ⟨rfl, hb⟩
      refine hK.out _ _ (fun _ => ⟨(hb.cell (p := ⟨b, o + k * 5, none⟩) HBZ.out.1).trans c0, (hb.cell (p := ⟨b, o + k * 5 + 1, none⟩) HBZ.out.1).trans c1, (hb.cell (p := ⟨b, o + k * 5 + 2, none⟩) HBZ.out.1).trans c2, (hb.cell (p := ⟨b, o + k * 5 + 3, none⟩) HBZ.out.1).trans c3, (hb.cell (p := ⟨b, o + k * 5 + 4, none⟩) HBZ.out.1).trans c4, (hb.cell (p := ⟨b', o' + k * 5, none⟩) HBZ.out.2).trans d0, (hb.cell (p := ⟨b', o' + k * 5 + 1, none⟩) HBZ.out.2).trans d1, (hb.cell (p := ⟨b', o' + k * 5 + 2, none⟩) HBZ.out.2).trans d2, (hb.cell (p := ⟨b', o' + k * 5 + 3, none⟩) HBZ.out.2).trans d3, (hb.cell (p := ⟨b', o' + k * 5 + 4, none⟩) HBZ.out.2).trans d4⟩) ?_
      clear hK K
      try simp only [Act.put]
      refine wpLate_one (i := 9) (by kernel_rfl) rfl (fun K hK => ?_)
      go_simp
      refine hK.out _ _ (fun h => absurd rfl h) ?_
      clear hK K
      try simp only [Act.put]
      refine wpLate_done (by kernel_rfl) ?_ _
      have HBE := Lib.hid (HBD.out.trans (hb.mono HBD.out.size))
      clear hb c0 c1 c2 c3 c4 d0 d1 d2 d3 d4
      go_wp2
      go_roundw
      case rel => exact ⟨k + 1, by omega, by go_num, HBE⟩
      case measure => simp [intOf]; omega
    · have h5 : ¬ (k : Int) < (nK : Int) := by omega
      go_wp2
      go_ret
      exact ⟨rfl, HB.out⟩
set_option maxRecDepth 20000 in
set_option maxHeartbeats 4000000 in
theorem eq_key_step {n : Nat} (ih : ∀ (k : KT) (v1 v2 : Value) (w1 : World), nodesT k ≤ n → KV w1 k v1 → KV w1 k v2 → Calls Tryd.prog 15 #[v1, v2] w1 fun e w' => e = .returned (.bool true) ∧ Below w1.heap.size w1 w')
    {kd f : Int} {t : ByteArray} {S : List (Int × Int)} {ks : List KT} {v1 v2 : Value} (hks : ∀ k ∈ ks, nodesT k ≤ n) (hm : ks.length ≤ 33554432) (w : World) (h : KV w (.mk kd f t S ks) v1) (h2 : KV w (.mk kd f t S ks) v2) :
    Calls Tryd.prog 15 #[v1, v2] w fun e w' => e = .returned (.bool true) ∧ Below w.heap.size w w' := by
  obtain ⟨AS, nS, cS, AK, nK, cK, rfl, a2, a3, a4, a5, a6, a7⟩ := h.open
  obtain ⟨AT, nT, cT, AL, nL, cL, rfl, b2, b3, b4, b5, b6, b7⟩ := h2.open
  obtain rfl : nS = nT := a2.symm.trans b2
  obtain rfl : nK = nL := a6.symm.trans b6
  have hnK : nK ≤ 33554432 := by omega
  have hkd : (kd != kd) = false := by simp
  have hff : (f != f) = false := by simp
  have HIH := Lib.hid ih
  have HKS := Lib.hid hks
  have HL := Lib.hid a2
  have HLK := Lib.hid a6
  obtain ⟨B, hB⟩ : ∃ B, w.heap.size = B := ⟨_, rfl⟩
  obtain ⟨wq, hwq⟩ : ∃ wq, ((w.alloc (.cells #[.int .i64 kd, .int .i64 f, .string t, .slice AS nS cS, .slice AK nK cK] 26)).alloc (.cells #[.int .i64 kd, .int .i64 f, .string t, .slice AT nS cT, .slice AL nK cL] 26)) = wq := ⟨_, rfl⟩
  have e1 : (w.alloc (.cells #[.int .i64 kd, .int .i64 f, .string t, .slice AS nS cS, .slice AK nK cK] 26)).heap.size = B + 1 := by simp [hB]
  have HBA : Hid (Below w.heap.size w wq) := Lib.hid (by rw [← hwq]; exact ((Below.refl w.heap.size w).alloc (Nat.le_refl _) _).alloc (by simp) _)
  have HW0 : Hid (Whole wq B 26 #[.int .i64 kd, .int .i64 f, .string t, .slice AS nS cS, .slice AK nK cK]) := Lib.hid (by rw [← hwq, ← hB]; exact (Whole.made w _ _).alloc _)
  have HW1 : Hid (Whole wq (B + 1) 26 #[.int .i64 kd, .int .i64 f, .string t, .slice AT nS cT, .slice AL nK cL]) := Lib.hid (by rw [← hwq, ← e1]; exact Whole.made _ _ _)
  have HA := Lib.hid (a5.below HBA.out (Nat.le_refl _))
  have HA2 := Lib.hid (b5.below HBA.out (Nat.le_refl _))
  have HQ := Lib.hid (KVs.below HBA.out (Nat.le_refl _) _ _ _ a7)
  have HQ2 := Lib.hid (KVs.below HBA.out (Nat.le_refl _) _ _ _ b7)
  have HBB := Lib.hid hB
  have HWQ := Lib.hid hwq
  clear h h2 a2 a4 a5 a6 a7 b2 b3 b4 b5 b6 b7 hks ih e1 hB hwq
  have c0 := HW0.out.cell 0
  have c1 := HW0.out.cell 1
  have c2 := HW0.out.cell 2
  have c3 := HW0.out.cell 3
  have d0 := HW1.out.cell 0
  have d1 := HW1.out.cell 1
  have d2 := HW1.out.cell 2
  have d3 := HW1.out.cell 3
  simp only [List.getElem?_toArray, List.getElem?_cons_zero, List.getElem?_cons_succ] at c0 c1 c2 c3 d0 d1 d2 d3
  go_enter Tryd.func15, Tryd.ntmps15
  go_wp2_with fail
  rw [HBB.out, HWQ.out]
  go_wp2_with fail
  have HE := eq_spans AS AT cS cT S S wq HA.out HA2.out (by rw [HL.out]; exact a3) (by rw [HL.out]; exact a3)
  rw [decide_eq_true (rfl : S = S), HL.out] at HE
  refine HE.mono ?_
  rintro e w2 ⟨rfl, hb⟩
  have HB2 := Lib.hid (HBA.out.trans (hb.mono HBA.out.size))
  have HV0 := Lib.hid (HW0.out.below hb HW0.out.lt)
  have HV1 := Lib.hid (HW1.out.below hb HW1.out.lt)
  have HP := Lib.hid (KVs.below hb (Nat.le_refl _) _ _ _ HQ.out)
  have HP2 := Lib.hid (KVs.below hb (Nat.le_refl _) _ _ _ HQ2.out)
  clear hb c0 c1 c2 c3 d0 d1 d2 d3 HE
  have c4 := HV0.out.cell 4
  have d4 := HV1.out.cell 4
  simp only [List.getElem?_toArray, List.getElem?_cons_zero, List.getElem?_cons_succ] at c4 d4
  go_wp2_with fail
  refine (eq_keys_step HIH.out HKS.out cK cL w2 HP.out HP2.out HLK.out hnK).mono ?_
  rintro e w3 ⟨rfl, hb⟩
  have HB3 := Lib.hid (HB2.out.trans (hb.mono HB2.out.size))
  clear hb
  go_wp2
  go_ret
  exact ⟨rfl, HB3.out⟩
theorem eq_key : ∀ (n : Nat) (k : KT) (v1 v2 : Value) (w : World), nodesT k ≤ n → n ≤ 33554432 → KV w k v1 → KV w k v2 → Calls Tryd.prog 15 #[v1, v2] w fun e w' => e = .returned (.bool true) ∧ Below w.heap.size w w'
  | 0, k, v1, v2, w, hn, _, _, _ => by have := nodesT_pos k; omega
  | n + 1, .mk kd f t S ks, v1, v2, w, hn, hm, h, h2 => by
    rw [nodesT] at hn
    have hl := nodesL_len ks
    exact eq_key_step (n := n) (fun k' u1 u2 w1 h1 h3 h4 => eq_key n k' u1 u2 w1 h1 (by omega) h3 h4) (nodes_mem (by omega)) (by omega) w h h2
end Go.Proofs.YtodafbfhcgphpaaDoor
