/-
  My texts Hq, Smark, Km in one, so that a claim holds fewer files. Conditions: each contract's own.
-/
import Derived.Test.YtpihibconbejlaaDoorQe
import Derived.Deep.RegionLaw
import Derived.Deep.LoopGhost
import Derived.Outline
import Derived.WalkSpells
import Derived.Deep.WholeRow
import Derived.Deep.MidRow
import Derived.Lib.IndexLaws
import Derived.Lib.IndexMore
namespace Go.Proofs.YtpihibconbejlaaDoor
open Go.RowKit
set_option linter.unusedVariables false

/-- The greatest number of ascending messages behind 'l', if they are so, as the code reads it. -/
def chc : Int → List ML → Option Int
  | l, [] => some l
  | l, m :: r => if decide (l < m.1) && (isF m.2.1 && decide (m.2.2.length ≤ 20)) then chc m.1 r else none
theorem chc_some : ∀ {L : List ML} {l z : Int}, chc l L = some z → (∀ m ∈ L, isF m.2.1 = true ∧ m.2.2.length ≤ 20 ∧ l < m.1 ∧ m.1 ≤ z) ∧ Asc L ∧ l ≤ z ∧ (z = l ∨ ∃ m ∈ L, m.1 = z)
  | [], l, z, h => by
    rw [chc] at h
    cases h
    exact ⟨fun m hm => (by cases hm), List.Pairwise.nil, Int.le_refl _, .inl rfl⟩
  | x :: L, l, z, h => by
    rw [chc] at h
    split at h
    · rename_i hx
      rw [Bool.and_eq_true, Bool.and_eq_true, decide_eq_true_eq, decide_eq_true_eq] at hx
      obtain ⟨h1, h2, h3, h4⟩ := chc_some h
      refine ⟨fun m hm => ?_, ?_, by omega, ?_⟩
      · rcases List.mem_cons.1 hm with rfl | hm
        · exact ⟨hx.2.1, hx.2.2, hx.1, h3⟩
        · have := h1 m hm
          exact ⟨this.1, this.2.1, by omega, this.2.2.2⟩
      · exact .cons (fun m hm => (h1 m hm).2.2.1) h2
      · rcases h4 with rfl | ⟨m, hm, e⟩
        · exact .inr ⟨x, by simp, rfl⟩
        · exact .inr ⟨m, by simp [hm], e⟩
    · cases h
theorem chc_of : ∀ {L : List ML} {l : Int}, (∀ m ∈ L, isF m.2.1 = true ∧ m.2.2.length ≤ 20 ∧ l < m.1) → Asc L → ∃ z, chc l L = some z
  | [], l, _, _ => ⟨l, rfl⟩
  | x :: L, l, h, ha => by
    have hx := h x (by simp)
    rw [chc, if_pos (by rw [hx.1, decide_eq_true hx.2.1, decide_eq_true hx.2.2]; rfl)]
    cases ha with
    | cons h1 h2 => exact chc_of (fun m hm => ⟨(h m (by simp [hm])).1, (h m (by simp [hm])).2.1, h1 m hm⟩) h2
theorem chc_bok {n z : Int} {L : List ML} (h : chc 0 L = some z) (hn : n ≤ 100) (hl : L.length ≤ 10) : bOk n L = decide (z < n) := by
  obtain ⟨h1, h2, h3, h4⟩ := chc_some h
  by_cases hz : z < n
  · rw [decide_eq_true hz]
    exact bOk_iff.2 ⟨fun m hm => by
      have := h1 m hm
      exact ⟨mOk_iff.2 ⟨⟨by omega, by omega⟩, this.1, this.2.1⟩, by omega⟩, h2, by omega, hn, hl⟩
  · rw [decide_eq_false hz, ← Bool.not_eq_true]
    intro hb
    obtain ⟨k1, _, k3, _⟩ := bOk_iff.1 hb
    rcases h4 with rfl | ⟨m, hm, rfl⟩
    · omega
    · have := (k1 m hm).2
      omega
theorem chc_bad {n : Int} {L : List ML} (h : chc 0 L = none) : bOk n L = false := by
  rw [← Bool.not_eq_true]
  intro hb
  obtain ⟨k1, k2, _⟩ := bOk_iff.1 hb
  obtain ⟨z, hz⟩ := chc_of (L := L) (l := 0) (fun m hm => by
    have := mOk_iff.1 (k1 m hm).1
    exact ⟨this.2.1, this.2.2, by omega⟩) k2
  rw [h] at hz
  cases hz
theorem bok_long {n : Int} {L : List ML} (h : 10 < L.length ∨ 100 < n) : bOk n L = false := by
  rw [← Bool.not_eq_true]
  intro hb
  obtain ⟨_, _, _, k4, k5⟩ := bOk_iff.1 hb
  omega
theorem chc_yes {u f l : Int} {t : List UInt8} {r : List ML} (h2 : l < u) (h1 : (isF f && decide (t.length ≤ 20)) = true) : chc l ((u, f, t) :: r) = chc u r := by rw [chc, if_pos (by rw [decide_eq_true h2, h1]; rfl)]
theorem chc_no {u f l : Int} {t : List UInt8} {r : List ML} (h : (isF f && decide (t.length ≤ 20)) = false ∨ ¬ l < u) : chc l ((u, f, t) :: r) = none := by
  rw [chc, if_neg]
  rw [Bool.and_eq_true, decide_eq_true_eq]
  rintro ⟨h1, h2⟩
  rcases h with h | h
  · rw [h] at h2; cases h2
  · exact h h1

set_option maxHeartbeats 1000000 in
theorem impl_ismail (f : Int) (t : List UInt8) (w : World) : Calls Tryd.prog 83 #[.int .i64 f, .string (sB t)] w fun e w' => e = .returned (.bool (isF f && decide (t.length ≤ 20))) ∧ w' = w := by
  have hsz := sB_size t
  obtain ⟨v, hv⟩ : ∃ v, sB t = v := ⟨_, rfl⟩
  rw [hv] at hsz ⊢
  rw [← hsz]
  clear hsz hv
  cases h2 : isF f with
  | false =>
    have H2 := Lib.hid h2
    clear h2
    go_enter Tryd.func83, Tryd.ntmps83
    go_wp2_with fail
    refine (impl_isflags f _).mono ?_
    rintro e w0 ⟨rfl, hw0⟩
    subst w0
    rw [H2.out]
    go_wp2
    go_ret
    exact ⟨rfl, rfl⟩
  | true =>
    have H2 := Lib.hid h2
    clear h2
    have h3 : decide ((v.size : Int) ≤ 20) = decide (v.size ≤ 20) := by
      by_cases h : v.size ≤ 20
      · rw [decide_eq_true h, decide_eq_true (by omega)]
      · rw [decide_eq_false h, decide_eq_false (by omega)]
    have H3 := Lib.hid h3
    clear h3
    go_enter Tryd.func83, Tryd.ntmps83
    go_wp2_with fail
    refine (impl_isflags f _).mono ?_
    rintro e w0 ⟨rfl, hw0⟩
    subst w0
    rw [H2.out]
    go_wp2
    go_ret
    exact ⟨ret_bool (by rw [← H3.out]; rfl), rfl⟩

set_option maxRecDepth 20000 in
set_option maxHeartbeats 4000000 in
theorem impl_boxvalid (n : Int) (A : Option Addr) (N cap : Nat) (L : List ML) (w : World) (h : MIn w A N cap L) :
    Calls Tryd.prog 52 #[.agg #[.int .i64 n, .slice A N cap]] w (SaysB w (bOk n L)) := by
  have HN := Lib.hid h.1
  have HB0 := Lib.hid ((Below.refl w.heap.size w).alloc (Nat.le_refl _) (.cells #[.int .i64 n, .slice A N cap] 37))
  obtain ⟨w1, hw1⟩ : ∃ w1, w.alloc (.cells #[.int .i64 n, .slice A N cap] 37) = w1 := ⟨_, rfl⟩
  have hW := Whole.made w 37 #[.int .i64 n, .slice A N cap]
  rw [hw1] at hW HB0
  have hz1 : w.heap.size < w1.heap.size := hW.lt
  have HW := Lib.hid hW
  have HR := Lib.hid (h.2.2.1.below HB0.out (Nat.le_refl _))
  have HW1 := Lib.hid hw1
  have b0 := hW.cell 0
  have b1 := hW.cell 1
  simp at b0 b1
  have hl := h.2.1
  clear h hW hw1
  by_cases h10 : 10 < N
  · have h10' : (10 : Int) < (N : Int) := by omega
    go_enter Tryd.func52, Tryd.ntmps52
    go_wp2
    go_ret
    rw [HW1.out]
    exact ⟨ret_bool (by rw [bok_long (by rw [HN.out]; omega)]), HB0.out⟩
  · have h10' : ¬ (10 : Int) < (N : Int) := by omega
    by_cases h100 : 100 < n
    · go_enter Tryd.func52, Tryd.ntmps52
      go_wp2
      go_ret
      rw [HW1.out]
      exact ⟨ret_bool (by rw [bok_long (by omega)]), HB0.out⟩
    · go_enter Tryd.func52, Tryd.ntmps52
      go_wp2
      rw [HW1.out]
      go_loopw [3, 18] (fun l i wr => ∃ (k : Nat) (z : Int), k ≤ N ∧ 0 ≤ z ∧ l = .int .i64 z ∧ i = .int .i64 (k : Int) ∧ Hid (Below w1.heap.size w1 wr) ∧ Hid (chc 0 L = chc z (L.drop k))) (fun _ i _ => N - (intOf i).toNat)
      case atStart => exact ⟨0, 0, Nat.zero_le _, by omega, by go_num, by go_num, Below.refl _ _, rfl⟩
      case round =>
        obtain ⟨k, z, hk, z0, rfl, rfl, HB, HK⟩ := hrel
        have hW := HW.out.below HB.out hz1
        have b0 := hW.cell 0
        have b1 := hW.cell 1
        simp at b0 b1
        have HBT := Lib.hid (HB0.out.trans (HB.out.mono (Nat.le_of_lt hz1)))
        clear hW
        by_cases hlt : k < N
        · have h0 : (0 : Int) ≤ (k : Int) := by omega
          have h5 : (k : Int) < (N : Int) := by omega
          obtain ⟨⟨u, f, t⟩, hx⟩ : ∃ x, L[k]? = some x := ⟨_, List.getElem?_eq_getElem (by rw [HN.out]; exact hlt)⟩
          obtain ⟨b, o, hAe, hb, c0, c1, c2⟩ := mail_at (HR.out.below HB.out (Nat.le_refl _)) hx
          have HD := Lib.hid (drop_at hx)
          clear hx
          subst hAe
          obtain ⟨v, hv⟩ : ∃ v, sB t = v := ⟨_, rfl⟩
          have HV := Lib.hid hv
          rw [hv] at c2
          clear hv
          by_cases hzu : z < u
          · have hzu' : ¬ u ≤ z := by omega
            cases hm : isF f && decide (t.length ≤ 20) with
            | false =>
              have HM := Lib.hid hm
              clear hm
              go_wp2_with fail
              rw [← HV.out]
              refine (impl_ismail f t _).mono ?_
              rintro e w2 ⟨rfl, hw2⟩
              subst w2
              rw [HM.out, HV.out]
              go_wp2
              go_ret
              exact ⟨ret_bool (by rw [chc_bad (by rw [HK.out, HD.out, chc_no (.inl HM.out)])]), HBT.out.alloc (HBT.out.size) _⟩
            | true =>
              have HM := Lib.hid hm
              clear hm
              go_wp2_with fail
              rw [← HV.out]
              refine (impl_ismail f t _).mono ?_
              rintro e w2 ⟨rfl, hw2⟩
              subst w2
              rw [HM.out, HV.out]
              go_wp2
              go_roundw
              case rel => exact ⟨k + 1, u, by omega, by omega, by go_num, by go_num, HB.out.alloc HB.out.size _, HK.out.trans ((congrArg (chc z) HD.out).trans (chc_yes (by omega) HM.out))⟩
              case measure => simp [intOf]; omega
          · have hzu' : u ≤ z := by omega
            go_wp2
            go_ret
            exact ⟨ret_bool (by rw [chc_bad (by rw [HK.out, HD.out, chc_no (.inr (by omega))])]), HBT.out.alloc HBT.out.size _⟩
        · have h5 : ¬ (k : Int) < (N : Int) := by omega
          have HKK : Hid (chc 0 L = some z) := by
            show _ = _
            rw [HK.out, List.drop_eq_nil_of_le (by rw [HN.out]; omega)]
            rfl
          go_wp2
          go_ret
          exact ⟨ret_bool (by rw [chc_bok HKK.out (by omega) (by rw [HN.out]; omega)]), HBT.out⟩
end Go.Proofs.YtpihibconbejlaaDoor

namespace Go.Proofs.YtpihibconbejlaaDoor
open Go.RowKit
set_option linter.unusedVariables false

section
variable {α : Type} {R : RowT α} {M : List α} {v : Value} {w w' : World} {A : Option Addr} {B N cap c g : Nat} {n : Int} {L : List ML} {P : List Int} {X Y : NX}
theorem MIn.keep (h : MIn w A N cap L) : Kp w fun w' => MIn w' A N cap L := fun w2 h2 => h.below h2 (Nat.le_refl _)
theorem IIn.keep (h : IIn w A N cap P) : Kp w fun w' => IIn w' A N cap P := fun w2 h2 => h.below h2 (Nat.le_refl _)
theorem ROwn.keep (h : ROwn R w B v M) : Kp w fun w' => ROwn R w' B v M := fun w2 h2 => h.kept h2
theorem kp_box (w : World) (t : TypeId) (cs : Array Value) : Kp (w.alloc (.cells cs t)) fun w' => Below w.heap.size w w' ∧ Whole w' w.heap.size t cs ∧ w.heap.size < w'.heap.size := fun w2 h2 =>
  ⟨(below_new w _).trans (h2.mono (by simp)), (Whole.made w t cs).below h2 (Whole.made w t cs).lt, by have := h2.size; simp at this; omega⟩
end
def GivesKNo (w : World) (e : Ending) (w' : World) : Prop := e = .returned (.tuple #[.pointer none, .bool false]) ∧ Below w.heap.size w w'
end Go.Proofs.YtpihibconbejlaaDoor

namespace Go.Proofs.YtpihibconbejlaaDoor
open Go.RowKit
set_option linter.unusedVariables false

end Go.Proofs.YtpihibconbejlaaDoor

namespace Go.Proofs.YtpihibconbejlaaDoor
open Go.RowKit
set_option linter.unusedVariables false

/-- The nodes at places. -/
def atN (X : NX) (P : List Int) : List Nat := P.map fun x => (X.getD (x.toNat - 1) (0, (0, 0, []))).1
theorem atN_len (X : NX) (P : List Int) : (atN X P).length = P.length := by unfold atN; rw [List.length_map]
theorem atN_get {X : NX} {P : List Int} {i : Nat} {x : Int} (hx : P[i]? = some x) {g : Nat} {m : ML} (hm : X[x.toNat - 1]? = some (g, m)) : (atN X P)[i]? = some g := by
  unfold atN
  rw [List.getElem?_map, hx]
  show some ((X.getD (x.toNat - 1) (0, (0, 0, []))).1) = some g
  rw [List.getD_eq_getElem?_getD, hm]
  rfl
theorem atN_push {X : NX} {P : List Int} {i : Nat} {x : Int} (hx : P[i]? = some x) {g : Nat} {m : ML} (hm : X[x.toNat - 1]? = some (g, m)) : atN X (P.take (i + 1)) = atN X (P.take i) ++ [g] := by
  unfold atN
  rw [List.take_add_one, hx, List.map_append]
  show _ ++ [(X.getD (x.toNat - 1) (0, (0, 0, []))).1] = _
  rw [List.getD_eq_getElem?_getD, hm]
  rfl
/-- Nodes at places of a chain whose flags may have turned: only the blocks count. -/
theorem atN_same {X Y : NX} (h : X.map (·.1) = Y.map (·.1)) (P : List Int) : atN X P = atN Y P := by
  unfold atN
  refine List.map_congr_left fun x _ => ?_
  have e := congrArg (fun l => l[x.toNat - 1]?) h
  simp only [List.getElem?_map] at e
  rw [List.getD_eq_getElem?_getD, List.getD_eq_getElem?_getD]
  cases hx : X[x.toNat - 1]? <;> cases hy : Y[x.toNat - 1]? <;> rw [hx, hy] at e <;> simp at e ⊢
  exact e
end Go.Proofs.YtpihibconbejlaaDoor

namespace Go.Proofs.YtpihibconbejlaaDoor
open Go.RowKit
set_option linter.unusedVariables false

set_option maxRecDepth 20000 in
set_option maxHeartbeats 8000000 in
theorem spec_append (n : Int) (A : Option Addr) (N cap : Nat) (L : List ML) (f : Int) (t : List UInt8) (w : World) (h : MIn w A N cap L) :
    Calls Tryd.prog 80 #[.agg #[.int .i64 n, .slice A N cap], .int .i64 f, .string (sB t)] w (GivesBB w (bxAp n L f t).1 (bxAp n L f t).2.1 (bxAp n L f t).2.2) := by
  obtain ⟨B, hB⟩ : ∃ B, w.heap.size = B := ⟨_, rfl⟩
  have H1 := (Whole.made w 37 #[.int .i64 n, .slice A N cap]).alloc (.cells #[.int .i64 0, .slice none 0 0] 37)
  have H2 := Whole.made (w.alloc (.cells #[.int .i64 n, .slice A N cap] 37)) 37 #[.int .i64 0, .slice none 0 0]
  rw [show (w.alloc (.cells #[.int .i64 n, .slice A N cap] 37)).heap.size = B + 1 by simp [hB]] at H2
  rw [hB] at H1
  have hbel := ((Below.refl w.heap.size w).alloc (Nat.le_refl _) (.cells #[.int .i64 n, .slice A N cap] 37)).alloc (by simp) (.cells #[.int .i64 0, .slice none 0 0] 37)
  have h2 := h.below hbel (Nat.le_refl _)
  rw [hB] at hbel
  have hsz : ((w.alloc (.cells #[.int .i64 n, .slice A N cap] 37)).alloc (.cells #[.int .i64 0, .slice none 0 0] 37)).heap.size = B + 1 + 1 := by simp [hB]
  have hts := sB_size t
  obtain ⟨v, hv⟩ : ∃ v, sB t = v := ⟨_, rfl⟩
  have HV := Lib.hid hv
  rw [hv] at hts ⊢
  have HTS := Lib.hid hts
  clear hv hts
  have HI := Lib.hid h2
  have K1 := Lib.hid H1
  have K2 := Lib.hid H2
  have HB0 := Lib.hid hbel
  have HSZ := Lib.hid hsz
  clear H1 H2 hbel h2 hsz
  obtain ⟨bv, hbv⟩ : ∃ bv, bOk n L = bv := ⟨_, rfl⟩
  have HBV := Lib.hid hbv
  clear hbv
  go_enter Tryd.func80, Tryd.ntmps80
  go_wp2_with fail
  refine (spec_boxvalid n A N cap L _ HI.out.1 HI.out.2.2.1 HI.out.2.1).mono ?_
  rw [HBV.out]
  rintro e w2 ⟨rfl, hb⟩
  rw [HSZ.out] at hb
  have J1 := Lib.hid (K1.out.below hb (by omega))
  have J2 := Lib.hid (K2.out.below hb (by omega))
  have HI2 := Lib.hid (HI.out.below hb (by rw [HSZ.out]; omega))
  have HB2 := Lib.hid (HB0.out.trans (hb.mono (by omega)))
  have hz2 := hb.size
  rw [HSZ.out] at hz2
  clear hb
  have b0 := J1.out.cell 0
  have b1 := J1.out.cell 1
  have r0 := J2.out.cell 0
  have r1 := J2.out.cell 1
  simp at b0 b1 r0 r1
  have g0 := J2.out.free 0
  have g1 := J2.out.free 1
  cases bv with
  | false =>
    have HR := Lib.hid (bxAp_no (n := n) (L := L) (f := f) (t := t) (by rw [HBV.out]; rfl))
    go_wp2
    refine bodyPost_ret (v := .tuple #[.agg #[.int .i64 0, .slice none 0 0], .bool false]) (by simp [results, Tryd.results80, go_sem, r0, r1]) rfl ?_
    rw [HR.out]
    exact give_two hB (ROwn.nil _ _) HB2.out
  | true =>
    cases hf : isF f with
    | false =>
      have HF := Lib.hid hf
      have HR := Lib.hid (bxAp_no (n := n) (L := L) (f := f) (t := t) (by rw [hf]; simp))
      clear hf
      go_wp2_with fail
      refine (spec_isflags f _).mono ?_
      rintro e w3 ⟨rfl, hw3⟩
      subst w3
      rw [HF.out]
      go_wp2
      refine bodyPost_ret (v := .tuple #[.agg #[.int .i64 0, .slice none 0 0], .bool false]) (by simp [results, Tryd.results80, go_sem, r0, r1]) rfl ?_
      rw [HR.out]
      exact give_two hB (ROwn.nil _ _) HB2.out
    | true =>
      have HF := Lib.hid hf
      clear hf
      by_cases h20 : v.size ≤ 20
      · have h20' : ¬ (20 : Int) < (v.size : Int) := by omega
        have HR := Lib.hid (bxAp_go (n := n) (L := L) (f := f) (t := t) (by rw [HBV.out, HF.out, decide_eq_true (by rw [← HTS.out]; exact h20)]; rfl))
        have hn1 : 1 ≤ n := (bOk_iff.1 HBV.out).2.2.1
        go_wp2_with fail
        refine (spec_isflags f _).mono ?_
        rintro e w3 ⟨rfl, hw3⟩
        subst w3
        rw [HF.out]
        go_wp2_with fail
        rw [← HV.out]
        refine (spec_add n A N cap L f t _ HI2.out (by omega)).mono ?_
        rintro e w4 ⟨A4, N4, cap4, rfl, hown, hb⟩
        have J4 := Lib.hid (J2.out.below hb (by omega))
        have HB4 := Lib.hid (HB2.out.trans (hb.mono (by omega)))
        have HO4 := Lib.hid (hown.from (show B + 1 + 1 ≤ w2.heap.size from hz2))
        clear hb hown
        obtain ⟨n4, hn4⟩ : ∃ n4, (bxAdd n L f t).1 = n4 := ⟨_, rfl⟩
        obtain ⟨o4, ho4⟩ : ∃ o4, (bxAdd n L f t).2.2 = o4 := ⟨_, rfl⟩
        have HN4 := Lib.hid hn4
        have HO := Lib.hid ho4
        rw [hn4, ho4]
        clear hn4 ho4
        have s0 := J4.out.cell 0
        have s1 := J4.out.cell 1
        simp at s0 s1
        have t0 := J4.out.free 0
        have t1 := J4.out.free 1
        go_wp2
        refine bodyPost_ret (v := .tuple #[.agg #[.int .i64 n4, .slice A4 N4 cap4], .bool o4]) (by simp [results, Tryd.results80, go_sem, s0, s1]) rfl ?_
        rw [HR.out, HN4.out, HO.out]
        exact give_two hB HO4.out HB4.out
      · have h20' : (20 : Int) < (v.size : Int) := by omega
        have HR := Lib.hid (bxAp_no (n := n) (L := L) (f := f) (t := t) (by rw [decide_eq_false (by rw [← HTS.out]; exact h20)]; simp))
        go_wp2_with fail
        refine (spec_isflags f _).mono ?_
        rintro e w3 ⟨rfl, hw3⟩
        subst w3
        rw [HF.out]
        go_wp2
        refine bodyPost_ret (v := .tuple #[.agg #[.int .i64 0, .slice none 0 0], .bool false]) (by simp [results, Tryd.results80, go_sem, r0, r1]) rfl ?_
        rw [HR.out]
        exact give_two hB (ROwn.nil _ _) HB2.out
end Go.Proofs.YtpihibconbejlaaDoor

namespace Go.Proofs.YtpihibconbejlaaDoor
open Go.RowKit
set_option linter.unusedVariables false

theorem fbelow_drew {B : Nat} {a w : World} (h : Below B a w) : Below B a w.drew := ⟨h.os, h.tape, h.output, h.size, h.block⟩
/-- A mailbox and numbers of the call's own are handed back. -/
def GivesE (w : World) (n : Int) (L : List ML) (G : List Int) (e : Ending) (w' : World) : Prop := ∃ A N cap A2 N2 cap2, e = .returned (.tuple #[.agg #[.int .i64 n, .slice A N cap], .slice A2 N2 cap2]) ∧ ROwn mailR w' w.heap.size (.slice A N cap) L ∧ ROwn intR w' w.heap.size (.slice A2 N2 cap2) G ∧ Below w.heap.size w w'
theorem give_exp {w w' : World} {B N cap N2 cap2 : Nat} {A A2 : Option Addr} {n : Int} {L : List ML} {G : List Int} {u u2 : Value} (hB : w.heap.size = B) (ho : ROwn mailR w' (B + 1 + 1) (.slice A N cap) L) (hg : ROwn intR w' (B + 1 + 1) (.slice A2 N2 cap2) G) (hb : Below B w w') :
    GivesE w n L G (.returned (.tuple #[.agg #[.int .i64 n, .slice A N cap], .slice A2 N2 cap2])) ((w'.setCell ⟨B + 1, 0, none⟩ u).setCell ⟨B + 1, 1, none⟩ u2) := by
  refine ⟨A, N, cap, A2, N2, cap2, rfl, ?_, ?_, ?_⟩
  · rw [hB]
    exact ((ho.store (p := ⟨B + 1, 0, none⟩) (ho.base (B + 1) (by omega)) _).store (p := ⟨B + 1, 1, none⟩) (ho.base (B + 1) (by omega)) _).from (by omega)
  · rw [hB]
    exact ((hg.store (p := ⟨B + 1, 0, none⟩) (hg.base (B + 1) (by omega)) _).store (p := ⟨B + 1, 1, none⟩) (hg.base (B + 1) (by omega)) _).from (by omega)
  · rw [hB]
    exact (hb.setCell (p := ⟨B + 1, 0, none⟩) (Nat.le_succ _) _).setCell (p := ⟨B + 1, 1, none⟩) (Nat.le_succ _) _
theorem dl_num {u f : Int} {t : List UInt8} (h : mOk (u, f, t) = true) : ∃ d1 : Nat, f.tdiv 8 = (d1 : Int) ∧ f / 8 = (d1 : Int) ∧ d1 ≤ 31 ∧ ((dlM (u, f, t) = true ∧ (d1 : Int) % 2 = 1) ∨ (dlM (u, f, t) = false ∧ (d1 : Int) % 2 = 0)) ∧ 0 ≤ f := by
  obtain ⟨_, h2, _⟩ := mOk_iff.1 h
  obtain ⟨a, ha, e⟩ := isF_nat h2
  simp only at e
  subst e
  refine ⟨a / 8, IntWalk.up_tdiv rfl rfl, by omega, by omega, ?_, by omega⟩
  cases hb : tb a 3
  · refine .inr ⟨hb, ?_⟩
    exact half_no (k := 3) (q := 8) rfl rfl hb
  · refine .inl ⟨hb, ?_⟩
    exact half_yes (k := 3) (q := 8) rfl rfl hb
set_option maxRecDepth 20000 in
set_option maxHeartbeats 8000000 in
theorem spec_expunge_no (n : Int) (A : Option Addr) (N cap : Nat) (L : List ML) (w : World) (h : MIn w A N cap L) (hv : bOk n L = false) :
    Calls Tryd.prog 82 #[.agg #[.int .i64 n, .slice A N cap]] w (GivesE w 0 [] []) := by
  obtain ⟨i0, hi, hq0, hq1, hq2⟩ := info_parts Tryd.infoMail
  obtain ⟨j0, hj, hp0, hp1, hp2⟩ := info_parts Tryd.infoNum
  obtain ⟨B, hB⟩ : ∃ B, w.heap.size = B := ⟨_, rfl⟩
  have H1 := (Whole.made w 37 #[.int .i64 n, .slice A N cap]).alloc (.cells #[.int .i64 0, .slice none 0 0] 37)
  have H2 := Whole.made (w.alloc (.cells #[.int .i64 n, .slice A N cap] 37)) 37 #[.int .i64 0, .slice none 0 0]
  rw [show (w.alloc (.cells #[.int .i64 n, .slice A N cap] 37)).heap.size = B + 1 by simp [hB]] at H2
  rw [hB] at H1
  have hbel := ((Below.refl w.heap.size w).alloc (Nat.le_refl _) (.cells #[.int .i64 n, .slice A N cap] 37)).alloc (by simp) (.cells #[.int .i64 0, .slice none 0 0] 37)
  have h2 := h.below hbel (Nat.le_refl _)
  rw [hB] at hbel
  have hsz : ((w.alloc (.cells #[.int .i64 n, .slice A N cap] 37)).alloc (.cells #[.int .i64 0, .slice none 0 0] 37)).heap.size = B + 1 + 1 := by simp [hB]
  have HI := Lib.hid h2
  have K1 := Lib.hid H1
  have K2 := Lib.hid H2
  have HB0 := Lib.hid hbel
  have HSZ := Lib.hid hsz
  have hNl := h.2.1
  have HNL := Lib.hid h.1
  have HIW := Lib.hid h
  clear H1 H2 hbel h2 hsz h
  have HBV := Lib.hid hv
  clear hv
  go_enter Tryd.func82, Tryd.ntmps82
  go_wp2_with fail
  refine (spec_boxvalid n A N cap L _ HI.out.1 HI.out.2.2.1 HI.out.2.1).mono ?_
  rw [HBV.out]
  rintro e w2 ⟨rfl, hb⟩
  rw [HSZ.out] at hb
  have J1 := Lib.hid (K1.out.below hb (by omega))
  have J2 := Lib.hid (K2.out.below hb (by omega))
  have HI2 := Lib.hid (HI.out.below hb (by rw [HSZ.out]; omega))
  have HB2 := Lib.hid (HB0.out.trans (hb.mono (by omega)))
  have hz2 := hb.size
  rw [HSZ.out] at hz2
  clear hb
  have b0 := J1.out.cell 0
  have b1 := J1.out.cell 1
  have r0 := J2.out.cell 0
  have r1 := J2.out.cell 1
  simp at b0 b1 r0 r1
  have g0 := J2.out.free 0
  have g1 := J2.out.free 1
  obtain ⟨C, hC⟩ : ∃ C, w2.heap.size = C := ⟨_, rfl⟩
  rw [hC] at hz2
  have hgo : ROwn intR (w2.alloc (.cells #[] 3)) (B + 1 + 1) (.slice (some ⟨C, 0, none⟩) 0 0) [] := ROwn.lit (R := intR) (B := B + 1 + 1) w2 C (by rw [hC]; exact hz2) hC
  have HGO := Lib.hid hgo
  have HB3 := Lib.hid (HB2.out.alloc (by rw [hC]; omega) (.cells #[] 3))
  have J3 := J2.out.alloc (.cells #[] 3)
  have r0' := J3.cell 0
  have r1' := J3.cell 1
  simp at r0' r1'
  have g0' := J3.free 0
  have g1' := J3.free 1
  clear hgo J3
  go_wp2
  refine bodyPost_ret (v := .tuple #[.agg #[.int .i64 0, .slice none 0 0], .slice (some ⟨C, 0, none⟩) 0 0]) (by simp [results, Tryd.results82, go_sem, r0', r1']) rfl ?_
  exact give_exp hB (ROwn.nil _ _) HGO.out HB3.out
set_option maxRecDepth 20000 in
set_option maxHeartbeats 8000000 in
theorem spec_expunge_yes (n : Int) (A : Option Addr) (N cap : Nat) (L : List ML) (w : World) (h : MIn w A N cap L) (hv : bOk n L = true) :
    Calls Tryd.prog 82 #[.agg #[.int .i64 n, .slice A N cap]] w (GivesE w n (kpM L) (gnI L)) := by
  obtain ⟨i0, hi, hq0, hq1, hq2⟩ := info_parts Tryd.infoMail
  obtain ⟨j0, hj, hp0, hp1, hp2⟩ := info_parts Tryd.infoNum
  obtain ⟨B, hB⟩ : ∃ B, w.heap.size = B := ⟨_, rfl⟩
  have H1 := (Whole.made w 37 #[.int .i64 n, .slice A N cap]).alloc (.cells #[.int .i64 0, .slice none 0 0] 37)
  have H2 := Whole.made (w.alloc (.cells #[.int .i64 n, .slice A N cap] 37)) 37 #[.int .i64 0, .slice none 0 0]
  rw [show (w.alloc (.cells #[.int .i64 n, .slice A N cap] 37)).heap.size = B + 1 by simp [hB]] at H2
  rw [hB] at H1
  have hbel := ((Below.refl w.heap.size w).alloc (Nat.le_refl _) (.cells #[.int .i64 n, .slice A N cap] 37)).alloc (by simp) (.cells #[.int .i64 0, .slice none 0 0] 37)
  have h2 := h.below hbel (Nat.le_refl _)
  rw [hB] at hbel
  have hsz : ((w.alloc (.cells #[.int .i64 n, .slice A N cap] 37)).alloc (.cells #[.int .i64 0, .slice none 0 0] 37)).heap.size = B + 1 + 1 := by simp [hB]
  have HI := Lib.hid h2
  have K1 := Lib.hid H1
  have K2 := Lib.hid H2
  have HB0 := Lib.hid hbel
  have HSZ := Lib.hid hsz
  have hNl := h.2.1
  have HNL := Lib.hid h.1
  have HIW := Lib.hid h
  clear H1 H2 hbel h2 hsz h
  have HBV := Lib.hid hv
  clear hv
  go_enter Tryd.func82, Tryd.ntmps82
  go_wp2_with fail
  refine (spec_boxvalid n A N cap L _ HI.out.1 HI.out.2.2.1 HI.out.2.1).mono ?_
  rw [HBV.out]
  rintro e w2 ⟨rfl, hb⟩
  rw [HSZ.out] at hb
  have J1 := Lib.hid (K1.out.below hb (by omega))
  have J2 := Lib.hid (K2.out.below hb (by omega))
  have HI2 := Lib.hid (HI.out.below hb (by rw [HSZ.out]; omega))
  have HB2 := Lib.hid (HB0.out.trans (hb.mono (by omega)))
  have hz2 := hb.size
  rw [HSZ.out] at hz2
  clear hb
  have b0 := J1.out.cell 0
  have b1 := J1.out.cell 1
  have r0 := J2.out.cell 0
  have r1 := J2.out.cell 1
  simp at b0 b1 r0 r1
  have g0 := J2.out.free 0
  have g1 := J2.out.free 1
  obtain ⟨C, hC⟩ : ∃ C, w2.heap.size = C := ⟨_, rfl⟩
  rw [hC] at hz2
  have hown : ROwn mailR (((w2.alloc (.cells #[] 48)).alloc (.cells #[.int .i64 n, .slice (some ⟨C, 0, none⟩) 0 0] 37)).alloc (.cells #[] 3)) (B + 1 + 1) (.slice (some ⟨C, 0, none⟩) 0 0) [] := ((ROwn.lit (R := mailR) (B := B + 1 + 1) w2 C (by rw [hC]; exact hz2) hC).alloc (.cells #[.int .i64 n, .slice (some ⟨C, 0, none⟩) 0 0] 37)).alloc (.cells #[] 3)
  have hgo : ROwn intR (((w2.alloc (.cells #[] 48)).alloc (.cells #[.int .i64 n, .slice (some ⟨C, 0, none⟩) 0 0] 37)).alloc (.cells #[] 3)) (B + 1 + 1) (.slice (some ⟨C + 1 + 1, 0, none⟩) 0 0) [] := ROwn.lit (R := intR) (B := B + 1 + 1) ((w2.alloc (.cells #[] 48)).alloc (.cells #[.int .i64 n, .slice (some ⟨C, 0, none⟩) 0 0] 37)) (C + 1 + 1) (by simp [hC]; omega) (by simp [hC])
  have hbx := (Whole.made (w2.alloc (.cells #[] 48)) 37 #[.int .i64 n, .slice (some ⟨C, 0, none⟩) 0 0]).alloc (.cells #[] 3)
  rw [show (w2.alloc (.cells #[] 48)).heap.size = C + 1 by simp [hC]] at hbx
  have hb1 := ((J1.out.alloc (.cells #[] 48)).alloc (.cells #[.int .i64 n, .slice (some ⟨C, 0, none⟩) 0 0] 37)).alloc (.cells #[] 3)
  have hb2 := ((J2.out.alloc (.cells #[] 48)).alloc (.cells #[.int .i64 n, .slice (some ⟨C, 0, none⟩) 0 0] 37)).alloc (.cells #[] 3)
  have hb3 := ((HB2.out.alloc (by omega) (.cells #[] 48)).alloc (by simp [hC]; omega) (.cells #[.int .i64 n, .slice (some ⟨C, 0, none⟩) 0 0] 37)).alloc (by simp [hC]; omega) (.cells #[] 3)
  have HOWN := Lib.hid hown
  have HGO := Lib.hid hgo
  have HBX := Lib.hid hbx
  have HK1 := Lib.hid hb1
  have HK2 := Lib.hid hb2
  have HB3 := Lib.hid hb3
  clear hown hgo hbx hb1 hb2 hb3 b0 b1 r0 r1 g0 g1
  have b0 := J1.out.cell 0
  simp at b0
  go_wp2
  obtain ⟨w3, hw3⟩ : ∃ w3, ((w2.alloc (.cells #[] 48)).alloc (.cells #[.int .i64 n, .slice (some ⟨C, 0, none⟩) 0 0] 37)).alloc (.cells #[] 3) = w3 := ⟨_, rfl⟩
  have hz3 : w3.heap.size = C + 1 + 1 + 1 := by rw [← hw3]; simp [hC]
  rw [hw3] at HOWN HGO HBX HK1 HK2 HB3 ⊢
  clear hw3
  go_loopw [5, 6] (fun v x wr => ∃ (k : Nat) (A3 : Option Addr) (N3 cap3 : Nat) (A4 : Option Addr) (N4 cap4 : Nat), k ≤ N ∧ v = .slice A4 N4 cap4 ∧ x = .int .i64 (k : Int) ∧ C + 1 + 1 < wr.heap.size ∧ N3 ≤ k ∧
      Hid (Whole wr (C + 1) 37 #[.int .i64 n, .slice A3 N3 cap3]) ∧ Hid (ROwn mailR wr (B + 1 + 1) (.slice A3 N3 cap3) (kpM (L.take k))) ∧ Hid (ROwn intR wr (B + 1 + 1) (.slice A4 N4 cap4) (gnI (L.take k))) ∧
      Hid (Whole wr B 37 #[.int .i64 n, .slice A N cap]) ∧ Hid (Whole wr (B + 1) 37 #[.int .i64 0, .slice none 0 0]) ∧ Hid (Below B w wr)) (fun _ x _ => N - (intOf x).toNat)
  case atStart => exact ⟨0, _, _, _, _, _, _, Nat.zero_le _, rfl, by go_num, by omega, Nat.le_refl _, HBX, HOWN, HGO, HK1, HK2, HB3⟩
  case round =>
    obtain ⟨k, A3, N3, cap3, A4, N4, cap4, hk, rfl, rfl, hzr, hN3, HX, HO, HG, HJ1, HJ2, HB⟩ := hrel
    have HM := Lib.hid (HIW.out.below HB.out (Nat.le_of_eq hB))
    have b0 := HJ1.out.cell 0
    have b1 := HJ1.out.cell 1
    have x0 := HX.out.cell 0
    have x1 := HX.out.cell 1
    have r0 := HJ2.out.cell 0
    have r1 := HJ2.out.cell 1
    simp at b0 b1 x0 x1 r0 r1
    have g0 := HJ2.out.free 0
    have g1 := HJ2.out.free 1
    have y1 := HX.out.free 1
    by_cases hlt : k < N
    · have h0 : (0 : Int) ≤ (k : Int) := by omega
      have h5 : (k : Int) < (N : Int) := by omega
      obtain ⟨⟨u, f, t⟩, hx⟩ : ∃ x, L[k]? = some x := ⟨_, List.getElem?_eq_getElem (by rw [HNL.out]; exact hlt)⟩
      obtain ⟨b, o, hAe, hb, c0, c1, c2⟩ := mail_at HM.out.2.2.1 hx
      obtain ⟨d1, E1, E2, E3, hd, E4⟩ := dl_num ((bOk_get HBV.out hx).1)
      have W1 : IntKind.i64.wrap (d1 : Int) = (d1 : Int) := IntWalk.i64_in _ (by omega)
      subst hAe
      rcases hd with ⟨hd, F1⟩ | ⟨hd, F1⟩
      · have HKD := Lib.hid (kp_dl hx hd)
        have HX0 := Lib.hid hx
        clear hx hd
        have hN4 : N4 = (gnI (L.take k)).length := HG.out.len.1
        have hg4 : (gnI (L.take k)).length ≤ k := by
          unfold gnI
          rw [List.length_map]
          have := gnM_len 0 (L.take k)
          rw [List.length_take] at this
          omega
        have h4k : N4 ≤ k := by omega
        have HN4 := Lib.hid hN4.symm
        clear hN4 hg4
        obtain ⟨m4, hm4⟩ : ∃ m, N3 + 1 = m := ⟨_, rfl⟩
        have W2 : IntKind.i64.wrap ((N3 : Int) + 1) = (m4 : Int) := (IntWalk.i64_in _ (by omega)).trans (by omega)
        have E5 : (N3 : Int) + 1 = (m4 : Int) := by omega
        have hnew : RAt intR (wr.alloc (.cells #[.int .i64 (m4 : Int)] 3)) (some ⟨wr.heap.size, 0, none⟩) [(m4 : Int)] := RAt.made intR wr [(m4 : Int)] _ rfl
        have hown := HG.out.alloc (.cells #[.int .i64 (m4 : Int)] 3)
        have hml : N4 + 1 ≤ maxLen := by unfold maxLen; omega
        have hby : (N4 + 1) * 8 ≤ 140737488355328 := by omega
        go_wp2_with (at_builtin; refine wpList_append_rows rfl _ _ 40 rfl intR (B + 1 + 1) j0 _ 8 Tryd.underlying40 hj hp0 hp1 hp2 rfl (by decide) _ (gnI (L.take k)) [(m4 : Int)] N4 HN4.out rfl hown _ 1 1 rfl rfl hnew (fun e => by cases e) (fun q e => by cases e; rfl) hml hby (by simp; omega) ?_)
        intro v' w5 hown5 hgrow hnn
        obtain ⟨A5, N5, cap5, rfl⟩ := hown5.val
        have hbs : ∀ z, (Value.slice A4 N4 cap4).ownBlock = some z → B + 1 + 1 ≤ z := fun z hz => (World.ownsRow.lt hown z hz).1
        have hnX : (Value.slice A4 N4 cap4).ownBlock ≠ some (C + 1) := HG.out.whole HX.out (by decide)
        have hnO : (Value.slice A3 N3 cap3).ownBlock = none ∨ (Value.slice A3 N3 cap3).ownBlock ≠ (Value.slice A4 N4 cap4).ownBlock := own_apart HO.out HG.out (by decide)
        have HX5 := Lib.hid ((HX.out.alloc (.cells #[.int .i64 (m4 : Int)] 3)).grown hgrow (fun e => hnX e.symm))
        have HO5 := Lib.hid ((HO.out.alloc (.cells #[.int .i64 (m4 : Int)] 3)).apart hgrow hnO)
        have HJ15 := Lib.hid ((HJ1.out.alloc (.cells #[.int .i64 (m4 : Int)] 3)).grown hgrow (fun e => by have := hbs _ e.symm; omega))
        have HJ25 := Lib.hid ((HJ2.out.alloc (.cells #[.int .i64 (m4 : Int)] 3)).grown hgrow (fun e => by have := hbs _ e.symm; omega))
        have HB5 := Lib.hid ((HB.out.alloc (by omega) (.cells #[.int .i64 (m4 : Int)] 3)).grown hgrow (by simp; omega) (fun z hz => by have := hbs z hz; omega))
        have HG5 := Lib.hid hown5
        have hz5 : C + 1 + 1 < w5.heap.size := by have := hgrow.size; simp at this; omega
        clear hown hown5 hgrow hnn hnew hml hby hbs hnX hnO b0 b1 x0 x1 r0 r1 g0 g1 y1 c0 c1 c2
        go_wp2
        go_roundw
        case rel =>
          refine ⟨k + 1, A3, N3, cap3, A5, N5, cap5, by omega, rfl, by go_num, hz5, by omega, HX5, ?_, ?_, HJ15, HJ25, HB5⟩
          · rw [HKD.out.1]; exact HO5
          · rw [HKD.out.2]
            have e : (((kpM (L.take k)).length + 1 : Nat) : Int) = (m4 : Int) := by
              have := HO.out.len.1
              omega
            rw [e]
            exact HG5
        case measure => simp [intOf]; omega
      · have HKD := Lib.hid (kp_no hx hd)
        clear hx hd
        obtain ⟨v, hv⟩ : ∃ v, sB t = v := ⟨_, rfl⟩
        have hnew : RAt mailR ((wr.drew).alloc (.cells #[.int .i64 u, .int .i64 f, .string v] 48)) (some ⟨wr.heap.size, 0, none⟩) [(u, f, t)] := by
          rw [← hv]
          exact RAt.made mailR wr.drew [(u, f, t)] _ rfl
        rw [hv] at c2
        have hown : ROwn mailR ((wr.drew).alloc (.cells #[.int .i64 u, .int .i64 f, .string v] 48)) (B + 1 + 1) (.slice A3 N3 cap3) (kpM (L.take k)) := ROwn.alloc (w := wr.drew) HO.out (.cells #[.int .i64 u, .int .i64 f, .string v] 48)
        have HN3 := Lib.hid HO.out.len.1.symm
        have hml : N3 + 1 ≤ maxLen := by unfold maxLen; omega
        have hby : (N3 + 1) * 32 ≤ 140737488355328 := by omega
        clear hv
        have HNX := Lib.hid (show (Value.slice A3 N3 cap3).ownBlock ≠ some (C + 1) from HO.out.whole HX.out (by decide))
        have HNO := Lib.hid (own_apart HG.out HO.out (by decide))
        have x1a := (HX.out.alloc (.cells #[.int .i64 u, .int .i64 f, .string v] 48)).cell 1
        simp at x1a
        go_wp2
        go_region_law (refine step_append_rows rfl (.tmp 41) (.tmp 47) 35 rfl mailR (B + 1 + 1) i0 _ 32 Tryd.underlying35 hi hq0 hq1 hq2 rfl (by decide) _ (kpM (L.take k)) [(u, f, t)] N3 HN3.out rfl hown (some ⟨wr.heap.size, 0, none⟩) 1 1 rfl rfl hnew (fun e => by cases e) (fun q e => by cases e; rfl) hml hby (by simp; omega) ?_; intro v' w6 hown6 hgrow hnn; obtain ⟨A6, N6, cap6, rfl⟩ := hown6.val; have HX6 := Lib.hid (Whole.grown (Whole.alloc (Whole.drew HX.out) (.cells #[.int .i64 u, .int .i64 f, .string v] 48)) hgrow (fun e => HNX.out e.symm)); have x1' := HX6.out.cell 1; simp at x1'; have y1' := HX6.out.free 1; have HO6 := Lib.hid hown6; have HG6 := Lib.hid (ROwn.apart (ROwn.alloc (w := wr.drew) HG.out (.cells #[.int .i64 u, .int .i64 f, .string v] 48)) hgrow HNO.out); have HBS := Lib.hid (fun (z : Nat) (hz : (Value.slice A3 N3 cap3).ownBlock = some z) => (World.ownsRow.lt hown z hz).1); have HJ16 := Lib.hid (Whole.grown (Whole.alloc (Whole.drew HJ1.out) (.cells #[.int .i64 u, .int .i64 f, .string v] 48)) hgrow (fun e => by have := HBS.out _ e.symm; omega)); have HJ26 := Lib.hid (Whole.grown (Whole.alloc (Whole.drew HJ2.out) (.cells #[.int .i64 u, .int .i64 f, .string v] 48)) hgrow (fun e => by have := HBS.out _ e.symm; omega)); have HB6 := Lib.hid (((fbelow_drew HB.out).alloc (by simp <;> omega) (.cells #[.int .i64 u, .int .i64 f, .string v] 48)).grown hgrow (by simp <;> omega) (fun z hz => by have := HBS.out z hz; omega)); have hz6 : C + 1 + 1 < w6.heap.size := (by have := hgrow.size; simp at this; omega); clear hown6 hgrow hnn)
        all_goals
          have HNX6 := Lib.hid (show (Value.slice A6 N6 cap6).ownBlock ≠ some (C + 1) from HO6.out.whole HX6.out (by decide))
          have HNG6 := Lib.hid (show (Value.slice A4 N4 cap4).ownBlock ≠ some (C + 1) from HG6.out.whole HX6.out (by decide))
          go_wp2
          go_roundw
          case rel =>
            refine ⟨k + 1, A6, N6, cap6, A4, N4, cap4, by omega, rfl, by go_num, by simpa using hz6, ?_, ?_, ?_, ?_, ?_, ?_, ?_⟩
            · have := HO6.out.len.1
              have h3 := HN3.out
              rw [List.length_append, List.length_singleton] at this
              omega
            · exact HX6.out.store 1 _
            · rw [HKD.out.1]; exact HO6.out.store (p := ⟨C + 1, 1, none⟩) HNX6.out _
            · rw [HKD.out.2]; exact HG6.out.store (p := ⟨C + 1, 1, none⟩) HNG6.out _
            · exact HJ16.out.apart (by simp; omega) _
            · exact HJ26.out.apart (by simp; omega) _
            · exact HB6.out.setCell (p := ⟨C + 1, 1, none⟩) (by simp; omega) _
          case measure => simp [intOf]; omega
    · have h5 : ¬ (k : Int) < (N : Int) := by omega
      have hkN : L.take k = L := List.take_of_length_le (by rw [HNL.out]; omega)
      rw [hkN] at HO HG
      clear hkN
      go_wp2
      refine bodyPost_ret (v := .tuple #[.agg #[.int .i64 n, .slice A3 N3 cap3], .slice A4 N4 cap4]) (by simp [results, Tryd.results82, go_sem, r0, r1]) rfl ?_
      exact give_exp hB HO.out HG.out HB.out
end Go.Proofs.YtpihibconbejlaaDoor

namespace Go.Proofs.YtpihibconbejlaaDoor
open Go.RowKit
set_option linter.unusedVariables false

end Go.Proofs.YtpihibconbejlaaDoor

namespace Go.Proofs.YtpihibconbejlaaDoor
open Go.RowKit
set_option linter.unusedVariables false

/-- The last link, and how many nodes are ahead of it. -/
def GivesEnd (w : World) (c : Nat) (X : NX) (e : Ending) (w' : World) : Prop := e = .returned (.tuple #[.pointer (some (lnk c X X.length)), .int .i64 (X.length : Int)]) ∧ w = w'
end Go.Proofs.YtpihibconbejlaaDoor

namespace Go.Proofs.YtpihibconbejlaaDoor
open Go.RowKit
set_option linter.unusedVariables false

section
variable {w : World} {t1 t2 t3 : TypeId} {c1 c2 c3 : Array Value}
/-- Two new blocks, one after the other. -/
theorem kp_two (w : World) (t1 t2 : TypeId) (c1 c2 : Array Value) {B : Nat} (hB : w.heap.size = B) : Kp ((w.alloc (.cells c1 t1)).alloc (.cells c2 t2)) fun w' => Below B w w' ∧ Whole w' B t1 c1 ∧ Whole w' (B + 1) t2 c2 ∧ B + 1 + 1 ≤ w'.heap.size := fun w2 h2 => by
  subst hB
  have h1 := (Whole.made w t1 c1).alloc (.cells c2 t2)
  have h3 := Whole.made (w.alloc (.cells c1 t1)) t2 c2
  have e : (w.alloc (.cells c1 t1)).heap.size = w.heap.size + 1 := by simp
  rw [e] at h3
  refine ⟨((below_new w _).alloc (by simp) _).trans (h2.mono (by simp; omega)), h1.below h2 h1.lt, h3.below h2 h3.lt, ?_⟩
  have := h2.size
  simp at this
  omega
end
theorem bxAp_size {n : Int} {L : List ML} (h : bOk n L = true) : L.length ≤ 10 ∧ 1 ≤ n := ⟨(bOk_iff.1 h).2.2.2.2, (bOk_iff.1 h).2.2.1⟩

end Go.Proofs.YtpihibconbejlaaDoor

namespace Go.Proofs.YtpihibconbejlaaDoor
set_option linter.unusedVariables false

theorem plc_get {len : Nat} {P : List Int} (h : plc len 0 P = true) {i : Nat} {x : Int} (hx : P[i]? = some x) : 1 ≤ x ∧ x ≤ (len : Int) := by
  have := (plc_iff.1 h).1 x (List.mem_of_getElem? hx)
  omega
theorem plc_lenI {len : Nat} : ∀ {P : List Int} {l : Int}, 0 ≤ l → l ≤ (len : Int) → plc len l P = true → l + (P.length : Int) ≤ (len : Int)
  | [], l, h0, h1, _ => by simpa using h1
  | x :: P, l, h0, h1, h => by
    rw [plc, Bool.and_eq_true, Bool.and_eq_true, decide_eq_true_eq, decide_eq_true_eq] at h
    have := plc_lenI (P := P) (l := x) (by omega) h.1.2 h.2
    rw [List.length_cons]
    omega
theorem plc_len {len : Nat} {P : List Int} (h : plc len 0 P = true) : P.length ≤ len := by
  have := plc_lenI (Int.le_refl 0) (by omega) h
  omega
theorem plc_new {len : Nat} {P : List Int} (h : plc len 0 P = true) {i : Nat} {x : Int} (hx : P[i]? = some x) : ∀ y ∈ P.take i, y < x := by
  intro y hy
  obtain ⟨j, hj⟩ := List.mem_iff_getElem?.1 hy
  have hp := (plc_iff.1 h).2
  obtain ⟨h1, e1⟩ := List.getElem?_eq_some_iff.1 hj
  rw [List.length_take] at h1
  rw [List.getElem_take] at e1
  obtain ⟨h2, e2⟩ := List.getElem?_eq_some_iff.1 hx
  have := List.pairwise_iff_getElem.1 hp j i (by omega) h2 (by omega)
  rw [e1, e2] at this
  exact this
theorem flM_step {P : List Int} {h f : Int} {L : List ML} {i k : Nat} {m : ML} (hp : plc L.length 0 P = true) (hx : P[i]? = some ((k + 1 : Nat) : Int)) (hm : L[k]? = some m) :
    (flM (P.take i) h f 1 L)[k]? = some m ∧ (flM (P.take i) h f 1 L).set k (chM h f m) = flM (P.take (i + 1)) h f 1 L := by
  have hn : (P.take i).contains ((1 + k : Nat) : Int) = false := by
    rw [← Bool.not_eq_true, List.contains_iff_mem]
    intro hc
    have := plc_new hp hx _ hc
    omega
  have h1 := flM_get (P.take i) h f 1 k L m hm
  rw [hn] at h1
  refine ⟨h1, ?_⟩
  apply List.ext_getElem?
  intro j
  have hk := (List.getElem?_eq_some_iff.1 hm).1
  by_cases hj : k = j
  · subst hj
    rw [List.getElem?_set_self (by rw [flM_len]; exact hk), flM_get _ _ _ 1 k L m hm]
    have : (P.take (i + 1)).contains ((1 + k : Nat) : Int) = true := by
      rw [List.contains_iff_mem, List.take_add_one, hx]
      exact List.mem_append_right _ (by simp; omega)
    rw [this]
    rfl
  · rw [List.getElem?_set_ne hj]
    rcases Nat.lt_or_ge j L.length with hl | hl
    · rw [flM_get _ _ _ 1 j L _ (List.getElem?_eq_getElem hl), flM_get _ _ _ 1 j L _ (List.getElem?_eq_getElem hl)]
      have : (P.take (i + 1)).contains ((1 + j : Nat) : Int) = (P.take i).contains ((1 + j : Nat) : Int) := by
        rw [Bool.eq_iff_iff, List.contains_iff_mem, List.contains_iff_mem, List.take_add_one, hx]
        constructor
        · intro hc
          rcases List.mem_append.1 hc with hc | hc
          · exact hc
          · simp at hc
            omega
        · exact fun hc => List.mem_append_left _ hc
      rw [this]
    · rw [List.getElem?_eq_none (by rw [flM_len]; exact hl), List.getElem?_eq_none (by rw [flM_len]; exact hl)]
theorem flM_done (P : List Int) (h f : Int) (L : List ML) : flM (P.take P.length) h f 1 L = flM P h f 1 L := by rw [List.take_length]
theorem bxFl_no {n : Int} {L : List ML} {P : List Int} {h f : Int} (hn : (bOk n L && plc L.length 0 P && howB h && isF f) = false) : bxFl n L P h f = (0, [], false) := by unfold bxFl; rw [hn]; rfl
theorem bxFl_yes {n : Int} {L : List ML} {P : List Int} {h f : Int} (h1 : bOk n L = true) (h2 : plc L.length 0 P = true) (h3 : howB h = true) (h4 : isF f = true) : bxFl n L P h f = (n, flM P h f 1 L, true) := by unfold bxFl; rw [h1, h2, h3, h4]; rfl

theorem cpA_full {n : Int} {M : List ML} {m : ML} {r : List ML} (h : 10 ≤ M.length ∨ 99 < n) : cpA n M (m :: r) = none := by rw [cpA, if_pos h]
theorem cpA_next {n : Int} {M : List ML} {m : ML} {r : List ML} (h : ¬ (10 ≤ M.length ∨ 99 < n)) : cpA n M (m :: r) = cpA (n + 1) (M ++ [(n, m.2.1, m.2.2)]) r := by rw [cpA, if_neg h]
theorem bxCp_no {n m : Int} {L M : List ML} {P : List Int} (h : (bOk n L && bOk m M && plc L.length 0 P) = false) : bxCp n L P m M = (0, [], false) := by unfold bxCp; rw [h]; rfl
theorem bxCp_all {n m n2 : Int} {L M M2 : List ML} {P : List Int} (h1 : bOk n L = true) (h2 : bOk m M = true) (h3 : plc L.length 0 P = true) (hc : cpA m M (atM L P) = some (n2, M2)) : bxCp n L P m M = (n2, M2, true) := by unfold bxCp; rw [h1, h2, h3, hc]; rfl
theorem bxCp_none {n m : Int} {L M : List ML} {P : List Int} (h1 : bOk n L = true) (h2 : bOk m M = true) (h3 : plc L.length 0 P = true) (hc : cpA m M (atM L P) = none) : bxCp n L P m M = (m, M, false) := by unfold bxCp; rw [h1, h2, h3, hc]; rfl
theorem atM_drop {L : List ML} {P : List Int} {i k : Nat} {m : ML} (hx : P[i]? = some ((k + 1 : Nat) : Int)) (hm : L[k]? = some m) : (atM L P).drop i = m :: (atM L P).drop (i + 1) := by
  have h := atM_get (m := m) hx (by rw [show ((k + 1 : Nat) : Int).toNat - 1 = k by omega]; exact hm)
  obtain ⟨hk, e⟩ := List.getElem?_eq_some_iff.1 h
  rw [List.drop_eq_getElem_cons hk, e]

theorem udM_app (U : List Int) : ∀ (i : Nat) (L M : List ML), udM U i (L ++ M) = udM U i L ++ udM U (i + L.length) M
  | i, [], M => rfl
  | i, m :: r, M => by
    rw [List.cons_append, udM, udM, udM_app U (i + 1) r M, List.length_cons, show i + 1 + r.length = i + (r.length + 1) by omega]
    split <;> rfl
/-- The places as numbers. -/
def udI (U : List Int) (L : List ML) : List Int := (udM U 1 L).map fun (x : Nat) => (x : Int)
theorem udI_yes {U : List Int} {L : List ML} {k : Nat} {x : ML} (hx : L[k]? = some x) (h : U.contains x.1 = true) : udI U (L.take (k + 1)) = udI U (L.take k) ++ [((k + 1 : Nat) : Int)] := by
  have hk := (List.getElem?_eq_some_iff.1 hx).1
  unfold udI
  rw [List.take_add_one, hx]
  show (udM U 1 (L.take k ++ [x])).map _ = _
  rw [udM_app, List.map_append, List.length_take, Nat.min_eq_left (by omega), udM, h, if_pos rfl, show 1 + k = k + 1 by omega]
  rfl
theorem udI_no {U : List Int} {L : List ML} {k : Nat} {x : ML} (hx : L[k]? = some x) (h : U.contains x.1 = false) : udI U (L.take (k + 1)) = udI U (L.take k) := by
  unfold udI
  rw [List.take_add_one, hx]
  show (udM U 1 (L.take k ++ [x])).map _ = _
  rw [udM_app, List.map_append, udM, h, if_neg (by simp)]
  exact List.append_nil _
theorem udM_le (U : List Int) : ∀ (i : Nat) (L : List ML), (udM U i L).length ≤ L.length
  | _, [] => Nat.le_refl _
  | i, m :: r => by
    rw [udM]
    have := udM_le U (i + 1) r
    split <;> simp <;> omega
theorem udI_le (U : List Int) (L : List ML) : (udI U L).length ≤ L.length := by unfold udI; rw [List.length_map]; exact udM_le U 1 L
/-- BoxUids as numbers. -/
def bxUI (n : Int) (L : List ML) (U : List Int) : List Int := if bOk n L then udI U L else []
theorem bxUI_yes {n : Int} {L : List ML} {U : List Int} (h : bOk n L = true) : bxUI n L U = udI U L := by unfold bxUI; rw [h]; rfl
theorem bxUI_no {n : Int} {L : List ML} {U : List Int} (h : bOk n L = false) : bxUI n L U = [] := by unfold bxUI; rw [h]; rfl

theorem dl_have {u f : Int} {t : List UInt8} (h : mOk (u, f, t) = true) : hvI f 8 = dlM (u, f, t) := by
  obtain ⟨_, h2, _⟩ := mOk_iff.1 h
  obtain ⟨a, ha, e⟩ := isF_nat h2
  simp only at e
  subst e
  rw [show (8 : Int) = ((8 : Nat) : Int) from rfl, hvI_yes ha (by omega)]
  exact have_bit (f := a) (k := 3) ha (by omega)
end Go.Proofs.YtpihibconbejlaaDoor

namespace Go.Proofs.YtpihibconbejlaaDoor
open Go.RowKit
set_option linter.unusedVariables false

/-- Where a number is in a list, or a negative number. -/
def SaysAt (w : World) (b : Bool) (e : Ending) (w' : World) : Prop := ∃ z : Int, e = .returned (.int .i64 z) ∧ decide (0 ≤ z) = b ∧ Below w.heap.size w w'
set_option maxRecDepth 20000 in
set_option maxHeartbeats 2000000 in
theorem lib_index {A : Option Addr} {N cap : Nat} {P : List Int} (x : Int) (w : World) (h : IIn w A N cap P) :
    Calls Tryd.prog 91 #[.slice A N cap, .int .i64 x] w (SaysAt w (hasI P x)) := by
  have H := Lib.hid h
  have hl := h.2.1
  clear h
  go_enter Tryd.func91, Tryd.ntmps91
  go_wp2
  go_loopw [8] (fun i wr => ∃ k : Nat, k ≤ N ∧ i = .int .i64 (k : Int) ∧ Hid (hasI (P.take k) x = false) ∧ Hid (Below w.heap.size w wr)) (fun i _ => N - (intOf i).toNat)
  case atStart => exact ⟨0, Nat.zero_le _, by go_num, by rw [List.take_zero]; rfl, Below.refl _ _⟩
  case round =>
    obtain ⟨k, hk, rfl, HT, HB⟩ := hrel
    by_cases hlt : k < N
    · have h0 : (0 : Int) ≤ (k : Int) := by omega
      have h5 : (k : Int) < (N : Int) := by omega
      obtain ⟨u, hx⟩ : ∃ x, P[k]? = some x := ⟨_, List.getElem?_eq_getElem (by rw [H.out.1]; exact hlt)⟩
      obtain ⟨b, o, hAe, hb, c0⟩ := int_at (H.out.2.2.1.below HB.out (Nat.le_refl _)) hx
      have HX := Lib.hid hx
      clear hx
      subst hAe
      by_cases e1 : x = u
      · subst e1
        have hee : (x == x) = true := by simp
        go_wp2
        go_ret
        exact ⟨k, rfl, by rw [has_yes HX.out]; exact decide_eq_true (by omega), HB.out⟩
      · have hne : (x == u) = false := beq_eq_false_iff_ne.2 e1
        have HE : Hid (u ≠ x) := fun e => e1 e.symm
        clear e1
        go_wp2
        go_roundw
        case rel => exact ⟨k + 1, by omega, by go_num, has_no HT.out HX.out HE.out, HB.out⟩
        case measure => simp [intOf]; omega
    · have h5 : ¬ (k : Int) < (N : Int) := by omega
      have HE : Hid (hasI P x = false) := by
        have h := HT.out
        rw [List.take_of_length_le (by rw [H.out.1]; omega)] at h
        exact h
      go_wp2
      go_ret
      exact ⟨-1, rfl, by rw [HE.out]; rfl, HB.out⟩
set_option maxRecDepth 20000 in
set_option maxHeartbeats 2000000 in
theorem lib_has {A : Option Addr} {N cap : Nat} {P : List Int} (x : Int) (w : World) (h : IIn w A N cap P) :
    Calls Tryd.prog 61 #[.slice A N cap, .int .i64 x] w (SaysB w (hasI P x)) := by
  have H := Lib.hid h
  clear h
  obtain ⟨b, hb⟩ : ∃ b, hasI P x = b := ⟨_, rfl⟩
  have HBB := Lib.hid hb
  rw [hb]
  clear hb
  go_enter Tryd.func61, Tryd.ntmps61
  go_wp2_with fail
  refine (lib_index x _ H.out).mono ?_
  rintro e w2 ⟨z, rfl, hz, hb⟩
  rw [HBB.out] at hz
  have HZ := Lib.hid hz
  have HB := Lib.hid hb
  clear hz hb
  go_wp2
  go_ret
  refine ⟨ret_bool ?_, HB.out⟩
  rw [← HZ.out]

/-- A list of messages in memory of its own. -/
def GivesM (w : World) (L : List ML) (e : Ending) (w' : World) : Prop := ∃ A N cap, e = .returned (.slice A N cap) ∧ ROwn mailR w' w.heap.size (.slice A N cap) L ∧ Below w.heap.size w w'
/-- Numbers of the call's own. -/
def GivesN (w : World) (G : List Int) (e : Ending) (w' : World) : Prop := ∃ A N cap, e = .returned (.slice A N cap) ∧ ROwn intR w' w.heap.size (.slice A N cap) G ∧ Below w.heap.size w w'
theorem kp_one (w : World) (t : TypeId) (cs : Array Value) {B : Nat} (hB : w.heap.size = B) : Kp (w.alloc (.cells cs t)) fun w' => Below B w w' ∧ Whole w' B t cs ∧ B + 1 ≤ w'.heap.size := fun w2 h2 => by
  subst hB
  exact ⟨(below_new w _).trans (h2.mono (by simp)), (Whole.made w t cs).below h2 (Whole.made w t cs).lt, by have := h2.size; simp at this; omega⟩
set_option maxRecDepth 20000 in
set_option maxHeartbeats 4000000 in
theorem impl_uids (n : Int) (A : Option Addr) (N cap : Nat) (L : List ML) (A2 : Option Addr) (N2 cap2 : Nat) (U : List Int) (w : World) (hM : MIn w A N cap L) (hI : IIn w A2 N2 cap2 U) :
    Calls Tryd.prog 38 #[.agg #[.int .i64 n, .slice A N cap], .slice A2 N2 cap2] w (GivesN w (bxUI n L U)) := by
  obtain ⟨j0, hj, hp0, hp1, hp2⟩ := info_parts Tryd.infoNum
  obtain ⟨B, hB⟩ : ∃ B, w.heap.size = B := ⟨_, rfl⟩
  have K0 := Lib.hid (((kp_one w 37 #[.int .i64 n, .slice A N cap] hB).and (hM.keep.alloc (.cells #[.int .i64 n, .slice A N cap] 37))).and (hI.keep.alloc (.cells #[.int .i64 n, .slice A N cap] 37)))
  have b0 := K0.out.here.1.1.2.1.cell 0
  have b1 := K0.out.here.1.1.2.1.cell 1
  simp at b0 b1
  have HN := Lib.hid hM.1
  clear hM hI
  cases hbv : bOk n L with
  | false =>
    have HBV := Lib.hid hbv
    have HR := Lib.hid (bxUI_no (U := U) hbv)
    clear hbv
    go_enter Tryd.func38, Tryd.ntmps38
    go_wp2_with fail
    refine (impl_boxvalid n A N cap L _ K0.out.here.1.2).mono ?_
    rw [HBV.out]
    rintro e w2 ⟨rfl, hb⟩
    have K2 := Lib.hid (K0.out.move hb)
    clear hb
    go_wp2
    go_ret
    exact ⟨none, 0, 0, rfl, by rw [HR.out]; exact ROwn.nil _ _, hB ▸ K2.out.here.1.1.1⟩
  | true =>
    have HBV := Lib.hid hbv
    have HR := Lib.hid (bxUI_yes (U := U) hbv)
    obtain ⟨hl10, -⟩ := bxAp_size hbv
    have hN10 : N ≤ 10 := by rw [← HN.out]; exact hl10
    clear hbv
    go_enter Tryd.func38, Tryd.ntmps38
    go_wp2_with fail
    refine (impl_boxvalid n A N cap L _ K0.out.here.1.2).mono ?_
    rw [HBV.out]
    rintro e w2 ⟨rfl, hb⟩
    have K2 := Lib.hid (K0.out.move hb)
    have HBW := Lib.hid (K2.out.here.1.1.1)
    have hz2 := K2.out.here.1.1.2.2
    clear hb b0 b1
    have b0 := K2.out.here.1.1.2.1.cell 0
    have b1 := K2.out.here.1.1.2.1.cell 1
    simp at b0 b1
    go_wp2
    go_loopw [5, 14] (fun v i wr => ∃ (k : Nat) (A3 : Option Addr) (N3 cap3 : Nat), k ≤ N ∧ v = .slice A3 N3 cap3 ∧ i = .int .i64 (k : Int) ∧ N3 ≤ k ∧ w2.heap.size ≤ wr.heap.size ∧ Hid (ROwn intR wr w2.heap.size (.slice A3 N3 cap3) (udI U (L.take k))) ∧ Hid (Below w2.heap.size w2 wr)) (fun _ i _ => N - (intOf i).toNat)
    case atStart => exact ⟨0, none, 0, 0, Nat.zero_le _, rfl, by go_num, Nat.le_refl _, Nat.le_refl _, ROwn.nil _ _, Below.refl _ _⟩
    case round =>
      obtain ⟨k, A3, N3, cap3, hk, rfl, rfl, hN3, hzr, HO, HB⟩ := hrel
      have K3 := Lib.hid (K2.out.move HB.out)
      by_cases hlt : k < N
      · have h0 : (0 : Int) ≤ (k : Int) := by omega
        have h5 : (k : Int) < (N : Int) := by omega
        obtain ⟨⟨u, f, t⟩, hx⟩ : ∃ x, L[k]? = some x := ⟨_, List.getElem?_eq_getElem (by rw [HN.out]; exact hlt)⟩
        obtain ⟨b, o, hAe, hb, c0, c1, c2⟩ := mail_at K3.out.here.1.2.2.2.1 hx
        have HX := Lib.hid hx
        clear hx
        obtain ⟨v, hv⟩ : ∃ v, sB t = v := ⟨_, rfl⟩
        rw [hv] at c2
        clear hv
        have HI3 := Lib.hid (K3.out.here.2.below (below_new wr (.cells #[.int .i64 u, .int .i64 f, .string v] 48)) (Nat.le_refl _))
        have HO3 := Lib.hid (HO.out.alloc (.cells #[.int .i64 u, .int .i64 f, .string v] 48))
        have HB3 := Lib.hid (HB.out.alloc hzr (.cells #[.int .i64 u, .int .i64 f, .string v] 48))
        subst hAe
        cases hh : hasI U u with
        | false =>
          have HH := Lib.hid hh
          clear hh
          go_wp2_with fail
          refine (lib_has u _ HI3.out).mono ?_
          rw [HH.out]
          rintro e w4 ⟨rfl, hb4⟩
          have HO4 := Lib.hid (HO3.out.kept hb4)
          have HB4 := Lib.hid (HB3.out.trans (hb4.mono HB3.out.size))
          have hz4 := HB4.out.size
          clear hb4
          go_wp2
          go_roundw
          case rel => exact ⟨k + 1, A3, N3, cap3, by omega, rfl, by go_num, by omega, hz4, by show ROwn _ _ _ _ _; rw [udI_no HX.out HH.out]; exact HO4.out, HB4.out⟩
          case measure => simp [intOf]; omega
        | true =>
          have HH := Lib.hid hh
          clear hh
          have W1 : IntKind.i64.wrap ((k : Int) + 1) = ((k + 1 : Nat) : Int) := (IntWalk.i64_in _ (by omega)).trans (by omega)
          have E1 : (k : Int) + 1 = ((k + 1 : Nat) : Int) := by omega
          go_wp2_with fail
          refine (lib_has u _ HI3.out).mono ?_
          rw [HH.out]
          rintro e w4 ⟨rfl, hb4⟩
          have HO4 := Lib.hid (HO3.out.kept hb4)
          have HB4 := Lib.hid (HB3.out.trans (hb4.mono HB3.out.size))
          have hz4 := HB4.out.size
          clear hb4
          have hnew : RAt intR (w4.alloc (.cells #[.int .i64 ((k : Int) + 1)] 3)) (some ⟨w4.heap.size, 0, none⟩) [(k : Int) + 1] := RAt.made intR w4 [(k : Int) + 1] _ rfl
          have hown := HO4.out.alloc (.cells #[.int .i64 ((k : Int) + 1)] 3)
          have HN3 := Lib.hid HO4.out.len.1.symm
          have hml : N3 + 1 ≤ maxLen := by unfold maxLen; omega
          have hby : (N3 + 1) * 8 ≤ 140737488355328 := by omega
          clear W1 E1
          go_wp2_with (at_builtin; refine wpList_append_rows rfl (.tmp 23) (.tmp 26) 40 rfl intR w2.heap.size j0 _ 8 Tryd.underlying40 hj hp0 hp1 hp2 rfl (by decide) _ (udI U (L.take k)) [(k : Int) + 1] N3 HN3.out rfl hown _ 1 1 rfl rfl hnew (fun e => by cases e) (fun q e => by cases e; rfl) hml hby (by simp; omega) ?_)
          intro v' w5 hown5 hgrow hnn
          obtain ⟨A5, N5, cap5, rfl⟩ := hown5.val
          have HO5 := Lib.hid hown5
          have HB5 := Lib.hid ((HB4.out.alloc hz4 (.cells #[.int .i64 ((k : Int) + 1)] 3)).grown hgrow (by simp; omega) (fun z hz => (World.ownsRow.lt hown z hz).1))
          have hz5 := HB5.out.size
          have hn5 : N5 = N3 + 1 := by
            have h1 := HO5.out.len.1
            have h2 := HN3.out
            rw [List.length_append, List.length_singleton] at h1
            omega
          clear hown5 hgrow hown hnew hnn hml hby
          subst hn5
          go_wp2
          go_roundw
          case rel => exact ⟨k + 1, A5, N3 + 1, cap5, by omega, rfl, by go_num, by omega, hz5, by show ROwn _ _ _ _ _; rw [udI_yes HX.out HH.out]; exact HO5.out, HB5.out⟩
          case measure => simp [intOf]; omega
      · have h5 : ¬ (k : Int) < (N : Int) := by omega
        have HLK : Hid (L.take k = L) := List.take_of_length_le (by rw [HN.out]; omega)
        go_wp2
        go_ret
        refine ⟨A3, N3, cap3, rfl, ?_, ?_⟩
        · have h1 := HO.out
          rw [HLK.out] at h1
          rw [HR.out, hB]
          exact h1.from (by omega)
        · rw [hB]
          exact HBW.out.trans (HB.out.mono (by omega))
end Go.Proofs.YtpihibconbejlaaDoor

namespace Go.Proofs.YtpihibconbejlaaDoor
open Go.RowKit
set_option linter.unusedVariables false

theorem plc_end (len : Nat) (l : Int) : plc len l [] = true := rfl

end Go.Proofs.YtpihibconbejlaaDoor
namespace Go.Proofs.YtpihibconbejlaaDoor
open Go.RowKit
set_option linter.unusedVariables false

theorem low_of {last x1 x2 a b : Int} (h1 : (if x1 = 0 then last else x1) = a) (h2 : (if x2 = 0 then last else x2) = b) : lowE last (x1, x2) = min a b ∧ highE last (x1, x2) = max a b := by
  unfold lowE highE
  simp only [h1, h2]
  exact ⟨trivial, trivial⟩
theorem ret_ends {a b c d : Int} (h1 : a = c) (h2 : b = d) : Ending.returned (.tuple #[.int .i64 a, .int .i64 b]) = .returned (.tuple #[.int .i64 c, .int .i64 d]) := by rw [h1, h2]
set_option maxHeartbeats 2000000 in
theorem ends_any (x1 x2 last : Int) (w : World) :
    Calls Tryd.prog 90 #[.agg #[.int .i64 x1, .int .i64 x2], .int .i64 last] w fun e w' => e = .returned (.tuple #[.int .i64 (lowE last (x1, x2)), .int .i64 (highE last (x1, x2))]) ∧ Below w.heap.size w w' := by
  by_cases e1 : x1 = 0 <;> by_cases e2 : x2 = 0
  · subst e1
    subst e2
    have HL := Lib.hid (low_of (last := last) (x1 := 0) (x2 := 0) (if_pos rfl) (if_pos rfl))
    go_enter Tryd.func90, Tryd.ntmps90
    go_wp2
    go_quiet (fail)
    go_wp2
    go_ret2
    exact ⟨ret_ends (by rw [HL.out.1, Int.min_self]) (by rw [HL.out.2, Int.max_self]), below_drewN' ((Below.refl _ _).alloc (Nat.le_refl _) _) _⟩
  · subst e1
    have f2 := eq0_no e2
    have E2 := Lib.hid e2
    clear e2
    have HL := Lib.hid (low_of (last := last) (x1 := 0) (x2 := x2) (if_pos rfl) (if_neg E2.out))
    go_enter Tryd.func90, Tryd.ntmps90
    go_wp2
    go_quiet (fail)
    go_wp2
    go_ret2
    exact ⟨ret_ends HL.out.1.symm HL.out.2.symm, below_drewN' ((Below.refl _ _).alloc (Nat.le_refl _) _) _⟩
  · have f1 := eq0_no e1
    have E1 := Lib.hid e1
    clear e1
    subst e2
    have HL := Lib.hid (low_of (last := last) (x1 := x1) (x2 := 0) (if_neg E1.out) (if_pos rfl))
    go_enter Tryd.func90, Tryd.ntmps90
    go_wp2
    go_quiet (fail)
    go_wp2
    go_ret2
    exact ⟨ret_ends HL.out.1.symm HL.out.2.symm, below_drewN' ((Below.refl _ _).alloc (Nat.le_refl _) _) _⟩
  · have f1 := eq0_no e1
    have E1 := Lib.hid e1
    clear e1
    have f2 := eq0_no e2
    have E2 := Lib.hid e2
    clear e2
    have HL := Lib.hid (low_of (last := last) (x1 := x1) (x2 := x2) (if_neg E1.out) (if_neg E2.out))
    go_enter Tryd.func90, Tryd.ntmps90
    go_wp2
    go_quiet (fail)
    go_wp2
    go_ret2
    exact ⟨ret_ends HL.out.1.symm HL.out.2.symm, below_drewN' ((Below.refl _ _).alloc (Nat.le_refl _) _) _⟩

/-- An array of marks. -/
def mkA (f : Nat → Bool) : Array Value := (Array.range 100).map fun i => Value.bool (f i)
theorem mkA_size (f : Nat → Bool) : (mkA f).size = 100 := by unfold mkA; simp
theorem mkA_get (f : Nat → Bool) {i : Nat} (h : i < 100) : (mkA f)[i]? = some (.bool (f i)) := by
  unfold mkA
  rw [Array.getElem?_map, Array.getElem?_range]
  simp [h]
theorem mkA_set (f : Nat → Bool) {j : Nat} (h : j < 100) : (mkA f).setIfInBounds j (.bool true) = mkA (fun i => f i || i == j) := by
  apply Array.ext_getElem?
  intro i
  rw [Array.getElem?_setIfInBounds]
  by_cases hj : j = i
  · subst hj
    rw [if_pos rfl, if_pos (by rw [mkA_size]; exact h), mkA_get _ h]
    simp
  · rw [if_neg hj]
    by_cases hi : i < 100
    · rw [mkA_get _ hi, mkA_get _ hi]
      have : (i == j) = false := by simpa using fun e => hj e.symm
      rw [this, Bool.or_false]
    · rw [Array.getElem?_eq_none (by rw [mkA_size]; omega), Array.getElem?_eq_none (by rw [mkA_size]; omega)]
theorem mkA_one (f : Nat → Bool) : (mkA f).all (·.oneCell') = true := by
  rw [Array.all_eq_true]
  intro i hi
  rw [mkA_size] at hi
  have := mkA_get f hi
  rw [Array.getElem?_eq_getElem (by rw [mkA_size]; exact hi)] at this
  rw [Option.some.inj this]
  rfl
theorem Tryd.infoMarks : (Tryd.prog.info? 86).map (fun i => (i.zero, i.size)) = some (some (.agg (mkA fun _ => false)), 100) := by kernel_rfl
theorem zero_marks (w : World) : (zeroValue 86).run Tryd.prog w = .ok (.agg (mkA fun _ => false)) w := (zero_of_info Tryd.infoMarks).1 w
theorem load_whole {w : World} {b : Nat} {t : TypeId} {cs : Array Value} (h : Whole w b t cs) (n : Nat) (hn : cs.size = n) : (loadCellsFrom ⟨b, 0, none⟩ 0 n #[]).run Tryd.prog w = .ok cs w := by
  subst hn
  have := run_loadCells_list (P := Tryd.prog) w ⟨b, 0, none⟩ cs.toList (fun j v hv => by
    rw [add_none, Nat.zero_add, h.cell j]
    simpa using hv)
  simpa [loadCells] using this
theorem store_whole {w : World} {b : Nat} {cs c' : Array Value} (h : Whole w b 86 cs) (hn : cs.size = 100) (hn' : c'.size = 100) (h1 : c'.all (·.oneCell') = true) : (storeCells ⟨b, 0, none⟩ c'.toList 0).run Tryd.prog w = .ok () (w.setRow b c') := by
  have hi : (Tryd.prog.info? 86).map (·.size) = some c'.size := by rw [hn']; exact (zero_of_info Tryd.infoMarks).2
  have := run_storeVar_row (P := Tryd.prog) w b 86 86 cs c' h hi (by rw [hn, hn']) h1
  cases hq : Tryd.prog.info? 86 with
  | none => simp [hq] at hi
  | some i =>
    have hs : c'.size = i.size := by simp [hq] at hi; omega
    simpa [storeVar, sizeOf, typeInfo, hq, Value.cells, hs] using this
theorem marks_size {c : Array Value} (h : c.size = 100) : (Tryd.prog.info? 86).map (·.size) = some c.size := by rw [h]; exact (zero_of_info Tryd.infoMarks).2
theorem wpList_load_row {ops : Array Oper} {rest : List Oper} {op : Oper} {a : Act} {w : World} {Q : Exit → Act → World → Prop} (hgd : op.guard = none) (x : Operand) (ho : op.op = .load 86 x)
    (b : Nat) (hx : a.eval x = .pointer (some ⟨b, 0, none⟩)) (c : Array Value) (hc : Whole w b 86 c) (hn : c.size = 100)
    (h : wpList Tryd.prog ops Q rest (a.put op.dst (.agg c)) w) : wpList Tryd.prog ops Q (op :: rest) a w :=
  wpList_load_mid hgd 86 x ho b 0 hx c.toList _ (fun j v hv => by rw [Nat.zero_add, hc.cell j]; simpa using hv) Tryd.underlying86 rfl (by rw [Array.length_toList]; exact marks_size hn) h
theorem wpList_store_row {ops : Array Oper} {rest : List Oper} {op : Oper} {a : Act} {w : World} {Q : Exit → Act → World → Prop} (hgd : op.guard = none) (x y : Operand) (ho : op.op = .store 86 x y)
    (b : Nat) (c old : Array Value) (hx : a.eval x = .pointer (some ⟨b, 0, none⟩)) (hy : a.eval y = .agg c) (hc : Whole w b 86 old) (hn : old.size = 100) (hn' : c.size = 100) (h1 : c.all (·.oneCell') = true)
    (h : wpList Tryd.prog ops Q rest (a.put op.dst undef) (w.setRow b c)) : wpList Tryd.prog ops Q (op :: rest) a w := by
  refine wpList_plain hgd fun _ hK => ?_
  unfold Oper.wp execOp
  simp only [ho, hx, hy, Instr.storeAt, Instr.sureAddr, Sem.run_bind, Sem.run_pure, Result.andThen_ok, run_storeVar_row (P := Tryd.prog) w b 86 86 old c hc (marks_size hn') (by rw [hn, hn']) h1]
  exact hK _ _ h
theorem below_setRow {B : Nat} {a w : World} (h : Below B a w) {b : Nat} (hb : B ≤ b) (c : Array Value) : Below B a (w.setRow b c) :=
  ⟨h.os, h.tape, h.output, by simpa [World.setRow] using h.size, fun k hk => (setRow_other w b k c (by omega)).trans (h.block k hk)⟩
theorem whole_setRow {w : World} {b : Nat} {t : TypeId} {cs : Array Value} (h : Whole w b t cs) (c : Array Value) : Whole (w.setRow b c) b t c := setRow_heap w b cs c t _ h
theorem low_high {last : Int} {x : Int × Int} (hx : spanB x = true) (h1 : 1 ≤ last) (h2 : last ≤ 99) : ∃ a b : Nat, lowE last x = (a : Int) ∧ highE last x = (b : Int) ∧ 1 ≤ a ∧ a ≤ b ∧ b ≤ 99 := by
  obtain ⟨⟨a1, a2⟩, b1, b2⟩ := spanB_iff.1 hx
  have hl : 1 ≤ lowE last x ∧ lowE last x ≤ highE last x ∧ highE last x ≤ 99 := by
    unfold lowE highE
    split <;> split <;> omega
  exact ⟨(lowE last x).toNat, (highE last x).toNat, by omega, by omega, by omega, by omega, by omega⟩
theorem has_nat {last : Int} {x : Int × Int} {a b : Nat} (ha : lowE last x = (a : Int)) (hb : highE last x = (b : Int)) (n : Nat) : hasE last (n : Int) x = (decide (a ≤ n) && decide (n ≤ b)) := by
  unfold hasE inB
  rw [ha, hb, Bool.eq_iff_iff]
  simp
set_option maxHeartbeats 4000000 in
theorem mark_any (A : Option Addr) (cap : Nat) (L : List (Int × Int)) (last : Int) (w : World) (h : SpA w A L) (hl : L.length ≤ 33554432) (hs : setB L = true) (h1 : 1 ≤ last) (h2 : last ≤ 99) :
    Calls Tryd.prog 60 #[.slice A L.length cap, .int .i64 last] w fun e w' => e = .returned (.agg (mkA fun n => hasB L last (n : Int))) ∧ Below w.heap.size w w' := by
  obtain ⟨Z, hZ⟩ : ∃ Z, mkA (fun _ => false) = Z := ⟨_, rfl⟩
  have hv : ∀ w, (zeroValue 86).run Tryd.prog w = .ok (.agg Z) w := fun w => by rw [← hZ]; exact zero_marks w
  obtain ⟨m, hm⟩ : ∃ m, L.length = m := ⟨_, rfl⟩
  have H := Lib.hid h
  have HS := Lib.hid hs
  have HZ := Lib.hid hZ
  have HM := Lib.hid hm
  have HLA : Hid (1 ≤ last ∧ last ≤ 99) := ⟨h1, h2⟩
  rw [hm] at hl ⊢
  clear h hs hZ hm h1 h2
  go_enter Tryd.func60, Tryd.ntmps60
  go_wp2
  go_loopg [13] m (fun g i wr => ∃ k : Nat, k ≤ m ∧ g = m - k ∧ i = .int .i64 (k : Int) ∧ Hid (Below w.heap.size w wr) ∧ Hid (Whole wr w.heap.size 86 Z) ∧ Hid (Whole wr (w.heap.size + 1) 86 (mkA fun n => (L.take k).any (hasE last (n : Int)))))
  case atStart =>
    refine ⟨0, Nat.zero_le _, rfl, by go_num, ((Below.refl _ _).alloc (Nat.le_refl _) _).alloc (by simp) _, (Whole.made w _ _).alloc _, ?_⟩
    have := Whole.made (w.alloc (.cells Z 86)) 86 Z
    have e : (mkA fun n => (L.take 0).any (hasE last (n : Int))) = Z := by rw [← HZ.out]; simp
    rw [e]
    show Whole _ _ _ _
    simpa using this
  case round =>
    obtain ⟨k, hk, hg, rfl, HB, HW4, HW5⟩ := hrel
    have HG := Lib.hid hg
    clear hg
    have hbz := HB.out.size
    by_cases hlt : k < m
    · have h0 : (0 : Int) ≤ (k : Int) := by omega
      have h5 : (k : Int) < (m : Int) := by omega
      obtain ⟨⟨x1, x2⟩, hx⟩ : ∃ x, L[k]? = some x := ⟨_, List.getElem?_eq_getElem (by rw [HM.out]; exact hlt)⟩
      obtain ⟨b, o, rfl, hb, c1, c2⟩ := (H.out.below HB.out (Nat.le_refl _)) k _ hx
      have HX := Lib.hid hx
      clear hx
      obtain ⟨lo, hi, hlo, hhi, l1, l2, l3⟩ := low_high ((setB_iff.1 HS.out).1 _ (List.mem_of_getElem? HX.out)) HLA.out.1 HLA.out.2
      have HLO : Hid (lowE last (x1, x2) = (lo : Int) ∧ highE last (x1, x2) = (hi : Int)) := ⟨hlo, hhi⟩
      clear hlo hhi
      go_wp2_with fail
      refine (ends_any x1 x2 last _).mono ?_
      rintro e w2 ⟨rfl, hb2⟩
      rw [HLO.out.1, HLO.out.2]
      have hsz : (wr.alloc (.cells #[.int .i64 x1, .int .i64 x2] 108)).heap.size = wr.heap.size + 1 := by simp
      rw [hsz] at hb2
      have hl4 := HW4.out.lt
      have hl5 := HW5.out.lt
      have HB2 := Lib.hid ((HB.out.alloc hbz (.cells #[.int .i64 x1, .int .i64 x2] 108)).trans (hb2.mono (by omega)))
      have HW42 := Lib.hid ((HW4.out.alloc (.cells #[.int .i64 x1, .int .i64 x2] 108)).below hb2 (by omega))
      have HW52 := Lib.hid ((HW5.out.alloc (.cells #[.int .i64 x1, .int .i64 x2] 108)).below hb2 (by omega))
      clear hb2 hsz
      go_wp2
      go_loopg [10] (hi + 1 - lo) (fun g v wq => ∃ j : Nat, lo ≤ j ∧ j ≤ hi + 1 ∧ g = hi + 1 - j ∧ v = .int .i64 (j : Int) ∧ Hid (Below w.heap.size w wq) ∧ Hid (Whole wq w.heap.size 86 Z) ∧ Hid (Whole wq (w.heap.size + 1) 86 (mkA fun n => (L.take k).any (hasE last (n : Int)) || (decide (lo ≤ n) && decide (n < j)))))
      case atStart =>
        refine ⟨lo, Nat.le_refl _, by omega, rfl, rfl, HB2.out, HW42.out, ?_⟩
        have e : (fun n : Nat => (L.take k).any (hasE last (n : Int)) || (decide (lo ≤ n) && decide (n < lo))) = fun n : Nat => (L.take k).any (hasE last (n : Int)) := by
          funext n
          have : (decide (lo ≤ n) && decide (n < lo)) = false := by
            rw [← Bool.not_eq_true, Bool.and_eq_true, decide_eq_true_eq, decide_eq_true_eq]
            omega
          rw [this, Bool.or_false]
        rw [e]
        exact HW52.out
      case round =>
        obtain ⟨j, j1, j2, hgj, rfl, HBj, HW4j, HW5j⟩ := hrel
        have HGJ := Lib.hid hgj
        clear hgj
        by_cases hj : j ≤ hi
        · have q0 : (0 : Int) ≤ (j : Int) := by omega
          have q1 : (j : Int) ≤ (hi : Int) := by omega
          have q2 : (j : Int) < 100 := by omega
          have q3 : j < 100 := by omega
          obtain ⟨u, hu⟩ : ∃ u, (mkA fun n => (L.take k).any (hasE last (n : Int)) || (decide (lo ≤ n) && decide (n < j)))[j]? = some u := ⟨_, mkA_get _ q3⟩
          have hcell : wr.cell? ⟨w.heap.size + 1, j, none⟩ = some u := (HW5j.out.cell j).trans hu
          have hfree := HW5j.out.free j
          clear hu
          go_wp2
          go_roundg (hi + 1 - (j + 1))
          case measure => have := HGJ.out; omega
          case rel =>
            refine ⟨j + 1, by omega, by omega, rfl, by go_num, HBj.out.setCell (p := ⟨w.heap.size + 1, j, none⟩) (by simp) _, HW4j.out.apart (by simp) _, ?_⟩
            have := HW5j.out.store j (.bool true)
            rw [mkA_set _ q3] at this
            show Whole _ _ _ _
            have e : (fun n : Nat => ((L.take k).any (hasE last (n : Int)) || (decide (lo ≤ n) && decide (n < j))) || n == j) = fun n : Nat => (L.take k).any (hasE last (n : Int)) || (decide (lo ≤ n) && decide (n < j + 1)) := by
              funext n
              rw [Bool.or_assoc]
              congr 1
              rw [Bool.eq_iff_iff]
              simp
              omega
            rw [e] at this
            exact this
        · have hjj : j = hi + 1 := by omega
          have q1 : ¬ (j : Int) ≤ (hi : Int) := by omega
          have HJ := Lib.hid hjj
          clear hj hjj
          go_wp2
          go_roundg (m - (k + 1))
          case measure => have := HG.out; omega
          case rel =>
            refine ⟨k + 1, by omega, rfl, by go_num, HBj.out, HW4j.out, ?_⟩
            have := HW5j.out
            show Whole _ _ _ _
            have e : (fun n : Nat => (L.take k).any (hasE last (n : Int)) || (decide (lo ≤ n) && decide (n < j))) = fun n : Nat => (L.take (k + 1)).any (hasE last (n : Int)) := by
              funext n
              rw [List.take_add_one, HX.out, List.any_append, HJ.out]
              congr 1
              simp only [Option.toList, List.any_cons, List.any_nil, Bool.or_false]
              rw [has_nat HLO.out.1 HLO.out.2 n]
              congr 1
              rw [Bool.eq_iff_iff]
              simp
              omega
            rw [e] at this
            exact this
    · have h5 : ¬ (k : Int) < (m : Int) := by omega
      have hall : (mkA fun n => (L.take k).any (hasE last (n : Int))) = mkA fun n => hasB L last (n : Int) := by
        rw [List.take_of_length_le (by rw [HM.out]; omega)]
        rfl
      obtain ⟨M, hM⟩ : ∃ M, mkA (fun n => hasB L last (n : Int)) = M := ⟨_, rfl⟩
      rw [hM] at hall
      rw [hall] at HW5
      have HMM := Lib.hid hM
      have hMs : M.size = 100 := by rw [← hM]; exact mkA_size _
      have hM1 : M.all (·.oneCell') = true := by rw [← hM]; exact mkA_one _
      have hZs : Z.size = 100 := by rw [← HZ.out]; exact mkA_size _
      have HBR := Lib.hid (below_setRow HB.out (Nat.le_refl _) M)
      clear hall hM
      go_wp2_with (first
        | (with_reducible refine wpList_load_row (op := ⟨some 32, _, _, _, _, _⟩) rfl _ rfl (w.heap.size + 1) rfl M HW5.out hMs ?_)
        | (with_reducible refine wpList_store_row (op := ⟨none, _, _, _, _, _⟩) rfl _ _ rfl w.heap.size M Z rfl rfl HW4.out hZs hMs hM1 ?_))
      refine bodyPost_ret (v := .agg M) (results_cell_row Tryd.results60 _ _ w.heap.size _ M (0, 0) _ rfl (whole_setRow HW4.out M) Tryd.underlying86 rfl (marks_size hMs)) rfl ?_
      exact ⟨by rw [HMM.out], HBR.out⟩

theorem impl_setvalid_at {A : Option Addr} {cap : Nat} {L : List (Int × Int)} {o : Bool} (ho : setB L = o) (w : World) (h : SpA w A L) (hl : L.length ≤ 33554432) :
    Calls Tryd.prog 59 #[.slice A L.length cap] w fun e w' => e = .returned (.bool o) ∧ Below w.heap.size w w' := ho ▸ impl_setvalid A cap L w h hl
theorem lists_mk {w w' : World} {l m : List Nat} {v : Value} (h : l = m) (hv : OwnI w' w.heap.size v m) (hb : Below w.heap.size w w') : Lists w l (.returned v) w' := by
  subst h
  exact ⟨v, rfl, hv, hb⟩
set_option maxRecDepth 20000 in
set_option maxHeartbeats 4000000 in
theorem impl_setnumbers (A : Option Addr) (cap : Nat) (L : List (Int × Int)) (last : Int) (w : World) (h : SpA w A L) (hl : L.length ≤ 33554432) :
    Calls Tryd.prog 37 #[.slice A L.length cap, .int .i64 last] w (Lists w (numsB L last)) := by
  obtain ⟨i0, hi, hq0, hq1, hq2⟩ := info_parts Tryd.infoInt
  have H := Lib.hid h
  have HLL := Lib.hid hl
  clear h hl
  by_cases hs : setB L = true
  · have HS := Lib.hid hs
    by_cases hlast : 1 ≤ last
    · have hlast' : ¬ last < 1 := by omega
      obtain ⟨t, ht⟩ : ∃ t, min last 99 = t := ⟨_, rfl⟩
      have ht' : lst last = t := ht
      obtain ⟨p1, p2, p3⟩ := lst_pos hlast
      rw [ht'] at p1 p2 p3
      obtain ⟨K, hK⟩ : ∃ K, t.toNat = K := ⟨_, rfl⟩
      rw [hK] at p2
      have hK99 : K ≤ 99 := by omega
      have hK1 : 1 ≤ K := by omega
      have HN : Hid (numsB L last = cnt (fun n => hasB L t n) K) := by
        show _ = _
        rw [numsB_yes hs hlast, ht', hK]
      obtain ⟨Z, hZ⟩ : ∃ Z, mkA (fun _ => false) = Z := ⟨_, rfl⟩
      have hv : ∀ w, (zeroValue 86).run Tryd.prog w = .ok (.agg Z) w := fun w => by rw [← hZ]; exact zero_marks w
      have hZs : Z.size = 100 := by rw [← hZ]; exact mkA_size _
      clear hs hK p1 p3 ht' hlast hZ
      subst p2
      obtain ⟨M, hM⟩ : ∃ M, mkA (fun n => hasB L (K : Int) (n : Int)) = M := ⟨_, rfl⟩
      have HM := Lib.hid hM
      have hMs : M.size = 100 := by rw [← hM]; exact mkA_size _
      have hM1 : M.all (·.oneCell') = true := by rw [← hM]; exact mkA_one _
      clear hM
      go_enter Tryd.func37, Tryd.ntmps37
      go_wp2_with fail
      refine (impl_setvalid_at HS.out _ H.out HLL.out).mono ?_
      rintro e w1 ⟨rfl, hb⟩
      have HB1 := Lib.hid hb
      clear hb
      go_wp2_with fail
      refine (mark_any A cap L (K : Int) _ (H.out.below HB1.out (Nat.le_refl _)) HLL.out HS.out (by omega) (by omega)).mono ?_
      rintro e w2 ⟨rfl, hb⟩
      rw [HM.out]
      have HB2 := Lib.hid (HB1.out.trans (hb.mono HB1.out.size))
      clear hb
      have hz2 := HB2.out.size
      have hW := Whole.made w2 86 Z
      go_wp2_with (first
        | (with_reducible refine wpList_store_row (op := ⟨none, _, _, _, _, _⟩) rfl _ _ rfl w2.heap.size M Z rfl rfl hW hZs hMs hM1 ?_))
      have HB3 := Lib.hid (below_setRow (HB2.out.alloc hz2 (.cells Z 86)) (b := w2.heap.size) hz2 M)
      have HW3 := Lib.hid (whole_setRow hW M)
      clear hW hMs hM1 hZs
      go_loopw [6, 7] (fun v i wr => ∃ j : Nat, 1 ≤ j ∧ j ≤ K + 1 ∧ i = .int .i64 (j : Int) ∧ Hid (Below w.heap.size w wr) ∧ Hid (Whole wr w2.heap.size 86 M) ∧ Hid (OwnI wr (w2.heap.size + 1) v (cnt (fun n => hasB L (K : Int) n) (j - 1)))) (fun _ i _ => K + 2 - (intOf i).toNat)
      case atStart => exact ⟨1, by omega, by omega, by go_num, HB3.out, HW3.out, OwnI.nil _ _⟩
      case round =>
        obtain ⟨j, j1, j2, rfl, HB, HW, HO⟩ := hrel
        have hwl := HW.out.lt
        have hbz := HB.out.size
        by_cases hj : j ≤ K
        · have q0 : (0 : Int) ≤ (j : Int) := by omega
          have q1 : (j : Int) ≤ (K : Int) := by omega
          have q2 : (j : Int) < 100 := by omega
          obtain ⟨k, hk⟩ : ∃ k, j = k + 1 := ⟨j - 1, by omega⟩
          have HK := Lib.hid hk
          have hjk : j - 1 = k := by omega
          rw [hjk] at HO
          clear hk hjk
          have hc : M[j]? = some (.bool (hasB L (K : Int) (j : Int))) := by rw [← HM.out]; exact mkA_get _ (by omega)
          have hcell := (HW.out.cell j).trans hc
          clear hc
          cases hb : hasB L (K : Int) (j : Int)
          · rw [hb] at hcell
            have HH := Lib.hid hb
            clear hb
            go_wp2
            go_roundw
            case rel => exact ⟨j + 1, by omega, by omega, by go_num, HB.out, HW.out, by
              have e : j + 1 - 1 = k + 1 := by have := HK.out; omega
              rw [e, cnt_no (by rw [← HK.out]; exact HH.out)]
              exact HO⟩
            case measure => simp [intOf]; omega
          · rw [hb] at hcell
            have HH := Lib.hid hb
            clear hb
            have hown := HO.out.alloc (.cells #[.int .i64 (j : Int)] 3)
            have hnews := one_new' wr (.int .i64 (j : Int)) 3 wr.heap.size rfl
            have hcl := cnt_len (fun n => hasB L (K : Int) n) k
            obtain ⟨C, hC⟩ : ∃ C, cnt (fun n => hasB L (K : Int) n) k = C := ⟨_, rfl⟩
            have HC := Lib.hid hC
            rw [hC] at hown hcl
            have hkl : k ≤ 99 := by have := HK.out; omega
            have hml : C.length + 1 ≤ maxLen := by unfold maxLen; omega
            have hby : (C.length + 1) * 8 ≤ 140737488355328 := by omega
            have hba : w2.heap.size + 1 ≤ (wr.alloc (.cells #[.int .i64 (j : Int)] 3)).heap.size := by simp; omega
            clear hC
            go_wp2_with (at_builtin; refine wpList_append_own _ rfl _ _ 40 rfl (w2.heap.size + 1) 3 i0 (.int .i64 0) 1 8 Tryd.underlying40 hi hq0 hq1 hq2 rfl (by decide) _ _ _ rfl (hown.row rfl) ⟨wr.heap.size, 0, none⟩ 1 1 [.int .i64 (j : Int)] rfl rfl hnews (one_one _) hml hby hba ?_)
            intro v' w5 hown2 hgrow _
            have hrow : ∀ z, Value.ownBlock _ = some z → w2.heap.size + 1 ≤ z := fun z hz => (World.ownsRow.lt hown z hz).1
            have HB5 := Lib.hid ((HB.out.alloc hbz (.cells #[.int .i64 (j : Int)] 3)).grown hgrow (by simp; omega) (fun z hz => by have := hrow z hz; omega))
            have HW5 := Lib.hid (Whole.grown (HW.out.alloc (.cells #[.int .i64 (j : Int)] 3)) hgrow (fun e => by have := hrow _ e.symm; omega))
            have hO5 : OwnI w5 (w2.heap.size + 1) v' (C ++ [j]) := OwnI.push hown2 rfl
            have HO5 := Lib.hid hO5
            clear hO5 hown hown2 hgrow hnews hml hby hba hrow
            go_wp2
            go_roundw
            case rel => exact ⟨j + 1, by omega, by omega, by go_num, HB5.out, HW5.out, by
              have e : j + 1 - 1 = k + 1 := by have := HK.out; omega
              rw [e, cnt_yes (by rw [← HK.out]; exact HH.out), HC.out, ← HK.out]
              exact HO5⟩
            case measure => simp [intOf]; omega
        · have hjj : j - 1 = K := by omega
          have q1 : ¬ (j : Int) ≤ (K : Int) := by omega
          have hf := HO.out
          rw [hjj] at hf
          have HF := Lib.hid (hf.from (B' := w.heap.size) (by omega))
          clear hjj hj HO hf
          go_wp2
          go_ret
          exact lists_mk HN.out HF.out HB.out
    · have hlast' : last < 1 := by omega
      have HN := Lib.hid (numsB_low L hlast')
      clear hs hlast
      go_enter Tryd.func37, Tryd.ntmps37
      go_wp2_with fail
      refine (impl_setvalid_at HS.out _ H.out HLL.out).mono ?_
      rintro e w1 ⟨rfl, hb⟩
      have HB1 := Lib.hid hb
      clear hb
      go_wp2
      go_ret
      exact lists_mk HN.out (OwnI.nil _ _) HB1.out
  · have HS := Lib.hid (Bool.eq_false_iff.2 hs)
    have HN := Lib.hid (numsB_bad last HS.out)
    clear hs
    go_enter Tryd.func37, Tryd.ntmps37
    go_wp2_with fail
    refine (impl_setvalid_at HS.out _ H.out HLL.out).mono ?_
    rintro e w1 ⟨rfl, hb⟩
    have HB1 := Lib.hid hb
    clear hb
    go_wp2
    go_ret
    exact lists_mk HN.out (OwnI.nil _ _) HB1.out
end Go.Proofs.YtpihibconbejlaaDoor
namespace Go.Proofs.YtpihibconbejlaaDoor
open Go.RowKit
set_option linter.unusedVariables false

/-- The number of the last message. -/
def lastU (L : List ML) : Int := (L.getD (L.length - 1) (0, 0, [])).1
mutual
/-- A key finds the message 'm' at the index 'i'. -/
def findT (L : List ML) (m : ML) (i : Nat) : KT → Bool
  | .mk kd f t S ks =>
    if kd = 1 then hvI m.2.1 f else if kd = 2 then Lib.contains m.2.2 t.data.toList
    else if kd = 3 then hasB S (L.length : Int) ((i : Int) + 1) else if kd = 4 then hasB S (lastU L) m.1
    else if kd = 5 then !((findL L m i ks).getD 0 false)
    else if kd = 6 then (findL L m i ks).getD 0 false && (findL L m i ks).getD 1 false
    else if kd = 7 then (findL L m i ks).getD 0 false || (findL L m i ks).getD 1 false
    else true
def findL (L : List ML) (m : ML) (i : Nat) : List KT → List Bool
  | [] => []
  | k :: r => findT L m i k :: findL L m i r
end
/-- The places among the first 'n' messages that a key finds. -/
def plT (L : List ML) (k : KT) : Nat → List Int
  | 0 => []
  | n + 1 => if findT L (L.getD n (0, 0, [])) n k then plT L k n ++ [(n : Int) + 1] else plT L k n
/-- What SearchBox answers. -/
def srT (n : Int) (L : List ML) (k : KT) : List Int := if keyB k && bOk n L then plT L k L.length else []
theorem srT_yes {n : Int} {L : List ML} {k : KT} (h1 : keyB k = true) (h2 : bOk n L = true) : srT n L k = plT L k L.length := by unfold srT; rw [h1, h2]; rfl
theorem srT_nokey {n : Int} {L : List ML} {k : KT} (h1 : keyB k = false) : srT n L k = [] := by unfold srT; rw [h1]; rfl
theorem srT_nobox {n : Int} {L : List ML} {k : KT} (h1 : bOk n L = false) : srT n L k = [] := by unfold srT; rw [h1, Bool.and_false]; rfl
theorem plT_len (L : List ML) (k : KT) : ∀ n : Nat, (plT L k n).length ≤ n
  | 0 => Nat.le_refl _
  | n + 1 => by
    have := plT_len L k n
    rw [plT]
    split
    · rw [List.length_append, List.length_singleton]; omega
    · omega
theorem plT_mem (L : List ML) (k : KT) : ∀ (n : Nat) {x : Int}, x ∈ plT L k n → 1 ≤ x ∧ x ≤ (n : Int)
  | 0, x, h => by cases h
  | n + 1, x, h => by
    rw [plT] at h
    split at h
    · rcases List.mem_append.1 h with h1 | h1
      · have := plT_mem L k n h1; omega
      · simp at h1; omega
    · have := plT_mem L k n h; omega
theorem plT_asc (L : List ML) (k : KT) : ∀ n : Nat, (plT L k n).Pairwise (· < ·)
  | 0 => List.Pairwise.nil
  | n + 1 => by
    rw [plT]
    split
    · rw [List.pairwise_append]
      refine ⟨plT_asc L k n, by simp, fun a ha b hb => ?_⟩
      have := plT_mem L k n ha
      simp at hb
      omega
    · exact plT_asc L k n
theorem plT_has (L : List ML) (k : KT) : ∀ (n j : Nat), hasI (plT L k n) ((j : Int) + 1) = (decide (j < n) && findT L (L.getD j (0, 0, [])) j k)
  | 0, j => by simp [plT, hasI]
  | n + 1, j => by
    have ih := plT_has L k n j
    unfold hasI at ih ⊢
    by_cases hj : j = n
    · subst hj
      rw [plT]
      cases hf : findT L (L.getD j (0, 0, [])) j k with
      | true =>
        rw [if_pos rfl]
        simp
      | false =>
        rw [if_neg (by simp), ih, hf]
        simp
    · have e1 : decide (j < n + 1) = decide (j < n) := by rw [decide_eq_decide]; omega
      rw [e1, plT]
      split
      · rw [← ih]
        simp
        intro h
        omega
      · exact ih

/-- internal/bytealg.MaxLen holds some number. -/
def MxL (w : World) : Prop := ∃ m : Int, w.cell? ⟨2, 0, none⟩ = some (.int .i64 m)
theorem MxL.below {w w' : World} {B : Nat} (h : MxL w) (hb : Below B w w') (hB : w.heap.size ≤ B) : MxL w' := by
  obtain ⟨m, hm⟩ := h
  exact ⟨m, (hb.cell (Nat.lt_of_lt_of_le (block_lt_of_cell hm) hB)).trans hm⟩
theorem lib_contains {s sub : ByteArray} {o : Bool} (ho : Lib.contains s.data.toList sub.data.toList = o) (w : World) (hs : s.size ≤ 16777216) (hm : MxL w) : Calls Tryd.prog 84 #[.string s, .string sub] w fun e w' => e = .returned (.bool o) ∧ w' = w := by
  subst ho
  obtain ⟨m, hm⟩ := hm
  exact shl_Contains s sub m w (by omega) hm

theorem ext_occ {s sub : ByteArray} {i j : Nat} (hj : i + sub.size = j) (h : j ≤ s.size) : (s.extract i j = sub) ↔ Lib.occAt s.data.toList sub.data.toList i = true := by
  have e1 : (s.extract i j).data.toList = (s.data.toList.drop i).take sub.size := by
    rw [ByteArray.data_extract, Array.toList_extract, List.extract_eq_take_drop]
    congr 1
    omega
  unfold Lib.occAt
  rw [List.isPrefixOf_iff_prefix, List.prefix_iff_eq_take]
  have e2 : sub.data.toList.length = sub.size := by simp
  rw [e2, ← e1]
  constructor
  · intro he; rw [he]
  · intro he
    have : s.extract i j = sub := by
      have h3 := Array.toList_inj.1 he
      cases hx : s.extract i j
      rw [hx] at h3
      cases sub
      simp at h3
      rw [h3]
    exact this
theorem occ_no {s sub : ByteArray} {i j : Nat} (hj : i + sub.size = j) (h : j ≤ s.size) (hne : s.extract i j ≠ sub) : Lib.occAt s.data.toList sub.data.toList i = false := by
  cases ho : Lib.occAt s.data.toList sub.data.toList i with
  | false => rfl
  | true => exact absurd ((ext_occ hj h).2 ho) hne
theorem cont_hit {s sub : ByteArray} {i : Nat} (h : Lib.NoOcc s.data.toList sub.data.toList i) (hi : i ≤ s.size) (ho : Lib.occAt s.data.toList sub.data.toList i = true) : Lib.contains s.data.toList sub.data.toList = true := by
  unfold Lib.contains
  rw [Lib.index_hit h (by simpa using hi) ho]
  exact decide_eq_true (by omega)
theorem cont_past {s sub : ByteArray} {i : Nat} (h0 : sub.size ≠ 0) (h : Lib.NoOcc s.data.toList sub.data.toList i) (hi : s.size < i + sub.size) : Lib.contains s.data.toList sub.data.toList = false := by
  unfold Lib.contains
  rw [Lib.index_past (fun e => h0 (by have := congrArg List.length e; simpa using this)) h (by simpa using hi)]
  rfl
theorem nekb {a b : ByteArray} (h : a ≠ b) : (a.toList == b.toList) = false ∧ ¬ a.toList = b.toList := by
  have h2 : ¬ a.toList = b.toList := by
    rw [ByteArray.toList_eq, ByteArray.toList_eq]
    intro e
    exact h (by cases a; cases b; congr; exact Array.toList_inj.1 e)
  exact ⟨beq_eq_false_iff_ne.2 h2, h2⟩
set_option maxHeartbeats 2000000 in
theorem spec_contains_ {s sub : ByteArray} (w : World) (hs : s.size ≤ 16777216) (h0 : sub.size ≠ 0) (h1 : sub.size ≤ 16777216) : Calls Tryd.prog 85 #[.string s, .string sub] w fun e w' => e = .returned (.bool (Lib.contains s.data.toList sub.data.toList)) ∧ w' = w := by
  go_enter Tryd.func85, Tryd.ntmps85
  go_wp2
  go_loopw [5] (fun i wr => ∃ k : Nat, k ≤ s.size ∧ i = .int .i64 (k : Int) ∧ Hid (Lib.NoOcc s.data.toList sub.data.toList k) ∧ wr = w) (fun i _ => s.size + 1 - (intOf i).toNat)
  case atStart => exact ⟨0, Nat.zero_le _, by go_num, Lib.NoOcc.zero _ _, rfl⟩
  case round =>
    obtain ⟨k, hk, rfl, HN, rfl⟩ := hrel
    obtain ⟨j, hj⟩ : ∃ j, k + sub.size = j := ⟨_, rfl⟩
    have E1 : (k : Int) + (sub.size : Int) = (j : Int) := by omega
    have W1 : IntKind.i64.wrap ((k : Int) + (sub.size : Int)) = (j : Int) := (IntWalk.i64_in _ (by omega)).trans E1
    have k0 : (0 : Int) ≤ (k : Int) := by omega
    have k1 : (k : Int) ≤ (j : Int) := by omega
    have HJ := Lib.hid hj
    by_cases hlt : j ≤ s.size
    · have h5 : (j : Int) ≤ (s.size : Int) := by omega
      by_cases he : s.extract k j = sub
      · have HE : Hid (Lib.contains s.data.toList sub.data.toList = true) := Lib.hid (cont_hit HN.out hk ((ext_occ hj hlt).1 he))
        clear hj
        go_wp2
        go_ret
        exact ⟨ret_bool HE.out.symm, rfl⟩
      · have HN2 := Lib.hid (HN.out.succ (occ_no hj hlt he))
        obtain ⟨v1, v2⟩ := nekb he
        have hk1 : k + 1 ≤ s.size := by omega
        clear hj he
        go_wp2
        go_roundw
        case rel => exact ⟨k + 1, hk1, by go_num, HN2.out, trivial⟩
        case measure => simp [intOf]; omega
    · have h5 : ¬ (j : Int) ≤ (s.size : Int) := by omega
      have HE : Hid (Lib.contains s.data.toList sub.data.toList = false) := Lib.hid (cont_past h0 HN.out (by omega))
      clear hj
      go_wp2
      go_ret
      exact ⟨ret_bool HE.out.symm, rfl⟩
theorem spec_contains {s sub : ByteArray} {o : Bool} (ho : Lib.contains s.data.toList sub.data.toList = o) (w : World) (hs : s.size ≤ 16777216) (h0 : sub.size ≠ 0) (h1 : sub.size ≤ 16777216) : Calls Tryd.prog 85 #[.string s, .string sub] w fun e w' => e = .returned (.bool o) ∧ w' = w := by
  subst ho
  exact spec_contains_ w hs h0 h1
set_option maxHeartbeats 2000000 in
theorem laws_contains_ {s sub : ByteArray} (w : World) (hs : s.size ≤ 16777216) (h0 : sub.size ≠ 0) (h1 : sub.size ≤ 16777216) : Calls Tryd.prog 39 #[.string s, .string sub] w fun e w' => e = .returned (.bool (Lib.contains s.data.toList sub.data.toList)) ∧ w' = w := by
  go_enter Tryd.func39, Tryd.ntmps39
  go_wp2
  go_loopw [5] (fun i wr => ∃ k : Nat, k ≤ s.size ∧ i = .int .i64 (k : Int) ∧ Hid (Lib.NoOcc s.data.toList sub.data.toList k) ∧ wr = w) (fun i _ => s.size + 1 - (intOf i).toNat)
  case atStart => exact ⟨0, Nat.zero_le _, by go_num, Lib.NoOcc.zero _ _, rfl⟩
  case round =>
    obtain ⟨k, hk, rfl, HN, rfl⟩ := hrel
    obtain ⟨j, hj⟩ : ∃ j, k + sub.size = j := ⟨_, rfl⟩
    have E1 : (k : Int) + (sub.size : Int) = (j : Int) := by omega
    have W1 : IntKind.i64.wrap ((k : Int) + (sub.size : Int)) = (j : Int) := (IntWalk.i64_in _ (by omega)).trans E1
    have k0 : (0 : Int) ≤ (k : Int) := by omega
    have k1 : (k : Int) ≤ (j : Int) := by omega
    have HJ := Lib.hid hj
    by_cases hlt : j ≤ s.size
    · have h5 : (j : Int) ≤ (s.size : Int) := by omega
      by_cases he : s.extract k j = sub
      · have HE : Hid (Lib.contains s.data.toList sub.data.toList = true) := Lib.hid (cont_hit HN.out hk ((ext_occ hj hlt).1 he))
        clear hj
        go_wp2
        go_ret
        exact ⟨ret_bool HE.out.symm, rfl⟩
      · have HN2 := Lib.hid (HN.out.succ (occ_no hj hlt he))
        obtain ⟨v1, v2⟩ := nekb he
        have hk1 : k + 1 ≤ s.size := by omega
        clear hj he
        go_wp2
        go_roundw
        case rel => exact ⟨k + 1, hk1, by go_num, HN2.out, trivial⟩
        case measure => simp [intOf]; omega
    · have h5 : ¬ (j : Int) ≤ (s.size : Int) := by omega
      have HE : Hid (Lib.contains s.data.toList sub.data.toList = false) := Lib.hid (cont_past h0 HN.out (by omega))
      clear hj
      go_wp2
      go_ret
      exact ⟨ret_bool HE.out.symm, rfl⟩
theorem laws_contains {s sub : ByteArray} {o : Bool} (ho : Lib.contains s.data.toList sub.data.toList = o) (w : World) (hs : s.size ≤ 16777216) (h0 : sub.size ≠ 0) (h1 : sub.size ≤ 16777216) : Calls Tryd.prog 39 #[.string s, .string sub] w fun e w' => e = .returned (.bool o) ∧ w' = w := by
  subst ho
  exact laws_contains_ w hs h0 h1
/-- The numbers of a set, asked by one. -/
theorem nums_has {S : List (Int × Int)} {last x : Int} (hs : setB S = true) (h1 : 1 ≤ x) (h2 : x ≤ last) (h3 : last ≤ 99) : hasI ((numsB S last).map fun (n : Nat) => (n : Int)) x = hasB S last x := by
  have hl : lst last = last := by unfold lst; omega
  obtain ⟨n, rfl⟩ : ∃ n : Nat, x = (n : Int) := ⟨x.toNat, by omega⟩
  rw [numsB_yes hs (by omega), hl]
  unfold hasI
  rw [Bool.eq_iff_iff, List.contains_iff_mem, List.mem_map]
  constructor
  · rintro ⟨a, ha, he⟩
    have : a = n := by omega
    subst this
    exact (cnt_mem.1 ha).2.2
  · intro h
    exact ⟨n, cnt_mem.2 ⟨by omega, by omega, h⟩, rfl⟩
theorem ownI_row {w : World} {B : Nat} {v : Value} {l : List Nat} (h : OwnI w B v l) : ROwn intR w B v (l.map fun (n : Nat) => (n : Int)) := by
  have e : rcells intR (l.map fun (n : Nat) => (n : Int)) = nms l := by
    unfold rcells nms
    clear h
    induction l with
    | nil => rfl
    | cons a l ih =>
      rw [List.map_cons, List.flatMap_cons, List.map_cons, ih]
      rfl
  unfold ROwn
  rw [e, List.length_map]
  exact h
/-- The fields of a valid mailbox. -/
theorem last_is {n : Int} {L : List ML} {i : Nat} {m : ML} (hb : bOk n L = true) (hi : L[i]? = some m) : ∃ x : ML, L[L.length - 1]? = some x ∧ lastU L = x.1 ∧ 1 ≤ m.1 ∧ m.1 ≤ x.1 ∧ x.1 ≤ 99 := by
  have hl := (List.getElem?_eq_some_iff.1 hi).1
  obtain ⟨x, hx⟩ : ∃ x, L[L.length - 1]? = some x := ⟨_, List.getElem?_eq_getElem (by omega)⟩
  have hm := (bOk_get hb hi).1
  have hmx := (bOk_get hb hx).1
  have h1 := (mOk_iff.1 hm).1
  have h2 := (mOk_iff.1 hmx).1
  refine ⟨x, hx, ?_, h1.1, ?_, h2.2⟩
  · unfold lastU
    rw [List.getD_eq_getElem?_getD, hx]
    rfl
  · by_cases he : i = L.length - 1
    · subst he
      rw [hi] at hx
      cases hx
      exact Int.le_refl _
    · exact Int.le_of_lt (asc_get (bOk_iff.1 hb).2.1 (i := i) (j := L.length - 1) (by omega) hi hx)
end Go.Proofs.YtpihibconbejlaaDoor
