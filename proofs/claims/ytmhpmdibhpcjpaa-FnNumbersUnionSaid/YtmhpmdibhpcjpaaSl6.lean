/-
  The walk of the law FnNumbersUnion. Condition: the code can be read.
-/
import Derived.Test.YtmhpmdibhpcjpaaSl5
namespace Go.Proofs.Ytmhpmdibhpcjpaa
open Go.RowKit
set_option linter.unusedVariables false

theorem has_int_at {A : Option Addr} {n cap m : Nat} {l : List Nat} {o : Bool} (w : World) (h : IntA w A l) (hn : l.length = n) (hl : n ≤ 33554432) (ho : decide (m ∈ l) = o) :
    Calls Try.prog 28 #[.slice A n cap, .int .i64 (m : Int)] w (Tests w o) := by
  subst hn
  subst ho
  exact has_int A cap l m w h hl
theorem spa_sub {w : World} {b o j : Nat} {L : List (Int × Int)} {x : Int × Int} (h : SpA w (some ⟨b, o, none⟩) L) (hx : L[j]? = some x) : SpA w (some ⟨b, o + j * 2, none⟩) [x] := fun i y hy => by
  have hi : i = 0 := by
    have := (List.getElem?_eq_some_iff.1 hy).1
    simpa using this
  subst hi
  simp at hy
  subst hy
  obtain ⟨b', o', he, hb, h1, h2⟩ := h j x hx
  cases he
  exact ⟨b, o + j * 2, rfl, hb, by rw [Nat.zero_mul, Nat.add_zero]; exact h1, by rw [Nat.zero_mul, Nat.add_zero]; exact h2⟩
/-- Is a number among the numbers of one of the first spans? -/
def someB (L : List (Int × Int)) (last : Int) (m j : Nat) : Bool := (L.take j).any fun x => decide (m ∈ numsB [x] last)
theorem someB_zero (L : List (Int × Int)) (last : Int) (m : Nat) : someB L last m 0 = false := rfl
theorem someB_yes {L : List (Int × Int)} {last : Int} {m j : Nat} (h : someB L last m j = true) : someB L last m (j + 1) = true := by
  unfold someB at h ⊢
  rw [List.take_add_one, List.any_append, h, Bool.true_or]
theorem someB_step {L : List (Int × Int)} {last : Int} {m j : Nat} {x : Int × Int} (h : someB L last m j = false) (hx : L[j]? = some x) : someB L last m (j + 1) = decide (m ∈ numsB [x] last) := by
  unfold someB at h ⊢
  rw [List.take_add_one, List.any_append, h, hx]
  simp
theorem someB_end {L : List (Int × Int)} {last : Int} {m n : Nat} (hn : L.length = n) (hs : setB L = true) : someB L last m n = decide (m ∈ numsB L last) := by
  unfold someB
  rw [List.take_of_length_le (by omega)]
  exact numsB_union hs m
def manyB (l : List Nat) (k : Nat) : Nat := (cnt (fun n => decide (n ∈ l)) k).length
theorem manyB_le (l : List Nat) (k : Nat) : manyB l k ≤ k := cnt_len _ k
theorem manyB_yes {l : List Nat} {k : Nat} (h : k + 1 ∈ l) : manyB l (k + 1) = manyB l k + 1 := by
  unfold manyB
  rw [cnt_yes (dec_yes h), List.length_append]
  rfl
theorem manyB_no {l : List Nat} {k : Nat} (h : ¬ k + 1 ∈ l) : manyB l (k + 1) = manyB l k := by
  unfold manyB
  rw [cnt_no (dec_no h)]

set_option maxRecDepth 20000 in
set_option maxHeartbeats 8000000 in
theorem law_FnNumbersUnion (A : Option Addr) (len cap : Nat) (w : World) (h : Coded w A len cap) : Calls Try.prog 9 #[.slice A len cap] w (Holds1 w) := by
  have HC := Lib.hid h
  clear h
  by_cases hl : len ≤ 1048576
  · have hl' : (len : Int) ≤ 1048576 := by omega
    go_enter Try.func9, Try.ntmps9
    go_wp2_with fail
    refine (draw_setnums A len cap _ HC.out).mono ?_
    rintro e w1 ⟨A1, cap1, L, last, hL, rfl, hc1, hc2, hla, hlb, hsp, hb⟩
    have HB1 := Lib.hid hb
    have HS1 := Lib.hid hsp
    clear hb hsp
    obtain ⟨l, hll⟩ : ∃ l, numsB L last = l := ⟨_, rfl⟩
    have HL := Lib.hid hll
    have hl99 : l.length ≤ 99 := hll ▸ numsB_len L last
    have HMM : Hid (manyB l 99 = l.length) := by
      rw [← hll]
      exact numsB_count L last
    clear hll
    obtain ⟨n, hn⟩ : ∃ n, L.length = n := ⟨_, rfl⟩
    have HN := Lib.hid hn
    rw [hn] at hL hc1 ⊢
    clear hn
    go_wp2_with fail
    refine (impl_nums HN.out HL.out _ HS1.out (by omega)).mono ?_
    rintro e w2 ⟨A2, cap2, rfl, h21, h22, -, hia, hb⟩
    have HB2 := Lib.hid (HB1.out.trans (hb.mono HB1.out.size))
    have HS2 := Lib.hid (HS1.out.below hb (Nat.le_refl _))
    have HI2 := Lib.hid hia
    clear hb hia
    go_wp2_with fail
    refine (spec_nums HN.out HL.out _ HS2.out (by omega)).mono ?_
    rintro e w3 ⟨A3, cap3, rfl, h31, h32, -, hia, hb⟩
    have HB3 := Lib.hid (HB2.out.trans (hb.mono HB2.out.size))
    have HS3 := Lib.hid (HS2.out.below hb (Nat.le_refl _))
    have HI3 := Lib.hid hia
    have HI23 := Lib.hid (HI2.out.below hb (Nat.le_refl _))
    clear hb hia
    go_wp2_with fail
    refine (same_ints_at (o := true) _ HI23.out HI3.out rfl rfl (by omega) (by omega) (by simp)).mono ?_
    rintro e w4 ⟨rfl, hb⟩
    have HB4 := Lib.hid (HB3.out.trans (hb.mono HB3.out.size))
    have HS4 := Lib.hid (HS3.out.below hb (Nat.le_refl _))
    have HI4 := Lib.hid (HI23.out.below hb (Nat.le_refl _))
    have HI34 := Lib.hid (HI3.out.below hb (Nat.le_refl _))
    clear hb
    cases hs : setB L
    · have HSB := Lib.hid hs
      clear hs
      go_wp2_with fail
      refine (spec_setvalid_n HN.out HSB.out _ HS4.out (by omega)).mono ?_
      rintro e w5 ⟨rfl, rfl⟩
      go_wp2_with fail
      refine (same_ints_at (o := true) _ HI4.out HI34.out rfl rfl (by omega) (by omega) (by simp)).mono ?_
      rintro e w6 ⟨rfl, hb⟩
      have HB6 := Lib.hid (HB4.out.trans (hb.mono HB4.out.size))
      clear hb
      go_wp2
      go_ret
      exact ⟨rfl, HB6.out⟩
    · have HSB := Lib.hid hs
      clear hs
      go_wp2_with fail
      refine (spec_setvalid_n HN.out HSB.out _ HS4.out (by omega)).mono ?_
      rintro e w5 ⟨rfl, rfl⟩
      obtain ⟨b, o, rfl, hbl, -⟩ := spa_news HS4.out (set_pos HSB.out)
      go_wp2
      go_loopw [7, 8] (fun m i wr => ∃ k : Nat, k ≤ 99 ∧ m = .int .i64 (manyB l k : Int) ∧ i = .int .i64 ((k : Int) + 1) ∧ Hid (Below w4.heap.size w4 wr)) (fun _ i _ => 101 - (intOf i).toNat)
      case atStart => exact ⟨0, by omega, by go_num, by go_num, Below.refl _ _⟩
      case round =>
        obtain ⟨k, hk, rfl, rfl, HB⟩ := hrel
        obtain ⟨M, hM⟩ : ∃ M, manyB l k = M := ⟨_, rfl⟩
        have hMk : M ≤ k := hM ▸ manyB_le l k
        rw [hM]
        have HM := Lib.hid hM
        clear hM
        by_cases hlt : k < 99
        · obtain ⟨m, hm⟩ : ∃ m : Nat, m = k + 1 := ⟨_, rfl⟩
          have hmi : (k : Int) + 1 = (m : Int) := by omega
          have q1 : (m : Int) ≤ 99 := by omega
          have HMK := Lib.hid hm
          rw [hmi]
          have HMI := Lib.hid hmi
          clear hmi hm
          obtain ⟨wo, hwo⟩ : ∃ wo : World, wo = wr := ⟨_, rfl⟩
          rw [← hwo] at HB ⊢
          clear hwo
          go_wp2
          go_loopw [9, 10] (fun s i wr => ∃ j : Nat, j ≤ n ∧ s = .bool (someB L last m j) ∧ i = .int .i64 (j : Int) ∧ Hid (Below w4.heap.size w4 wr)) (fun _ i _ => n - (intOf i).toNat)
          case atStart => exact ⟨0, Nat.zero_le _, rfl, by go_num, HB⟩
          case round =>
            obtain ⟨j, hj, rfl, rfl, HBr⟩ := hrel
            obtain ⟨sb, hsb⟩ : ∃ sb, someB L last m j = sb := ⟨_, rfl⟩
            have HSJ := Lib.hid hsb
            rw [hsb]
            clear hsb
            have HS := Lib.hid (HS4.out.below HBr.out (Nat.le_refl _))
            by_cases hlt : j < n
            · have h0 : (0 : Int) ≤ (j : Int) := by omega
              have h5 : (j : Int) < (n : Int) := by omega
              cases sb with
              | true =>
                go_wp2
                go_roundw
                case rel => exact ⟨j + 1, by omega, by rw [someB_yes HSJ.out], by go_num, HBr⟩
                case measure => simp [intOf]; omega
              | false =>
                obtain ⟨x, hx⟩ : ∃ x, L[j]? = some x := ⟨_, List.getElem?_eq_getElem (by rw [HN.out]; omega)⟩
                have HX := Lib.hid hx
                have HSX := Lib.hid (spa_sub HS.out hx)
                clear hx
                obtain ⟨l2, hl2⟩ : ∃ l2, numsB [x] last = l2 := ⟨_, rfl⟩
                have HL2 := Lib.hid hl2
                have hl299 : l2.length ≤ 99 := hl2 ▸ numsB_len [x] last
                clear hl2
                have q2 : (j : Int) + 1 ≤ (cap1 : Int) := by omega
                have q3 : ¬ cap1 = j := by omega
                have q4 : ¬ (cap1 : Int) = (j : Int) := by omega
                have q5 : (j : Int) ≤ (j : Int) + 1 := by omega
                have q6 : (0 : Int) ≤ (j : Int) + 1 := by omega
                have q7 : IntKind.i64.wrap ((j : Int) + 1) = (j : Int) + 1 := IntWalk.i64_in _ (by omega)
                go_wp2_with fail
                refine (impl_nums (n := 1) rfl HL2.out _ HSX.out (by decide)).mono ?_
                rintro e w6 ⟨A6, cap6, rfl, h61, h62, -, hia, hb⟩
                have HB6 := Lib.hid (HBr.out.trans (hb.mono HBr.out.size))
                have HI6 := Lib.hid hia
                clear hb hia
                go_wp2_with fail
                refine (has_int_at (m := m) _ HI6.out rfl (by omega) rfl).mono ?_
                rintro e w7 ⟨rfl, hb⟩
                have HB7 := Lib.hid (HB6.out.trans (hb.mono HB6.out.size))
                clear hb
                go_wp2
                go_roundw
                case rel => exact ⟨j + 1, by omega, by rw [someB_step HSJ.out HX.out, HL2.out], by go_num, HB7⟩
                case measure => simp [intOf]; omega
            · have h5 : ¬ (j : Int) < (n : Int) := by omega
              have hjn : j = n := by omega
              have hse := HSJ.out
              rw [hjn, someB_end HN.out HSB.out, HL.out] at hse
              have HI := Lib.hid (HI4.out.below HBr.out (Nat.le_refl _))
              cases sb with
              | true =>
                have HE := Lib.hid hse
                have HIN := Lib.hid (of_decide_eq_true hse)
                clear hjn hse
                go_wp2_with fail
                refine (has_int_at (m := m) _ HI.out rfl (by omega) HE.out).mono ?_
                rintro e w7 ⟨rfl, hb⟩
                have HB7 := Lib.hid (HBr.out.trans (hb.mono HBr.out.size))
                clear hb
                go_wp2
                go_roundw
                case rel =>
                  have h1 : manyB l m = M + 1 := by rw [HMK.out, manyB_yes (by rw [← HMK.out]; exact HIN.out), HM.out]
                  exact ⟨m, by omega, by rw [h1]; go_num, by go_num, HB7⟩
                case measure => have := HMK.out; simp [intOf]; omega
              | false =>
                have HE := Lib.hid hse
                have HIN := Lib.hid (of_decide_eq_false hse)
                clear hjn hse
                go_wp2_with fail
                refine (has_int_at (m := m) _ HI.out rfl (by omega) HE.out).mono ?_
                rintro e w7 ⟨rfl, hb⟩
                have HB7 := Lib.hid (HBr.out.trans (hb.mono HBr.out.size))
                clear hb
                go_wp2
                go_roundw
                case rel =>
                  have h1 : manyB l m = M := by rw [HMK.out, manyB_no (by rw [← HMK.out]; exact HIN.out), HM.out]
                  exact ⟨m, by omega, by rw [h1], by go_num, HB7⟩
                case measure => have := HMK.out; simp [intOf]; omega
        · have q1 : ¬ ((k : Int) + 1 ≤ 99) := by omega
          have hk9 : k = 99 := by omega
          have hm := HM.out
          rw [hk9, HMM.out] at hm
          have q8 : ((M : Int) == (l.length : Int)) = true := by rw [hm]; simp
          have HBw := Lib.hid (HB4.out.trans (HB.out.mono HB4.out.size))
          clear hk9 hm
          go_wp2
          go_ret
          exact ⟨rfl, HBw.out⟩
  · have hl' : (1048576 : Int) < (len : Int) := by omega
    go_enter Try.func9, Try.ntmps9
    go_wp2
    go_ret
    exact ⟨rfl, Below.refl _ _⟩
end Go.Proofs.Ytmhpmdibhpcjpaa
