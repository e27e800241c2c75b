/-
  The walks of the laws FnNumbersStar, FnNumbersAll and FnNumbersOrder. Condition: the code can be read.
-/
import Derived.Test.YtmhpmdibhpcjpaaSl2
import Derived.Lib.MinMax
namespace Go.Proofs.Ytmhpmdibhpcjpaa
open Go.RowKit
set_option linter.unusedVariables false

/-- A list of numbers of the call's own is told, as a slice. -/
def ListsA (w : World) (l : List Nat) (e : Ending) (w' : World) : Prop :=
  ∃ (A : Option Addr) (cap : Nat), e = .returned (.slice A l.length cap) ∧ l.length ≤ cap ∧ cap ≤ maxLen ∧ OwnI w' w.heap.size (.slice A l.length cap) l ∧ IntA w' A l ∧ Below w.heap.size w w'
theorem listsA_of {w w' : World} {l m : List Nat} {e : Ending} (h : Lists w l e w') (hl : l = m) : ListsA w m e w' := by
  subst hl
  obtain ⟨v, rfl, hown, hb⟩ := h
  obtain ⟨A, cap, rfl, h1, h2, h3⟩ := hown.form
  exact ⟨A, cap, rfl, h1, h2, hown, h3, hb⟩
theorem impl_nums {A : Option Addr} {n cap : Nat} {L : List (Int × Int)} {last : Int} {l : List Nat} (hn : L.length = n) (ho : numsB L last = l) (w : World) (h : SpA w A L) (hl : n ≤ 33554432) :
    Calls Try.prog 25 #[.slice A n cap, .int .i64 last] w (ListsA w l) := by
  subst hn
  exact (impl_setnumbers A cap L last w h hl).mono fun e w' h => listsA_of h ho
theorem spec_nums {A : Option Addr} {n cap : Nat} {L : List (Int × Int)} {last : Int} {l : List Nat} (hn : L.length = n) (ho : numsB L last = l) (w : World) (h : SpA w A L) (hl : n ≤ 33554432) :
    Calls Try.prog 26 #[.slice A n cap, .int .i64 last] w (ListsA w l) := by
  subst hn
  exact (spec_setnumbers A cap L last w h hl).mono fun e w' h => listsA_of h ho
theorem same_ints_at {A A2 : Option Addr} {n n2 cap cap2 : Nat} {L M : List Nat} {o : Bool} (w : World) (h : IntA w A L) (h2 : IntA w A2 M) (hn : L.length = n) (hn2 : M.length = n2) (hl : n ≤ 33554432) (hl2 : n2 ≤ 33554432) (ho : decide (L = M) = o) :
    Calls Try.prog 27 #[.slice A n cap, .slice A2 n2 cap2] w (Tests w o) := by
  subst hn
  subst hn2
  subst ho
  exact same_ints A A2 cap cap2 L M w h h2 hl hl2
theorem up_to_at {n : Int} {l : List Nat} (w : World) (hn : n ≤ 1000) (ho : ups n.toNat = l) : Calls Try.prog 29 #[.int .i64 n] w (ListsA w l) :=
  (up_to n w hn).mono fun e w' h => listsA_of h ho
theorem spa_one (w : World) (x y : Int) (t : TypeId) (N : Nat) (hN : w.heap.size = N) : SpA (w.alloc (.cells #[.int .i64 x, .int .i64 y] t)) (some ⟨N, 0, none⟩) [(x, y)] := fun i z hz => by
  have hi : i = 0 := by
    have := (List.getElem?_eq_some_iff.1 hz).1
    simpa using this
  subst hi
  simp at hz
  subst hz
  have h := two_new' w (.int .i64 x) (.int .i64 y) t N hN
  refine ⟨N, 0, rfl, by simp; omega, ?_, ?_⟩
  · have := h 0 _ rfl
    rw [add_none] at this
    exact this
  · have := h 1 _ rfl
    rw [add_none] at this
    exact this
theorem star_low {last : Int} (h : last < 1) : numsB [((0 : Int), (0 : Int))] last = [] := numsB_low _ h
theorem all_any (last : Int) : numsB [((1 : Int), (0 : Int))] last = ups (min last 99).toNat := by
  by_cases h : 1 ≤ last
  · exact numsB_all h
  · rw [numsB_low _ (by omega), show (min last 99).toNat = 0 by omega]
    rfl
theorem rev_take {L : List (Int × Int)} {j : Nat} {x : Int × Int} (h : L[j]? = some x) : L.reverse.take (L.length - j) = L.reverse.take (L.length - (j + 1)) ++ [x] := by
  have hj := (List.getElem?_eq_some_iff.1 h).1
  rw [show L.length - j = (L.length - (j + 1)) + 1 by omega, List.take_add_one]
  congr 1
  rw [List.getElem?_reverse (by omega), show L.length - 1 - (L.length - (j + 1)) = j by omega, h]
  rfl

set_option maxRecDepth 20000 in
set_option maxHeartbeats 4000000 in
theorem law_FnNumbersStar (A : Option Addr) (len cap : Nat) (w : World) (h : Coded w A len cap) : Calls Try.prog 10 #[.slice A len cap] w (Holds1 w) := by
  have HC := Lib.hid h
  clear h
  by_cases hl : len ≤ 1048576
  · have hl' : (len : Int) ≤ 1048576 := by omega
    go_enter Try.func10, Try.ntmps10
    go_wp2_with fail
    refine (draw_setnums A len cap _ HC.out).mono ?_
    rintro e w1 ⟨A1, cap1, L, last, hL, rfl, hc1, hc2, hla, hlb, hsp, hb⟩
    have HB1 := Lib.hid hb
    have HS1 := Lib.hid hsp
    clear hb hsp
    obtain ⟨l, hll⟩ : ∃ l, numsB L last = l := ⟨_, rfl⟩
    have HL := Lib.hid hll
    have hl99 : l.length ≤ 99 := hll ▸ numsB_len L last
    clear hll
    go_wp2_with fail
    refine (impl_nums rfl HL.out _ HS1.out (by omega)).mono ?_
    rintro e w2 ⟨A2, cap2, rfl, h21, h22, -, hia, hb⟩
    have HB2 := Lib.hid (HB1.out.trans (hb.mono HB1.out.size))
    have HS2 := Lib.hid (HS1.out.below hb (Nat.le_refl _))
    have HI2 := Lib.hid hia
    clear hb hia
    go_wp2_with fail
    refine (spec_nums rfl HL.out _ HS2.out (by omega)).mono ?_
    rintro e w3 ⟨A3, cap3, rfl, h31, h32, -, hia, hb⟩
    have HB3 := Lib.hid (HB2.out.trans (hb.mono HB2.out.size))
    have HI3 := Lib.hid hia
    have HI23 := Lib.hid (HI2.out.below hb (Nat.le_refl _))
    clear hb hia
    go_wp2_with fail
    refine (same_ints_at (o := true) _ HI23.out HI3.out rfl rfl (by omega) (by omega) (by simp)).mono ?_
    rintro e w4 ⟨rfl, hb⟩
    have HB4 := Lib.hid (HB3.out.trans (hb.mono HB3.out.size))
    clear hb
    have HSO := Lib.hid (spa_one w4 0 0 27 w4.heap.size rfl)
    have HBO := Lib.hid (HB4.out.alloc HB4.out.size (.cells #[.int .i64 0, .int .i64 0] 27))
    by_cases h1 : last < 1
    · have HN := Lib.hid (star_low h1)
      go_wp2_with fail
      refine (impl_nums (n := 1) rfl HN.out _ HSO.out (by decide)).mono ?_
      rintro e w5 ⟨A5, cap5, rfl, h51, h52, -, hia, hb⟩
      have HB5 := Lib.hid (HBO.out.trans (hb.mono HBO.out.size))
      clear hb hia
      go_wp2
      go_ret
      exact ⟨rfl, HB5.out⟩
    · obtain ⟨k, hk⟩ : ∃ k, (lst last).toNat = k := ⟨_, rfl⟩
      have HN := Lib.hid (numsB_star (last := last) (by omega))
      rw [hk] at HN
      have hkk : (k : Int) = min last 99 := by rw [← hk]; exact (lst_pos (by omega)).2.1
      have q2 : ((k : Int) == min last 99) = true := by rw [hkk]; simp
      clear hk hkk
      go_wp2_with fail
      refine (impl_nums (n := 1) rfl HN.out _ HSO.out (by decide)).mono ?_
      rintro e w5 ⟨A5, cap5, rfl, h51, h52, -, hia, hb⟩
      have HB5 := Lib.hid (HBO.out.trans (hb.mono HBO.out.size))
      clear hb
      obtain ⟨b, o, rfl, hbz, c0⟩ := hia 0 k rfl
      have c1 : w5.cell? ⟨b, o, none⟩ = some (.int .i64 (k : Int)) := c0
      clear c0
      clear hia
      go_wp2
      go_ret
      exact ⟨rfl, HB5.out⟩
  · have hl' : (1048576 : Int) < (len : Int) := by omega
    go_enter Try.func10, Try.ntmps10
    go_wp2
    go_ret
    exact ⟨rfl, Below.refl _ _⟩

set_option maxRecDepth 20000 in
set_option maxHeartbeats 4000000 in
theorem law_FnNumbersAll (A : Option Addr) (len cap : Nat) (w : World) (h : Coded w A len cap) : Calls Try.prog 11 #[.slice A len cap] w (Holds1 w) := by
  have HC := Lib.hid h
  clear h
  by_cases hl : len ≤ 1048576
  · have hl' : (len : Int) ≤ 1048576 := by omega
    go_enter Try.func11, Try.ntmps11
    go_wp2_with fail
    refine (draw_setnums A len cap _ HC.out).mono ?_
    rintro e w1 ⟨A1, cap1, L, last, hL, rfl, hc1, hc2, hla, hlb, hsp, hb⟩
    have HB1 := Lib.hid hb
    have HS1 := Lib.hid hsp
    clear hb hsp
    obtain ⟨l, hll⟩ : ∃ l, numsB L last = l := ⟨_, rfl⟩
    have HL := Lib.hid hll
    have hl99 : l.length ≤ 99 := hll ▸ numsB_len L last
    clear hll
    go_wp2_with fail
    refine (impl_nums rfl HL.out _ HS1.out (by omega)).mono ?_
    rintro e w2 ⟨A2, cap2, rfl, h21, h22, -, hia, hb⟩
    have HB2 := Lib.hid (HB1.out.trans (hb.mono HB1.out.size))
    have HS2 := Lib.hid (HS1.out.below hb (Nat.le_refl _))
    have HI2 := Lib.hid hia
    clear hb hia
    go_wp2_with fail
    refine (spec_nums rfl HL.out _ HS2.out (by omega)).mono ?_
    rintro e w3 ⟨A3, cap3, rfl, h31, h32, -, hia, hb⟩
    have HB3 := Lib.hid (HB2.out.trans (hb.mono HB2.out.size))
    have HI3 := Lib.hid hia
    have HI23 := Lib.hid (HI2.out.below hb (Nat.le_refl _))
    clear hb hia
    go_wp2_with fail
    refine (same_ints_at (o := true) _ HI23.out HI3.out rfl rfl (by omega) (by omega) (by simp)).mono ?_
    rintro e w4 ⟨rfl, hb⟩
    have HB4 := Lib.hid (HB3.out.trans (hb.mono HB3.out.size))
    clear hb
    have HSO := Lib.hid (spa_one w4 1 0 27 w4.heap.size rfl)
    have HBO := Lib.hid (HB4.out.alloc HB4.out.size (.cells #[.int .i64 1, .int .i64 0] 27))
    obtain ⟨l2, hl2⟩ : ∃ l2, ups (min last 99).toNat = l2 := ⟨_, rfl⟩
    have HN := Lib.hid ((all_any last).trans hl2)
    have HU := Lib.hid hl2
    have hl299 : l2.length ≤ 99 := by rw [← hl2, ups_len]; omega
    clear hl2
    go_wp2_with fail
    refine (impl_nums (n := 1) rfl HN.out _ HSO.out (by decide)).mono ?_
    rintro e w5 ⟨A5, cap5, rfl, h51, h52, -, hia, hb⟩
    have HB5 := Lib.hid (HBO.out.trans (hb.mono HBO.out.size))
    have HI5 := Lib.hid hia
    clear hb hia
    go_wp2_with fail
    refine (up_to_at _ (by omega) HU.out).mono ?_
    rintro e w6 ⟨A6, cap6, rfl, h61, h62, -, hia, hb⟩
    have HB6 := Lib.hid (HB5.out.trans (hb.mono HB5.out.size))
    have HI6 := Lib.hid hia
    have HI56 := Lib.hid (HI5.out.below hb (Nat.le_refl _))
    clear hb hia
    go_wp2_with fail
    refine (same_ints_at (o := true) _ HI56.out HI6.out rfl rfl (by omega) (by omega) (by simp)).mono ?_
    rintro e w7 ⟨rfl, hb⟩
    have HB7 := Lib.hid (HB6.out.trans (hb.mono HB6.out.size))
    clear hb
    go_wp2
    go_ret
    exact ⟨rfl, HB7.out⟩
  · have hl' : (1048576 : Int) < (len : Int) := by omega
    go_enter Try.func11, Try.ntmps11
    go_wp2
    go_ret
    exact ⟨rfl, Below.refl _ _⟩

set_option maxRecDepth 20000 in
set_option maxHeartbeats 4000000 in
theorem law_FnNumbersOrder (A : Option Addr) (len cap : Nat) (w : World) (h : Coded w A len cap) : Calls Try.prog 12 #[.slice A len cap] w (Holds1 w) := by
  have HC := Lib.hid h
  clear h
  obtain ⟨i0, hi, hq0, hq1, hq2⟩ := info_parts Try.infoSpan
  by_cases hl : len ≤ 1048576
  · have hl' : (len : Int) ≤ 1048576 := by omega
    go_enter Try.func12, Try.ntmps12
    go_wp2_with fail
    refine (draw_setnums A len cap _ HC.out).mono ?_
    rintro e w1 ⟨A1, cap1, L, last, hL, rfl, hc1, hc2, hla, hlb, hsp, hb⟩
    have HB1 := Lib.hid hb
    have HS1 := Lib.hid hsp
    clear hb hsp
    obtain ⟨l, hll⟩ : ∃ l, numsB L last = l := ⟨_, rfl⟩
    have HL := Lib.hid hll
    have HR := Lib.hid ((numsB_rev L last).trans hll)
    have hl99 : l.length ≤ 99 := hll ▸ numsB_len L last
    clear hll
    go_wp2_with fail
    refine (impl_nums rfl HL.out _ HS1.out (by omega)).mono ?_
    rintro e w2 ⟨A2, cap2, rfl, h21, h22, -, hia, hb⟩
    have HB2 := Lib.hid (HB1.out.trans (hb.mono HB1.out.size))
    have HS2 := Lib.hid (HS1.out.below hb (Nat.le_refl _))
    have HI2 := Lib.hid hia
    clear hb hia
    go_wp2_with fail
    refine (spec_nums rfl HL.out _ HS2.out (by omega)).mono ?_
    rintro e w3 ⟨A3, cap3, rfl, h31, h32, -, hia, hb⟩
    have HB3 := Lib.hid (HB2.out.trans (hb.mono HB2.out.size))
    have HS3 := Lib.hid (HS2.out.below hb (Nat.le_refl _))
    have HI3 := Lib.hid hia
    have HI23 := Lib.hid (HI2.out.below hb (Nat.le_refl _))
    clear hb hia
    go_wp2_with fail
    refine (same_ints_at (o := true) _ HI23.out HI3.out rfl rfl (by omega) (by omega) (by simp)).mono ?_
    rintro e w4 ⟨rfl, hb⟩
    have HB4 := Lib.hid (HB3.out.trans (hb.mono HB3.out.size))
    have HS4 := Lib.hid (HS3.out.below hb (Nat.le_refl _))
    have HI4 := Lib.hid (HI23.out.below hb (Nat.le_refl _))
    clear hb
    obtain ⟨n, hn⟩ : ∃ n, L.length = n := ⟨_, rfl⟩
    have HN := Lib.hid hn
    rw [hn] at hL hc1 ⊢
    clear hn
    have hw4 := HB4.out.size
    go_wp2
    go_loopw [7, 8] (fun v i wr => ∃ (j : Nat) (z : Int), j ≤ n ∧ z + 1 = (j : Int) ∧ i = .int .i64 z ∧ Hid (Own wr w4.heap.size v (L.reverse.take (n - j))) ∧ Hid (Below w4.heap.size w4 wr)) (fun _ i _ => (intOf i + 1).toNat)
    case atStart => exact ⟨n, (n : Int) - 1, Nat.le_refl _, by omega, by go_num, by rw [Nat.sub_self, List.take_zero]; exact Own.lit' w4 _ (Nat.le_refl _) rfl, (Below.refl _ _).alloc (Nat.le_refl _) _⟩
    case round =>
      obtain ⟨j, z, hj, hz, rfl, HO, HB⟩ := hrel
      have hwr := HB.out.size
      obtain ⟨C, hC⟩ : ∃ C, L.reverse.take (n - j) = C := ⟨_, rfl⟩
      have hc8 : C.length ≤ 8 := by rw [← hC, List.length_take]; omega
      have HCC := Lib.hid hC
      rw [hC] at HO
      clear hC
      obtain ⟨A6, cap6, rfl, hc61, hc62, hspc⟩ := HO.out.form
      have HSC := Lib.hid hspc
      clear hspc
      cases j with
      | zero =>
        obtain rfl : z = -1 := by omega
        have HRC : Hid (C = L.reverse) := by
          show _ = _
          rw [← HCC.out, List.take_of_length_le (by rw [List.length_reverse, HN.out]; omega)]
        have HRN : Hid (numsB C last = l) := HRC.out ▸ HR.out
        have HIR := Lib.hid (HI4.out.below HB.out (Nat.le_refl _))
        go_wp2_with fail
        refine (impl_nums rfl HRN.out _ HSC.out (by omega)).mono ?_
        rintro e w5 ⟨A5, cap5, rfl, h51, h52, -, hia, hb⟩
        have HBr := Lib.hid (HB4.out.trans (HB.out.mono hw4))
        have HB5 := Lib.hid (HBr.out.trans (hb.mono HBr.out.size))
        have HI5 := Lib.hid hia
        have HIR5 := Lib.hid (HIR.out.below hb (Nat.le_refl _))
        clear hb hia
        go_wp2_with fail
        refine (same_ints_at (o := true) _ HI5.out HIR5.out rfl rfl (by omega) (by omega) (by simp)).mono ?_
        rintro e w7 ⟨rfl, hb⟩
        have HB7 := Lib.hid (HB5.out.trans (hb.mono HB5.out.size))
        clear hb
        go_wp2
        go_ret
        exact ⟨rfl, HB7.out⟩
      | succ j =>
        obtain rfl : z = (j : Int) := by omega
        have h0 : (0 : Int) ≤ (j : Int) := by omega
        have h5 : (j : Int) < (n : Int) := by omega
        obtain ⟨⟨x1, x2⟩, hx⟩ : ∃ x, L[j]? = some x := ⟨_, List.getElem?_eq_getElem (by rw [HN.out]; omega)⟩
        obtain ⟨b, o, rfl, hbz, c1, c2⟩ := (HS4.out.below HB.out (Nat.le_refl _)) j _ hx
        have HX := Lib.hid hx
        clear hx
        have hown := HO.out.alloc (.cells #[.int .i64 x1, .int .i64 x2] 27)
        have hnews := two_new' wr (.int .i64 x1) (.int .i64 x2) 27 wr.heap.size rfl
        have hml : C.length + 1 ≤ maxLen := by unfold maxLen; omega
        have hby : (C.length + 1) * 16 ≤ 140737488355328 := by omega
        have hba : w4.heap.size ≤ (wr.alloc (.cells #[.int .i64 x1, .int .i64 x2] 27)).heap.size := by simp; omega
        go_wp2_with (at_builtin; refine wpList_append_own _ rfl _ _ 23 rfl w4.heap.size 27 i0 (.agg #[.int .i64 0, .int .i64 0]) 2 16 Try.underlying23 hi hq0 hq1 hq2 rfl (by decide) _ _ _ rfl (hown.row rfl) ⟨wr.heap.size, 0, none⟩ 1 1 [.int .i64 x1, .int .i64 x2] rfl rfl hnews (two_one _ _) hml hby hba ?_)
        intro v' w6 hown1 hgrow hcp
        have HO6 := Lib.hid (Own.push hown1 rfl)
        have HB6 := Lib.hid ((HB.out.alloc hwr (.cells #[.int .i64 x1, .int .i64 x2] 27)).grown hgrow hba (fun z hz => (World.ownsRow.lt hown z hz).1))
        clear hown hown1 hgrow hnews hml hby hba hcp
        go_wp2
        go_roundw
        case rel =>
          refine ⟨j, (j : Int) - 1, by omega, by omega, by go_num, ?_, HB6.out⟩
          have h := rev_take HX.out
          rw [HN.out, HCC.out] at h
          rw [h]
          exact HO6
        case measure => simp [intOf]
  · have hl' : (1048576 : Int) < (len : Int) := by omega
    go_enter Try.func12, Try.ntmps12
    go_wp2
    go_ret
    exact ⟨rfl, Below.refl _ _⟩
end Go.Proofs.Ytmhpmdibhpcjpaa
