/-
  The walks of the laws FnNumbers and FnNumbersSwap. Condition: the code can be read.
-/
import Derived.Test.YtmhpmdibhpcjpaaSl3
import Derived.Deep.RegionLaw
namespace Go.Proofs.Ytmhpmdibhpcjpaa
open Go.RowKit
set_option linter.unusedVariables false

theorem nums_at {L : List (Int × Int)} {last : Int} {l : List Nat} (h : numsB L last = l) {k : Nat} {x : Nat} (hx : l[k]? = some x) : decide ((x : Int) < 1) = false ∧ decide (last < (x : Int)) = false ∧ decide ((99 : Int) < (x : Int)) = false := by
  subst h
  obtain ⟨h1, h2, h3⟩ := numsB_mem (List.mem_of_getElem? hx)
  exact ⟨dec_no (by omega), dec_no (by omega), dec_no (by omega)⟩
theorem nums_less {L : List (Int × Int)} {last : Int} {l : List Nat} (h : numsB L last = l) {k j : Nat} {x y : Nat} (hx : l[k]? = some x) (hy : l[j]? = some y) (hj : j < k) : decide ((x : Int) ≤ (y : Int)) = false := by
  subst h
  have hp := numsB_sorted L last
  obtain ⟨h1, rfl⟩ := List.getElem?_eq_some_iff.1 hx
  obtain ⟨h2, rfl⟩ := List.getElem?_eq_some_iff.1 hy
  have := List.pairwise_iff_getElem.1 hp j k h2 h1 hj
  exact dec_no (by omega)
theorem map_take {L : List (Int × Int)} {j : Nat} {x : Int × Int} (h : L[j]? = some x) : (L.take (j + 1)).map swp = (L.take j).map swp ++ [(x.2, x.1)] := by
  rw [List.take_add_one, h, List.map_append]
  rfl

section
variable {P : Program} {w : World}
/-- An append to a slice of the call's own, as one step of a region that draws its order. -/
theorem step_append_own {ops : Array Oper} {o : Oper} {a : Act} {K : Act → World → Prop} {Q : Exit → Act → World → Prop} {E : Prop} (hg : o.guard = none) (s x : Operand) (t : TypeId)
    (ho : o.op = .call { callee := .builtin .append, args := #[s, x], argTypes := #[t, t] })
    (base : Nat) (e : TypeId) (i : TypeInfo) (z : Value) (size bytes : Nat) (ht : P.underlying t = some (.slice e)) (hi : P.info? e = some i) (hz : i.zero = some z)
    (hsize : i.size = size) (hby : i.bytes = bytes) (hzs : z.cells.size = size) (hsz : 0 < size)
    (v : Value) (n : Nat) (xs : List Value) (hs : a.eval s = v) (hown : w.ownsRow base e size v n xs)
    (ad : Addr) (m c : Nat) (news : List Value) (hx : a.eval x = .slice (some ad) m c) (hl : news.length = m * size) (hnews : ∀ j u, news[j]? = some u → w.cell? (ad.add j) = some u) (h1 : ∀ u ∈ news, u.oneCell' = true)
    (h63 : n + m ≤ maxLen) (hbytes : (n + m) * bytes ≤ 140737488355328) (hbase : base ≤ w.heap.size)
    (h : ∀ v' w', w'.ownsRow base e size v' (n + m) (xs ++ news) → w.grownBy w' v.ownBlock → (v' = .slice none 0 0 ↔ v = .slice none 0 0 ∧ m = 0) → K (a.put o.dst v') w') :
    if Region.wanted o (yielded ops a.tmps) = true then Oper.wp P o a w K Q else E := by
  have hw : Region.wanted o (yielded ops a.tmps) = true := by simp [Region.wanted, hg]
  rw [if_pos hw]
  exact wp_append_own w s x t ho base e i z size bytes ht hi hz hsize hby hzs hsz v n xs hs hown ad m c news hx hl hnews h1 h63 hbytes hbase h
end

set_option maxRecDepth 20000 in
set_option maxHeartbeats 4000000 in
theorem law_FnNumbers (A : Option Addr) (len cap : Nat) (w : World) (h : Coded w A len cap) : Calls Try.prog 7 #[.slice A len cap] w (Holds1 w) := by
  have HC := Lib.hid h
  clear h
  by_cases hl : len ≤ 1048576
  · have hl' : (len : Int) ≤ 1048576 := by omega
    go_enter Try.func7, Try.ntmps7
    go_wp2_with fail
    refine (draw_setnums A len cap _ HC.out).mono ?_
    rintro e w1 ⟨A1, cap1, L, last, hL, rfl, hc1, hc2, hla, hlb, hsp, hb⟩
    have HB1 := Lib.hid hb
    have HS1 := Lib.hid hsp
    clear hb hsp
    obtain ⟨l, hll⟩ : ∃ l, numsB L last = l := ⟨_, rfl⟩
    have HL := Lib.hid hll
    have hl99 : l.length ≤ 99 := hll ▸ numsB_len L last
    clear hll
    go_wp2_with fail
    refine (impl_nums rfl HL.out _ HS1.out (by omega)).mono ?_
    rintro e w2 ⟨A2, cap2, rfl, h21, h22, -, hia, hb⟩
    have HB2 := Lib.hid (HB1.out.trans (hb.mono HB1.out.size))
    have HS2 := Lib.hid (HS1.out.below hb (Nat.le_refl _))
    have HI2 := Lib.hid hia
    clear hb hia
    go_wp2_with fail
    refine (spec_nums rfl HL.out _ HS2.out (by omega)).mono ?_
    rintro e w3 ⟨A3, cap3, rfl, h31, h32, -, hia, hb⟩
    have HB3 := Lib.hid (HB2.out.trans (hb.mono HB2.out.size))
    have HI3 := Lib.hid hia
    have HI23 := Lib.hid (HI2.out.below hb (Nat.le_refl _))
    clear hb hia
    go_wp2_with fail
    refine (same_ints_at (o := true) _ HI23.out HI3.out rfl rfl (by omega) (by omega) (by simp)).mono ?_
    rintro e w4 ⟨rfl, hb⟩
    have HB4 := Lib.hid (HB3.out.trans (hb.mono HB3.out.size))
    have HI4 := Lib.hid (HI23.out.below hb (Nat.le_refl _))
    clear hb
    obtain ⟨n, hn⟩ : ∃ n, l.length = n := ⟨_, rfl⟩
    have HN := Lib.hid hn
    rw [hn] at hl99 h21 ⊢
    clear hn
    go_wp2
    go_loopw [7] (fun i wr => ∃ k : Nat, k ≤ n ∧ i = .int .i64 (k : Int) ∧ Hid (Below w4.heap.size w4 wr)) (fun i _ => n - (intOf i).toNat)
    case atStart => exact ⟨0, Nat.zero_le _, by go_num, Below.refl _ _⟩
    case round =>
      obtain ⟨k, hk, rfl, HB⟩ := hrel
      by_cases hlt : k < n
      · have h0 : (0 : Int) ≤ (k : Int) := by omega
        have h5 : (k : Int) < (n : Int) := by omega
        obtain ⟨x, hx⟩ : ∃ x, l[k]? = some x := ⟨_, List.getElem?_eq_getElem (by rw [HN.out]; exact hlt)⟩
        obtain ⟨b, o, rfl, hbz, c1⟩ := (HI4.out.below HB.out (Nat.le_refl _)) k _ hx
        have HX := Lib.hid hx
        obtain ⟨d1, d2, d3⟩ := nums_at HL.out hx
        clear hx
        by_cases hk0 : k = 0
        · have d4 : decide ((0 : Int) < (k : Int)) = false := dec_no (by omega)
          have d4n : decide (0 < k) = false := dec_no (by omega)
          clear hk0
          go_wp2
          go_quiet (fail)
          go_wp2
          go_roundw
          case rel => exact ⟨k + 1, by omega, by go_num, below_drewN' HB.out _⟩
          case measure => simp [intOf]; omega
        · have d4 : (0 : Int) < (k : Int) := by omega
          have d4n : 0 < k := by omega
          obtain ⟨j, hj⟩ : ∃ j : Nat, (k : Int) - 1 = (j : Int) := ⟨k - 1, by omega⟩
          have hjk : j < k := by omega
          obtain ⟨y, hy⟩ : ∃ x, l[j]? = some x := ⟨_, List.getElem?_eq_getElem (by rw [HN.out]; omega)⟩
          obtain ⟨b', o', he, -, c2⟩ := (HI4.out.below HB.out (Nat.le_refl _)) j _ hy
          cases he
          have d5 := nums_less HL.out HX.out hy hjk
          have d5n : ¬ x ≤ y := by have := of_decide_eq_false d5; omega
          have d5m : decide (x ≤ y) = false := dec_no d5n
          have h6 : (0 : Int) ≤ (j : Int) := by omega
          have h7 : (j : Int) < (n : Int) := by omega
          clear hy hk0
          go_wp2
          go_quiet (fail)
          go_wp2
          go_roundw
          case rel => exact ⟨k + 1, by omega, by go_num, below_drewN' HB.out _⟩
          case measure => simp [intOf]; omega
      · have h5 : ¬ (k : Int) < (n : Int) := by omega
        have HBr := Lib.hid (HB4.out.trans (HB.out.mono HB4.out.size))
        go_wp2
        go_ret
        exact ⟨rfl, HBr.out⟩
  · have hl' : (1048576 : Int) < (len : Int) := by omega
    go_enter Try.func7, Try.ntmps7
    go_wp2
    go_ret
    exact ⟨rfl, Below.refl _ _⟩

set_option maxRecDepth 20000 in
set_option maxHeartbeats 4000000 in
theorem law_FnNumbersSwap (A : Option Addr) (len cap : Nat) (w : World) (h : Coded w A len cap) : Calls Try.prog 8 #[.slice A len cap] w (Holds1 w) := by
  have HC := Lib.hid h
  clear h
  obtain ⟨i0, hi, hq0, hq1, hq2⟩ := info_parts Try.infoSpan
  by_cases hl : len ≤ 1048576
  · have hl' : (len : Int) ≤ 1048576 := by omega
    go_enter Try.func8, Try.ntmps8
    go_wp2_with fail
    refine (draw_setnums A len cap _ HC.out).mono ?_
    rintro e w1 ⟨A1, cap1, L, last, hL, rfl, hc1, hc2, hla, hlb, hsp, hb⟩
    have HB1 := Lib.hid hb
    have HS1 := Lib.hid hsp
    clear hb hsp
    obtain ⟨l, hll⟩ : ∃ l, numsB L last = l := ⟨_, rfl⟩
    have HL := Lib.hid hll
    have HR := Lib.hid ((numsB_swap L last).trans hll)
    have hl99 : l.length ≤ 99 := hll ▸ numsB_len L last
    clear hll
    go_wp2_with fail
    refine (impl_nums rfl HL.out _ HS1.out (by omega)).mono ?_
    rintro e w2 ⟨A2, cap2, rfl, h21, h22, -, hia, hb⟩
    have HB2 := Lib.hid (HB1.out.trans (hb.mono HB1.out.size))
    have HS2 := Lib.hid (HS1.out.below hb (Nat.le_refl _))
    have HI2 := Lib.hid hia
    clear hb hia
    go_wp2_with fail
    refine (spec_nums rfl HL.out _ HS2.out (by omega)).mono ?_
    rintro e w3 ⟨A3, cap3, rfl, h31, h32, -, hia, hb⟩
    have HB3 := Lib.hid (HB2.out.trans (hb.mono HB2.out.size))
    have HS3 := Lib.hid (HS2.out.below hb (Nat.le_refl _))
    have HI3 := Lib.hid hia
    have HI23 := Lib.hid (HI2.out.below hb (Nat.le_refl _))
    clear hb hia
    go_wp2_with fail
    refine (same_ints_at (o := true) _ HI23.out HI3.out rfl rfl (by omega) (by omega) (by simp)).mono ?_
    rintro e w4 ⟨rfl, hb⟩
    have HB4 := Lib.hid (HB3.out.trans (hb.mono HB3.out.size))
    have HS4 := Lib.hid (HS3.out.below hb (Nat.le_refl _))
    have HI4 := Lib.hid (HI23.out.below hb (Nat.le_refl _))
    clear hb
    obtain ⟨n, hn⟩ : ∃ n, L.length = n := ⟨_, rfl⟩
    have HN := Lib.hid hn
    rw [hn] at hL hc1 ⊢
    clear hn
    have hw4 := HB4.out.size
    go_wp2
    go_loopw [7, 8] (fun v i wr => ∃ (j : Nat), j ≤ n ∧ i = .int .i64 (j : Int) ∧ Hid (Own wr w4.heap.size v ((L.take j).map swp)) ∧ Hid (Below w4.heap.size w4 wr)) (fun _ i _ => n - (intOf i).toNat)
    case atStart => exact ⟨0, Nat.zero_le _, by go_num, by rw [List.take_zero]; exact Own.lit' w4 _ (Nat.le_refl _) rfl, (Below.refl _ _).alloc (Nat.le_refl _) _⟩
    case round =>
      obtain ⟨j, hj, rfl, HO, HB⟩ := hrel
      have hwr := HB.out.size
      obtain ⟨C, hC⟩ : ∃ C, (L.take j).map swp = C := ⟨_, rfl⟩
      have hc8 : C.length ≤ 8 := by rw [← hC, List.length_map, List.length_take]; omega
      have HCC := Lib.hid hC
      rw [hC] at HO
      clear hC
      obtain ⟨A6, cap6, rfl, hc61, hc62, hspc⟩ := HO.out.form
      have HSC := Lib.hid hspc
      clear hspc
      by_cases hlt : j < n
      · have h0 : (0 : Int) ≤ (j : Int) := by omega
        have h5 : (j : Int) < (n : Int) := by omega
        obtain ⟨⟨x1, x2⟩, hx⟩ : ∃ x, L[j]? = some x := ⟨_, List.getElem?_eq_getElem (by rw [HN.out]; omega)⟩
        obtain ⟨b, o, rfl, hbz, c1, c2⟩ := (HS4.out.below HB.out (Nat.le_refl _)) j _ hx
        have HX := Lib.hid hx
        clear hx
        have hown : Own (wr.drew.alloc (.cells #[.int .i64 x2, .int .i64 x1] 27)) w4.heap.size (.slice A6 C.length cap6) C := Own.alloc HO.out _
        have hnews := two_new' wr.drew (.int .i64 x2) (.int .i64 x1) 27 wr.heap.size rfl
        have hml : C.length + 1 ≤ maxLen := by unfold maxLen; omega
        have hby : (C.length + 1) * 16 ≤ 140737488355328 := by omega
        have hba : w4.heap.size ≤ (wr.drew.alloc (.cells #[.int .i64 x2, .int .i64 x1] 27)).heap.size := by simp; omega
        go_wp2_with fail
        go_region_law (refine step_append_own rfl (.tmp 37) (.tmp 49) 23 rfl w4.heap.size 27 i0 (.agg #[.int .i64 0, .int .i64 0]) 2 16 Try.underlying23 hi hq0 hq1 hq2 rfl (by decide) _ _ _ rfl (hown.row rfl) ⟨wr.heap.size, 0, none⟩ 1 1 [.int .i64 x2, .int .i64 x1] rfl rfl hnews (two_one _ _) hml hby hba ?_; intro v' w6 hown1 hgrow hcp; have HO6 := Lib.hid (Own.push hown1 rfl); have HB6 := Lib.hid (((below_drew' HB.out).alloc hwr (.cells #[.int .i64 x2, .int .i64 x1] 27)).grown hgrow hba (fun z hz => (World.ownsRow.lt hown z hz).1)); clear hown1 hgrow hcp)
        all_goals
          go_wp2
          go_roundw
          case rel =>
            refine ⟨j + 1, by omega, by go_num, ?_, HB6.out⟩
            rw [map_take HX.out, HCC.out]
            exact HO6
          case measure => simp [intOf]; omega
      · have h5 : ¬ (j : Int) < (n : Int) := by omega
        have HRC : Hid (C = L.map swp) := by
          show _ = _
          rw [← HCC.out, List.take_of_length_le (by rw [HN.out]; omega)]
        have HRN : Hid (numsB C last = l) := HRC.out ▸ HR.out
        have HIR := Lib.hid (HI4.out.below HB.out (Nat.le_refl _))
        go_wp2_with fail
        refine (impl_nums rfl HRN.out _ HSC.out (by omega)).mono ?_
        rintro e w5 ⟨A5, cap5, rfl, h51, h52, -, hia, hb⟩
        have HBr := Lib.hid (HB4.out.trans (HB.out.mono hw4))
        have HB5 := Lib.hid (HBr.out.trans (hb.mono HBr.out.size))
        have HI5 := Lib.hid hia
        have HIR5 := Lib.hid (HIR.out.below hb (Nat.le_refl _))
        clear hb hia
        go_wp2_with fail
        refine (same_ints_at (o := true) _ HI5.out HIR5.out rfl rfl (by omega) (by omega) (by simp)).mono ?_
        rintro e w7 ⟨rfl, hb⟩
        have HB7 := Lib.hid (HB5.out.trans (hb.mono HB5.out.size))
        clear hb
        go_wp2
        go_ret
        exact ⟨rfl, HB7.out⟩
  · have hl' : (1048576 : Int) < (len : Int) := by omega
    go_enter Try.func8, Try.ntmps8
    go_wp2
    go_ret
    exact ⟨rfl, Below.refl _ _⟩
end Go.Proofs.Ytmhpmdibhpcjpaa
