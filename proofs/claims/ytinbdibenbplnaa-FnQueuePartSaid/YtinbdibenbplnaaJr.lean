/-
  The walks of the laws FnTake and FnTakeOthers. Condition: the code can be read.
-/
import Derived.Test.YtinbdibenbplnaaJq
import Derived.Test.YtinbdibenbplnaaJz
import Derived.BigQuiet
namespace Go.Proofs.Ytinbdibenbplnaa
open Go.RowKit
set_option linter.unusedVariables false

section
variable {P : Program} {ops : Array Oper} {Q : Exit → Act → World → Prop} {md : Region.Mode} {C : World → Prop} {m : Nat}
/-- What its guard forbids is passed over. -/
theorem wpLate_skip {i : Nat} {oi : Oper} {n : Nat} {listed : Array Bool} {a : Act} {w : World} (hi : ops[i]? = some oi)
    (hs : Region.noSelect ops = true) (hf : Region.free md ops listed i = true) (hr : (Region.ready md ops listed).contains i = true) (hsh : shutB md ops listed = true) (hw : waitsFor md ops i 40 m = true)
    (hQ : ∀ c a w, Q (.panic c) (a.put oi.dst undef) w → Q (.panic c) a w) (hC : C w) (hg : Region.wanted oi (yielded ops a.tmps) = false)
    (h : wpLate P md ops Q C m n (listed.setIfInBounds i true) (a.put oi.dst undef) w) : wpLate P md ops Q C m (n + 1) listed a w :=
  wpLate_first hi (Region.noSelect_spec hs) hQ hw n listed a w (shutL_of hsh) (Region.free_spec hi hf) (by simpa using hr) (.inr ⟨hg, rfl⟩) hC h
end
theorem okQ_mk : ∀ {L : List QI} {b : Int}, ascI L → (∀ g ∈ L, b < g.id ∧ itB g = true) → okQ b L = true
  | [], _, _, _ => rfl
  | x :: L, b, ha, h => by
    obtain ⟨h1, h2⟩ := List.pairwise_cons.1 ha
    have hx := h x List.mem_cons_self
    show (decide (b < x.id) && (itB x && okQ x.id L)) = true
    rw [decide_eq_true hx.1, hx.2, okQ_mk h2 (fun g hg => ⟨h1 g hg, (h g (List.mem_cons_of_mem _ hg)).2⟩)]
    rfl
theorem lastQ_lt : ∀ {L : List QI} {b n : Int}, b < n → (∀ g ∈ L, g.id < n) → lastQ b L < n
  | [], b, n, h, _ => h
  | x :: L, b, n, h, hg => lastQ_lt (L := L) (hg x List.mem_cons_self) (fun g hm => hg g (List.mem_cons_of_mem _ hm))
def ctI (u : ByteArray) (g : QI) : QI := ⟨g.id, g.us, g.tx, none, 0, 0, drT u g.T⟩
def cutQ (u : ByteArray) (P : List QI) (g : QI) (R : List QI) : List QI := P ++ (if drT u g.T = [] then R else ctI u g :: R)
theorem let_cut {us tx u : ByteArray} {T : List ByteArray} (h : letB us T tx = true) (hne : drT u T ≠ []) : letB us (drT u T) tx = true := by
  unfold letB recB n21 at h ⊢
  simp only [Bool.and_eq_true, decide_eq_true_eq] at h ⊢
  obtain ⟨h1, ⟨⟨h2, h3⟩, h4⟩, h5⟩ := h
  obtain ⟨h6, h7⟩ := namesB_iff.1 h2
  refine ⟨h1, ⟨⟨namesB_iff.2 ⟨fun x hx => h6 x (List.mem_filter.1 hx).1, h7.filter _⟩, Nat.le_trans (drT_le u T) h3⟩, ?_⟩, h5⟩
  rcases Nat.eq_zero_or_pos (drT u T).length with h8 | h8
  · exact absurd (List.length_eq_zero_iff.1 h8) hne
  · exact h8
theorem dr_mem {u x : ByteArray} {T : List ByteArray} : x ∈ drT u T ↔ x ∈ T ∧ x ≠ u := by
  unfold drT
  rw [List.mem_filter]
  simp
theorem asc_split {P R : List QI} {g : QI} (h : ascI (P ++ g :: R)) : (∀ x ∈ P, x.id ≠ g.id) ∧ (∀ x ∈ R, x.id ≠ g.id) := by
  obtain ⟨_, h2, h3⟩ := List.pairwise_append.1 h
  exact ⟨fun x hx e => by have := h3 x hx g List.mem_cons_self; omega, fun x hx e => by have := (List.pairwise_cons.1 h2).1 x hx; omega⟩
theorem cut_valid {n : Int} {u : ByteArray} {P R : List QI} {g : QI} (h : vQ n (P ++ g :: R) = true) : vQ n (cutQ u P g R) = true := by
  obtain ⟨h1, h2, h3, h4⟩ := vQ_parts h
  obtain ⟨h5, h6⟩ := okQ_asc h3
  have h7 := (okQ_le h3).2
  have hl : (P ++ g :: R).length = P.length + R.length + 1 := by rw [List.length_append, List.length_cons]; omega
  have hlt : ∀ x ∈ P ++ g :: R, x.id < n := fun x hx => by have := h7 x hx; omega
  have hn := vQ_low h
  unfold cutQ
  by_cases hd : drT u g.T = []
  · rw [if_pos hd]
    have hs : (P ++ R).Sublist (P ++ g :: R) := List.Sublist.append_left (List.sublist_cons_self g R) P
    exact vQ_mk (by rw [List.length_append]; omega) h2 (okQ_mk (List.Pairwise.sublist hs h5) (fun x hx => h6 x (hs.subset hx))) (lastQ_lt (by omega) (fun x hx => hlt x (hs.subset hx)))
  · rw [if_neg hd]
    have hit : itB (ctI u g) = true := let_cut (h6 g (by simp)).2 hd
    have hm : ∀ x ∈ P ++ ctI u g :: R, (0 < x.id ∧ itB x = true) ∧ x.id < n := fun x hx => by
      rcases List.mem_append.1 hx with hx | hx
      · exact ⟨h6 x (List.mem_append_left _ hx), hlt x (List.mem_append_left _ hx)⟩
      · rcases List.mem_cons.1 hx with rfl | hx
        · exact ⟨⟨(h6 g (by simp)).1, hit⟩, hlt g (by simp)⟩
        · exact ⟨h6 x (List.mem_append_right _ (List.mem_cons_of_mem _ hx)), hlt x (List.mem_append_right _ (List.mem_cons_of_mem _ hx))⟩
    have ha : ascI (P ++ ctI u g :: R) := by
      obtain ⟨a1, a2, a3⟩ := List.pairwise_append.1 h5
      obtain ⟨a4, a5⟩ := List.pairwise_cons.1 a2
      refine List.pairwise_append.2 ⟨a1, List.pairwise_cons.2 ⟨fun x hx => a4 x hx, a5⟩, fun x hx y hy => ?_⟩
      rcases List.mem_cons.1 hy with rfl | hy
      · exact a3 x hx g List.mem_cons_self
      · exact a3 x hx y (List.mem_cons_of_mem _ hy)
    exact vQ_mk (by rw [List.length_append, List.length_cons]; omega) h2 (okQ_mk ha (fun x hx => (hm x hx).1)) (lastQ_lt (by omega) (fun x hx => (hm x hx).2))
theorem cnt_mid (u : ByteArray) (P R : List QI) (g : QI) : cntQ u (P ++ g :: R) = cntQ u P + (if decide (u ∈ g.T) then 1 else 0) + cntQ u R := by
  unfold cntQ
  rw [List.filter_append, List.length_append, List.filter_cons]
  split
  · rw [List.length_cons]; omega
  · omega
theorem cnt_app (u : ByteArray) (P R : List QI) : cntQ u (P ++ R) = cntQ u P + cntQ u R := by
  unfold cntQ
  rw [List.filter_append, List.length_append]
theorem cnt_self (u : ByteArray) (P R : List QI) (g : QI) (hu : u ∈ g.T) : cntQ u (P ++ g :: R) = cntQ u (cutQ u P g R) + 1 := by
  rw [cnt_mid, decide_eq_true hu, if_pos rfl]
  unfold cutQ
  split
  · rw [cnt_app]; omega
  · rw [cnt_mid, decide_eq_false (show ¬ u ∈ (ctI u g).T from fun h => (dr_mem.1 h).2 rfl)]
    simp
    omega
theorem cnt_other (u x : ByteArray) (P R : List QI) (g : QI) (hx : x ≠ u) : cntQ x (cutQ u P g R) = cntQ x (P ++ g :: R) := by
  rw [cnt_mid]
  unfold cutQ
  split
  · rename_i hd
    rw [cnt_app, decide_eq_false (show ¬ x ∈ g.T from fun h => by have h2 := dr_mem.2 ⟨h, hx⟩; rw [hd] at h2; cases h2)]
    simp
  · rw [cnt_mid]
    have e : decide (x ∈ (ctI u g).T) = decide (x ∈ g.T) := by
      rw [decide_eq_decide]
      exact ⟨fun h => (dr_mem.1 h).1, fun h => dr_mem.2 ⟨h, hx⟩⟩
    rw [e]
theorem tkK_app (K M : List QK) (id : Int) (u : ByteArray) : tkK (K ++ M) id u = tkK K id u ++ tkK M id u := by
  unfold tkK
  rw [List.map_append, List.filter_append]
theorem take_split {n : Int} {L : List QI} {id : Int} {u : ByteArray} (h : qtO n L id u = true) : vQ n L = true ∧ ∃ P g R, L = P ++ g :: R ∧ u ∈ g.T ∧ qtN n L = n ∧ qtK n L id u = (cutQ u P g R).map keyI := by
  have hv : vQ n L = true := by unfold qtO at h; simp only [Bool.and_eq_true] at h; exact h.1
  obtain ⟨g, hg, h1, h2, _, _⟩ := take_some h
  obtain ⟨P, R, hL⟩ := List.append_of_mem hg
  have ho := okQ_asc (vQ_parts hv).2.2.1
  rw [hL] at ho
  obtain ⟨hp, hr⟩ := asc_split ho.1
  have hne : ∀ x ∈ P ++ g :: R, x.T ≠ [] := fun x hx => (letB_parts (ho.2 x hx).2).2.1
  have kp : ∀ (M : List QI), (∀ x ∈ M, x.id ≠ g.id) → (∀ x ∈ M, x.T ≠ []) → tkK (M.map keyI) id u = M.map keyI := fun M hM hN => tkK_none (fun k hk => by obtain ⟨x, hx, rfl⟩ := List.mem_map.1 hk; exact hN x hx) (fun k hk hh => by obtain ⟨x, hx, rfl⟩ := List.mem_map.1 hk; exact hM x hx (hh.1.trans h1.symm))
  refine ⟨hv, P, g, R, hL, h2, by unfold qtN; rw [if_pos hv], ?_⟩
  unfold qtK
  rw [if_pos hv, hL, List.map_append, List.map_cons, tkK_app, kp P hp (fun x hx => hne x (List.mem_append_left _ hx))]
  have e : tkK (keyI g :: R.map keyI) id u = tkK [keyI g] id u ++ R.map keyI := by
    rw [← kp R hr (fun x hx => hne x (List.mem_append_right _ (List.mem_cons_of_mem _ hx))), ← tkK_app, kp R hr (fun x hx => hne x (List.mem_append_right _ (List.mem_cons_of_mem _ hx)))]
    rfl
  have e1 : tk1 id u (keyI g) = keyI (ctI u g) := tk1_yes h1 h2
  unfold cutQ
  rw [e, List.map_append]
  congr 1
  show ([keyI g].map (tk1 id u)).filter neT ++ _ = _
  rw [List.map_cons, List.map_nil, e1, List.filter_cons]
  by_cases hd : drT u g.T = []
  · rw [if_neg (by unfold neT; simp; exact hd), if_pos hd]; rfl
  · rw [if_pos (show neT (keyI (ctI u g)) = true from decide_eq_true hd), if_neg hd]; rfl
theorem take_facts {n : Int} {L M : List QI} {id : Int} {u : ByteArray} (h : qtO n L id u = true) (hk : M.map keyI = qtK n L id u) :
    vQ n L = true ∧ qtN n L = n ∧ vQ n M = true ∧ qtO n M id u = false ∧ cntQ u L = cntQ u M + 1 ∧ ∀ x, x ≠ u → cntQ x M = cntQ x L := by
  obtain ⟨hv, P, g, R, hL, hu, hn, hq⟩ := take_split h
  have hM := hk.trans hq
  refine ⟨hv, hn, by rw [vQ_key hM]; exact cut_valid (hL ▸ hv), ?_, by rw [cntQ_key hM, hL]; exact cnt_self u P R g hu, fun x hx => by rw [cntQ_key hM, hL]; exact cnt_other u x P R g hx⟩
  have hno : tkO (M.map keyI) id u = false := by
    unfold tkO
    rw [find_none (fun k hk2 hh => ?_)]
    · rfl
    · rw [hk] at hk2
      unfold qtK at hk2
      rw [if_pos hv] at hk2
      obtain ⟨k0, _, rfl⟩ := List.mem_map.1 (List.mem_filter.1 hk2).1
      by_cases h0 : k0.1 = id ∧ u ∈ k0.2.2.2
      · rw [tk1_yes h0.1 h0.2] at hh
        exact (dr_mem.1 hh.2).2 rfl
      · rw [tk1_no h0] at hh
        exact h0 hh
  unfold qtO
  rw [hno, Bool.and_false]
set_option maxRecDepth 20000 in
set_option maxHeartbeats 8000000 in
theorem law_FnTakeOthers (A0 : Option Addr) (len cap0 : Nat) (w : World) (h : Coded w A0 len cap0) : Calls Try.prog 10 #[.slice A0 len cap0] w (Holds1 w) := by
  have HC := Lib.hid h
  clear h
  by_cases hlen : len ≤ 1048576
  · have hlenI : (len : Int) ≤ 1048576 := by omega
    have hlenJ : ¬ (1048576 : Int) < (len : Int) := by omega
    go_enter Try.func10, Try.ntmps10
    go_wp2_with fail
    refine (draw_qtake A0 len cap0 w HC.out).mono ?_
    rintro e w1 ⟨n, A, N, cap, L, id, u, rfl, ho, hs, hl, hu, hb⟩
    have HL := Lib.hid hl
    have HNL := Lib.hid ho.1.len.1
    have hN8 : N ≤ 8 := by have := HNL.out; omega
    have HSQ := Lib.hid hs
    obtain ⟨D, hD⟩ : ∃ D, w1.heap.size = D := ⟨_, rfl⟩
    obtain ⟨w2, hw2⟩ : ∃ w2, w1.alloc (.cells #[.int .i64 n, .slice A N cap] 31) = w2 := ⟨_, rfl⟩
    have hb2 : Below w1.heap.size w1 w2 := by rw [← hw2]; exact below_new _ _
    have HB := Lib.hid (hb.trans (hb2.mono hb.size))
    have HQ := Lib.hid (show Whole w2 D 31 #[.int .i64 n, .slice A N cap] by rw [← hw2, ← hD]; exact Whole.made _ _ _)
    have HI := Lib.hid ((ho.qinS hs (by omega)).below hb2 (Nat.le_refl _))
    clear ho hs hl hb hb2
    obtain ⟨n6, hn6⟩ : ∃ x, qtN n L = x := ⟨_, rfl⟩
    obtain ⟨K6, hk6⟩ : ∃ x, qtK n L id u = x := ⟨_, rfl⟩
    obtain ⟨t6, ht6⟩ : ∃ x, qtT n L id u = x := ⟨_, rfl⟩
    obtain ⟨ok6, ho6⟩ : ∃ x, qtO n L id u = x := ⟨_, rfl⟩
    have HN6 := Lib.hid hn6
    have HK6 := Lib.hid hk6
    have HT6 := Lib.hid ht6
    have HO6 := Lib.hid ho6
    have HSM6 : Hid (smQ K6) := Lib.hid (by rw [← hk6]; exact (qtK_sm HSQ.out).1)
    have HLE6 : Hid (K6.length ≤ L.length) := Lib.hid (by rw [← hk6]; exact (qtK_sm HSQ.out).2)
    clear hn6 hk6 ht6 ho6
    have cHQ0 := HQ.out.cell 0
    have cHQ1 := HQ.out.cell 1
    simp only [List.getElem?_toArray, List.getElem?_cons_zero, List.getElem?_cons_succ] at cHQ0 cHQ1
    go_wp2_with fail
    have HCA := impl_queuetake (n := n) id u w2 HI.out
    rw [HN6.out, HK6.out, HT6.out, HO6.out] at HCA
    refine HCA.mono ?_
    rintro e w3 ⟨A6, N6, c6, L6, rfl, ho3, hk3, hb3⟩
    clear HCA
    clear cHQ0 cHQ1
    have HB_1 := Lib.hid (HB.out.trans (hb3.mono HB.out.size))
    have HQ_1 := Lib.hid (HQ.out.below hb3 HQ.out.lt)
    have HI_1 := Lib.hid (HI.out.below hb3 (Nat.le_refl _))
    clear HI HQ HB
    have hla : L6.length ≤ 1000 := by have h1 := HLE6.out; rw [← hk3, List.length_map] at h1; have := HL.out; omega
    have hia := ho3.qinS (by rw [hk3]; exact HSM6.out) hla
    have HKYa := Lib.hid hk3
    have HNa := Lib.hid ho3.1.len.1
    obtain ⟨D5, hD5⟩ : ∃ D, w3.heap.size = D := ⟨_, rfl⟩
    obtain ⟨w4, hw4⟩ : ∃ wn, w3.alloc (.cells #[.int .i64 n6, .slice A6 N6 c6] 31) = wn := ⟨_, rfl⟩
    have hbn : Below w3.heap.size w3 w4 := by rw [← hw4]; exact below_new _ _
    have HB_2 := Lib.hid (HB_1.out.trans (hbn.mono HB_1.out.size))
    have HQ_2 := Lib.hid (HQ_1.out.below hbn HQ_1.out.lt)
    have HI_2 := Lib.hid (HI_1.out.below hbn (Nat.le_refl _))
    clear HI_1 HQ_1 HB_1
    have HOa := Lib.hid (show Whole w4 D5 31 #[.int .i64 n6, .slice A6 N6 c6] by rw [← hw4, ← hD5]; exact Whole.made _ _ _)
    have HIa := Lib.hid (hia.below hbn (Nat.le_refl _))
    clear hla hia hbn ho3 hk3 hb3
    have cHQ0 := HQ_2.out.cell 0
    have cHQ1 := HQ_2.out.cell 1
    simp only [List.getElem?_toArray, List.getElem?_cons_zero, List.getElem?_cons_succ] at cHQ0 cHQ1
    go_wp2_with fail
    have HCA := spec_queuetake (n := n) id u w4 HI_2.out
    rw [HN6.out, HK6.out, HT6.out, HO6.out] at HCA
    refine HCA.mono ?_
    rintro e w5 ⟨A7, N7, c7, L7, rfl, ho5, hk5, hb5⟩
    clear HCA
    clear cHQ0 cHQ1
    have HB_3 := Lib.hid (HB_2.out.trans (hb5.mono HB_2.out.size))
    have HQ_3 := Lib.hid (HQ_2.out.below hb5 HQ_2.out.lt)
    have HI_3 := Lib.hid (HI_2.out.below hb5 (Nat.le_refl _))
    have HOa_3 := Lib.hid (HOa.out.below hb5 HOa.out.lt)
    have HIa_3 := Lib.hid (HIa.out.below hb5 (Nat.le_refl _))
    clear HIa HOa HI_2 HQ_2 HB_2
    have hlb : L7.length ≤ 1000 := by have h1 := HLE6.out; rw [← hk5, List.length_map] at h1; have := HL.out; omega
    have hib := ho5.qinS (by rw [hk5]; exact HSM6.out) hlb
    have HKYb := Lib.hid hk5
    have HNb := Lib.hid ho5.1.len.1
    obtain ⟨D7, hD7⟩ : ∃ D, w5.heap.size = D := ⟨_, rfl⟩
    obtain ⟨w6, hw6⟩ : ∃ wn, w5.alloc (.cells #[.int .i64 n6, .slice A7 N7 c7] 31) = wn := ⟨_, rfl⟩
    have hbn : Below w5.heap.size w5 w6 := by rw [← hw6]; exact below_new _ _
    have HB_4 := Lib.hid (HB_3.out.trans (hbn.mono HB_3.out.size))
    have HQ_4 := Lib.hid (HQ_3.out.below hbn HQ_3.out.lt)
    have HI_4 := Lib.hid (HI_3.out.below hbn (Nat.le_refl _))
    have HOa_4 := Lib.hid (HOa_3.out.below hbn HOa_3.out.lt)
    have HIa_4 := Lib.hid (HIa_3.out.below hbn (Nat.le_refl _))
    clear HIa_3 HOa_3 HI_3 HQ_3 HB_3
    have HOb := Lib.hid (show Whole w6 D7 31 #[.int .i64 n6, .slice A7 N7 c7] by rw [← hw6, ← hD7]; exact Whole.made _ _ _)
    have HIb := Lib.hid (hib.below hbn (Nat.le_refl _))
    clear hlb hib hbn ho5 hk5 hb5
    have h67 : N6 = N7 := by have h1 := HNa.out; have h2 := HNb.out; have h3 := key_len (HKYa.out.trans HKYb.out.symm); omega
    subst h67
    have HE67 := Lib.hid (HKYa.out.trans HKYb.out.symm)
    cases ok6 with
    | false =>
      have cHOa0 := HOa_4.out.cell 0
      have cHOa1 := HOa_4.out.cell 1
      have cHOb0 := HOb.out.cell 0
      have cHOb1 := HOb.out.cell 1
      simp only [List.getElem?_toArray, List.getElem?_cons_zero, List.getElem?_cons_succ] at cHOa0 cHOa1 cHOb0 cHOb1
      go_wp2_with fail
      refine (same_queue _ HIa_4.out HIb.out HE67.out).mono ?_
      rintro e u5x ⟨rfl, hb⟩
      clear cHOa0 cHOa1 cHOb0 cHOb1
      have HB_6 := Lib.hid (HB_4.out.trans (hb.mono HB_4.out.size))
      have HQ_6 := Lib.hid (HQ_4.out.below hb HQ_4.out.lt)
      have HI_6 := Lib.hid (HI_4.out.below hb (Nat.le_refl _))
      have HOa_6 := Lib.hid (HOa_4.out.below hb HOa_4.out.lt)
      have HIa_6 := Lib.hid (HIa_4.out.below hb (Nat.le_refl _))
      have HOb_6 := Lib.hid (HOb.out.below hb HOb.out.lt)
      have HIb_6 := Lib.hid (HIb.out.below hb (Nat.le_refl _))
      clear HIb HOb HIa_4 HOa_4 HI_4 HQ_4 HB_4
      clear hb
      have cHOa0 := HOa_6.out.cell 0
      have cHOa1 := HOa_6.out.cell 1
      have cHOb0 := HOb_6.out.cell 0
      have cHOb1 := HOb_6.out.cell 1
      simp only [List.getElem?_toArray, List.getElem?_cons_zero, List.getElem?_cons_succ] at cHOa0 cHOa1 cHOb0 cHOb1
      go_wp2_with fail
      refine (same_queue _ HIa_6.out HIb_6.out HE67.out).mono ?_
      rintro e u7x ⟨rfl, hb⟩
      clear cHOa0 cHOa1 cHOb0 cHOb1
      have HB_8 := Lib.hid (HB_6.out.trans (hb.mono HB_6.out.size))
      have HQ_8 := Lib.hid (HQ_6.out.below hb HQ_6.out.lt)
      have HI_8 := Lib.hid (HI_6.out.below hb (Nat.le_refl _))
      have HOa_8 := Lib.hid (HOa_6.out.below hb HOa_6.out.lt)
      have HIa_8 := Lib.hid (HIa_6.out.below hb (Nat.le_refl _))
      have HOb_8 := Lib.hid (HOb_6.out.below hb HOb_6.out.lt)
      have HIb_8 := Lib.hid (HIb_6.out.below hb (Nat.le_refl _))
      clear HIb_6 HOb_6 HIa_6 HOa_6 HI_6 HQ_6 HB_6
      clear hb
      go_wp2
      go_ret
      exact ⟨rfl, HB_8.out⟩
    | true =>
      have cHOa0 := HOa_4.out.cell 0
      have cHOa1 := HOa_4.out.cell 1
      have cHOb0 := HOb.out.cell 0
      have cHOb1 := HOb.out.cell 1
      simp only [List.getElem?_toArray, List.getElem?_cons_zero, List.getElem?_cons_succ] at cHOa0 cHOa1 cHOb0 cHOb1
      go_wp2_with fail
      refine (same_queue _ HIa_4.out HIb.out HE67.out).mono ?_
      rintro e u5x ⟨rfl, hb⟩
      clear cHOa0 cHOa1 cHOb0 cHOb1
      have HB_6 := Lib.hid (HB_4.out.trans (hb.mono HB_4.out.size))
      have HQ_6 := Lib.hid (HQ_4.out.below hb HQ_4.out.lt)
      have HI_6 := Lib.hid (HI_4.out.below hb (Nat.le_refl _))
      have HOa_6 := Lib.hid (HOa_4.out.below hb HOa_4.out.lt)
      have HIa_6 := Lib.hid (HIa_4.out.below hb (Nat.le_refl _))
      have HOb_6 := Lib.hid (HOb.out.below hb HOb.out.lt)
      have HIb_6 := Lib.hid (HIb.out.below hb (Nat.le_refl _))
      clear HIb HOb HIa_4 HOa_4 HI_4 HQ_4 HB_4
      clear hb
      obtain ⟨hv1, hv2, hv3, hv4, hv5, hv6⟩ := take_facts HO6.out (HKYa.out.trans HK6.out.symm)
      have hn6n : n6 = n := HN6.out.symm.trans hv2
      subst hn6n
      have HLF : Hid (∀ x, x ≠ u → leftQ x n6 L6 = leftQ x n6 L) := Lib.hid (fun x hx => by unfold leftQ; rw [hv1, hv3, hv6 x hx])
      clear hv1 hv2 hv3 hv4 hv5 hv6
      go_wp2_with fail
      refine (some_body u5x).mono ?_
      rintro e wf ⟨v, rfl, hov, hb⟩
      obtain ⟨Af, Nf, cf, rfl⟩ := hov.val
      have hNf : Nf = 4 := hov.len.1
      subst hNf
      have HRF := Lib.hid hov.at
      have HBF := Lib.hid hb
      have HB_7 := Lib.hid (HB_6.out.trans (hb.mono HB_6.out.size))
      have HQ_7 := Lib.hid (HQ_6.out.below hb HQ_6.out.lt)
      have HI_7 := Lib.hid (HI_6.out.below hb (Nat.le_refl _))
      have HOa_7 := Lib.hid (HOa_6.out.below hb HOa_6.out.lt)
      have HIa_7 := Lib.hid (HIa_6.out.below hb (Nat.le_refl _))
      have HOb_7 := Lib.hid (HOb_6.out.below hb HOb_6.out.lt)
      have HIb_7 := Lib.hid (HIb_6.out.below hb (Nat.le_refl _))
      clear hb hov
      go_wp2
      go_loopw [72] (fun iv wr => ∃ k : Nat, k ≤ 4 ∧ iv = .int .i64 (k : Int) ∧ Hid (Below wf.heap.size wf wr)) (fun iv _ => 4 - (intOf iv).toNat)
      case atStart => exact ⟨0, by omega, by go_num, Below.refl _ _⟩
      case round =>
        obtain ⟨k, hk, rfl, KB⟩ := hrel
        have hbr := KB.out
        have HB_8 := Lib.hid (HB_7.out.trans (hbr.mono HB_7.out.size))
        have HQ_8 := Lib.hid (HQ_7.out.below hbr HQ_7.out.lt)
        have HI_8 := Lib.hid (HI_7.out.below hbr (Nat.le_refl _))
        have HOa_8 := Lib.hid (HOa_7.out.below hbr HOa_7.out.lt)
        have HIa_8 := Lib.hid (HIa_7.out.below hbr (Nat.le_refl _))
        have HOb_8 := Lib.hid (HOb_7.out.below hbr HOb_7.out.lt)
        have HIb_8 := Lib.hid (HIb_7.out.below hbr (Nat.le_refl _))
        clear hbr
        by_cases hlt : k < 4
        · have h0 : (0 : Int) ≤ (k : Int) := by omega
          have h5 : (k : Int) < 4 := by omega
          obtain ⟨x, hx⟩ : ∃ x, SMB[k]? = some x := ⟨_, List.getElem?_eq_getElem (show k < 4 from hlt)⟩
          obtain ⟨bu, ou, rfl, hbu, x0⟩ := str_at (HRF.out.below KB.out (Nat.le_refl _)) hx
          clear hx
          by_cases hxu : x = u
          · subst hxu
            go_upto_region 11 with fail
            refine wp_region_late (fun _ => True) 11 (by kernel_rfl) ?_
            refine wpLate_take (i := 0) (v := ?v0w) rfl (by kernel_rfl) (by kernel_rfl) (by kernel_rfl) (by kernel_rfl) (by kernel_rfl) (fun _ _ _ h => h) trivial (by rfl) ?hy0w ?r0w
            case hy0w =>
              rintro wz -
              go_simp
              try with_reducible rfl
            try simp only [Act.put]
            refine wpLate_take (i := 1) (v := ?v1w) rfl (by kernel_rfl) (by kernel_rfl) (by kernel_rfl) (by kernel_rfl) (by kernel_rfl) (fun _ _ _ h => h) trivial (by rfl) ?hy1w ?r1w
            case hy1w =>
              rintro wz -
              go_simp
              try with_reducible rfl
            try simp only [Act.put]
            refine wpLate_take (i := 2) (v := ?v2w) rfl (by kernel_rfl) (by kernel_rfl) (by kernel_rfl) (by kernel_rfl) (by kernel_rfl) (fun _ _ _ h => h) trivial (by rfl) ?hy2w ?r2w
            case hy2w =>
              rintro wz -
              go_simp
              try with_reducible rfl
            try simp only [Act.put]
            refine wpLate_take (i := 3) (v := ?v3w) rfl (by kernel_rfl) (by kernel_rfl) (by kernel_rfl) (by kernel_rfl) (by kernel_rfl) (fun _ _ _ h => h) trivial (by rfl) ?hy3w ?r3w
            case hy3w =>
              rintro wz -
              go_simp
              try with_reducible rfl
            try simp only [Act.put]
            refine wpLate_skip (i := 4) rfl (by kernel_rfl) (by kernel_rfl) (by kernel_rfl) (by kernel_rfl) (by kernel_rfl) (fun _ _ _ h => h) trivial (by go_simp) ?_
            try simp only [Act.put]
            refine wpLate_skip (i := 5) rfl (by kernel_rfl) (by kernel_rfl) (by kernel_rfl) (by kernel_rfl) (by kernel_rfl) (fun _ _ _ h => h) trivial (by go_simp) ?_
            try simp only [Act.put]
            refine wpLate_skip (i := 7) rfl (by kernel_rfl) (by kernel_rfl) (by kernel_rfl) (by kernel_rfl) (by kernel_rfl) (fun _ _ _ h => h) trivial (by go_simp) ?_
            try simp only [Act.put]
            refine wpLate_skip (i := 8) rfl (by kernel_rfl) (by kernel_rfl) (by kernel_rfl) (by kernel_rfl) (by kernel_rfl) (fun _ _ _ h => h) trivial (by go_simp) ?_
            try simp only [Act.put]
            refine wpLate_one (i := 6) (by kernel_rfl) rfl (fun K hK => ?_)
            go_simp
            refine hK.out _ _ (fun _ => trivial) ?_
            clear hK K
            try simp only [Act.put]
            refine wpLate_one (i := 9) (by kernel_rfl) rfl (fun K hK => ?_)
            go_simp
            refine hK.out _ _ (fun _ => trivial) ?_
            clear hK K
            try simp only [Act.put]
            refine wpLate_skip (i := 10) rfl (by kernel_rfl) (by kernel_rfl) (by kernel_rfl) (by kernel_rfl) (by kernel_rfl) (fun _ _ _ h => h) trivial (by go_simp) ?_
            try simp only [Act.put]
            refine wpLate_one (i := 11) (by kernel_rfl) rfl (fun K hK => ?_)
            go_simp
            refine hK.out _ _ (fun h => absurd rfl h) ?_
            clear hK K
            try simp only [Act.put]
            refine wpLate_done (by kernel_rfl) ?_ _
            have KBs : Hid (Below wf.heap.size wf wr.drew) := Lib.hid (KB.out.trans ((below_drew1 wr).mono KB.out.size))
            go_wp2
            go_roundw
            case rel => exact ⟨k + 1, by omega, by go_num, KBs⟩
            case measure => simp [intOf]; omega
          · obtain ⟨v1, v2⟩ := ne_walk hxu
            obtain ⟨z, hz⟩ : ∃ z, leftQ x n6 L = z := ⟨_, rfl⟩
            have HZ1 := Lib.hid hz
            have HZ2 : Hid (leftQ x n6 L6 = z) := Lib.hid ((HLF.out x hxu).trans hz)
            have hzz : (z != z) = false := by simp
            have lQ := HQ_8.out
            have lO := HOa_8.out
            obtain ⟨wd, hwd⟩ : ∃ wd, wr.drew = wd := ⟨_, rfl⟩
            have hbd : Below wr.heap.size wr wd := by rw [← hwd]; exact below_drew1 _
            have HWD := Lib.hid hwd
            have HQd := Lib.hid (lQ.below hbd lQ.lt)
            have HOd := Lib.hid (lO.below hbd lO.lt)
            have HId := Lib.hid (HI_8.out.below hbd (Nat.le_refl _))
            have HIo := Lib.hid (HIa_8.out.below hbd (Nat.le_refl _))
            have KBd := Lib.hid (KB.out.trans (hbd.mono KB.out.size))
            have d0 := HQd.out.cell 0
            have d1 := HQd.out.cell 1
            have e0 := HOd.out.cell 0
            have e1 := HOd.out.cell 1
            simp only [List.getElem?_toArray, List.getElem?_cons_zero, List.getElem?_cons_succ] at d0 d1 e0 e1
            clear hxu hz lQ lO hwd hbd
            go_upto_region 11 with fail
            refine wp_region_late (fun w' => w'.cell? ⟨D, 0, none⟩ = some (.int .i64 n6) ∧ w'.cell? ⟨D, 1, none⟩ = some (.slice A N cap) ∧ w'.cell? ⟨D5, 0, none⟩ = some (.int .i64 n6) ∧ w'.cell? ⟨D5, 1, none⟩ = some (.slice A6 N6 c6)) 11 (by kernel_rfl) ?_
            rw [HWD.out]
            refine wpLate_take (i := 0) (v := ?v0) rfl (by kernel_rfl) (by kernel_rfl) (by kernel_rfl) (by kernel_rfl) (by kernel_rfl) (fun _ _ _ h => h) ⟨d0, d1, e0, e1⟩ (by rfl) ?hy0 ?r0
            case hy0 =>
              rintro wz ⟨z0, z1, z2, z3⟩
              go_simp
              try with_reducible rfl
            try simp only [Act.put]
            refine wpLate_take (i := 1) (v := ?v1) rfl (by kernel_rfl) (by kernel_rfl) (by kernel_rfl) (by kernel_rfl) (by kernel_rfl) (fun _ _ _ h => h) ⟨d0, d1, e0, e1⟩ (by rfl) ?hy1 ?r1
            case hy1 =>
              rintro wz ⟨z0, z1, z2, z3⟩
              go_simp
              try with_reducible rfl
            try simp only [Act.put]
            refine wpLate_take (i := 2) (v := ?v2) rfl (by kernel_rfl) (by kernel_rfl) (by kernel_rfl) (by kernel_rfl) (by kernel_rfl) (fun _ _ _ h => h) ⟨d0, d1, e0, e1⟩ (by rfl) ?hy2 ?r2
            case hy2 =>
              rintro wz ⟨z0, z1, z2, z3⟩
              go_simp
              try with_reducible rfl
            try simp only [Act.put]
            refine wpLate_take (i := 3) (v := ?v3) rfl (by kernel_rfl) (by kernel_rfl) (by kernel_rfl) (by kernel_rfl) (by kernel_rfl) (fun _ _ _ h => h) ⟨d0, d1, e0, e1⟩ (by rfl) ?hy3 ?r3
            case hy3 =>
              rintro wz ⟨z0, z1, z2, z3⟩
              go_simp
              try with_reducible rfl
            try simp only [Act.put]
            refine wpLate_take (i := 4) (v := ?v4) rfl (by kernel_rfl) (by kernel_rfl) (by kernel_rfl) (by kernel_rfl) (by kernel_rfl) (fun _ _ _ h => h) ⟨d0, d1, e0, e1⟩ (by go_simp) ?hy4 ?r4
            case hy4 =>
              rintro wz ⟨z0, z1, z2, z3⟩
              go_simp
              try with_reducible rfl
            try simp only [Act.put]
            refine wpLate_take (i := 5) (v := ?v5) rfl (by kernel_rfl) (by kernel_rfl) (by kernel_rfl) (by kernel_rfl) (by kernel_rfl) (fun _ _ _ h => h) ⟨d0, d1, e0, e1⟩ (by go_simp) ?hy5 ?r5
            case hy5 =>
              rintro wz ⟨z0, z1, z2, z3⟩
              go_simp
              try with_reducible rfl
            try simp only [Act.put]
            refine wpLate_take (i := 7) (v := ?v7) rfl (by kernel_rfl) (by kernel_rfl) (by kernel_rfl) (by kernel_rfl) (by kernel_rfl) (fun _ _ _ h => h) ⟨d0, d1, e0, e1⟩ (by go_simp) ?hy7 ?r7
            case hy7 =>
              rintro wz ⟨z0, z1, z2, z3⟩
              go_simp
              try with_reducible rfl
            try simp only [Act.put]
            refine wpLate_take (i := 8) (v := ?v8) rfl (by kernel_rfl) (by kernel_rfl) (by kernel_rfl) (by kernel_rfl) (by kernel_rfl) (fun _ _ _ h => h) ⟨d0, d1, e0, e1⟩ (by go_simp) ?hy8 ?r8
            case hy8 =>
              rintro wz ⟨z0, z1, z2, z3⟩
              go_simp
              try with_reducible rfl
            try simp only [Act.put]
            refine wpLate_one (i := 6) (by kernel_rfl) rfl (fun K hK => ?_)
            go_simp
            refine (iql_at HZ2.out wd HIo.out).mono ?_
            rintro e wm ⟨rfl, hb⟩
            have HQm := Lib.hid (HQd.out.below hb HQd.out.lt)
            have HOm := Lib.hid (HOd.out.below hb HOd.out.lt)
            have HImq := Lib.hid (HId.out.below hb (Nat.le_refl _))
            have KBm := Lib.hid (KBd.out.trans (hb.mono KBd.out.size))
            have m0 := HQm.out.cell 0
            have m1 := HQm.out.cell 1
            have m2 := HOm.out.cell 0
            have m3 := HOm.out.cell 1
            simp only [List.getElem?_toArray, List.getElem?_cons_zero, List.getElem?_cons_succ] at m0 m1 m2 m3
            clear hb
            refine hK.out _ _ (fun _ => ⟨m0, m1, m2, m3⟩) ?_
            clear hK K
            try simp only [Act.put]
            refine wpLate_one (i := 9) (by kernel_rfl) rfl (fun K hK => ?_)
            go_simp
            refine (iql_at HZ1.out wm HImq.out).mono ?_
            rintro e wn ⟨rfl, hb⟩
            have HQe := Lib.hid (HQm.out.below hb HQm.out.lt)
            have HOe := Lib.hid (HOm.out.below hb HOm.out.lt)
            have HIeq := Lib.hid (HImq.out.below hb (Nat.le_refl _))
            have KBe := Lib.hid (KBm.out.trans (hb.mono KBm.out.size))
            have n0 := HQe.out.cell 0
            have n1 := HQe.out.cell 1
            have n2 := HOe.out.cell 0
            have n3 := HOe.out.cell 1
            simp only [List.getElem?_toArray, List.getElem?_cons_zero, List.getElem?_cons_succ] at n0 n1 n2 n3
            clear hb
            refine hK.out _ _ (fun _ => ⟨n0, n1, n2, n3⟩) ?_
            clear hK K
            try simp only [Act.put]
            refine wpLate_take (i := 10) (v := ?v10) rfl (by kernel_rfl) (by kernel_rfl) (by kernel_rfl) (by kernel_rfl) (by kernel_rfl) (fun _ _ _ h => h) ⟨n0, n1, n2, n3⟩ (by go_simp) ?hy10 ?r10
            case hy10 =>
              rintro wz ⟨z0, z1, z2, z3⟩
              go_simp
              try with_reducible rfl
            try simp only [Act.put]
            refine wpLate_one (i := 11) (by kernel_rfl) rfl (fun K hK => ?_)
            go_simp
            refine hK.out _ _ (fun h => absurd rfl h) ?_
            clear hK K
            try simp only [Act.put]
            refine wpLate_done (by kernel_rfl) ?_ _
            have KB9 := Lib.hid KBe.out
            go_wp2
            go_roundw
            case rel => exact ⟨k + 1, by omega, by go_num, KB9⟩
            case measure => simp [intOf]; omega
        · have h5 : ¬ (k : Int) < 4 := by omega
          have cHQ0 := HQ_8.out.cell 0
          have cHQ1 := HQ_8.out.cell 1
          have cHOa0 := HOa_8.out.cell 0
          have cHOa1 := HOa_8.out.cell 1
          simp only [List.getElem?_toArray, List.getElem?_cons_zero, List.getElem?_cons_succ] at cHQ0 cHQ1 cHOa0 cHOa1
          go_wp2
          go_ret
          exact ⟨rfl, HB_8.out⟩
  · have hlenI : (1048576 : Int) < (len : Int) := by omega
    go_enter Try.func10, Try.ntmps10
    go_wp2
    go_ret
    exact ⟨rfl, Below.refl _ _⟩
end Go.Proofs.Ytinbdibenbplnaa
