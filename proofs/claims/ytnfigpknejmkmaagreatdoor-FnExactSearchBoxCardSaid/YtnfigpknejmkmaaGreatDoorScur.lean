/-
  The contracts of the cursor's methods 'number' and 'span'. No condition beyond a cursor that lies in a block of its own and whose place is in the text.
-/
import Derived.Test.YtnfigpknejmkmaaGreatDoorDomain
import Derived.Test.YtnfigpknejmkmaaGreatDoorSmath
import Derived.Test.YtnfigpknejmkmaaGreatDoorSval
namespace Go.Proofs.YtnfigpknejmkmaaGreatDoor
open Go.RowKit
set_option linter.unusedVariables false

set_option maxHeartbeats 400000 in
theorem digit_any (c : UInt8) (w : World) : Calls Tryz.prog 118 #[.int .u8 (c.toNat : Int)] w fun e w' => e = .returned (.bool (dgt c)) ∧ w' = w := by
  by_cases h1 : (48 : Int) ≤ (c.toNat : Int) <;> by_cases h2 : (c.toNat : Int) ≤ 57
  all_goals
    go_enter Tryz.func118, Tryz.ntmps118
    go_wp2
    go_ret
    refine ⟨ret_bool ?_, rfl⟩
    unfold dgt
    first
      | exact (decide_eq_true (by omega)).symm
      | exact (decide_eq_false (by omega)).symm
theorem digit_is {c : UInt8} {o : Bool} (h : dgt c = o) (w : World) : Calls Tryz.prog 118 #[.int .u8 (c.toNat : Int)] w fun e w' => e = .returned (.bool o) ∧ w' = w := h ▸ digit_any c w

theorem next_drop {L : List UInt8} {k : Nat} {c : UInt8} (h : nextIs L k c = true) : L.drop k = c :: L.drop (k + 1) := by
  have hk := nextIs_lt h
  rw [List.drop_eq_getElem_cons hk]
  unfold nextIs at h
  rw [List.getElem?_eq_getElem hk] at h
  have : L[k] = c := by simpa using h
  rw [this]
theorem next_ne {L : List UInt8} {k : Nat} {c : UInt8} (h : nextIs L k c = false) (t : List UInt8) : L.drop k ≠ c :: t := by
  intro e
  have h1 := (next_cons (c := c) e).1
  rw [h] at h1
  simp at h1
theorem numF_star {L : List UInt8} {k : Nat} (h : nextIs L k 42 = true) : numF (L.drop k) = (0, true, L.drop (k + 1)) := by rw [next_drop h]; rfl
theorem numF_zero {L : List UInt8} {k : Nat} (h : nextIs L k 48 = true) : numF (L.drop k) = (0, false, L.drop (k + 1)) := by rw [next_drop h]; rfl
theorem numF_dig {L : List UInt8} {k : Nat} (h : nextIs L k 42 = false) (h2 : nextIs L k 48 = false) :
    numF (L.drop k) = if (digF 0 (L.drop k)).1 = 0 ∨ 99 < (digF 0 (L.drop k)).1 then (0, false, (digF 0 (L.drop k)).2) else ((digF 0 (L.drop k)).1, true, (digF 0 (L.drop k)).2) := by
  have n1 := next_ne h
  have n2 := next_ne h2
  cases hd : L.drop k with
  | nil => rfl
  | cons c t =>
    rw [hd] at n1 n2
    rw [numF_cons, if_neg (fun e => n1 t (by rw [e])), if_neg (fun e => n2 t (by rw [e]))]

/-- What 'number' leaves. -/
def Numbered (w : World) (b : Nat) (s : ByteArray) (x : Nat × Bool × List UInt8) (e : Ending) (w' : World) : Prop :=
  ∃ k' : Nat, k' ≤ s.size ∧ e = .returned (.tuple #[.int .i64 (x.1 : Int), .bool x.2.1]) ∧ s.data.toList.drop k' = x.2.2 ∧ Cur w' b s k' ∧ w.grownBy w' (some b)
theorem numbered_mk {w w' : World} {b k' n : Nat} {s : ByteArray} {x : Nat × Bool × List UInt8} {o : Bool} {z : Int} (hx : x = (n, o, s.data.toList.drop k')) (hz : z = (n : Int)) (hk : k' ≤ s.size) (hc : Cur w' b s k') (hg : w.grownBy w' (some b)) :
    Numbered w b s x (.returned (.tuple #[.int .i64 z, .bool o])) w' := by
  subst hx hz
  exact ⟨k', hk, rfl, rfl, hc, hg⟩
theorem dig_end {L : List UInt8} {k j n : Nat} (h : nextIs L k 42 = false) (h2 : nextIs L k 48 = false) (hd : digF 0 (L.drop k) = digF n (L.drop j)) (he : digF n (L.drop j) = (n, L.drop j)) :
    numF (L.drop k) = if n = 0 ∨ 99 < n then (0, false, L.drop j) else (n, true, L.drop j) := by
  rw [numF_dig h h2, hd, he]

set_option maxHeartbeats 2000000 in
theorem number_any (b k : Nat) (s : ByteArray) (w : World) (h : Cur w b s k) (hs : s.size ≤ 16777216) (hk : k ≤ s.size) :
    Calls Tryz.prog 103 #[.pointer (some ⟨b, 0, none⟩)] w (Numbered w b s (numF (s.data.toList.drop k))) := by
  have hl : s.data.toList.length = s.size := by simp
  have H := Lib.hid h
  have HL := Lib.hid hl
  clear h hl
  by_cases h42 : nextIs s.data.toList k 42 = true
  · have HN := Lib.hid h42
    have hkl : k + 1 ≤ s.size := by have := nextIs_lt h42; have := HL.out; omega
    clear h42
    go_enter Tryz.func103, Tryz.ntmps103
    go_wp2_with fail
    refine (take_at_yes 42 42 rfl b k s _ H.out hs hk HN.out).mono ?_
    rintro e w1 ⟨rfl, hc, hg⟩
    have HC := Lib.hid (And.intro hc hg)
    clear hc hg
    go_wp2
    go_ret2
    exact numbered_mk (numF_star HN.out) rfl hkl HC.out.1 HC.out.2
  · have HN := Lib.hid (Bool.eq_false_iff.2 h42)
    clear h42
    by_cases h48 : nextIs s.data.toList k 48 = true
    · have HM := Lib.hid h48
      have hkl : k + 1 ≤ s.size := by have := nextIs_lt h48; have := HL.out; omega
      clear h48
      go_enter Tryz.func103, Tryz.ntmps103
      go_wp2_with fail
      refine (take_at_no 42 42 rfl b k s _ H.out hs hk HN.out).mono ?_
      rintro e w1 ⟨rfl, hc, hg⟩
      have HC := Lib.hid (And.intro hc hg)
      clear hc hg
      go_wp2_with fail
      refine (take_at_yes 48 48 rfl b k s _ HC.out.1 hs hk HM.out).mono ?_
      rintro e w2 ⟨rfl, hc, hg⟩
      have HC2 := Lib.hid (And.intro hc (gr_trans HC.out.2 hg))
      clear hc hg
      go_wp2
      go_ret2
      exact numbered_mk (numF_zero HM.out) rfl hkl HC2.out.1 HC2.out.2
    · have HM := Lib.hid (Bool.eq_false_iff.2 h48)
      clear h48
      go_enter Tryz.func103, Tryz.ntmps103
      go_wp2_with fail
      refine (take_at_no 42 42 rfl b k s _ H.out hs hk HN.out).mono ?_
      rintro e w1 ⟨rfl, hc, hg⟩
      have HC := Lib.hid (And.intro hc hg)
      clear hc hg
      go_wp2_with fail
      refine (take_at_no 48 48 rfl b k s _ HC.out.1 hs hk HM.out).mono ?_
      rintro e w2 ⟨rfl, hc, hg⟩
      have HC2 := Lib.hid (And.intro hc (gr_trans HC.out.2 hg))
      clear hc hg
      go_wp2
      go_loopg [4] (s.size - k) (fun g v wr => ∃ (j n : Nat), k ≤ j ∧ j ≤ s.size ∧ n ≤ 999 ∧ g = s.size - j ∧ v = .int .i64 (n : Int) ∧ digF 0 (s.data.toList.drop k) = digF n (s.data.toList.drop j) ∧ Cur wr b s j ∧ w.grownBy wr (some b))
      case atStart => exact ⟨k, 0, Nat.le_refl _, hk, by omega, rfl, by go_num, rfl, HC2.out.1, HC2.out.2⟩
      case round =>
        obtain ⟨j, n, hkj, hjs, hn, hg, rfl, hd, hcur, hgr⟩ := hrel
        have HD := Lib.hid hd
        have HG := Lib.hid hg
        clear hd hg
        have HCC := Lib.hid hcur
        have HGR := Lib.hid hgr
        have hte := hcur.text
        have hpl := hcur.place
        have hfr := hcur.free 1
        have h0 : (0 : Int) ≤ (j : Int) := by omega
        clear hcur hgr
        by_cases h99 : n ≤ 99
        · have h99' : (n : Int) ≤ 99 := by omega
          by_cases hj : j < s.size
          · have h1 : (j : Int) < (s.size : Int) := by omega
            have hdj : s.data.toList.drop j = s[j] :: s.data.toList.drop (j + 1) := by
              rw [List.drop_eq_getElem_cons (by rw [HL.out]; exact hj)]
              rfl
            have HDJ := Lib.hid hdj
            clear hdj
            cases hdg : dgt s[j]
            · have HS := Lib.hid hdg
              have HE := Lib.hid (dig_end HN.out HM.out HD.out (by rw [HDJ.out]; exact digF_stop _ (.inr hdg)))
              clear hdg
              by_cases hz : n = 0
              · have hz' : ((n : Int) == 0) = true := by rw [hz]; rfl
                have HZ := Lib.hid hz
                clear hz
                go_wp2
                go_quiet ((first
                  | (go_at_call 87; exact Calls.quiet_of (done_no b j s _ (HCC.out.drewN _) hj))
                  | (go_at_call 118; exact Calls.quiet_of_same (digit_is HS.out _))))
                go_wp2
                go_ret2
                exact numbered_mk (by rw [HE.out, if_pos (.inl HZ.out)]) rfl hjs (HCC.out.drewN _) (gr_drewN HGR.out _)
              · have hz' : ((n : Int) == 0) = false := beq_eq_false_iff_ne.2 (by omega)
                have HZ := Lib.hid hz
                clear hz
                go_wp2
                go_quiet ((first
                  | (go_at_call 87; exact Calls.quiet_of (done_no b j s _ (HCC.out.drewN _) hj))
                  | (go_at_call 118; exact Calls.quiet_of_same (digit_is HS.out _))))
                go_wp2
                go_ret2
                exact numbered_mk (by rw [HE.out, if_neg (by have := HZ.out; omega)]) rfl hjs (HCC.out.drewN _) (gr_drewN HGR.out _)
            · have HS := Lib.hid hdg
              have hc := of_decide_eq_true hdg
              obtain ⟨d, hdd⟩ : ∃ d, s[j].toNat - 48 = d := ⟨_, rfl⟩
              have hd9 : d ≤ 9 := by omega
              have E1 : (s[j].toNat : Int) - 48 = (d : Int) := by omega
              have W1 : IntKind.i64.wrap (10 * (n : Int)) = 10 * (n : Int) := IntWalk.i64_in _ (by omega)
              have W2 : IntKind.u8.wrap (d : Int) = (d : Int) := by rw [IntKind.wrap_u8]; omega
              have W3 : IntKind.i64.wrap (d : Int) = (d : Int) := IntWalk.i64_in _ (by omega)
              have W4 : IntKind.i64.wrap (10 * (n : Int) + (d : Int)) = 10 * (n : Int) + (d : Int) := IntWalk.i64_in _ (by omega)
              have HDD := Lib.hid hdd
              have HE := Lib.hid (show digF 0 (s.data.toList.drop k) = digF (10 * n + d) (s.data.toList.drop (j + 1)) by rw [HD.out, HDJ.out, digF_go _ h99 hdg, hdd])
              clear hdg hc hdd
              go_wp2
              go_quiet ((first
                | (go_at_call 87; exact Calls.quiet_of (done_no b j s _ (HCC.out.drewN _) hj))
                | (go_at_call 118; exact Calls.quiet_of_same (digit_is HS.out _))))
              go_wp2
              go_quiet (fail)
              go_wp2
              go_roundg (s.size - (j + 1))
              case measure => have := HG.out; omega
              case rel => exact ⟨j + 1, 10 * n + d, by omega, by omega, by omega, rfl, by go_num, HE.out, (HCC.out.drewN _).go, gr_store (gr_drewN HGR.out _) (.inl rfl) _⟩
          · have hj' : j = s.size := by omega
            have HJ := Lib.hid hj'
            have HE := Lib.hid (dig_end HN.out HM.out HD.out (by rw [List.drop_eq_nil_of_le (by rw [HL.out]; omega)]; exact digF_nil n))
            clear hj'
            by_cases hz : n = 0
            · have hz' : ((n : Int) == 0) = true := by rw [hz]; rfl
              have HZ := Lib.hid hz
              clear hz
              go_wp2
              go_quiet ((go_at_call 87; exact Calls.quiet_of (done_yes b j s _ (HCC.out.drewN _) HJ.out)))
              go_wp2
              go_ret2
              exact numbered_mk (by rw [HE.out, if_pos (.inl HZ.out)]) rfl hjs (HCC.out.drewN _) (gr_drewN HGR.out _)
            · have hz' : ((n : Int) == 0) = false := beq_eq_false_iff_ne.2 (by omega)
              have HZ := Lib.hid hz
              clear hz
              go_wp2
              go_quiet ((go_at_call 87; exact Calls.quiet_of (done_yes b j s _ (HCC.out.drewN _) HJ.out)))
              go_wp2
              go_ret2
              exact numbered_mk (by rw [HE.out, if_neg (by have := HZ.out; omega)]) rfl hjs (HCC.out.drewN _) (gr_drewN HGR.out _)
        · have hd99 : decide ((n : Int) ≤ 99) = false := decide_eq_false (by omega)
          have h99'' : (99 : Int) < (n : Int) := by omega
          have hz' : ((n : Int) == 0) = false := beq_eq_false_iff_ne.2 (by omega)
          have HE := Lib.hid (dig_end HN.out HM.out HD.out (digF_big _ (by omega)))
          have HB := Lib.hid h99
          clear h99
          go_wp2
          go_quiet (fail)
          go_wp2
          go_ret2
          exact numbered_mk (by rw [HE.out, if_pos (.inr (by have := HB.out; omega))]) rfl hjs (HCC.out.drewN _) (gr_drewN HGR.out _)

/-- What 'span' leaves. -/
def Spanned (w : World) (b : Nat) (s : ByteArray) (x : (Nat × Nat) × Bool × List UInt8) (e : Ending) (w' : World) : Prop :=
  ∃ k' : Nat, k' ≤ s.size ∧ e = .returned (.tuple #[.agg #[.int .i64 (x.1.1 : Int), .int .i64 (x.1.2 : Int)], .bool x.2.1]) ∧ s.data.toList.drop k' = x.2.2 ∧ Cur w' b s k' ∧ w.grownBy w' (some b)
theorem spanned_mk {w w' : World} {b k' m n : Nat} {s : ByteArray} {x : (Nat × Nat) × Bool × List UInt8} {o : Bool} (hx : x = ((m, n), o, s.data.toList.drop k')) (hk : k' ≤ s.size) (hc : Cur w' b s k') (hg : w.grownBy w' (some b)) :
    Spanned w b s x (.returned (.tuple #[.agg #[.int .i64 (m : Int), .int .i64 (n : Int)], .bool o])) w' := by
  subst hx
  exact ⟨k', hk, rfl, rfl, hc, hg⟩
set_option maxHeartbeats 2000000 in
theorem span_any (b k : Nat) (s : ByteArray) (w : World) (h : Cur w b s k) (hs : s.size ≤ 16777216) (hk : k ≤ s.size) :
    Calls Tryz.prog 88 #[.pointer (some ⟨b, 0, none⟩)] w (Spanned w b s (spanF (s.data.toList.drop k))) := by
  have hbl := Whole.lt h
  have hne : some w.heap.size ≠ some b := by simp; omega
  have H := Lib.hid h
  clear h
  obtain ⟨⟨m, o, r⟩, hm⟩ : ∃ x, numF (s.data.toList.drop k) = x := ⟨_, rfl⟩
  have HM := Lib.hid hm
  clear hm
  go_enter Tryz.func88, Tryz.ntmps88
  go_wp2_with fail
  refine (number_any b k s _ (Whole.alloc H.out _) hs hk).mono ?_
  rw [HM.out]
  rintro e w1 ⟨k1, hk1, rfl, hr, hc, hg⟩
  have HW := Lib.hid ((Whole.made w 108 #[.int .i64 0, .int .i64 0]).grown hg hne)
  have HC := Lib.hid hc
  have HG := Lib.hid (gr_trans (gr_alloc (gr_refl w (some b)) _) hg)
  have HR := Lib.hid hr
  clear hc hg hr
  cases o with
  | false =>
    have hr0 := HW.out.cell 0
    have hr1 := HW.out.cell 1
    have hf0 := HW.out.free 0
    have hf1 := HW.out.free 1
    simp at hr0 hr1
    go_wp2
    refine bodyPost_ret (v := .tuple #[.agg #[.int .i64 (m : Int), .int .i64 (m : Int)], .bool false]) (by simp [results, Tryz.results88, go_sem, hr0, hr1]) rfl ?_
    exact spanned_mk (by rw [spanF_no HM.out, HR.out]) hk1 ((HC.out.apart (by simp; omega) _).apart (by simp; omega) _) (gr_store (gr_store HG.out (.inr (Nat.le_refl _)) _) (.inr (Nat.le_refl _)) _)
  | true =>
    by_cases hx : nextIs s.data.toList k1 58 = true
    · have HX := Lib.hid hx
      have hkl : k1 + 1 ≤ s.size := by have := nextIs_lt hx; have hl : s.data.toList.length = s.size := (by simp); omega
      clear hx
      go_wp2_with fail
      refine (take_at_yes 58 58 rfl b k1 s _ HC.out hs hk1 HX.out).mono ?_
      rintro e w2 ⟨rfl, hc, hg⟩
      have HW2 := Lib.hid (HW.out.grown hg hne)
      have HC2 := Lib.hid hc
      have HG2 := Lib.hid (gr_trans HG.out hg)
      clear hc hg
      obtain ⟨⟨n, o2, r2⟩, hn⟩ : ∃ x, numF (s.data.toList.drop (k1 + 1)) = x := ⟨_, rfl⟩
      have HN := Lib.hid hn
      clear hn
      go_wp2_with fail
      refine (number_any b (k1 + 1) s _ HC2.out hs hkl).mono ?_
      rw [HN.out]
      rintro e w3 ⟨k3, hk3, rfl, hr, hc, hg⟩
      have HW3 := HW2.out.grown hg hne
      have HC3 := Lib.hid hc
      have HG3 := Lib.hid (gr_trans HG2.out hg)
      have HR3 := Lib.hid hr
      clear hc hg hr
      have hr0 := HW3.cell 0
      have hr1 := HW3.cell 1
      have hf0 := HW3.free 0
      have hf1 := HW3.free 1
      simp at hr0 hr1
      clear HW3
      go_wp2
      refine bodyPost_ret (v := .tuple #[.agg #[.int .i64 (m : Int), .int .i64 (n : Int)], .bool o2]) (by simp [results, Tryz.results88, go_sem, hr0, hr1]) rfl ?_
      refine spanned_mk ?_ hk3 ((HC3.out.apart (by simp; omega) _).apart (by simp; omega) _) (gr_store (gr_store HG3.out (.inr (Nat.le_refl _)) _) (.inr (Nat.le_refl _)) _)
      have e1 : numF (s.data.toList.drop k) = (m, true, 58 :: s.data.toList.drop (k1 + 1)) := by rw [HM.out, ← next_drop HX.out, HR.out]
      rw [spanF_colon e1, HN.out, HR3.out]
    · have HX := Lib.hid (Bool.eq_false_iff.2 hx)
      clear hx
      go_wp2_with fail
      refine (take_at_no 58 58 rfl b k1 s _ HC.out hs hk1 HX.out).mono ?_
      rintro e w2 ⟨rfl, hc, hg⟩
      have HW2 := HW.out.grown hg hne
      have HC2 := Lib.hid hc
      have HG2 := Lib.hid (gr_trans HG.out hg)
      clear hc hg
      have hr0 := HW2.cell 0
      have hr1 := HW2.cell 1
      have hf0 := HW2.free 0
      have hf1 := HW2.free 1
      simp at hr0 hr1
      clear HW2
      go_wp2
      refine bodyPost_ret (v := .tuple #[.agg #[.int .i64 (m : Int), .int .i64 (m : Int)], .bool true]) (by simp [results, Tryz.results88, go_sem, hr0, hr1]) rfl ?_
      refine spanned_mk ?_ hk1 ((HC2.out.apart (by simp; omega) _).apart (by simp; omega) _) (gr_store (gr_store HG2.out (.inr (Nat.le_refl _)) _) (.inr (Nat.le_refl _)) _)
      rw [spanF_one HM.out (fun t e => next_ne HX.out t (by rw [HR.out]; exact e)), HR.out]
end Go.Proofs.YtnfigpknejmkmaaGreatDoor
