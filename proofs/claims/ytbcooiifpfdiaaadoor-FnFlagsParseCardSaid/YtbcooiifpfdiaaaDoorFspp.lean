/-
  The contract of the model's FlagsParse. Condition: the text is not too long.
-/
import Derived.Test.YtbcooiifpfdiaaaDoorFpar
import Derived.Test.YtbcooiifpfdiaaaDoorCut
namespace Go.Proofs.YtbcooiifpfdiaaaDoor
open Go.RowKit
set_option linter.unusedVariables false

theorem first_get (s : ByteArray) (h : 0 < s.size) : s.data.toList.head? = some s[0] := by
  have hl : s.data.toList.length = s.size := by simp
  rw [List.head?_eq_getElem?, List.getElem?_eq_getElem (by omega)]
  rfl
theorem last_get (s : ByteArray) (h : s.size - 1 < s.size) : s.data.toList.getLast? = some s[s.size - 1] := by
  have hl : s.data.toList.length = s.size := by simp
  rw [List.getLast?_eq_getElem?, List.getElem?_eq_getElem (by omega)]
  simp only [hl]
  rfl
theorem num_ne {a b : UInt8} {n : Int} (hn : (b.toNat : Int) = n) (h : a ≠ b) : ((a.toNat : Int) != n) = true := by
  subst hn
  have : a.toNat ≠ b.toNat := fun e => h (UInt8.toNat_inj.1 e)
  exact bne_iff_ne.2 (by omega)
theorem num_same {a b : UInt8} {n : Int} (hn : (b.toNat : Int) = n) (h : a = b) : ((a.toNat : Int) != n) = false := by
  subst hn
  subst h
  simp
theorem parF_short {L : List UInt8} (h : L.length < 2) : parF L = none := by
  unfold parF
  rw [if_pos (.inl h)]
theorem parF_last {L : List UInt8} (h : L.getLast? ≠ some 41) : parF L = none := by
  unfold parF
  rw [if_pos (.inr (.inr h))]
theorem parF_is2 {L : List UInt8} (h1 : L.length = 2) (h2 : L.head? = some 40) (h3 : L.getLast? = some 41) : parF L = some 0 := by
  unfold parF
  rw [if_neg (by rintro (h | h | h); omega; exact h h2; exact h h3), if_pos h1]
theorem parF_words {L : List UInt8} (h1 : 2 < L.length) (h2 : L.head? = some 40) (h3 : L.getLast? = some 41) : parF L = wordsF (cut 32 (L.drop 1).dropLast) 0 := by
  unfold parF
  rw [if_neg (by rintro (h | h | h); omega; exact h h2; exact h h3), if_neg (by omega)]
theorem mid_list (s : ByteArray) (h : 2 ≤ s.size) : (s.extract 1 (s.size - 1)).data.toList = (s.data.toList.drop 1).dropLast := by
  have hl : s.data.toList.length = s.size := by simp
  rw [extract_list, List.dropLast_eq_take, List.length_drop, hl]
/-- The flag of a name, as far as the names were looked at. -/
def bitK (u : List UInt8) : Nat → Nat
  | 0 => 0
  | k + 1 => if fnm k = u then 2 ^ k else bitK u k
theorem bitK_five (u : List UInt8) : bitK u 5 = bitW u := by
  rcases bitW_cases u with ⟨h1, h2⟩ | ⟨k, hk, rfl, h2⟩
  · rw [h1]
    simp [bitK, (h2 0).symm, (h2 1).symm, (h2 2).symm, (h2 3).symm, (h2 4).symm]
  · rw [h2]
    have : ∀ k : Fin 5, bitK (fnm k.1) 5 = 2 ^ k.1 := by decide
    exact this ⟨k, hk⟩
theorem bitK_yes {u : List UInt8} {k q : Nat} (h : fnm k = u) (hq : 2 ^ k = q) : bitK u (k + 1) = q := by rw [bitK, if_pos h, hq]
theorem bitK_no {u : List UInt8} {k : Nat} (h : fnm k ≠ u) : bitK u (k + 1) = bitK u k := by rw [bitK, if_neg h]
theorem bitK_le {u : List UInt8} {k : Nat} (hk : k ≤ 5) : bitK u k ≤ 16 := by
  induction k with
  | zero => exact Nat.zero_le _
  | succ k ih =>
    rw [bitK]
    split
    · have := (pow_five (k := k) (by omega) rfl).2
      exact this
    · exact ih (by omega)
theorem cut_blank (u : ByteArray) (w : World) (hs : u.size ≤ 16777216) : Calls Tryd.prog 36 #[.string u, .int .u8 32] w (Cuts w (cut 32 u.data.toList)) := cut_any u 32 w hs
theorem fwords_step {ps : List (List UInt8)} {i f : Nat} (hi : i < ps.length) : wordsF (ps.drop i) f = if bitW (ps.getD i []) = 0 ∨ f / bitW (ps.getD i []) % 2 = 1 then none else wordsF (ps.drop (i + 1)) (f + bitW (ps.getD i [])) := by
  rw [List.drop_eq_getElem_cons hi, wordsF, List.getD_eq_getElem?_getD, List.getElem?_eq_getElem hi]
  rfl
theorem sB_toList2 (L : List UInt8) : (sB L).toList = L := by rw [ByteArray.toList_eq, sB_list]
theorem same_toList {a b : List UInt8} (h : a = b) : ((sB a).toList == (sB b).toList) = true ∧ (sB a).toList = (sB b).toList := by subst h; exact ⟨by simp, rfl⟩
theorem other_toList {a b : List UInt8} (h : a ≠ b) : ((sB a).toList == (sB b).toList) = false ∧ ¬ (sB a).toList = (sB b).toList := by
  rw [sB_toList2, sB_toList2]
  exact ⟨beq_eq_false_iff_ne.2 h, h⟩

theorem ps_at {ps : List (List UInt8)} {i : Nat} (hi : i < ps.length) {u : List UInt8} (hu : ps.getD i [] = u) : str (ps.getD i []) = .string (sB u) := by rw [hu]; rfl
set_option maxRecDepth 20000 in
set_option maxHeartbeats 8000000 in
theorem spec_fparse_words (s : ByteArray) (w : World) (hs : s.size ≤ 16777216) (h2 : 2 < s.size) (hh : s.data.toList.head? = some 40) (ht : s.data.toList.getLast? = some 41) :
    Calls Tryd.prog 17 #[.string s] w (FPar w (parF s.data.toList)) := by
  have p0 : 0 < s.size := by omega
  have p1' : s.size - 1 < s.size := by omega
  obtain ⟨m, hm⟩ : ∃ m, s.size - 1 = m := ⟨_, rfl⟩
  have p1 : m < s.size := by omega
  have hc0 : (((s[0]'p0).toNat : Int) != 40) = false := num_same (b := 40) rfl (Option.some.inj ((first_get s p0).symm.trans hh))
  have hc1 : (((s[m]'p1).toNat : Int) != 41) = false := by
    subst hm
    exact num_same (b := 41) rfl (Option.some.inj ((last_get s p1').symm.trans ht))
  have hl : s.data.toList.length = s.size := by simp
  have HP := Lib.hid (parF_words (by omega) hh ht)
  have hmid := mid_list s (by omega)
  rw [hm] at hmid
  have HM := Lib.hid hmid
  have E1 : (s.size : Int) - 1 = (m : Int) := by omega
  have m0 : (0 : Int) ≤ (m : Int) := by omega
  have m1 : (1 : Int) ≤ (m : Int) := by omega
  have m2 : (m : Int) ≤ (s.size : Int) := by omega
  have m3 : (m : Int) < (s.size : Int) := by omega
  have hn2 : ¬ (s.size : Int) < 2 := by omega
  have hn3 : ((s.size : Int) == 2) = false := beq_eq_false_iff_ne.2 (by omega)
  have hms : (s.extract 1 m).size ≤ 16777216 := by rw [ByteArray.size_extract]; omega
  have HMS := Lib.hid hms
  clear hh ht hl hms hmid hm p1'
  go_enter Tryd.func17, Tryd.ntmps17
  go_wp2_with fail
  refine (cut_blank (s.extract 1 m) _ HMS.out).mono ?_
  rw [HM.out]
  rintro e w1 ⟨g, cap, rfl, hg0, hg1, hgc, hb⟩
  obtain ⟨ps, hps⟩ : ∃ ps, cut 32 (s.data.toList.drop 1).dropLast = ps := ⟨_, rfl⟩
  have hpl : ps.length ≤ 16777217 := by
    have h1 := (cut_len 32 (s.data.toList.drop 1).dropLast).2
    rw [hps] at h1
    have hl : s.data.toList.length = s.size := by simp
    rw [List.length_dropLast, List.length_drop, hl] at h1
    omega
  have HPP : Hid (parF s.data.toList = wordsF ps 0) := by show _ = _; rw [HP.out, hps]
  rw [hps] at hgc ⊢
  obtain ⟨n, hn⟩ : ∃ n, ps.length = n := ⟨_, rfl⟩
  have HN := Lib.hid hn
  rw [hn] at hgc hpl ⊢
  have HB1 := Lib.hid hb
  have HGC1 := Lib.hid hgc
  clear hps hn hb hgc hc0 hc1
  go_wp2_with fail
  refine (spec_names _).mono ?_
  rintro e w2 ⟨rfl, hW, hb⟩
  have HB2 := Lib.hid (HB1.out.trans (hb.mono HB1.out.size))
  have HGC : Hid (∀ j, j < n → w2.cell? ⟨g, j, none⟩ = some (str (ps.getD j []))) := fun j hj => (hb.cell (p := ⟨g, j, none⟩) hg1).trans (HGC1.out j hj)
  have hsz2 := hb.size
  have hg2 : g < w2.heap.size := by omega
  obtain ⟨gn, hgn⟩ : ∃ gn, w1.heap.size = gn := ⟨_, rfl⟩
  rw [hgn] at hW ⊢
  have HW := Lib.hid hW
  have hgn2 : gn < w2.heap.size := hW.lt
  clear hW hb HGC1 hgn
  go_wp2
  go_loopw [7, 8] (fun v x wr => ∃ (i f : Nat), i ≤ n ∧ f < 32 ∧ v = .int .i64 (f : Int) ∧ x = .int .i64 (i : Int) ∧ w2.heap.size ≤ wr.heap.size ∧ Hid (Below w2.heap.size w2 wr) ∧ Hid (wordsF ps 0 = wordsF (ps.drop i) f)) (fun _ x _ => n - (intOf x).toNat)
  case atStart => exact ⟨0, 0, Nat.zero_le _, by omega, by go_num, by go_num, Nat.le_refl _, Below.refl _ _, rfl⟩
  case round =>
    obtain ⟨i, f, hi, hf, rfl, rfl, hwr, HB, HR⟩ := hrel
    by_cases hlt : i < n
    · have i0 : (0 : Int) ≤ (i : Int) := by omega
      have i1 : (i : Int) < (n : Int) := by omega
      obtain ⟨u, hu⟩ : ∃ u, ps.getD i [] = u := ⟨_, rfl⟩
      have HU := Lib.hid hu
      clear hu
      go_wp2
      go_loopw [9, 10] (fun v x wq => ∃ (k b : Nat), k ≤ 5 ∧ b = bitK u k ∧ v = .int .i64 (b : Int) ∧ x = .int .i64 (k : Int) ∧ w2.heap.size ≤ wq.heap.size ∧ Hid (Below w2.heap.size w2 wq)) (fun _ x _ => 5 - (intOf x).toNat)
      case atStart => exact ⟨0, 0, Nat.zero_le _, rfl, by go_num, by go_num, hwr, HB.out⟩
      case round =>
        obtain ⟨k, b, hk, hb, rfl, rfl, hwq, HQ⟩ := hrel
        by_cases hkl : k < 5
        · have k0 : (0 : Int) ≤ (k : Int) := by omega
          have k5 : (k : Int) < 5 := by omega
          have hcw : (World.cell? _ ⟨g, i, none⟩) = some (.string (sB u)) := ((HQ.out.cell (p := ⟨g, i, none⟩) hg2).trans (HGC.out i hlt)).trans (congrArg some (ps_at (by rw [HN.out]; exact hlt) HU.out))
          have hcn : (World.cell? _ ⟨gn, k, none⟩) = some (.string (sB (fnm k))) := ((HW.out.below HQ.out hgn2).cell k).trans (fnames_at hkl)
          by_cases he : fnm k = u
          · obtain ⟨e1, e2⟩ := same_toList he
            have HE := Lib.hid he
            have HBB := Lib.hid hb
            obtain ⟨U, hU⟩ : ∃ U, sB u = U := ⟨_, rfl⟩
            obtain ⟨V, hV⟩ : ∃ V, sB (fnm k) = V := ⟨_, rfl⟩
            rw [hU] at hcw e1 e2
            rw [hV] at hcn e1 e2
            obtain ⟨q, hq⟩ : ∃ q, 2 ^ k = q := ⟨_, rfl⟩
            have HQQ := Lib.hid hq
            clear hU hV hq he hb
            go_wp2
            go_quiet (fail)
            go_wp2_with fail
            refine (spec_bit k q _ hkl HQQ.out).mono ?_
            rintro e w3 ⟨rfl, hb3⟩
            have HB3 := Lib.hid ((below_drewN' HQ.out _).trans (hb3.mono hwq))
            have hw3 := HB3.out.size
            clear hb3
            go_wp2
            go_roundw
            case rel => exact ⟨k + 1, q, by omega, (bitK_yes HE.out HQQ.out).symm, rfl, by go_num, hw3, HB3.out⟩
            case measure => simp [intOf]; omega
          · obtain ⟨e1, e2⟩ := other_toList he
            have HE := Lib.hid he
            have HBB := Lib.hid hb
            obtain ⟨U, hU⟩ : ∃ U, sB u = U := ⟨_, rfl⟩
            obtain ⟨V, hV⟩ : ∃ V, sB (fnm k) = V := ⟨_, rfl⟩
            rw [hU] at hcw e1 e2
            rw [hV] at hcn e1 e2
            clear hU hV he hb
            go_wp2
            go_quiet (fail)
            go_wp2
            go_roundw
            case rel => exact ⟨k + 1, b, by omega, HBB.out.trans (bitK_no HE.out).symm, rfl, by go_num, hwq, below_drewN' HQ.out _⟩
            case measure => simp [intOf]; omega
        · have k5 : ¬ (k : Int) < 5 := by omega
          have hk5 : k = 5 := by omega
          subst hk5
          rw [bitK_five] at hb
          have hstep := fwords_step (ps := ps) (i := i) (f := f) (by rw [HN.out]; exact hlt)
          rw [HU.out, ← hb] at hstep
          rcases bitW_cases u with ⟨hz, _⟩ | ⟨kk, hkk, _, hz⟩
          · have hb0 : b = 0 := hb.trans hz
            subst hb0
            rw [if_pos (.inl rfl)] at hstep
            have HS := Lib.hid hstep
            clear hb hz hstep
            go_wp2
            go_ret2
            exact fpar_none (by rw [HPP.out, HR.out, HS.out]) (HB2.out.trans (HQ.out.mono HB2.out.size))
          · have hq : 2 ^ kk = b := by rw [hb, hz]
            obtain ⟨q1, q2⟩ := pow_five hkk hq
            obtain ⟨d1, hd1⟩ : ∃ d, f / b = d := ⟨_, rfl⟩
            have ld1 : d1 ≤ f := hd1 ▸ Nat.div_le_self _ _
            have E2 : (f : Int).tdiv (b : Int) = (d1 : Int) := by rw [← hd1]; exact IntWalk.up_tdiv rfl rfl
            have W2 : IntKind.i64.wrap (d1 : Int) = (d1 : Int) := IntWalk.i64_in _ (by omega)
            have hq0 : ¬ (b : Int) = 0 := by omega
            have hq1 : ((b : Int) == 0) = false := beq_eq_false_iff_ne.2 hq0
            cases htb : tb f kk with
            | true =>
              have F1 := half_yes hq hd1 htb
              rw [if_pos (.inr (by rw [← hq]; exact (tb_bit f kk).2 htb))] at hstep
              have HS := Lib.hid hstep
              clear hb hz hstep hq hd1 htb
              go_wp2
              go_ret2
              exact fpar_none (by rw [HPP.out, HR.out, HS.out]) (HB2.out.trans (HQ.out.mono HB2.out.size))
            | false =>
              have F1 := half_no hq hd1 htb
              have hsum := (tb_add hf hkk htb).1
              rw [hq] at hsum
              rw [if_neg (by
                rintro (h | h)
                · omega
                · rw [← hq] at h
                  rw [(tb_bit f kk).1 h] at htb
                  cases htb)] at hstep
              have HS := Lib.hid hstep
              obtain ⟨f1, hf1⟩ : ∃ f1, f + b = f1 := ⟨_, rfl⟩
              have W3 : IntKind.i64.wrap ((f : Int) + (b : Int)) = (f1 : Int) := (IntWalk.i64_in _ (by omega)).trans (by omega)
              have HF1 := Lib.hid hf1
              have hf1l : f1 < 32 := by omega
              clear hb hz hstep hq hd1 htb hf1
              go_wp2
              go_roundw
              case rel => exact ⟨i + 1, f1, by omega, hf1l, by first | rfl | go_num, by go_num, hwq, HQ.out, HR.out.trans (HS.out.trans (by rw [HF1.out]))⟩
              case measure => simp [intOf]; omega
    · have i1 : ¬ (i : Int) < (n : Int) := by omega
      have hin : i = n := by omega
      subst hin
      go_wp2
      go_ret2
      exact fpar_some (by rw [HPP.out, HR.out, List.drop_eq_nil_of_le (by rw [HN.out]; exact Nat.le_refl _)]; rfl) (HB2.out.trans (HB.out.mono HB2.out.size))
theorem two_len {s : ByteArray} (h : s.size < 2) : parF s.data.toList = none := parF_short (by rw [show s.data.toList.length = s.size by simp]; exact h)
set_option maxHeartbeats 2000000 in
theorem spec_fparse (s : ByteArray) (w : World) (hs : s.size ≤ 16777216) : Calls Tryd.prog 17 #[.string s] w (FPar w (parF s.data.toList)) := by
  by_cases h2 : s.size < 2
  · have HP := Lib.hid (two_len h2)
    have hn2 : (s.size : Int) < 2 := by omega
    go_enter Tryd.func17, Tryd.ntmps17
    go_wp2
    go_ret2
    exact fpar_none HP.out (Below.refl _ _)
  · have p0 : 0 < s.size := by omega
    have p1' : s.size - 1 < s.size := by omega
    by_cases hh : s.data.toList.head? = some 40
    · by_cases ht : s.data.toList.getLast? = some 41
      · by_cases h3 : s.size = 2
        · obtain ⟨m, hm⟩ : ∃ m, s.size - 1 = m := ⟨_, rfl⟩
          have p1 : m < s.size := by omega
          have hc0 : (((s[0]'p0).toNat : Int) != 40) = false := num_same (b := 40) rfl (Option.some.inj ((first_get s p0).symm.trans hh))
          have hc1 : (((s[m]'p1).toNat : Int) != 41) = false := by
            subst hm
            exact num_same (b := 41) rfl (Option.some.inj ((last_get s p1').symm.trans ht))
          have HP : Hid (parF s.data.toList = some 0) := by
            have hl : s.data.toList.length = s.size := by simp
            exact parF_is2 (by omega) hh ht
          have E1 : (s.size : Int) - 1 = (m : Int) := by omega
          have m0 : (0 : Int) ≤ (m : Int) := by omega
          have m3 : (m : Int) < (s.size : Int) := by omega
          have hn2 : ¬ (s.size : Int) < 2 := by omega
          have hn3 : ((s.size : Int) == 2) = true := by rw [h3]; rfl
          clear hh ht hm p1' h3
          go_enter Tryd.func17, Tryd.ntmps17
          go_wp2
          go_ret2
          exact fpar_some (f := 0) HP.out (Below.refl _ _)
        · exact spec_fparse_words s w hs (by omega) hh ht
      · obtain ⟨m, hm⟩ : ∃ m, s.size - 1 = m := ⟨_, rfl⟩
        have p1 : m < s.size := by omega
        have hc0 : (((s[0]'p0).toNat : Int) != 40) = false := num_same (b := 40) rfl (Option.some.inj ((first_get s p0).symm.trans hh))
        have hc1 : (((s[m]'p1).toNat : Int) != 41) = true := by
          subst hm
          exact num_ne (b := 41) rfl (fun e => ht ((last_get s p1').trans (congrArg some e)))
        have HP := Lib.hid (parF_last ht)
        have E1 : (s.size : Int) - 1 = (m : Int) := by omega
        have m0 : (0 : Int) ≤ (m : Int) := by omega
        have m3 : (m : Int) < (s.size : Int) := by omega
        have hn2 : ¬ (s.size : Int) < 2 := by omega
        clear hh ht hm p1'
        go_enter Tryd.func17, Tryd.ntmps17
        go_wp2
        go_ret2
        exact fpar_none HP.out (Below.refl _ _)
    · have hc0 : (((s[0]'p0).toNat : Int) != 40) = true := num_ne (b := 40) rfl (fun e => hh ((first_get s p0).trans (congrArg some e)))
      have HP := Lib.hid (parF_head hh)
      have hn2 : ¬ (s.size : Int) < 2 := by omega
      clear hh p1'
      go_enter Tryd.func17, Tryd.ntmps17
      go_wp2
      go_ret2
      exact fpar_none HP.out (Below.refl _ _)
end Go.Proofs.YtbcooiifpfdiaaaDoor
