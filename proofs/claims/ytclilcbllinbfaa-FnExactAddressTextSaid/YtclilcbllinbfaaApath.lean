/-
  The contract of spec.PathParse. No condition beyond a bound on the text's length.
-/
import Derived.Test.YtclilcbllinbfaaAval
namespace Go.Proofs.Ytclilcbllinbfaa
open Go.RowKit
set_option linter.unusedVariables false

theorem gave_mk {w w' : World} {ok ok' : Bool} {u u' d d' : ByteArray} (h1 : ok = ok') (h2 : u = u') (h3 : d = d') (hb : Below w.heap.size w w') : Gave w ok u d (.returned (.tuple #[.agg #[.string u', .string d'], .bool ok'])) w' := by
  subst h1
  subst h2
  subst h3
  exact ⟨rfl, hb⟩
theorem q_bare {L : List UInt8} (h : L = bare) : spP L = true ∧ bs (qU L) = ⟨#[]⟩ ∧ bs (qD L) = ⟨#[]⟩ := by
  unfold spP qU qD
  rw [decide_eq_true h, if_pos h, if_pos h]
  exact ⟨rfl, rfl, rfl⟩
theorem q_off {L : List UInt8} (h : ¬ L = bare) (hr : brB L = false) : spP L = false ∧ bs (qU L) = ⟨#[]⟩ ∧ bs (qD L) = ⟨#[]⟩ := by
  have hs : spP L = false := by unfold spP; rw [decide_eq_false h, hr]; rfl
  obtain ⟨e1, e2⟩ := q_no hs
  rw [e1, e2]
  exact ⟨hs, rfl, rfl⟩
theorem q_in {L : List UInt8} (h : ¬ L = bare) (hr : brB L = true) : spP L = spB (mid L) ∧ qU L = pU (mid L) ∧ qD L = pD (mid L) := by
  unfold spP qU qD
  rw [decide_eq_false h, hr, if_neg h, if_neg h, if_pos rfl, if_pos rfl]
  exact ⟨rfl, rfl, rfl⟩
theorem next_at {s : ByteArray} {k : Nat} (hk : k < s.size) (c : UInt8) : nextIs s.data.toList k c = (s[k] == c) := by
  unfold nextIs
  have hl : k < s.data.toList.length := by simpa using hk
  rw [List.getElem?_eq_getElem hl]
  rfl
theorem br_at {s : ByteArray} {m : Nat} (hm : s.size = m + 1) (h0 : 0 < s.size) (h1 : m < s.size) (h2 : 1 ≤ m) : brB s.data.toList = (s[0] == (60 : UInt8) && s[m] == (62 : UInt8)) := by
  have hl : s.data.toList.length = s.size := by simp
  unfold brB
  rw [next_at h0, hl, hm, Nat.add_sub_cancel, next_at h1, decide_eq_true (by omega)]
  rfl
theorem mid_at {s : ByteArray} {m : Nat} (hm : s.size = m + 1) : (s.extract 1 m).data.toList = mid s.data.toList := by
  have hl : s.data.toList.length = s.size := by simp
  rw [extract_list]
  unfold mid
  rw [hl, hm]
  rfl

set_option maxHeartbeats 2000000 in
theorem spath (s : ByteArray) (w : World) (hs : s.size ≤ 16777216) :
    Calls Try.prog 38 #[.string s] w (Gave w (spP s.data.toList) (bs (qU s.data.toList)) (bs (qD s.data.toList))) := by
  by_cases hb : s.data.toList = bare
  · have hq : (s.toList == [60, 62]) = true := by rw [ByteArray.toList_eq, hb]; rfl
    have HB := Lib.hid (q_bare hb)
    clear hb
    go_enter Try.func38, Try.ntmps38
    go_wp2
    refine bodyPost_ret (v := .tuple #[.agg #[.string ⟨#[]⟩, .string ⟨#[]⟩], .bool true]) (by simp [results, Try.results38, go_sem]) rfl ?_
    exact gave_mk HB.out.1 HB.out.2.1 HB.out.2.2 ((Below.refl _ _).alloc (Nat.le_refl _) _)
  · have hq : (s.toList == [60, 62]) = false := by
      rw [ByteArray.toList_eq]
      exact beq_eq_false_iff_ne.2 hb
    have HB := Lib.hid hb
    clear hb
    by_cases h2 : s.size < 2
    · have h2' : (s.size : Int) < 2 := by omega
      have hr : brB s.data.toList = false := by
        unfold brB
        rw [decide_eq_false (by simp; omega)]
        rfl
      have HR := Lib.hid (q_off HB.out hr)
      clear hr
      go_enter Try.func38, Try.ntmps38
      go_wp2
      refine bodyPost_ret (v := .tuple #[.agg #[.string ⟨#[]⟩, .string ⟨#[]⟩], .bool false]) (by simp [results, Try.results38, go_sem]) rfl ?_
      exact gave_mk HR.out.1 HR.out.2.1 HR.out.2.2 ((Below.refl _ _).alloc (Nat.le_refl _) _)
    · have h2' : decide ((s.size : Int) < 2) = false := decide_eq_false (by omega)
      have hp : (0 : Int) < (s.size : Int) := by omega
      have h0 : 0 < s.size := by omega
      obtain ⟨m, hm⟩ : ∃ m, s.size = m + 1 := ⟨s.size - 1, by omega⟩
      have h1 : m < s.size := by omega
      have hbr := br_at hm h0 h1 (by omega)
      have E1 : (s.size : Int) - 1 = (m : Int) := by omega
      have hm0 : (0 : Int) ≤ (m : Int) := by omega
      have hm1 : (m : Int) < (s.size : Int) := by omega
      have hm2 : (1 : Int) ≤ (m : Int) := by omega
      have hm3 : (m : Int) ≤ (s.size : Int) := by omega
      have HM := Lib.hid hm
      have HBR := Lib.hid hbr
      clear hm hbr
      by_cases hc : s[0] = 60
      · have hcb : ((s[0].toNat : Int) != 60) = false := by rw [hc]; rfl
        have HC := Lib.hid hc
        clear hc
        by_cases hd : s[m] = 62
        · have hdb : ((s[m].toNat : Int) != 62) = false := by rw [hd]; rfl
          have HD := Lib.hid hd
          clear hd
          go_enter Try.func38, Try.ntmps38
          obtain ⟨o, u, d, hi, hu, hdl⟩ := read_any (s.extract 1 m)
          have hq3 := q_in HB.out (by rw [HBR.out, HC.out, HD.out]; rfl)
          have HI := Lib.hid hi
          have HQ := Lib.hid hq3
          have hes : (s.extract 1 m).size ≤ 16777216 := by rw [ByteArray.size_extract]; omega
          have HS := Lib.hid hes
          clear hi hq3 hu hdl hes
          go_wp2_with fail
          refine (sparse_at HI.out _ HS.out).mono ?_
          rintro e w1 ⟨rfl, hb⟩
          have ez : (w.alloc (.cells #[.string ⟨#[]⟩, .string ⟨#[]⟩] 30)).heap.size = w.heap.size + 1 := by simp
          rw [ez] at hb
          have hR := (Whole.made w 30 #[.string ⟨#[]⟩, .string ⟨#[]⟩]).below hb (by omega)
          have hr0 : w1.cell? ⟨w.heap.size, 0, none⟩ = some (.string ⟨#[]⟩) := hR.cell 0
          have hr1 : w1.cell? ⟨w.heap.size, 1, none⟩ = some (.string ⟨#[]⟩) := hR.cell 1
          have hf0 := hR.free 0
          have hf1 := hR.free 1
          have hz1 := hR.lt
          have HB1 := Lib.hid (((Below.refl w.heap.size w).alloc (Nat.le_refl _) (.cells #[.string ⟨#[]⟩, .string ⟨#[]⟩] 30)).trans (hb.mono (Nat.le_succ _)))
          clear hb hR ez
          go_wp2
          refine bodyPost_ret (v := .tuple #[.agg #[.string u, .string d], .bool o]) (by simp [results, Try.results38, go_sem, hr0, hr1]) rfl ?_
          obtain ⟨i1, i2, i3⟩ := HI.out
          rw [mid_at HM.out] at i1 i2 i3
          refine gave_mk (HQ.out.1.trans i1) (by rw [HQ.out.2.1]; exact i2) (by rw [HQ.out.2.2]; exact i3) ?_
          exact (HB1.out.setCell (p := ⟨w.heap.size, 0, none⟩) (Nat.le_refl _) _).setCell (p := ⟨w.heap.size, 1, none⟩) (Nat.le_refl _) _
        · have hdb : ((s[m].toNat : Int) != 62) = true := by
            have : s[m].toNat ≠ (62 : UInt8).toNat := fun e => hd (UInt8.toNat_inj.1 e)
            have e2 : (62 : UInt8).toNat = 62 := rfl
            simp; omega
          have HR := Lib.hid (q_off HB.out (by rw [HBR.out, HC.out, beq_eq_false_iff_ne.2 hd]; rfl))
          clear hd
          go_enter Try.func38, Try.ntmps38
          go_wp2
          refine bodyPost_ret (v := .tuple #[.agg #[.string ⟨#[]⟩, .string ⟨#[]⟩], .bool false]) (by simp [results, Try.results38, go_sem]) rfl ?_
          exact gave_mk HR.out.1 HR.out.2.1 HR.out.2.2 ((Below.refl _ _).alloc (Nat.le_refl _) _)
      · have hcb : ((s[0].toNat : Int) != 60) = true := by
          have : s[0].toNat ≠ (60 : UInt8).toNat := fun e => hc (UInt8.toNat_inj.1 e)
          have e2 : (60 : UInt8).toNat = 60 := rfl
          simp; omega
        have HR := Lib.hid (q_off HB.out (by rw [HBR.out, beq_eq_false_iff_ne.2 hc]; rfl))
        clear hc
        go_enter Try.func38, Try.ntmps38
        go_wp2
        refine bodyPost_ret (v := .tuple #[.agg #[.string ⟨#[]⟩, .string ⟨#[]⟩], .bool false]) (by simp [results, Try.results38, go_sem]) rfl ?_
        exact gave_mk HR.out.1 HR.out.2.1 HR.out.2.2 ((Below.refl _ _).alloc (Nat.le_refl _) _)
theorem spath_at {s u d : ByteArray} {o : Bool} (h : IsP s o u d) (w : World) (hs : s.size ≤ 16777216) : Calls Try.prog 38 #[.string s] w (Gave w o u d) := by
  obtain ⟨rfl, rfl, rfl⟩ := h
  exact spath s w hs
end Go.Proofs.Ytclilcbllinbfaa
