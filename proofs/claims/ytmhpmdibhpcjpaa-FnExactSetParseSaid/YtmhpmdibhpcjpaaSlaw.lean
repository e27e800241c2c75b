/-
  The contracts of the laws' own helpers on lists of spans and of numbers: comparing, looking up, counting. Condition: the lists can be read.
-/
import Derived.Test.YtmhpmdibhpcjpaaSdrawn
import Derived.Test.YtmhpmdibhpcjpaaSmark
import Derived.Deep.RegionHeld3
namespace Go.Proofs.Ytmhpmdibhpcjpaa
open Go.RowKit
set_option linter.unusedVariables false

theorem take_same {α : Type} {L M : List α} {k : Nat} {x : α} (h : L.take k = M.take k) (hl : L[k]? = some x) (hm : M[k]? = some x) : L.take (k + 1) = M.take (k + 1) := by
  rw [List.take_add_one, List.take_add_one, h, hl, hm]
theorem take_diff {α : Type} {L M : List α} {k : Nat} {x y : α} (hl : L[k]? = some x) (hm : M[k]? = some y) (h : x ≠ y) : L ≠ M := by
  rintro rfl
  rw [hl] at hm
  exact h (Option.some.inj hm)
theorem len_diff {α : Type} {L M : List α} (h : L.length ≠ M.length) : L ≠ M := fun e => h (by rw [e])
/-- A truth value is told, and old memory stays. -/
def Tests (w : World) (o : Bool) (e : Ending) (w' : World) : Prop := e = .returned (.bool o) ∧ Below w.heap.size w w'
theorem tests_mk {w w' : World} {o p : Bool} (h : o = p) (hb : Below w.heap.size w w') : Tests w o (.returned (.bool p)) w' := ⟨by rw [h], hb⟩
theorem dec_yes {p : Prop} [Decidable p] (h : p) : decide p = true := decide_eq_true h
theorem dec_no {p : Prop} [Decidable p] (h : ¬ p) : decide p = false := decide_eq_false h

set_option maxHeartbeats 2000000 in
theorem same_spans (A A2 : Option Addr) (cap cap2 : Nat) (L M : List (Int × Int)) (w : World) (h : SpA w A L) (h2 : SpA w A2 M) (hl : L.length ≤ 33554432) (hl2 : M.length ≤ 33554432) :
    Calls Try.prog 23 #[.slice A L.length cap, .slice A2 M.length cap2] w (Tests w (decide (L = M))) := by
  have H := Lib.hid h
  have H2 := Lib.hid h2
  clear h h2
  by_cases hlen : L.length = M.length
  · have hlb : ((L.length : Int) != (M.length : Int)) = false := by rw [hlen]; simp
    obtain ⟨m, hm⟩ : ∃ m, L.length = m := ⟨_, rfl⟩
    have hm2 : M.length = m := by rw [← hlen, hm]
    have HM := Lib.hid hm
    have HM2 := Lib.hid hm2
    rw [hm, hm2] at hlb
    rw [hm] at hl
    rw [hm, hm2]
    clear hlen hl2 hm hm2
    go_enter Try.func23, Try.ntmps23
    go_wp2
    go_loopw [5] (fun i wr => ∃ k : Nat, k ≤ m ∧ i = .int .i64 (k : Int) ∧ Hid (L.take k = M.take k) ∧ Hid (Below w.heap.size w wr)) (fun i _ => m - (intOf i).toNat)
    case atStart => exact ⟨0, Nat.zero_le _, by go_num, rfl, Below.refl _ _⟩
    case round =>
      obtain ⟨k, hk, rfl, HT, HB⟩ := hrel
      by_cases hlt : k < m
      · have h0 : (0 : Int) ≤ (k : Int) := by omega
        have h5 : (k : Int) < (m : Int) := by omega
        obtain ⟨⟨x1, x2⟩, hx⟩ : ∃ x, L[k]? = some x := ⟨_, List.getElem?_eq_getElem (by rw [HM.out]; exact hlt)⟩
        obtain ⟨⟨y1, y2⟩, hy⟩ : ∃ x, M[k]? = some x := ⟨_, List.getElem?_eq_getElem (by rw [HM2.out]; exact hlt)⟩
        obtain ⟨b, o, rfl, hb, c1, c2⟩ := (H.out.below HB.out (Nat.le_refl _)) k _ hx
        obtain ⟨b', o', rfl, hb', d1, d2⟩ := (H2.out.below HB.out (Nat.le_refl _)) k _ hy
        have HX := Lib.hid hx
        have HY := Lib.hid hy
        clear hx hy
        by_cases e1 : x1 = y1
        · by_cases e2 : x2 = y2
          · subst e1
            subst e2
            go_wp2
            go_quiet (fail)
            go_wp2
            go_roundw
            case rel => exact ⟨k + 1, by omega, by go_num, take_same HT.out HX.out HY.out, below_drewN' HB.out _⟩
            case measure => simp [intOf]; omega
          · have hne : (x2 == y2) = false := beq_eq_false_iff_ne.2 e2
            have HNE : Hid (L ≠ M) := take_diff HX.out HY.out (by intro e; exact e2 (Prod.mk.inj e).2)
            subst e1
            clear e2
            go_wp2
            go_quiet (fail)
            go_wp2
            go_ret
            exact tests_mk (dec_no HNE.out) (below_drewN' HB.out _)
        · have hne : (x1 == y1) = false := beq_eq_false_iff_ne.2 e1
          have HNE : Hid (L ≠ M) := take_diff HX.out HY.out (by intro e; exact e1 (Prod.mk.inj e).1)
          clear e1
          go_wp2
          go_quiet (fail)
          go_wp2
          go_ret
          exact tests_mk (dec_no HNE.out) (below_drewN' HB.out _)
      · have h5 : ¬ (k : Int) < (m : Int) := by omega
        have HE : Hid (L = M) := by
          have h := HT.out
          rw [List.take_of_length_le (by rw [HM.out]; omega), List.take_of_length_le (by rw [HM2.out]; omega)] at h
          exact h
        go_wp2
        go_ret
        exact tests_mk (dec_yes HE.out) HB.out
  · have hlb : ((L.length : Int) != (M.length : Int)) = true := by simp; omega
    have HNE := Lib.hid (len_diff hlen)
    clear hlen
    go_enter Try.func23, Try.ntmps23
    go_wp2
    go_ret
    exact tests_mk (dec_no HNE.out) (Below.refl _ _)
set_option maxHeartbeats 2000000 in
theorem same_ints (A A2 : Option Addr) (cap cap2 : Nat) (L M : List Nat) (w : World) (h : IntA w A L) (h2 : IntA w A2 M) (hl : L.length ≤ 33554432) (hl2 : M.length ≤ 33554432) :
    Calls Try.prog 27 #[.slice A L.length cap, .slice A2 M.length cap2] w (Tests w (decide (L = M))) := by
  have H := Lib.hid h
  have H2 := Lib.hid h2
  clear h h2
  by_cases hlen : L.length = M.length
  · have hlb : ((L.length : Int) != (M.length : Int)) = false := by rw [hlen]; simp
    obtain ⟨m, hm⟩ : ∃ m, L.length = m := ⟨_, rfl⟩
    have hm2 : M.length = m := by rw [← hlen, hm]
    have HM := Lib.hid hm
    have HM2 := Lib.hid hm2
    rw [hm, hm2] at hlb
    rw [hm] at hl
    rw [hm, hm2]
    clear hlen hl2 hm hm2
    go_enter Try.func27, Try.ntmps27
    go_wp2
    go_loopw [5] (fun i wr => ∃ k : Nat, k ≤ m ∧ i = .int .i64 (k : Int) ∧ Hid (L.take k = M.take k) ∧ Hid (Below w.heap.size w wr)) (fun i _ => m - (intOf i).toNat)
    case atStart => exact ⟨0, Nat.zero_le _, by go_num, rfl, Below.refl _ _⟩
    case round =>
      obtain ⟨k, hk, rfl, HT, HB⟩ := hrel
      by_cases hlt : k < m
      · have h0 : (0 : Int) ≤ (k : Int) := by omega
        have h5 : (k : Int) < (m : Int) := by omega
        obtain ⟨x, hx⟩ : ∃ x, L[k]? = some x := ⟨_, List.getElem?_eq_getElem (by rw [HM.out]; exact hlt)⟩
        obtain ⟨y, hy⟩ : ∃ x, M[k]? = some x := ⟨_, List.getElem?_eq_getElem (by rw [HM2.out]; exact hlt)⟩
        obtain ⟨b, o, rfl, hb, c1⟩ := (H.out.below HB.out (Nat.le_refl _)) k _ hx
        obtain ⟨b', o', rfl, hb', d1⟩ := (H2.out.below HB.out (Nat.le_refl _)) k _ hy
        have HX := Lib.hid hx
        have HY := Lib.hid hy
        clear hx hy
        by_cases e1 : x = y
        · subst e1
          have hne : ((x : Int) != (x : Int)) = false := by simp
          go_wp2
          go_quiet (fail)
          go_wp2
          go_roundw
          case rel => exact ⟨k + 1, by omega, by go_num, take_same HT.out HX.out HY.out, below_drewN' HB.out _⟩
          case measure => simp [intOf]; omega
        · have hne : ((x : Int) != (y : Int)) = true := by simp; omega
          have HNE : Hid (L ≠ M) := take_diff HX.out HY.out e1
          clear e1
          go_wp2
          go_quiet (fail)
          go_wp2
          go_ret
          exact tests_mk (dec_no HNE.out) (below_drewN' HB.out _)
      · have h5 : ¬ (k : Int) < (m : Int) := by omega
        have HE : Hid (L = M) := by
          have h := HT.out
          rw [List.take_of_length_le (by rw [HM.out]; omega), List.take_of_length_le (by rw [HM2.out]; omega)] at h
          exact h
        go_wp2
        go_ret
        exact tests_mk (dec_yes HE.out) HB.out
  · have hlb : ((L.length : Int) != (M.length : Int)) = true := by simp; omega
    have HNE := Lib.hid (len_diff hlen)
    clear hlen
    go_enter Try.func27, Try.ntmps27
    go_wp2
    go_ret
    exact tests_mk (dec_no HNE.out) (Below.refl _ _)
set_option maxHeartbeats 2000000 in
theorem eq_ints (A A2 : Option Addr) (cap cap2 : Nat) (L M : List Nat) (w : World) (h : IntA w A L) (h2 : IntA w A2 M) (hl : L.length ≤ 33554432) (hl2 : M.length ≤ 33554432) :
    Calls Try.prog 35 #[.slice A L.length cap, .slice A2 M.length cap2] w (Tests w (decide (L = M))) := by
  have H := Lib.hid h
  have H2 := Lib.hid h2
  clear h h2
  by_cases hlen : L.length = M.length
  · have hlb : ((L.length : Int) != (M.length : Int)) = false := by rw [hlen]; simp
    obtain ⟨m, hm⟩ : ∃ m, L.length = m := ⟨_, rfl⟩
    have hm2 : M.length = m := by rw [← hlen, hm]
    have HM := Lib.hid hm
    have HM2 := Lib.hid hm2
    rw [hm, hm2] at hlb
    rw [hm] at hl
    rw [hm, hm2]
    clear hlen hl2 hm hm2
    go_enter Try.func35, Try.ntmps35
    go_wp2
    go_loopw [5] (fun i wr => ∃ k : Nat, k ≤ m ∧ i = .int .i64 (k : Int) ∧ Hid (L.take k = M.take k) ∧ Hid (Below w.heap.size w wr)) (fun i _ => m - (intOf i).toNat)
    case atStart => exact ⟨0, Nat.zero_le _, by go_num, rfl, Below.refl _ _⟩
    case round =>
      obtain ⟨k, hk, rfl, HT, HB⟩ := hrel
      by_cases hlt : k < m
      · have h0 : (0 : Int) ≤ (k : Int) := by omega
        have h5 : (k : Int) < (m : Int) := by omega
        obtain ⟨x, hx⟩ : ∃ x, L[k]? = some x := ⟨_, List.getElem?_eq_getElem (by rw [HM.out]; exact hlt)⟩
        obtain ⟨y, hy⟩ : ∃ x, M[k]? = some x := ⟨_, List.getElem?_eq_getElem (by rw [HM2.out]; exact hlt)⟩
        obtain ⟨b, o, rfl, hb, c1⟩ := (H.out.below HB.out (Nat.le_refl _)) k _ hx
        obtain ⟨b', o', rfl, hb', d1⟩ := (H2.out.below HB.out (Nat.le_refl _)) k _ hy
        have HX := Lib.hid hx
        have HY := Lib.hid hy
        clear hx hy
        by_cases e1 : x = y
        · subst e1
          have hne : ((x : Int) != (x : Int)) = false := by simp
          go_wp2
          go_quiet (fail)
          go_wp2
          go_roundw
          case rel => exact ⟨k + 1, by omega, by go_num, take_same HT.out HX.out HY.out, below_drewN' HB.out _⟩
          case measure => simp [intOf]; omega
        · have hne : ((x : Int) != (y : Int)) = true := by simp; omega
          have HNE : Hid (L ≠ M) := take_diff HX.out HY.out e1
          clear e1
          go_wp2
          go_quiet (fail)
          go_wp2
          go_ret
          exact tests_mk (dec_no HNE.out) (below_drewN' HB.out _)
      · have h5 : ¬ (k : Int) < (m : Int) := by omega
        have HE : Hid (L = M) := by
          have h := HT.out
          rw [List.take_of_length_le (by rw [HM.out]; omega), List.take_of_length_le (by rw [HM2.out]; omega)] at h
          exact h
        go_wp2
        go_ret
        exact tests_mk (dec_yes HE.out) HB.out
  · have hlb : ((L.length : Int) != (M.length : Int)) = true := by simp; omega
    have HNE := Lib.hid (len_diff hlen)
    clear hlen
    go_enter Try.func35, Try.ntmps35
    go_wp2
    go_ret
    exact tests_mk (dec_no HNE.out) (Below.refl _ _)
set_option maxHeartbeats 2000000 in
theorem has_int (A : Option Addr) (cap : Nat) (l : List Nat) (n : Nat) (w : World) (h : IntA w A l) (hl : l.length ≤ 33554432) :
    Calls Try.prog 28 #[.slice A l.length cap, .int .i64 (n : Int)] w (Tests w (decide (n ∈ l))) := by
  have H := Lib.hid h
  clear h
  go_enter Try.func28, Try.ntmps28
  go_wp2
  go_loop [5] (fun i => ∃ k : Nat, k ≤ l.length ∧ i = .int .i64 (k : Int) ∧ Hid (¬ n ∈ l.take k)) (fun i => l.length - (intOf i).toNat)
  case atStart => exact ⟨0, Nat.zero_le _, by go_num, by simp [Hid]⟩
  case round =>
    obtain ⟨k, hk, rfl, HT⟩ := hrel
    by_cases hlt : k < l.length
    · have h0 : (0 : Int) ≤ (k : Int) := by omega
      have h5 : (k : Int) < (l.length : Int) := by omega
      obtain ⟨x, hx⟩ : ∃ x, l[k]? = some x := ⟨_, List.getElem?_eq_getElem hlt⟩
      obtain ⟨b, o, rfl, hb, c1⟩ := H.out k _ hx
      have HX := Lib.hid hx
      clear hx
      by_cases e1 : x = n
      · subst e1
        have hne : ((x : Int) == (x : Int)) = true := by simp
        have HIN : Hid (x ∈ l) := List.mem_of_getElem? HX.out
        go_wp2
        go_ret
        exact tests_mk (dec_yes HIN.out) (Below.refl _ _)
      · have hne : ((x : Int) == (n : Int)) = false := beq_eq_false_iff_ne.2 (by omega)
        have HNE := Lib.hid e1
        clear e1
        go_wp2
        go_round
        case rel =>
          refine ⟨k + 1, by omega, by go_num, ?_⟩
          show ¬ _
          rw [List.take_add_one, HX.out, List.mem_append]
          rintro (h | h)
          · exact HT.out h
          · simp at h
            exact HNE.out h.symm
        case measure => simp [intOf]; omega
    · have h5 : ¬ (k : Int) < (l.length : Int) := by omega
      have HE : Hid (¬ n ∈ l) := by
        have h := HT.out
        rw [List.take_of_length_le (by omega)] at h
        exact h
      go_wp2
      go_ret
      exact tests_mk (dec_no HE.out) (Below.refl _ _)
set_option maxHeartbeats 2000000 in
theorem up_to (n : Int) (w : World) (hn : n ≤ 1000) :
    Calls Try.prog 29 #[.int .i64 n] w (Lists w (ups n.toNat)) := by
  obtain ⟨i0, hi, hq0, hq1, hq2⟩ := info_parts Try.infoInt
  obtain ⟨K, hK⟩ : ∃ K, n.toNat = K := ⟨_, rfl⟩
  have hK1 : K ≤ 1000 := by omega
  have HK := Lib.hid hK
  rw [hK]
  clear hK
  go_enter Try.func29, Try.ntmps29
  go_wp2
  go_loopw [3, 4] (fun v i wr => ∃ k : Nat, k ≤ K ∧ i = .int .i64 ((k : Int) + 1) ∧ Hid (Below w.heap.size w wr) ∧ Hid (OwnI wr w.heap.size v (ups k))) (fun _ i _ => K + 1 - (intOf i).toNat)
  case atStart => exact ⟨0, Nat.zero_le _, by go_num, (Below.refl _ _).alloc (Nat.le_refl _) _, OwnI.lit' w _ (Nat.le_refl _) rfl⟩
  case round =>
    obtain ⟨k, hk, rfl, HB, HO⟩ := hrel
    have hbz := HB.out.size
    by_cases hlt : k < K
    · have h1 : (k : Int) + 1 ≤ n := by have := HK.out; omega
      have hcast : (((k + 1 : Nat)) : Int) = (k : Int) + 1 := by omega
      have HCAST := Lib.hid hcast
      clear hcast
      have hown := HO.out.alloc (.cells #[.int .i64 ((k : Int) + 1)] 3)
      have hnews := one_new' wr (.int .i64 ((k : Int) + 1)) 3 wr.heap.size rfl
      obtain ⟨C, hC⟩ : ∃ C, ups k = C := ⟨_, rfl⟩
      have hcl : C.length ≤ 1000 := by rw [← hC, ups_len]; omega
      have HC := Lib.hid hC
      rw [hC] at hown
      have hml : C.length + 1 ≤ maxLen := by unfold maxLen; omega
      have hby : (C.length + 1) * 8 ≤ 140737488355328 := by omega
      have hba : w.heap.size ≤ (wr.alloc (.cells #[.int .i64 ((k : Int) + 1)] 3)).heap.size := by simp; omega
      clear hC
      go_wp2_with (at_builtin; refine wpList_append_own _ rfl _ _ 35 rfl w.heap.size 3 i0 (.int .i64 0) 1 8 Try.underlying35 hi hq0 hq1 hq2 rfl (by decide) _ _ _ rfl (hown.row rfl) ⟨wr.heap.size, 0, none⟩ 1 1 [.int .i64 ((k : Int) + 1)] rfl rfl hnews (one_one _) hml hby hba ?_)
      intro v' w5 hown2 hgrow _
      have HB5 := Lib.hid ((HB.out.alloc hbz (.cells #[.int .i64 ((k : Int) + 1)] 3)).grown hgrow hba (fun z hz => (World.ownsRow.lt hown z hz).1))
      have hO5 : OwnI w5 w.heap.size v' (C ++ [k + 1]) := OwnI.push (by rw [HCAST.out]; exact hown2) rfl
      have HO5 := Lib.hid hO5
      clear hO5 hown hown2 hgrow hnews hml hby hba
      go_wp2
      go_roundw
      case rel => exact ⟨k + 1, by omega, by go_num, HB5.out, by rw [ups_succ, HC.out]; exact HO5⟩
      case measure => simp [intOf]; omega
    · have h1 : ¬ (k : Int) + 1 ≤ n := by have := HK.out; omega
      have hkk : k = K := by omega
      have hf := HO.out
      rw [hkk] at hf
      have HF := Lib.hid hf
      clear hkk hf HO
      go_wp2
      go_ret
      exact ⟨_, rfl, HF.out, HB.out⟩

theorem below_eq {a w w' : World} (h : Below a.heap.size a w) (h2 : Below w.drew.heap.size w.drew w') : Below a.heap.size a w' := by
  have h3 : Below w.heap.size w w' := ⟨h2.os, h2.tape, h2.output, h2.size, h2.block⟩
  exact h.trans (h3.mono h.size)
set_option maxHeartbeats 2000000 in
theorem eq_span_yes (x1 x2 : Int) (w : World) :
    Calls Try.prog 53 #[.agg #[.int .i64 x1, .int .i64 x2], .agg #[.int .i64 x1, .int .i64 x2]] w (Tests w true) := by
  have h1 : (x1 != x1) = false := by simp
  have h2 : (x2 != x2) = false := by simp
  go_enter Try.func53, Try.ntmps53
  go_wp2
  go_ret
  exact ⟨rfl, ((Below.refl _ _).alloc (Nat.le_refl _) _).alloc (by simp) _⟩
set_option maxHeartbeats 2000000 in
theorem eq_span_no (x1 x2 y1 y2 : Int) (w : World) (h : (x1, x2) ≠ (y1, y2)) :
    Calls Try.prog 53 #[.agg #[.int .i64 x1, .int .i64 x2], .agg #[.int .i64 y1, .int .i64 y2]] w (Tests w false) := by
  by_cases e1 : x1 = y1
  · have e2 : ¬ x2 = y2 := fun e => h (by rw [e1, e])
    subst e1
    have h1 : (x1 != x1) = false := by simp
    have h2 : (x2 != y2) = true := by simpa using e2
    clear e2 h
    go_enter Try.func53, Try.ntmps53
    go_wp2
    go_ret
    exact ⟨rfl, ((Below.refl _ _).alloc (Nat.le_refl _) _).alloc (by simp) _⟩
  · have h1 : (x1 != y1) = true := by simpa using e1
    clear e1 h
    go_enter Try.func53, Try.ntmps53
    go_wp2
    go_ret
    exact ⟨rfl, ((Below.refl _ _).alloc (Nat.le_refl _) _).alloc (by simp) _⟩
set_option maxHeartbeats 4000000 in
theorem eq_spans (A A2 : Option Addr) (cap cap2 : Nat) (L M : List (Int × Int)) (w : World) (h : SpA w A L) (h2 : SpA w A2 M) (hl : L.length ≤ 33554432) (hl2 : M.length ≤ 33554432) :
    Calls Try.prog 32 #[.slice A L.length cap, .slice A2 M.length cap2] w (Tests w (decide (L = M))) := by
  have H := Lib.hid h
  have H2 := Lib.hid h2
  clear h h2
  by_cases hlen : L.length = M.length
  · have hlb : ((L.length : Int) != (M.length : Int)) = false := by rw [hlen]; simp
    obtain ⟨m, hm⟩ : ∃ m, L.length = m := ⟨_, rfl⟩
    have hm2 : M.length = m := by rw [← hlen, hm]
    have HM := Lib.hid hm
    have HM2 := Lib.hid hm2
    rw [hm, hm2] at hlb
    rw [hm] at hl
    rw [hm, hm2]
    clear hlen hl2 hm hm2
    go_enter Try.func32, Try.ntmps32
    go_wp2
    go_loopw [5] (fun i wr => ∃ k : Nat, k ≤ m ∧ i = .int .i64 (k : Int) ∧ Hid (L.take k = M.take k) ∧ Hid (Below w.heap.size w wr)) (fun i _ => m - (intOf i).toNat)
    case atStart => exact ⟨0, Nat.zero_le _, by go_num, rfl, Below.refl _ _⟩
    case round =>
      obtain ⟨k, hk, rfl, HT, HB⟩ := hrel
      by_cases hlt : k < m
      · have h0 : (0 : Int) ≤ (k : Int) := by omega
        have h5 : (k : Int) < (m : Int) := by omega
        obtain ⟨⟨x1, x2⟩, hx⟩ : ∃ x, L[k]? = some x := ⟨_, List.getElem?_eq_getElem (by rw [HM.out]; exact hlt)⟩
        obtain ⟨⟨y1, y2⟩, hy⟩ : ∃ x, M[k]? = some x := ⟨_, List.getElem?_eq_getElem (by rw [HM2.out]; exact hlt)⟩
        obtain ⟨b, o, rfl, hb, c1, c2⟩ := (H.out.below HB.out (Nat.le_refl _)) k _ hx
        obtain ⟨b', o', rfl, hb', d1, d2⟩ := (H2.out.below HB.out (Nat.le_refl _)) k _ hy
        have HX := Lib.hid hx
        have HY := Lib.hid hy
        clear hx hy
        by_cases hd : (x1, x2) ≠ (y1, y2)
        · have HD := Lib.hid hd
          have HNE : Hid (L ≠ M) := take_diff HX.out HY.out hd
          clear hd
          go_wp2
          go_region_held3 (fun w' => w'.cell? ⟨b, o + k * 2, none⟩ = some (.int .i64 x1) ∧ w'.cell? ⟨b, o + k * 2 + 1, none⟩ = some (.int .i64 x2) ∧ w'.cell? ⟨b', o' + k * 2, none⟩ = some (.int .i64 y1) ∧ w'.cell? ⟨b', o' + k * 2 + 1, none⟩ = some (.int .i64 y2)) (go_keep) (first | (go_at_call 53; refine (eq_span_no _ _ _ _ _ HD.out).mono ?_; rintro e w5 ⟨rfl, hb5⟩; have k1 : w5.cell? ⟨b, o + k * 2, none⟩ = some (.int .i64 x1) := (hb5.cell (p := ⟨b, o + k * 2, none⟩) hb).trans c1; have k2 : w5.cell? ⟨b, o + k * 2 + 1, none⟩ = some (.int .i64 x2) := (hb5.cell (p := ⟨b, o + k * 2 + 1, none⟩) hb).trans c2; have k3 : w5.cell? ⟨b', o' + k * 2, none⟩ = some (.int .i64 y1) := (hb5.cell (p := ⟨b', o' + k * 2, none⟩) hb').trans d1; have k4 : w5.cell? ⟨b', o' + k * 2 + 1, none⟩ = some (.int .i64 y2) := (hb5.cell (p := ⟨b', o' + k * 2 + 1, none⟩) hb').trans d2; have HB5 := Lib.hid (below_eq HB.out hb5); clear hb5))
          all_goals
            go_wp2
            go_ret
            exact tests_mk (dec_no HNE.out) HB5.out
        · have hd := Prod.mk.inj (Decidable.not_not.1 hd)
          obtain ⟨rfl, rfl⟩ := hd
          go_wp2
          go_region_held3 (fun w' => w'.cell? ⟨b, o + k * 2, none⟩ = some (.int .i64 x1) ∧ w'.cell? ⟨b, o + k * 2 + 1, none⟩ = some (.int .i64 x2) ∧ w'.cell? ⟨b', o' + k * 2, none⟩ = some (.int .i64 x1) ∧ w'.cell? ⟨b', o' + k * 2 + 1, none⟩ = some (.int .i64 x2)) (go_keep) (first | (go_at_call 53; refine (eq_span_yes _ _ _).mono ?_; rintro e w5 ⟨rfl, hb5⟩; have k1 : w5.cell? ⟨b, o + k * 2, none⟩ = some (.int .i64 x1) := (hb5.cell (p := ⟨b, o + k * 2, none⟩) hb).trans c1; have k2 : w5.cell? ⟨b, o + k * 2 + 1, none⟩ = some (.int .i64 x2) := (hb5.cell (p := ⟨b, o + k * 2 + 1, none⟩) hb).trans c2; have k3 : w5.cell? ⟨b', o' + k * 2, none⟩ = some (.int .i64 x1) := (hb5.cell (p := ⟨b', o' + k * 2, none⟩) hb').trans d1; have k4 : w5.cell? ⟨b', o' + k * 2 + 1, none⟩ = some (.int .i64 x2) := (hb5.cell (p := ⟨b', o' + k * 2 + 1, none⟩) hb').trans d2; have HB5 := Lib.hid (below_eq HB.out hb5); clear hb5))
          all_goals
            go_wp2
            go_roundw
            case rel => exact ⟨k + 1, by omega, by go_num, take_same HT.out HX.out HY.out, HB5.out⟩
            case measure => simp [intOf]; omega
      · have h5 : ¬ (k : Int) < (m : Int) := by omega
        have HE : Hid (L = M) := by
          have h := HT.out
          rw [List.take_of_length_le (by rw [HM.out]; omega), List.take_of_length_le (by rw [HM2.out]; omega)] at h
          exact h
        go_wp2
        go_ret
        exact tests_mk (dec_yes HE.out) HB.out
  · have hlb : ((L.length : Int) != (M.length : Int)) = true := by simp; omega
    have HNE := Lib.hid (len_diff hlen)
    clear hlen
    go_enter Try.func32, Try.ntmps32
    go_wp2
    go_ret
    exact tests_mk (dec_no HNE.out) (Below.refl _ _)
end Go.Proofs.Ytmhpmdibhpcjpaa
