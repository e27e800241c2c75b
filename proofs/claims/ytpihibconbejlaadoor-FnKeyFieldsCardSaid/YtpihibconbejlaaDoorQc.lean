/-
  My texts Kv, Kw, Ks, Kq, Shf, Kf, Lat in one, so that a claim holds fewer files. Conditions: each contract's own.
-/
import Derived.Test.YtpihibconbejlaaDoorQb
import Derived.Shelf.Strings.OnBuilder
import Derived.Shelf.Strings.Search1
import Derived.Shelf.Strings.Search2
import Derived.Shelf.Strings.Search3
import Derived.Test.YtpihibconbejlaaDoorProg
import Derived.BigQuiet
namespace Go.Proofs.YtpihibconbejlaaDoor
open Go.RowKit
set_option linter.unusedVariables false

set_option maxHeartbeats 1000000 in
theorem spec_flag1 (f : Int) (w : World) : Calls Tryd.prog 102 #[.int .i64 f] w fun e w' => e = .returned (.bool (flag1 f)) ∧ w = w' := by
  have key : ∀ o, flag1 f = o → Calls Tryd.prog 102 #[.int .i64 f] w fun e w' => e = .returned (.bool o) ∧ w = w' := by
    intro o ho
    by_cases h1 : f = 1
    · subst h1; subst ho
      go_enter Tryd.func102, Tryd.ntmps102
      go_wp2
      go_ret
      exact ⟨rfl, rfl⟩
    · by_cases h2 : f = 2
      · subst h2; subst ho
        go_enter Tryd.func102, Tryd.ntmps102
        go_wp2
        go_ret
        exact ⟨rfl, rfl⟩
      · by_cases h4 : f = 4
        · subst h4; subst ho
          go_enter Tryd.func102, Tryd.ntmps102
          go_wp2
          go_ret
          exact ⟨rfl, rfl⟩
        · by_cases h8 : f = 8
          · subst h8; subst ho
            go_enter Tryd.func102, Tryd.ntmps102
            go_wp2
            go_ret
            exact ⟨rfl, rfl⟩
          · by_cases h16 : f = 16
            · subst h16; subst ho
              go_enter Tryd.func102, Tryd.ntmps102
              go_wp2
              go_ret
              exact ⟨rfl, rfl⟩
            · have e1 : (f == 1) = false := beq_eq_false_iff_ne.2 h1
              have e2 : (f == 2) = false := beq_eq_false_iff_ne.2 h2
              have e3 : (f == 4) = false := beq_eq_false_iff_ne.2 h4
              have e4 : (f == 8) = false := beq_eq_false_iff_ne.2 h8
              have e5 : (f == 16) = false := beq_eq_false_iff_ne.2 h16
              have hoo : o = false := by rw [← ho]; unfold flag1; rw [e1, e2, e3, e4, e5]; rfl
              subst hoo
              clear ho
              go_enter Tryd.func102, Tryd.ntmps102
              go_wp2
              go_ret
              exact ⟨rfl, rfl⟩
  exact key _ rfl

/-- t.size, as the walk asks it. -/
theorem txt_empty (t : ByteArray) : t.toList.isEmpty = (t.size == 0) := by
  rw [ByteArray.toList_eq]
  obtain ⟨⟨l⟩⟩ := t
  cases l <;> rfl

theorem intbeq (n m : Nat) : ((n : Int) == (m : Int)) = (n == m) := by
  by_cases h : n = m
  · subst h; simp
  · rw [beq_eq_false_iff_ne.2 h]; exact beq_eq_false_iff_ne.2 (by omega)
theorem below_newK (w : World) (o : Obj) : Below w.heap.size w (w.alloc o) := (Below.refl _ _).alloc (Nat.le_refl _) o
theorem spec_flag1_at {f : Int} {b : Bool} (h : flag1 f = b) (w : World) : Calls Tryd.prog 102 #[.int .i64 f] w fun e w' => e = .returned (.bool b) ∧ Below w.heap.size w w' := by
  subst h
  exact (spec_flag1 f w).mono fun e w' h => ⟨h.1, h.2 ▸ Below.refl _ _⟩
theorem spec_word_at {t : ByteArray} {b : Bool} (h : nameB t.data.toList = b) (w : World) (ht : t.size ≤ 16777216) : Calls Tryd.prog 103 #[.string t] w fun e w' => e = .returned (.bool b) ∧ Below w.heap.size w w' := by
  subst h
  go_enter Tryd.func103, Tryd.ntmps103
  go_wp2_with fail
  refine (spec_name t _ ht).mono ?_
  rintro e w2 ⟨rfl, rfl⟩
  go_wp2
  go_ret
  exact ⟨rfl, Below.refl _ _⟩
theorem spec_setvalid_k {A : Option Addr} {n cap : Nat} {L : List (Int × Int)} {o : Bool} (hn : L.length = n) (ho : setB L = o) (w : World) (h : SpA w A L) (hl : n ≤ 33554432) :
    Calls Tryd.prog 98 #[.slice A n cap] w fun e w' => e = .returned (.bool o) ∧ Below w.heap.size w w' := by
  subst hn
  subst ho
  exact (spec_setvalid A cap L w h hl).mono fun e w' h => ⟨h.1, h.2 ▸ Below.refl _ _⟩

set_option maxHeartbeats 2000000 in
theorem spec_node_0 (f : Int) (t : ByteArray) (S : List (Int × Int)) (AS : Option Addr) (nS cS : Nat) (AK : Option Addr) (nK cK : Nat) (w : World) (hS : S.length = nS) (hn : nS ≤ 33554432) (ht : t.size ≤ 16777216) (hsp : SpA w AS S) (o : Bool) (ho : nodeB 0 f t S nK = o) :
    Calls Tryd.prog 79 #[.agg #[.int .i64 (0 : Int), .int .i64 f, .string t, .slice AS nS cS, .slice AK nK cK]] w fun e w' => e = .returned (.bool o) ∧ Below w.heap.size w w' := by
  have HSP := Lib.hid hsp
  have HSL := Lib.hid hS
  clear hsp
  by_cases hf : f = 0
  · have hf1 : (f != 0) = false := by rw [hf]; rfl
    by_cases hz : t.size = 0
    · have hz1 : t.toList.isEmpty = true := by rw [txt_empty, hz]; rfl
      by_cases hs0 : nS = 0
      · have hs1 : decide (0 < nS) = false := decide_eq_false (by omega)
        have hs2 : ¬ 0 < nS := by omega
        have hs3 : ¬ (0 : Int) < (nS : Int) := by omega
        have hoo : ((nK : Int) == 0) = o := by
          rw [← ho]
          unfold nodeB
          simp [hf, hz, hs0, HSL.out]
          try exact intbeq _ _
        clear ho
        go_enter Tryd.func79, Tryd.ntmps79
        go_wp2
        go_ret
        exact ⟨rfl, below_newK _ _⟩
      · have hs1 : decide (0 < nS) = true := decide_eq_true (by omega)
        have hs2 : 0 < nS := by omega
        obtain rfl : o = false := by
          rw [← ho]
          unfold nodeB
          simp [hs0, HSL.out]
        clear ho
        go_enter Tryd.func79, Tryd.ntmps79
        go_wp2
        go_ret
        exact ⟨rfl, below_newK _ _⟩
    · have hz1 : t.toList.isEmpty = false := by rw [txt_empty]; exact beq_eq_false_iff_ne.2 hz
      obtain rfl : o = false := by
        rw [← ho]
        unfold nodeB
        simp [hz]
      clear ho
      go_enter Tryd.func79, Tryd.ntmps79
      go_wp2
      go_ret
      exact ⟨rfl, below_newK _ _⟩
  · have hf1 : (f != 0) = true := bne_iff_ne.2 hf
    obtain rfl : o = false := by
      rw [← ho]
      unfold nodeB
      simp [hf]
    clear ho
    go_enter Tryd.func79, Tryd.ntmps79
    go_wp2
    go_ret
    exact ⟨rfl, below_newK _ _⟩

set_option maxHeartbeats 2000000 in
theorem spec_node_1 (f : Int) (t : ByteArray) (S : List (Int × Int)) (AS : Option Addr) (nS cS : Nat) (AK : Option Addr) (nK cK : Nat) (w : World) (hS : S.length = nS) (hn : nS ≤ 33554432) (ht : t.size ≤ 16777216) (hsp : SpA w AS S) (o : Bool) (ho : nodeB 1 f t S nK = o) :
    Calls Tryd.prog 79 #[.agg #[.int .i64 (1 : Int), .int .i64 f, .string t, .slice AS nS cS, .slice AK nK cK]] w fun e w' => e = .returned (.bool o) ∧ Below w.heap.size w w' := by
  have HSP := Lib.hid hsp
  have HSL := Lib.hid hS
  clear hsp
  by_cases hz : t.size = 0
  · have hz1 : t.toList.isEmpty = true := by rw [txt_empty, hz]; rfl
    by_cases hs0 : nS = 0
    · have hs1 : decide (0 < nS) = false := decide_eq_false (by omega)
      have hs2 : ¬ 0 < nS := by omega
      have hs3 : ¬ (0 : Int) < (nS : Int) := by omega
      cases hg : flag1 f with
      | false =>
        obtain rfl : o = false := by
          rw [← ho]
          unfold nodeB
          simp [hg]
        have HG := Lib.hid hg
        clear ho hg
        go_enter Tryd.func79, Tryd.ntmps79
        go_wp2_with fail
        refine (spec_flag1_at HG.out _).mono ?_
        rintro e w2 ⟨rfl, hb⟩
        have HB2 := Lib.hid ((below_newK w _).trans (hb.mono (below_newK w _).size))
        have c4 := (hb.cell (p := ⟨w.heap.size, 4, none⟩) (by simp)).trans ((Whole.made w 26 _).cell 4)
        simp at c4
        clear hb
        go_wp2
        go_ret
        exact ⟨rfl, HB2.out⟩
      | true =>
        have hoo : ((nK : Int) == 0) = o := by
          rw [← ho]
          unfold nodeB
          simp [hg, hz, hs0, HSL.out]
          try exact intbeq _ _
        have HG := Lib.hid hg
        clear ho hg
        go_enter Tryd.func79, Tryd.ntmps79
        go_wp2_with fail
        refine (spec_flag1_at HG.out _).mono ?_
        rintro e w2 ⟨rfl, hb⟩
        have HB2 := Lib.hid ((below_newK w _).trans (hb.mono (below_newK w _).size))
        have c4 := (hb.cell (p := ⟨w.heap.size, 4, none⟩) (by simp)).trans ((Whole.made w 26 _).cell 4)
        simp at c4
        clear hb
        go_wp2
        go_ret
        exact ⟨rfl, HB2.out⟩
    · have hs1 : decide (0 < nS) = true := decide_eq_true (by omega)
      have hs2 : 0 < nS := by omega
      obtain rfl : o = false := by
        rw [← ho]
        unfold nodeB
        simp [hs0, HSL.out]
      clear ho
      go_enter Tryd.func79, Tryd.ntmps79
      go_wp2
      go_ret
      exact ⟨rfl, below_newK _ _⟩
  · have hz1 : t.toList.isEmpty = false := by rw [txt_empty]; exact beq_eq_false_iff_ne.2 hz
    obtain rfl : o = false := by
      rw [← ho]
      unfold nodeB
      simp [hz]
    clear ho
    go_enter Tryd.func79, Tryd.ntmps79
    go_wp2
    go_ret
    exact ⟨rfl, below_newK _ _⟩

set_option maxHeartbeats 2000000 in
theorem spec_node_2 (f : Int) (t : ByteArray) (S : List (Int × Int)) (AS : Option Addr) (nS cS : Nat) (AK : Option Addr) (nK cK : Nat) (w : World) (hS : S.length = nS) (hn : nS ≤ 33554432) (ht : t.size ≤ 16777216) (hsp : SpA w AS S) (o : Bool) (ho : nodeB 2 f t S nK = o) :
    Calls Tryd.prog 79 #[.agg #[.int .i64 (2 : Int), .int .i64 f, .string t, .slice AS nS cS, .slice AK nK cK]] w fun e w' => e = .returned (.bool o) ∧ Below w.heap.size w w' := by
  have HSP := Lib.hid hsp
  have HSL := Lib.hid hS
  clear hsp
  by_cases hf : f = 0
  · have hf1 : (f != 0) = false := by rw [hf]; rfl
    by_cases hs0 : nS = 0
    · have hs1 : decide (0 < nS) = false := decide_eq_false (by omega)
      have hs2 : ¬ 0 < nS := by omega
      have hs3 : ¬ (0 : Int) < (nS : Int) := by omega
      cases hg : nameB t.data.toList with
      | false =>
        obtain rfl : o = false := by
          rw [← ho]
          unfold nodeB
          simp [hg]
        have HG := Lib.hid hg
        clear ho hg
        go_enter Tryd.func79, Tryd.ntmps79
        go_wp2_with fail
        refine (spec_word_at HG.out _ ht).mono ?_
        rintro e w2 ⟨rfl, hb⟩
        have HB2 := Lib.hid ((below_newK w _).trans (hb.mono (below_newK w _).size))
        have c4 := (hb.cell (p := ⟨w.heap.size, 4, none⟩) (by simp)).trans ((Whole.made w 26 _).cell 4)
        simp at c4
        clear hb
        go_wp2
        go_ret
        exact ⟨rfl, HB2.out⟩
      | true =>
        have hoo : ((nK : Int) == 0) = o := by
          rw [← ho]
          unfold nodeB
          simp [hg, hf, hs0, HSL.out]
          try exact intbeq _ _
        have HG := Lib.hid hg
        clear ho hg
        go_enter Tryd.func79, Tryd.ntmps79
        go_wp2_with fail
        refine (spec_word_at HG.out _ ht).mono ?_
        rintro e w2 ⟨rfl, hb⟩
        have HB2 := Lib.hid ((below_newK w _).trans (hb.mono (below_newK w _).size))
        have c4 := (hb.cell (p := ⟨w.heap.size, 4, none⟩) (by simp)).trans ((Whole.made w 26 _).cell 4)
        simp at c4
        clear hb
        go_wp2
        go_ret
        exact ⟨rfl, HB2.out⟩
    · have hs1 : decide (0 < nS) = true := decide_eq_true (by omega)
      have hs2 : 0 < nS := by omega
      obtain rfl : o = false := by
        rw [← ho]
        unfold nodeB
        simp [hs0, HSL.out]
      clear ho
      go_enter Tryd.func79, Tryd.ntmps79
      go_wp2
      go_ret
      exact ⟨rfl, below_newK _ _⟩
  · have hf1 : (f != 0) = true := bne_iff_ne.2 hf
    obtain rfl : o = false := by
      rw [← ho]
      unfold nodeB
      simp [hf]
    clear ho
    go_enter Tryd.func79, Tryd.ntmps79
    go_wp2
    go_ret
    exact ⟨rfl, below_newK _ _⟩

set_option maxHeartbeats 2000000 in
theorem spec_node_3 (f : Int) (t : ByteArray) (S : List (Int × Int)) (AS : Option Addr) (nS cS : Nat) (AK : Option Addr) (nK cK : Nat) (w : World) (hS : S.length = nS) (hn : nS ≤ 33554432) (ht : t.size ≤ 16777216) (hsp : SpA w AS S) (o : Bool) (ho : nodeB 3 f t S nK = o) :
    Calls Tryd.prog 79 #[.agg #[.int .i64 (3 : Int), .int .i64 f, .string t, .slice AS nS cS, .slice AK nK cK]] w fun e w' => e = .returned (.bool o) ∧ Below w.heap.size w w' := by
  have HSP := Lib.hid hsp
  have HSL := Lib.hid hS
  clear hsp
  by_cases hf : f = 0
  · have hf1 : (f != 0) = false := by rw [hf]; rfl
    by_cases hz : t.size = 0
    · have hz1 : t.toList.isEmpty = true := by rw [txt_empty, hz]; rfl
      cases hg : setB S with
      | false =>
        obtain rfl : o = false := by
          rw [← ho]
          unfold nodeB
          simp [hg]
        have HG := Lib.hid hg
        clear ho hg
        go_enter Tryd.func79, Tryd.ntmps79
        go_wp2_with fail
        refine (spec_setvalid_k HSL.out HG.out _ (HSP.out.below (below_newK w _) (Nat.le_refl _)) hn).mono ?_
        rintro e w2 ⟨rfl, hb⟩
        have HB2 := Lib.hid ((below_newK w _).trans (hb.mono (below_newK w _).size))
        have c4 := (hb.cell (p := ⟨w.heap.size, 4, none⟩) (by simp)).trans ((Whole.made w 26 _).cell 4)
        simp at c4
        clear hb
        go_wp2
        go_ret
        exact ⟨rfl, HB2.out⟩
      | true =>
        have hoo : ((nK : Int) == 0) = o := by
          rw [← ho]
          unfold nodeB
          simp [hg, hf, hz]
          try exact intbeq _ _
        have HG := Lib.hid hg
        clear ho hg
        go_enter Tryd.func79, Tryd.ntmps79
        go_wp2_with fail
        refine (spec_setvalid_k HSL.out HG.out _ (HSP.out.below (below_newK w _) (Nat.le_refl _)) hn).mono ?_
        rintro e w2 ⟨rfl, hb⟩
        have HB2 := Lib.hid ((below_newK w _).trans (hb.mono (below_newK w _).size))
        have c4 := (hb.cell (p := ⟨w.heap.size, 4, none⟩) (by simp)).trans ((Whole.made w 26 _).cell 4)
        simp at c4
        clear hb
        go_wp2
        go_ret
        exact ⟨rfl, HB2.out⟩
    · have hz1 : t.toList.isEmpty = false := by rw [txt_empty]; exact beq_eq_false_iff_ne.2 hz
      obtain rfl : o = false := by
        rw [← ho]
        unfold nodeB
        simp [hz]
      clear ho
      go_enter Tryd.func79, Tryd.ntmps79
      go_wp2
      go_ret
      exact ⟨rfl, below_newK _ _⟩
  · have hf1 : (f != 0) = true := bne_iff_ne.2 hf
    obtain rfl : o = false := by
      rw [← ho]
      unfold nodeB
      simp [hf]
    clear ho
    go_enter Tryd.func79, Tryd.ntmps79
    go_wp2
    go_ret
    exact ⟨rfl, below_newK _ _⟩

set_option maxHeartbeats 2000000 in
theorem spec_node_4 (f : Int) (t : ByteArray) (S : List (Int × Int)) (AS : Option Addr) (nS cS : Nat) (AK : Option Addr) (nK cK : Nat) (w : World) (hS : S.length = nS) (hn : nS ≤ 33554432) (ht : t.size ≤ 16777216) (hsp : SpA w AS S) (o : Bool) (ho : nodeB 4 f t S nK = o) :
    Calls Tryd.prog 79 #[.agg #[.int .i64 (4 : Int), .int .i64 f, .string t, .slice AS nS cS, .slice AK nK cK]] w fun e w' => e = .returned (.bool o) ∧ Below w.heap.size w w' := by
  have HSP := Lib.hid hsp
  have HSL := Lib.hid hS
  clear hsp
  by_cases hf : f = 0
  · have hf1 : (f != 0) = false := by rw [hf]; rfl
    by_cases hz : t.size = 0
    · have hz1 : t.toList.isEmpty = true := by rw [txt_empty, hz]; rfl
      cases hg : setB S with
      | false =>
        obtain rfl : o = false := by
          rw [← ho]
          unfold nodeB
          simp [hg]
        have HG := Lib.hid hg
        clear ho hg
        go_enter Tryd.func79, Tryd.ntmps79
        go_wp2_with fail
        refine (spec_setvalid_k HSL.out HG.out _ (HSP.out.below (below_newK w _) (Nat.le_refl _)) hn).mono ?_
        rintro e w2 ⟨rfl, hb⟩
        have HB2 := Lib.hid ((below_newK w _).trans (hb.mono (below_newK w _).size))
        have c4 := (hb.cell (p := ⟨w.heap.size, 4, none⟩) (by simp)).trans ((Whole.made w 26 _).cell 4)
        simp at c4
        clear hb
        go_wp2
        go_ret
        exact ⟨rfl, HB2.out⟩
      | true =>
        have hoo : ((nK : Int) == 0) = o := by
          rw [← ho]
          unfold nodeB
          simp [hg, hf, hz]
          try exact intbeq _ _
        have HG := Lib.hid hg
        clear ho hg
        go_enter Tryd.func79, Tryd.ntmps79
        go_wp2_with fail
        refine (spec_setvalid_k HSL.out HG.out _ (HSP.out.below (below_newK w _) (Nat.le_refl _)) hn).mono ?_
        rintro e w2 ⟨rfl, hb⟩
        have HB2 := Lib.hid ((below_newK w _).trans (hb.mono (below_newK w _).size))
        have c4 := (hb.cell (p := ⟨w.heap.size, 4, none⟩) (by simp)).trans ((Whole.made w 26 _).cell 4)
        simp at c4
        clear hb
        go_wp2
        go_ret
        exact ⟨rfl, HB2.out⟩
    · have hz1 : t.toList.isEmpty = false := by rw [txt_empty]; exact beq_eq_false_iff_ne.2 hz
      obtain rfl : o = false := by
        rw [← ho]
        unfold nodeB
        simp [hz]
      clear ho
      go_enter Tryd.func79, Tryd.ntmps79
      go_wp2
      go_ret
      exact ⟨rfl, below_newK _ _⟩
  · have hf1 : (f != 0) = true := bne_iff_ne.2 hf
    obtain rfl : o = false := by
      rw [← ho]
      unfold nodeB
      simp [hf]
    clear ho
    go_enter Tryd.func79, Tryd.ntmps79
    go_wp2
    go_ret
    exact ⟨rfl, below_newK _ _⟩

set_option maxHeartbeats 2000000 in
theorem spec_node_5 (f : Int) (t : ByteArray) (S : List (Int × Int)) (AS : Option Addr) (nS cS : Nat) (AK : Option Addr) (nK cK : Nat) (w : World) (hS : S.length = nS) (hn : nS ≤ 33554432) (ht : t.size ≤ 16777216) (hsp : SpA w AS S) (o : Bool) (ho : nodeB 5 f t S nK = o) :
    Calls Tryd.prog 79 #[.agg #[.int .i64 (5 : Int), .int .i64 f, .string t, .slice AS nS cS, .slice AK nK cK]] w fun e w' => e = .returned (.bool o) ∧ Below w.heap.size w w' := by
  have HSP := Lib.hid hsp
  have HSL := Lib.hid hS
  clear hsp
  by_cases hf : f = 0
  · have hf1 : (f != 0) = false := by rw [hf]; rfl
    by_cases hz : t.size = 0
    · have hz1 : t.toList.isEmpty = true := by rw [txt_empty, hz]; rfl
      by_cases hs0 : nS = 0
      · have hs1 : decide (0 < nS) = false := decide_eq_false (by omega)
        have hs2 : ¬ 0 < nS := by omega
        have hs3 : ¬ (0 : Int) < (nS : Int) := by omega
        have hoo : ((nK : Int) == 1) = o := by
          rw [← ho]
          unfold nodeB
          simp [hf, hz, hs0, HSL.out]
          try exact intbeq _ _
        clear ho
        go_enter Tryd.func79, Tryd.ntmps79
        go_wp2
        go_ret
        exact ⟨rfl, below_newK _ _⟩
      · have hs1 : decide (0 < nS) = true := decide_eq_true (by omega)
        have hs2 : 0 < nS := by omega
        obtain rfl : o = false := by
          rw [← ho]
          unfold nodeB
          simp [hs0, HSL.out]
        clear ho
        go_enter Tryd.func79, Tryd.ntmps79
        go_wp2
        go_ret
        exact ⟨rfl, below_newK _ _⟩
    · have hz1 : t.toList.isEmpty = false := by rw [txt_empty]; exact beq_eq_false_iff_ne.2 hz
      obtain rfl : o = false := by
        rw [← ho]
        unfold nodeB
        simp [hz]
      clear ho
      go_enter Tryd.func79, Tryd.ntmps79
      go_wp2
      go_ret
      exact ⟨rfl, below_newK _ _⟩
  · have hf1 : (f != 0) = true := bne_iff_ne.2 hf
    obtain rfl : o = false := by
      rw [← ho]
      unfold nodeB
      simp [hf]
    clear ho
    go_enter Tryd.func79, Tryd.ntmps79
    go_wp2
    go_ret
    exact ⟨rfl, below_newK _ _⟩

set_option maxHeartbeats 2000000 in
theorem spec_node_6 (f : Int) (t : ByteArray) (S : List (Int × Int)) (AS : Option Addr) (nS cS : Nat) (AK : Option Addr) (nK cK : Nat) (w : World) (hS : S.length = nS) (hn : nS ≤ 33554432) (ht : t.size ≤ 16777216) (hsp : SpA w AS S) (o : Bool) (ho : nodeB 6 f t S nK = o) :
    Calls Tryd.prog 79 #[.agg #[.int .i64 (6 : Int), .int .i64 f, .string t, .slice AS nS cS, .slice AK nK cK]] w fun e w' => e = .returned (.bool o) ∧ Below w.heap.size w w' := by
  have HSP := Lib.hid hsp
  have HSL := Lib.hid hS
  clear hsp
  by_cases hf : f = 0
  · have hf1 : (f != 0) = false := by rw [hf]; rfl
    by_cases hz : t.size = 0
    · have hz1 : t.toList.isEmpty = true := by rw [txt_empty, hz]; rfl
      by_cases hs0 : nS = 0
      · have hs1 : decide (0 < nS) = false := decide_eq_false (by omega)
        have hs2 : ¬ 0 < nS := by omega
        have hs3 : ¬ (0 : Int) < (nS : Int) := by omega
        have hoo : ((nK : Int) == 2) = o := by
          rw [← ho]
          unfold nodeB
          simp [hf, hz, hs0, HSL.out]
          try exact intbeq _ _
        clear ho
        go_enter Tryd.func79, Tryd.ntmps79
        go_wp2
        go_ret
        exact ⟨rfl, below_newK _ _⟩
      · have hs1 : decide (0 < nS) = true := decide_eq_true (by omega)
        have hs2 : 0 < nS := by omega
        obtain rfl : o = false := by
          rw [← ho]
          unfold nodeB
          simp [hs0, HSL.out]
        clear ho
        go_enter Tryd.func79, Tryd.ntmps79
        go_wp2
        go_ret
        exact ⟨rfl, below_newK _ _⟩
    · have hz1 : t.toList.isEmpty = false := by rw [txt_empty]; exact beq_eq_false_iff_ne.2 hz
      obtain rfl : o = false := by
        rw [← ho]
        unfold nodeB
        simp [hz]
      clear ho
      go_enter Tryd.func79, Tryd.ntmps79
      go_wp2
      go_ret
      exact ⟨rfl, below_newK _ _⟩
  · have hf1 : (f != 0) = true := bne_iff_ne.2 hf
    obtain rfl : o = false := by
      rw [← ho]
      unfold nodeB
      simp [hf]
    clear ho
    go_enter Tryd.func79, Tryd.ntmps79
    go_wp2
    go_ret
    exact ⟨rfl, below_newK _ _⟩

set_option maxHeartbeats 2000000 in
theorem spec_node_7 (f : Int) (t : ByteArray) (S : List (Int × Int)) (AS : Option Addr) (nS cS : Nat) (AK : Option Addr) (nK cK : Nat) (w : World) (hS : S.length = nS) (hn : nS ≤ 33554432) (ht : t.size ≤ 16777216) (hsp : SpA w AS S) (o : Bool) (ho : nodeB 7 f t S nK = o) :
    Calls Tryd.prog 79 #[.agg #[.int .i64 (7 : Int), .int .i64 f, .string t, .slice AS nS cS, .slice AK nK cK]] w fun e w' => e = .returned (.bool o) ∧ Below w.heap.size w w' := by
  have HSP := Lib.hid hsp
  have HSL := Lib.hid hS
  clear hsp
  by_cases hf : f = 0
  · have hf1 : (f != 0) = false := by rw [hf]; rfl
    by_cases hz : t.size = 0
    · have hz1 : t.toList.isEmpty = true := by rw [txt_empty, hz]; rfl
      by_cases hs0 : nS = 0
      · have hs1 : decide (0 < nS) = false := decide_eq_false (by omega)
        have hs2 : ¬ 0 < nS := by omega
        have hs3 : ¬ (0 : Int) < (nS : Int) := by omega
        have hoo : ((nK : Int) == 2) = o := by
          rw [← ho]
          unfold nodeB
          simp [hf, hz, hs0, HSL.out]
          try exact intbeq _ _
        clear ho
        go_enter Tryd.func79, Tryd.ntmps79
        go_wp2
        go_ret
        exact ⟨rfl, below_newK _ _⟩
      · have hs1 : decide (0 < nS) = true := decide_eq_true (by omega)
        have hs2 : 0 < nS := by omega
        obtain rfl : o = false := by
          rw [← ho]
          unfold nodeB
          simp [hs0, HSL.out]
        clear ho
        go_enter Tryd.func79, Tryd.ntmps79
        go_wp2
        go_ret
        exact ⟨rfl, below_newK _ _⟩
    · have hz1 : t.toList.isEmpty = false := by rw [txt_empty]; exact beq_eq_false_iff_ne.2 hz
      obtain rfl : o = false := by
        rw [← ho]
        unfold nodeB
        simp [hz]
      clear ho
      go_enter Tryd.func79, Tryd.ntmps79
      go_wp2
      go_ret
      exact ⟨rfl, below_newK _ _⟩
  · have hf1 : (f != 0) = true := bne_iff_ne.2 hf
    obtain rfl : o = false := by
      rw [← ho]
      unfold nodeB
      simp [hf]
    clear ho
    go_enter Tryd.func79, Tryd.ntmps79
    go_wp2
    go_ret
    exact ⟨rfl, below_newK _ _⟩

set_option maxHeartbeats 2000000 in
theorem spec_node_o (kd : Int) (hk : ∀ c : Int, 0 ≤ c → c ≤ 7 → (kd == c) = false) (f : Int) (t : ByteArray) (S : List (Int × Int)) (AS : Option Addr) (nS cS : Nat) (AK : Option Addr) (nK cK : Nat) (w : World) (hS : S.length = nS) (hn : nS ≤ 33554432) (ht : t.size ≤ 16777216) (hsp : SpA w AS S) (o : Bool) (ho : nodeB kd f t S nK = o) :
    Calls Tryd.prog 79 #[.agg #[.int .i64 kd, .int .i64 f, .string t, .slice AS nS cS, .slice AK nK cK]] w fun e w' => e = .returned (.bool o) ∧ Below w.heap.size w w' := by
  have HSP := Lib.hid hsp
  have HSL := Lib.hid hS
  clear hsp
  have hk0 : (kd == 0) = false := hk 0 (by decide) (by decide)
  have hm0 : (kd != 0) = true := by show (!(kd == 0)) = true; rw [hk0]; rfl
  have hk1 : (kd == 1) = false := hk 1 (by decide) (by decide)
  have hm1 : (kd != 1) = true := by show (!(kd == 1)) = true; rw [hk1]; rfl
  have hk2 : (kd == 2) = false := hk 2 (by decide) (by decide)
  have hm2 : (kd != 2) = true := by show (!(kd == 2)) = true; rw [hk2]; rfl
  have hk3 : (kd == 3) = false := hk 3 (by decide) (by decide)
  have hm3 : (kd != 3) = true := by show (!(kd == 3)) = true; rw [hk3]; rfl
  have hk4 : (kd == 4) = false := hk 4 (by decide) (by decide)
  have hm4 : (kd != 4) = true := by show (!(kd == 4)) = true; rw [hk4]; rfl
  have hk5 : (kd == 5) = false := hk 5 (by decide) (by decide)
  have hm5 : (kd != 5) = true := by show (!(kd == 5)) = true; rw [hk5]; rfl
  have hk6 : (kd == 6) = false := hk 6 (by decide) (by decide)
  have hm6 : (kd != 6) = true := by show (!(kd == 6)) = true; rw [hk6]; rfl
  have hk7 : (kd == 7) = false := hk 7 (by decide) (by decide)
  have hm7 : (kd != 7) = true := by show (!(kd == 7)) = true; rw [hk7]; rfl
  have hkk : nodeB kd f t S nK = false := by
    have hne : ∀ c : Int, (kd == c) = false → ¬ kd = c := fun c h e => by simp [e] at h
    unfold nodeB
    simp [hne 0 hk0, hne 1 hk1, hne 2 hk2, hne 3 hk3, hne 4 hk4, hne 5 hk5, hne 6 hk6, hne 7 hk7]
  obtain rfl : o = false := by rw [← ho]; exact hkk
  clear ho hkk hk
  by_cases hf : f = 0
  · have hf1 : (f != 0) = false := by rw [hf]; rfl
    by_cases hz : t.size = 0
    · have hz1 : t.toList.isEmpty = true := by rw [txt_empty, hz]; rfl
      by_cases hs0 : nS = 0
      · have hs1 : decide (0 < nS) = false := decide_eq_false (by omega)
        have hs2 : ¬ 0 < nS := by omega
        have hs3 : ¬ (0 : Int) < (nS : Int) := by omega
        go_enter Tryd.func79, Tryd.ntmps79
        go_wp2
        go_ret
        exact ⟨rfl, below_newK _ _⟩
      · have hs1 : decide (0 < nS) = true := decide_eq_true (by omega)
        have hs2 : 0 < nS := by omega
        go_enter Tryd.func79, Tryd.ntmps79
        go_wp2
        go_ret
        exact ⟨rfl, below_newK _ _⟩
    · have hz1 : t.toList.isEmpty = false := by rw [txt_empty]; exact beq_eq_false_iff_ne.2 hz
      go_enter Tryd.func79, Tryd.ntmps79
      go_wp2
      go_ret
      exact ⟨rfl, below_newK _ _⟩
  · have hf1 : (f != 0) = true := bne_iff_ne.2 hf
    go_enter Tryd.func79, Tryd.ntmps79
    go_wp2
    go_ret
    exact ⟨rfl, below_newK _ _⟩

end Go.Proofs.YtpihibconbejlaaDoor
namespace Go.Proofs.YtpihibconbejlaaDoor
open Go.RowKit
set_option linter.unusedVariables false

theorem spec_node_at {kd f : Int} {t : ByteArray} {S : List (Int × Int)} {ks : List KT} {v : Value} {w : World} {o : Bool} (h : KV w (.mk kd f t S ks) v) (ho : nodeB kd f t S ks.length = o) :
    Calls Tryd.prog 79 #[v] w fun e w' => e = .returned (.bool o) ∧ Below w.heap.size w w' := by
  obtain ⟨AS, nS, cS, AK, nK, cK, rfl, h2, h3, h4, h5, h6, h7⟩ := h.open
  rw [h6] at ho
  by_cases k0 : kd = 0
  · subst k0; exact spec_node_0 f t S AS nS cS AK nK cK w h2 h3 h4 h5 o ho
  by_cases k1 : kd = 1
  · subst k1; exact spec_node_1 f t S AS nS cS AK nK cK w h2 h3 h4 h5 o ho
  by_cases k2 : kd = 2
  · subst k2; exact spec_node_2 f t S AS nS cS AK nK cK w h2 h3 h4 h5 o ho
  by_cases k3 : kd = 3
  · subst k3; exact spec_node_3 f t S AS nS cS AK nK cK w h2 h3 h4 h5 o ho
  by_cases k4 : kd = 4
  · subst k4; exact spec_node_4 f t S AS nS cS AK nK cK w h2 h3 h4 h5 o ho
  by_cases k5 : kd = 5
  · subst k5; exact spec_node_5 f t S AS nS cS AK nK cK w h2 h3 h4 h5 o ho
  by_cases k6 : kd = 6
  · subst k6; exact spec_node_6 f t S AS nS cS AK nK cK w h2 h3 h4 h5 o ho
  by_cases k7 : kd = 7
  · subst k7; exact spec_node_7 f t S AS nS cS AK nK cK w h2 h3 h4 h5 o ho
  · exact spec_node_o kd (fun c h0 h1 => beq_eq_false_iff_ne.2 (by omega)) f t S AS nS cS AK nK cK w h2 h3 h4 h5 o ho
set_option maxHeartbeats 2000000 in
theorem spec_all_n : ∀ (n : Nat) (k : KT) (v : Value) (w : World), nodesT k ≤ n → n ≤ 4000000 → KV w k v →
    Calls Tryd.prog 49 #[v] w fun e w' => e = .returned (.bool (allT k)) ∧ Below w.heap.size w w'
  | 0, k, v, w, hn, _, _ => by have := nodesT_pos k; omega
  | n + 1, .mk kd f t S ks, v, w, hn, hm, h => by
    have ih := fun (k' : KT) (v' : Value) (w1 : World) (h1 : nodesT k' ≤ n) (h2 : KV w1 k' v') => spec_all_n n k' v' w1 h1 (by omega) h2
    have H0 := Lib.hid h
    obtain ⟨AS, nS, cS, AK, nK, cK, rfl, h2, h3, h4, h5, h6, h7⟩ := h.open
    have hT : nodesT (.mk kd f t S ks) = nodesL ks + 1 := by rw [nodesT]
    rw [hT] at hn
    have hA : allT (.mk kd f t S ks) = (allL ks && nodeB kd f t S ks.length) := by rw [allT]
    rw [hA]
    have hln := nodesL_len ks
    have HKS := Lib.hid h7
    have HN6 := Lib.hid h6
    have HNN := Lib.hid hn
    have hnK : nK ≤ 4000000 := by omega
    obtain ⟨B, hB⟩ : ∃ B, w.heap.size = B := ⟨_, rfl⟩
    have HBB := Lib.hid hB
    have HW0 := Lib.hid (hB ▸ Whole.made w 26 #[.int .i64 kd, .int .i64 f, .string t, .slice AS nS cS, .slice AK nK cK])
    have HB0 : Hid (Below B w (w.alloc (.cells #[.int .i64 kd, .int .i64 f, .string t, .slice AS nS cS, .slice AK nK cK] 26))) := (Below.refl _ _).alloc (Nat.le_of_eq hB.symm) _
    have HIH := Lib.hid ih
    obtain ⟨o, ho⟩ : ∃ o, (allL ks && nodeB kd f t S ks.length) = o := ⟨_, rfl⟩
    have HO := Lib.hid ho
    rw [ho]
    clear h h2 h3 h4 h5 h6 h7 hT hA hn hln hm ih ho
    have z4 := HW0.out.cell 4
    simp at z4
    go_enter Tryd.func49, Tryd.ntmps49
    go_wp2
    clear z4
    go_loopw [3] (fun iv wr => ∃ (i : Nat), i ≤ nK ∧ iv = .int .i64 (i : Int) ∧ Hid (allL (ks.take i) = true) ∧ Hid (Below B w wr) ∧ Hid (Whole wr B 26 #[.int .i64 kd, .int .i64 f, .string t, .slice AS nS cS, .slice AK nK cK])) (fun iv _ => nK - (intOf iv).toNat)
    case atStart => exact ⟨0, Nat.zero_le _, by go_num, rfl, HB0, HW0⟩
    case round =>
      obtain ⟨i, hi, rfl, HL, HB, HW⟩ := hrel
      have z0 := HW.out.cell 0
      have z1 := HW.out.cell 1
      have z2 := HW.out.cell 2
      have z3 := HW.out.cell 3
      have z4 := HW.out.cell 4
      simp at z0 z1 z2 z3 z4
      by_cases hlt : i < nK
      · have h0 : (0 : Int) ≤ (i : Int) := by omega
        have h5 : (i : Int) < (nK : Int) := by omega
        obtain ⟨k, hk⟩ : ∃ k, ks[i]? = some k := ⟨_, List.getElem?_eq_getElem (by rw [HN6.out]; exact hlt)⟩
        obtain ⟨b, o', v0, v1, v2, v3, v4, rfl, hbz, c0, c1, c2, c3, c4, hkv⟩ := (KVs.below HB.out (Nat.le_of_eq HBB.out) AK 0 ks HKS.out).get hk
        rw [Nat.zero_add] at c0 c1 c2 c3 c4
        have hnl := nodesL_lt hk
        have hnn := HNN.out
        have HK := Lib.hid hk
        have HC := Lib.hid (HIH.out k (.agg #[v0, v1, v2, v3, v4]) wr (by omega) hkv)
        have HSZ := Lib.hid HB.out.size
        cases ha : allT k with
        | false =>
          have hof : o = false := by rw [← HO.out, allL_no hk ha]; rfl
          subst hof
          rw [ha] at HC
          clear hk hkv hnl hnn ha
          go_wp2_with fail
          refine HC.out.mono ?_
          rintro e w2 ⟨rfl, hb⟩
          have HB2 := Lib.hid (HB.out.trans (hb.mono (HBB.out ▸ HSZ.out)))
          clear hb
          go_wp2
          go_ret
          exact ⟨rfl, HBB.out ▸ HB2.out⟩
        | true =>
          have HT : Hid (allL (ks.take (i + 1)) = true) := by show _ = _; rw [allL_take hk, ha, HL.out]; rfl
          rw [ha] at HC
          clear hk hkv hnl hnn ha
          go_wp2_with fail
          refine HC.out.mono ?_
          rintro e w2 ⟨rfl, hb⟩
          have HB2 := Lib.hid (HB.out.trans (hb.mono (HBB.out ▸ HSZ.out)))
          have HW2 := Lib.hid (HW.out.below hb HW.out.lt)
          clear hb
          go_wp2
          go_roundw
          case rel => exact ⟨i + 1, by omega, by go_num, HT, HB2, HW2⟩
          case measure => simp [intOf]; omega
      · have h5 : ¬ (i : Int) < (nK : Int) := by omega
        have hoo : nodeB kd f t S ks.length = o := by
          have h1 := HL.out
          rw [List.take_of_length_le (by rw [HN6.out]; omega)] at h1
          rw [← HO.out, h1]
          rfl
        have HOO := Lib.hid hoo
        have HKV := Lib.hid (KV.below HB.out (Nat.le_of_eq HBB.out) _ _ H0.out)
        have HSZ := Lib.hid HB.out.size
        clear hoo
        go_wp2_with fail
        refine (spec_node_at HKV.out HOO.out).mono ?_
        rintro e w2 ⟨rfl, hb⟩
        have HB2 := Lib.hid (HB.out.trans (hb.mono (HBB.out ▸ HSZ.out)))
        clear hb
        go_wp2
        go_ret
        exact ⟨rfl, HBB.out ▸ HB2.out⟩
/-- The model's KeyValid. -/
theorem spec_key {k : KT} {v : Value} {w : World} {o : Bool} (h : KV w k v) (hn : nodesT k ≤ 4000000) (ho : keyB k = o) : Calls Tryd.prog 26 #[v] w fun e w' => e = .returned (.bool o) ∧ Below w.heap.size w w' := by
  obtain ⟨kd, f, t, S, ks⟩ := k
  have H0 := Lib.hid h
  obtain ⟨AS, nS, cS, AK, nK, cK, rfl, h2, h3, h4, h5, h6, h7⟩ := h.open
  obtain ⟨B, hB⟩ : ∃ B, w.heap.size = B := ⟨_, rfl⟩
  have HBB := Lib.hid hB
  obtain ⟨w1, hw1⟩ : ∃ w1, w.alloc (.cells #[.int .i64 kd, .int .i64 f, .string t, .slice AS nS cS, .slice AK nK cK] 26) = w1 := ⟨_, rfl⟩
  have HW0 : Hid (Whole w1 B 26 #[.int .i64 kd, .int .i64 f, .string t, .slice AS nS cS, .slice AK nK cK]) := by rw [← hw1, ← hB]; exact Whole.made w 26 _
  have HB0 : Hid (Below B w w1) := by rw [← hw1]; exact (Below.refl _ _).alloc (Nat.le_of_eq hB.symm) _
  have HK1 := Lib.hid (KV.below HB0.out (Nat.le_of_eq hB) _ _ H0.out)
  obtain ⟨a, ha⟩ : ∃ a, allT (.mk kd f t S ks) = a := ⟨_, rfl⟩
  obtain ⟨m, hm⟩ : ∃ m, nodesT (.mk kd f t S ks) = m := ⟨_, rfl⟩
  have HC := Lib.hid (spec_all_n 4000000 _ _ w1 hn (Nat.le_refl _) HK1.out)
  rw [ha] at HC
  have hm9 : m ≤ 4000000 := by rw [← hm]; exact hn
  have HM := Lib.hid hm
  have HA := Lib.hid ha
  have HO := Lib.hid ho
  have z0 := HW0.out.cell 0
  have z1 := HW0.out.cell 1
  have z2 := HW0.out.cell 2
  have z3 := HW0.out.cell 3
  have z4 := HW0.out.cell 4
  simp at z0 z1 z2 z3 z4
  clear h h2 h3 h4 h5 h6 h7 hn ho ha hm
  cases a with
  | false =>
    have hoo : o = false := by rw [← HO.out]; unfold keyB; rw [HA.out]; rfl
    subst hoo
    go_enter Tryd.func26, Tryd.ntmps26
    go_wp2_with fail
    refine HC.out.mono ?_
    rintro e w2 ⟨rfl, hb⟩
    have HB2 := Lib.hid (HB0.out.trans (hb.mono (HBB.out ▸ HB0.out.size)))
    clear hb
    go_wp2
    go_ret
    exact ⟨rfl, HBB.out ▸ HB2.out⟩
  | true =>
    have hoo : decide ((m : Int) ≤ 9) = o := by
      rw [← HO.out]
      unfold keyB
      rw [HA.out, HM.out, Bool.true_and]
      by_cases h9 : m ≤ 9
      · rw [decide_eq_true h9]; exact decide_eq_true (by omega)
      · rw [decide_eq_false h9]; exact decide_eq_false (by omega)
    have hoo2 : decide (m ≤ 9) = o := by
      rw [← hoo]
      by_cases h9 : m ≤ 9
      · rw [decide_eq_true h9]; exact (decide_eq_true (by omega)).symm
      · rw [decide_eq_false h9]; exact (decide_eq_false (by omega)).symm
    go_enter Tryd.func26, Tryd.ntmps26
    go_wp2_with fail
    refine HC.out.mono ?_
    rintro e w2 ⟨rfl, hb⟩
    have HB2 := Lib.hid (HB0.out.trans (hb.mono (HBB.out ▸ HB0.out.size)))
    have HW2 := Lib.hid (HW0.out.below hb HW0.out.lt)
    have HK2 := Lib.hid (KV.below hb (Nat.le_refl _) _ _ HK1.out)
    have HC2 := Lib.hid (spec_nodes_n 4000000 _ _ w2 (by rw [HM.out]; exact hm9) (Nat.le_refl _) HK2.out)
    rw [HM.out] at HC2
    clear hb z0 z1 z2 z3 z4
    have y0 := HW2.out.cell 0
    have y1 := HW2.out.cell 1
    have y2 := HW2.out.cell 2
    have y3 := HW2.out.cell 3
    have y4 := HW2.out.cell 4
    simp at y0 y1 y2 y3 y4
    go_wp2_with fail
    refine HC2.out.mono ?_
    rintro e w3 ⟨rfl, hb⟩
    have HB3 := Lib.hid (HB2.out.trans (hb.mono (HBB.out ▸ HB2.out.size)))
    clear hb
    go_wp2
    go_ret
    exact ⟨rfl, HBB.out ▸ HB3.out⟩
end Go.Proofs.YtpihibconbejlaaDoor
namespace Go.Proofs.YtpihibconbejlaaDoor
open Go.RowKit
set_option linter.unusedVariables false

/-- What the table of shapes holds. -/
def shapes : List Value := [.bool false, .bool false, .bool false, .int .i64 0, .bool true, .bool false, .bool false, .int .i64 0, .bool false, .bool true, .bool false, .int .i64 0, .bool false, .bool false, .bool true, .int .i64 0, .bool false, .bool false, .bool true, .int .i64 0, .bool false, .bool false, .bool false, .int .i64 1, .bool false, .bool false, .bool false, .int .i64 2, .bool false, .bool false, .bool false, .int .i64 2]
def Shp (w : World) : Prop := 0 < w.heap.size ∧ ∀ k, k < 32 → w.cell? ⟨0, k, none⟩ = shapes[k]?
theorem Shp.below {w w' : World} {B : Nat} (h : Shp w) (hb : Below B w w') (hB : w.heap.size ≤ B) : Shp w' :=
  ⟨Nat.lt_of_lt_of_le h.1 hb.size, fun k hk => (hb.cell (p := ⟨0, k, none⟩) (by have := h.1; simp; omega)).trans (h.2 k hk)⟩
/-- The fields that a node has are those of its kind. -/
def shapeB (kd f : Int) (t : ByteArray) (nS nK : Nat) : Bool :=
  if kd = 0 then f == 0 && t.size == 0 && nS == 0 && nK == 0
  else if kd = 1 then !(f == 0) && t.size == 0 && nS == 0 && nK == 0
  else if kd = 2 then f == 0 && !(t.size == 0) && nS == 0 && nK == 0
  else if kd = 3 ∨ kd = 4 then f == 0 && t.size == 0 && !(nS == 0) && nK == 0
  else if kd = 5 then f == 0 && t.size == 0 && nS == 0 && nK == 1
  else if kd = 6 ∨ kd = 7 then f == 0 && t.size == 0 && nS == 0 && nK == 2
  else false
set_option maxHeartbeats 1000000 in
theorem impl_spend (g m : Nat) (w : World) (h : Whole w g 72 #[.int .i64 (m : Int)]) (hm : m ≤ 9) :
    Calls Tryd.prog 75 #[.pointer (some ⟨g, 0, none⟩)] w fun e w' => e = .returned (.bool (decide (0 < m))) ∧ Whole w' g 72 #[.int .i64 ((m - 1 : Nat) : Int)] ∧ w.grownBy w' (some g) := by
  have H := Lib.hid h
  have c0 := h.cell 0
  simp at c0
  have f0 := h.free 0
  by_cases hz : m = 0
  · subst hz
    clear h
    go_enter Tryd.func75, Tryd.ntmps75
    go_wp2
    go_ret
    exact ⟨rfl, H.out, gr_refl _ _⟩
  · obtain ⟨q, rfl⟩ : ∃ q, m = q + 1 := ⟨m - 1, by omega⟩
    obtain ⟨p, hp⟩ : ∃ p, q + 1 = p := ⟨_, rfl⟩
    have hne : ((p : Int) == 0) = false := beq_eq_false_iff_ne.2 (by omega)
    have E1 : (p : Int) - 1 = (q : Int) := by omega
    have W1 : IntKind.i64.wrap ((p : Int) - 1) = (q : Int) := (IntWalk.i64_in _ (by omega)).trans E1
    have hd : decide (0 < q + 1) = true := decide_eq_true (by omega)
    rw [hd, Nat.add_sub_cancel]
    rw [hp] at c0 H hm
    have HS := Lib.hid (H.out.store 0 (.int .i64 (q : Int)))
    have HG : Hid (w.grownBy (w.setCell ⟨g, 0, none⟩ (.int .i64 (q : Int))) (some g)) := ⟨rfl, rfl, rfl, by simp [World.setCell], fun k hk hn => Below.heap_setCell w _ _ k (fun e => hn (by rw [e]))⟩
    clear h hz hp hd
    go_enter Tryd.func75, Tryd.ntmps75
    go_wp2
    go_ret
    exact ⟨rfl, HS.out, HG.out⟩

set_option maxHeartbeats 2000000 in
theorem impl_shape_0 (f : Int) (t : ByteArray) (AS : Option Addr) (nS cS : Nat) (AK : Option Addr) (nK cK : Nat) (w : World) (hw : Shp w) (o : Bool) (ho : shapeB 0 f t nS nK = o) :
    Calls Tryd.prog 95 #[.agg #[.int .i64 (0 : Int), .int .i64 f, .string t, .slice AS nS cS, .slice AK nK cK]] w fun e w' => e = .returned (.bool o) ∧ Below w.heap.size w w' := by
  have sz : 0 < w.heap.size := hw.1
  have s0 : w.cell? ⟨0, 0, none⟩ = some (.bool false) := hw.2 0 (by decide)
  have s1 : w.cell? ⟨0, 1, none⟩ = some (.bool false) := hw.2 1 (by decide)
  have s2 : w.cell? ⟨0, 2, none⟩ = some (.bool false) := hw.2 2 (by decide)
  have s3 : w.cell? ⟨0, 3, none⟩ = some (.int .i64 0) := hw.2 3 (by decide)
  clear hw
  by_cases hf : f = 0
  · have hf1 : (f != 0) = false := by rw [hf]; rfl
    by_cases hz : t.size = 0
    · have hz1 : t.toList.isEmpty = true := by rw [txt_empty, hz]; rfl
      by_cases hs0 : nS = 0
      · have hs1 : decide (0 < nS) = false := decide_eq_false (by omega)
        have hs2 : ¬ 0 < nS := by omega
        have hs3 : ¬ (0 : Int) < (nS : Int) := by omega
        have hoo : ((nK : Int) == 0) = o := by
          rw [← ho]
          unfold shapeB
          simp [hf, hz, hs0]
          try exact intbeq _ _
        clear ho
        go_enter Tryd.func95, Tryd.ntmps95
        go_wp2
        go_ret
        exact ⟨rfl, ((below_newK _ _).trans ((below_newK _ _).mono (by simp)))⟩
      · have hs1 : decide (0 < nS) = true := decide_eq_true (by omega)
        have hs2 : 0 < nS := by omega
        obtain rfl : o = false := by
          rw [← ho]
          unfold shapeB
          simp [hs0]
        clear ho
        go_enter Tryd.func95, Tryd.ntmps95
        go_wp2
        go_ret
        exact ⟨rfl, ((below_newK _ _).trans ((below_newK _ _).mono (by simp)))⟩
    · have hz1 : t.toList.isEmpty = false := by rw [txt_empty]; exact beq_eq_false_iff_ne.2 hz
      obtain rfl : o = false := by
        rw [← ho]
        unfold shapeB
        simp [hz]
      clear ho
      go_enter Tryd.func95, Tryd.ntmps95
      go_wp2
      go_ret
      exact ⟨rfl, ((below_newK _ _).trans ((below_newK _ _).mono (by simp)))⟩
  · have hf1 : (f != 0) = true := bne_iff_ne.2 hf
    obtain rfl : o = false := by
      rw [← ho]
      unfold shapeB
      simp [hf]
    clear ho
    go_enter Tryd.func95, Tryd.ntmps95
    go_wp2
    go_ret
    exact ⟨rfl, ((below_newK _ _).trans ((below_newK _ _).mono (by simp)))⟩

set_option maxHeartbeats 2000000 in
theorem impl_shape_1 (f : Int) (t : ByteArray) (AS : Option Addr) (nS cS : Nat) (AK : Option Addr) (nK cK : Nat) (w : World) (hw : Shp w) (o : Bool) (ho : shapeB 1 f t nS nK = o) :
    Calls Tryd.prog 95 #[.agg #[.int .i64 (1 : Int), .int .i64 f, .string t, .slice AS nS cS, .slice AK nK cK]] w fun e w' => e = .returned (.bool o) ∧ Below w.heap.size w w' := by
  have sz : 0 < w.heap.size := hw.1
  have s0 : w.cell? ⟨0, 4, none⟩ = some (.bool true) := hw.2 4 (by decide)
  have s1 : w.cell? ⟨0, 5, none⟩ = some (.bool false) := hw.2 5 (by decide)
  have s2 : w.cell? ⟨0, 6, none⟩ = some (.bool false) := hw.2 6 (by decide)
  have s3 : w.cell? ⟨0, 7, none⟩ = some (.int .i64 0) := hw.2 7 (by decide)
  clear hw
  by_cases hf : f = 0
  · have hf1 : (f != 0) = false := by rw [hf]; rfl
    obtain rfl : o = false := by
      rw [← ho]
      unfold shapeB
      simp [hf]
    clear ho
    go_enter Tryd.func95, Tryd.ntmps95
    go_wp2
    go_ret
    exact ⟨rfl, ((below_newK _ _).trans ((below_newK _ _).mono (by simp)))⟩
  · have hf1 : (f != 0) = true := bne_iff_ne.2 hf
    by_cases hz : t.size = 0
    · have hz1 : t.toList.isEmpty = true := by rw [txt_empty, hz]; rfl
      by_cases hs0 : nS = 0
      · have hs1 : decide (0 < nS) = false := decide_eq_false (by omega)
        have hs2 : ¬ 0 < nS := by omega
        have hs3 : ¬ (0 : Int) < (nS : Int) := by omega
        have hfb : (f == 0) = false := beq_eq_false_iff_ne.2 hf
        have hoo : ((nK : Int) == 0) = o := by
          rw [← ho]
          unfold shapeB
          simp [hfb, hz, hs0]
          try exact intbeq _ _
        clear ho
        go_enter Tryd.func95, Tryd.ntmps95
        go_wp2
        go_ret
        exact ⟨rfl, ((below_newK _ _).trans ((below_newK _ _).mono (by simp)))⟩
      · have hs1 : decide (0 < nS) = true := decide_eq_true (by omega)
        have hs2 : 0 < nS := by omega
        obtain rfl : o = false := by
          rw [← ho]
          unfold shapeB
          simp [hs0]
        clear ho
        go_enter Tryd.func95, Tryd.ntmps95
        go_wp2
        go_ret
        exact ⟨rfl, ((below_newK _ _).trans ((below_newK _ _).mono (by simp)))⟩
    · have hz1 : t.toList.isEmpty = false := by rw [txt_empty]; exact beq_eq_false_iff_ne.2 hz
      obtain rfl : o = false := by
        rw [← ho]
        unfold shapeB
        simp [hz]
      clear ho
      go_enter Tryd.func95, Tryd.ntmps95
      go_wp2
      go_ret
      exact ⟨rfl, ((below_newK _ _).trans ((below_newK _ _).mono (by simp)))⟩

set_option maxHeartbeats 2000000 in
theorem impl_shape_2 (f : Int) (t : ByteArray) (AS : Option Addr) (nS cS : Nat) (AK : Option Addr) (nK cK : Nat) (w : World) (hw : Shp w) (o : Bool) (ho : shapeB 2 f t nS nK = o) :
    Calls Tryd.prog 95 #[.agg #[.int .i64 (2 : Int), .int .i64 f, .string t, .slice AS nS cS, .slice AK nK cK]] w fun e w' => e = .returned (.bool o) ∧ Below w.heap.size w w' := by
  have sz : 0 < w.heap.size := hw.1
  have s0 : w.cell? ⟨0, 8, none⟩ = some (.bool false) := hw.2 8 (by decide)
  have s1 : w.cell? ⟨0, 9, none⟩ = some (.bool true) := hw.2 9 (by decide)
  have s2 : w.cell? ⟨0, 10, none⟩ = some (.bool false) := hw.2 10 (by decide)
  have s3 : w.cell? ⟨0, 11, none⟩ = some (.int .i64 0) := hw.2 11 (by decide)
  clear hw
  by_cases hf : f = 0
  · have hf1 : (f != 0) = false := by rw [hf]; rfl
    by_cases hz : t.size = 0
    · have hz1 : t.toList.isEmpty = true := by rw [txt_empty, hz]; rfl
      obtain rfl : o = false := by
        rw [← ho]
        unfold shapeB
        simp [hz]
      clear ho
      go_enter Tryd.func95, Tryd.ntmps95
      go_wp2
      go_ret
      exact ⟨rfl, ((below_newK _ _).trans ((below_newK _ _).mono (by simp)))⟩
    · have hz1 : t.toList.isEmpty = false := by rw [txt_empty]; exact beq_eq_false_iff_ne.2 hz
      by_cases hs0 : nS = 0
      · have hs1 : decide (0 < nS) = false := decide_eq_false (by omega)
        have hs2 : ¬ 0 < nS := by omega
        have hs3 : ¬ (0 : Int) < (nS : Int) := by omega
        have hzb : (t.size == 0) = false := beq_eq_false_iff_ne.2 hz
        have hoo : ((nK : Int) == 0) = o := by
          rw [← ho]
          unfold shapeB
          simp [hf, hzb, hs0]
          try exact intbeq _ _
        clear ho
        go_enter Tryd.func95, Tryd.ntmps95
        go_wp2
        go_ret
        exact ⟨rfl, ((below_newK _ _).trans ((below_newK _ _).mono (by simp)))⟩
      · have hs1 : decide (0 < nS) = true := decide_eq_true (by omega)
        have hs2 : 0 < nS := by omega
        obtain rfl : o = false := by
          rw [← ho]
          unfold shapeB
          simp [hs0]
        clear ho
        go_enter Tryd.func95, Tryd.ntmps95
        go_wp2
        go_ret
        exact ⟨rfl, ((below_newK _ _).trans ((below_newK _ _).mono (by simp)))⟩
  · have hf1 : (f != 0) = true := bne_iff_ne.2 hf
    obtain rfl : o = false := by
      rw [← ho]
      unfold shapeB
      simp [hf]
    clear ho
    go_enter Tryd.func95, Tryd.ntmps95
    go_wp2
    go_ret
    exact ⟨rfl, ((below_newK _ _).trans ((below_newK _ _).mono (by simp)))⟩

set_option maxHeartbeats 2000000 in
theorem impl_shape_3 (f : Int) (t : ByteArray) (AS : Option Addr) (nS cS : Nat) (AK : Option Addr) (nK cK : Nat) (w : World) (hw : Shp w) (o : Bool) (ho : shapeB 3 f t nS nK = o) :
    Calls Tryd.prog 95 #[.agg #[.int .i64 (3 : Int), .int .i64 f, .string t, .slice AS nS cS, .slice AK nK cK]] w fun e w' => e = .returned (.bool o) ∧ Below w.heap.size w w' := by
  have sz : 0 < w.heap.size := hw.1
  have s0 : w.cell? ⟨0, 12, none⟩ = some (.bool false) := hw.2 12 (by decide)
  have s1 : w.cell? ⟨0, 13, none⟩ = some (.bool false) := hw.2 13 (by decide)
  have s2 : w.cell? ⟨0, 14, none⟩ = some (.bool true) := hw.2 14 (by decide)
  have s3 : w.cell? ⟨0, 15, none⟩ = some (.int .i64 0) := hw.2 15 (by decide)
  clear hw
  by_cases hf : f = 0
  · have hf1 : (f != 0) = false := by rw [hf]; rfl
    by_cases hz : t.size = 0
    · have hz1 : t.toList.isEmpty = true := by rw [txt_empty, hz]; rfl
      by_cases hs0 : nS = 0
      · have hs1 : decide (0 < nS) = false := decide_eq_false (by omega)
        have hs2 : ¬ 0 < nS := by omega
        have hs3 : ¬ (0 : Int) < (nS : Int) := by omega
        obtain rfl : o = false := by
          rw [← ho]
          unfold shapeB
          simp [hs0]
        clear ho
        go_enter Tryd.func95, Tryd.ntmps95
        go_wp2
        go_ret
        exact ⟨rfl, ((below_newK _ _).trans ((below_newK _ _).mono (by simp)))⟩
      · have hs1 : decide (0 < nS) = true := decide_eq_true (by omega)
        have hs2 : 0 < nS := by omega
        have hsb : (nS == 0) = false := beq_eq_false_iff_ne.2 hs0
        have hoo : ((nK : Int) == 0) = o := by
          rw [← ho]
          unfold shapeB
          simp [hf, hz, hsb]
          try exact intbeq _ _
        clear ho
        go_enter Tryd.func95, Tryd.ntmps95
        go_wp2
        go_ret
        exact ⟨rfl, ((below_newK _ _).trans ((below_newK _ _).mono (by simp)))⟩
    · have hz1 : t.toList.isEmpty = false := by rw [txt_empty]; exact beq_eq_false_iff_ne.2 hz
      obtain rfl : o = false := by
        rw [← ho]
        unfold shapeB
        simp [hz]
      clear ho
      go_enter Tryd.func95, Tryd.ntmps95
      go_wp2
      go_ret
      exact ⟨rfl, ((below_newK _ _).trans ((below_newK _ _).mono (by simp)))⟩
  · have hf1 : (f != 0) = true := bne_iff_ne.2 hf
    obtain rfl : o = false := by
      rw [← ho]
      unfold shapeB
      simp [hf]
    clear ho
    go_enter Tryd.func95, Tryd.ntmps95
    go_wp2
    go_ret
    exact ⟨rfl, ((below_newK _ _).trans ((below_newK _ _).mono (by simp)))⟩

set_option maxHeartbeats 2000000 in
theorem impl_shape_4 (f : Int) (t : ByteArray) (AS : Option Addr) (nS cS : Nat) (AK : Option Addr) (nK cK : Nat) (w : World) (hw : Shp w) (o : Bool) (ho : shapeB 4 f t nS nK = o) :
    Calls Tryd.prog 95 #[.agg #[.int .i64 (4 : Int), .int .i64 f, .string t, .slice AS nS cS, .slice AK nK cK]] w fun e w' => e = .returned (.bool o) ∧ Below w.heap.size w w' := by
  have sz : 0 < w.heap.size := hw.1
  have s0 : w.cell? ⟨0, 16, none⟩ = some (.bool false) := hw.2 16 (by decide)
  have s1 : w.cell? ⟨0, 17, none⟩ = some (.bool false) := hw.2 17 (by decide)
  have s2 : w.cell? ⟨0, 18, none⟩ = some (.bool true) := hw.2 18 (by decide)
  have s3 : w.cell? ⟨0, 19, none⟩ = some (.int .i64 0) := hw.2 19 (by decide)
  clear hw
  by_cases hf : f = 0
  · have hf1 : (f != 0) = false := by rw [hf]; rfl
    by_cases hz : t.size = 0
    · have hz1 : t.toList.isEmpty = true := by rw [txt_empty, hz]; rfl
      by_cases hs0 : nS = 0
      · have hs1 : decide (0 < nS) = false := decide_eq_false (by omega)
        have hs2 : ¬ 0 < nS := by omega
        have hs3 : ¬ (0 : Int) < (nS : Int) := by omega
        obtain rfl : o = false := by
          rw [← ho]
          unfold shapeB
          simp [hs0]
        clear ho
        go_enter Tryd.func95, Tryd.ntmps95
        go_wp2
        go_ret
        exact ⟨rfl, ((below_newK _ _).trans ((below_newK _ _).mono (by simp)))⟩
      · have hs1 : decide (0 < nS) = true := decide_eq_true (by omega)
        have hs2 : 0 < nS := by omega
        have hsb : (nS == 0) = false := beq_eq_false_iff_ne.2 hs0
        have hoo : ((nK : Int) == 0) = o := by
          rw [← ho]
          unfold shapeB
          simp [hf, hz, hsb]
          try exact intbeq _ _
        clear ho
        go_enter Tryd.func95, Tryd.ntmps95
        go_wp2
        go_ret
        exact ⟨rfl, ((below_newK _ _).trans ((below_newK _ _).mono (by simp)))⟩
    · have hz1 : t.toList.isEmpty = false := by rw [txt_empty]; exact beq_eq_false_iff_ne.2 hz
      obtain rfl : o = false := by
        rw [← ho]
        unfold shapeB
        simp [hz]
      clear ho
      go_enter Tryd.func95, Tryd.ntmps95
      go_wp2
      go_ret
      exact ⟨rfl, ((below_newK _ _).trans ((below_newK _ _).mono (by simp)))⟩
  · have hf1 : (f != 0) = true := bne_iff_ne.2 hf
    obtain rfl : o = false := by
      rw [← ho]
      unfold shapeB
      simp [hf]
    clear ho
    go_enter Tryd.func95, Tryd.ntmps95
    go_wp2
    go_ret
    exact ⟨rfl, ((below_newK _ _).trans ((below_newK _ _).mono (by simp)))⟩

set_option maxHeartbeats 2000000 in
theorem impl_shape_5 (f : Int) (t : ByteArray) (AS : Option Addr) (nS cS : Nat) (AK : Option Addr) (nK cK : Nat) (w : World) (hw : Shp w) (o : Bool) (ho : shapeB 5 f t nS nK = o) :
    Calls Tryd.prog 95 #[.agg #[.int .i64 (5 : Int), .int .i64 f, .string t, .slice AS nS cS, .slice AK nK cK]] w fun e w' => e = .returned (.bool o) ∧ Below w.heap.size w w' := by
  have sz : 0 < w.heap.size := hw.1
  have s0 : w.cell? ⟨0, 20, none⟩ = some (.bool false) := hw.2 20 (by decide)
  have s1 : w.cell? ⟨0, 21, none⟩ = some (.bool false) := hw.2 21 (by decide)
  have s2 : w.cell? ⟨0, 22, none⟩ = some (.bool false) := hw.2 22 (by decide)
  have s3 : w.cell? ⟨0, 23, none⟩ = some (.int .i64 1) := hw.2 23 (by decide)
  clear hw
  by_cases hf : f = 0
  · have hf1 : (f != 0) = false := by rw [hf]; rfl
    by_cases hz : t.size = 0
    · have hz1 : t.toList.isEmpty = true := by rw [txt_empty, hz]; rfl
      by_cases hs0 : nS = 0
      · have hs1 : decide (0 < nS) = false := decide_eq_false (by omega)
        have hs2 : ¬ 0 < nS := by omega
        have hs3 : ¬ (0 : Int) < (nS : Int) := by omega
        have hoo : ((nK : Int) == 1) = o := by
          rw [← ho]
          unfold shapeB
          simp [hf, hz, hs0]
          try exact intbeq _ _
        clear ho
        go_enter Tryd.func95, Tryd.ntmps95
        go_wp2
        go_ret
        exact ⟨rfl, ((below_newK _ _).trans ((below_newK _ _).mono (by simp)))⟩
      · have hs1 : decide (0 < nS) = true := decide_eq_true (by omega)
        have hs2 : 0 < nS := by omega
        obtain rfl : o = false := by
          rw [← ho]
          unfold shapeB
          simp [hs0]
        clear ho
        go_enter Tryd.func95, Tryd.ntmps95
        go_wp2
        go_ret
        exact ⟨rfl, ((below_newK _ _).trans ((below_newK _ _).mono (by simp)))⟩
    · have hz1 : t.toList.isEmpty = false := by rw [txt_empty]; exact beq_eq_false_iff_ne.2 hz
      obtain rfl : o = false := by
        rw [← ho]
        unfold shapeB
        simp [hz]
      clear ho
      go_enter Tryd.func95, Tryd.ntmps95
      go_wp2
      go_ret
      exact ⟨rfl, ((below_newK _ _).trans ((below_newK _ _).mono (by simp)))⟩
  · have hf1 : (f != 0) = true := bne_iff_ne.2 hf
    obtain rfl : o = false := by
      rw [← ho]
      unfold shapeB
      simp [hf]
    clear ho
    go_enter Tryd.func95, Tryd.ntmps95
    go_wp2
    go_ret
    exact ⟨rfl, ((below_newK _ _).trans ((below_newK _ _).mono (by simp)))⟩

set_option maxHeartbeats 2000000 in
theorem impl_shape_6 (f : Int) (t : ByteArray) (AS : Option Addr) (nS cS : Nat) (AK : Option Addr) (nK cK : Nat) (w : World) (hw : Shp w) (o : Bool) (ho : shapeB 6 f t nS nK = o) :
    Calls Tryd.prog 95 #[.agg #[.int .i64 (6 : Int), .int .i64 f, .string t, .slice AS nS cS, .slice AK nK cK]] w fun e w' => e = .returned (.bool o) ∧ Below w.heap.size w w' := by
  have sz : 0 < w.heap.size := hw.1
  have s0 : w.cell? ⟨0, 24, none⟩ = some (.bool false) := hw.2 24 (by decide)
  have s1 : w.cell? ⟨0, 25, none⟩ = some (.bool false) := hw.2 25 (by decide)
  have s2 : w.cell? ⟨0, 26, none⟩ = some (.bool false) := hw.2 26 (by decide)
  have s3 : w.cell? ⟨0, 27, none⟩ = some (.int .i64 2) := hw.2 27 (by decide)
  clear hw
  by_cases hf : f = 0
  · have hf1 : (f != 0) = false := by rw [hf]; rfl
    by_cases hz : t.size = 0
    · have hz1 : t.toList.isEmpty = true := by rw [txt_empty, hz]; rfl
      by_cases hs0 : nS = 0
      · have hs1 : decide (0 < nS) = false := decide_eq_false (by omega)
        have hs2 : ¬ 0 < nS := by omega
        have hs3 : ¬ (0 : Int) < (nS : Int) := by omega
        have hoo : ((nK : Int) == 2) = o := by
          rw [← ho]
          unfold shapeB
          simp [hf, hz, hs0]
          try exact intbeq _ _
        clear ho
        go_enter Tryd.func95, Tryd.ntmps95
        go_wp2
        go_ret
        exact ⟨rfl, ((below_newK _ _).trans ((below_newK _ _).mono (by simp)))⟩
      · have hs1 : decide (0 < nS) = true := decide_eq_true (by omega)
        have hs2 : 0 < nS := by omega
        obtain rfl : o = false := by
          rw [← ho]
          unfold shapeB
          simp [hs0]
        clear ho
        go_enter Tryd.func95, Tryd.ntmps95
        go_wp2
        go_ret
        exact ⟨rfl, ((below_newK _ _).trans ((below_newK _ _).mono (by simp)))⟩
    · have hz1 : t.toList.isEmpty = false := by rw [txt_empty]; exact beq_eq_false_iff_ne.2 hz
      obtain rfl : o = false := by
        rw [← ho]
        unfold shapeB
        simp [hz]
      clear ho
      go_enter Tryd.func95, Tryd.ntmps95
      go_wp2
      go_ret
      exact ⟨rfl, ((below_newK _ _).trans ((below_newK _ _).mono (by simp)))⟩
  · have hf1 : (f != 0) = true := bne_iff_ne.2 hf
    obtain rfl : o = false := by
      rw [← ho]
      unfold shapeB
      simp [hf]
    clear ho
    go_enter Tryd.func95, Tryd.ntmps95
    go_wp2
    go_ret
    exact ⟨rfl, ((below_newK _ _).trans ((below_newK _ _).mono (by simp)))⟩

set_option maxHeartbeats 2000000 in
theorem impl_shape_7 (f : Int) (t : ByteArray) (AS : Option Addr) (nS cS : Nat) (AK : Option Addr) (nK cK : Nat) (w : World) (hw : Shp w) (o : Bool) (ho : shapeB 7 f t nS nK = o) :
    Calls Tryd.prog 95 #[.agg #[.int .i64 (7 : Int), .int .i64 f, .string t, .slice AS nS cS, .slice AK nK cK]] w fun e w' => e = .returned (.bool o) ∧ Below w.heap.size w w' := by
  have sz : 0 < w.heap.size := hw.1
  have s0 : w.cell? ⟨0, 28, none⟩ = some (.bool false) := hw.2 28 (by decide)
  have s1 : w.cell? ⟨0, 29, none⟩ = some (.bool false) := hw.2 29 (by decide)
  have s2 : w.cell? ⟨0, 30, none⟩ = some (.bool false) := hw.2 30 (by decide)
  have s3 : w.cell? ⟨0, 31, none⟩ = some (.int .i64 2) := hw.2 31 (by decide)
  clear hw
  by_cases hf : f = 0
  · have hf1 : (f != 0) = false := by rw [hf]; rfl
    by_cases hz : t.size = 0
    · have hz1 : t.toList.isEmpty = true := by rw [txt_empty, hz]; rfl
      by_cases hs0 : nS = 0
      · have hs1 : decide (0 < nS) = false := decide_eq_false (by omega)
        have hs2 : ¬ 0 < nS := by omega
        have hs3 : ¬ (0 : Int) < (nS : Int) := by omega
        have hoo : ((nK : Int) == 2) = o := by
          rw [← ho]
          unfold shapeB
          simp [hf, hz, hs0]
          try exact intbeq _ _
        clear ho
        go_enter Tryd.func95, Tryd.ntmps95
        go_wp2
        go_ret
        exact ⟨rfl, ((below_newK _ _).trans ((below_newK _ _).mono (by simp)))⟩
      · have hs1 : decide (0 < nS) = true := decide_eq_true (by omega)
        have hs2 : 0 < nS := by omega
        obtain rfl : o = false := by
          rw [← ho]
          unfold shapeB
          simp [hs0]
        clear ho
        go_enter Tryd.func95, Tryd.ntmps95
        go_wp2
        go_ret
        exact ⟨rfl, ((below_newK _ _).trans ((below_newK _ _).mono (by simp)))⟩
    · have hz1 : t.toList.isEmpty = false := by rw [txt_empty]; exact beq_eq_false_iff_ne.2 hz
      obtain rfl : o = false := by
        rw [← ho]
        unfold shapeB
        simp [hz]
      clear ho
      go_enter Tryd.func95, Tryd.ntmps95
      go_wp2
      go_ret
      exact ⟨rfl, ((below_newK _ _).trans ((below_newK _ _).mono (by simp)))⟩
  · have hf1 : (f != 0) = true := bne_iff_ne.2 hf
    obtain rfl : o = false := by
      rw [← ho]
      unfold shapeB
      simp [hf]
    clear ho
    go_enter Tryd.func95, Tryd.ntmps95
    go_wp2
    go_ret
    exact ⟨rfl, ((below_newK _ _).trans ((below_newK _ _).mono (by simp)))⟩

set_option maxHeartbeats 1000000 in
theorem impl_shape_o (kd f : Int) (t : ByteArray) (AS : Option Addr) (nS cS : Nat) (AK : Option Addr) (nK cK : Nat) (w : World) (hk : kd < 0 ∨ 7 < kd) :
    Calls Tryd.prog 95 #[.agg #[.int .i64 kd, .int .i64 f, .string t, .slice AS nS cS, .slice AK nK cK]] w fun e w' => e = .returned (.bool false) ∧ Below w.heap.size w w' := by
  by_cases h0 : kd < 0
  · have h1 : decide (kd < 0) = true := decide_eq_true h0
    clear hk
    go_enter Tryd.func95, Tryd.ntmps95
    go_wp2
    go_ret
    exact ⟨rfl, below_newK _ _⟩
  · have h7 : 7 < kd := by omega
    have h1 : decide (kd < 0) = false := decide_eq_false h0
    have h2 : decide (7 < kd) = true := decide_eq_true h7
    clear hk
    go_enter Tryd.func95, Tryd.ntmps95
    go_wp2
    go_ret
    exact ⟨rfl, below_newK _ _⟩
theorem impl_shape {kd f : Int} {t : ByteArray} {nS nK : Nat} {o : Bool} (ho : shapeB kd f t nS nK = o) (AS : Option Addr) (cS : Nat) (AK : Option Addr) (cK : Nat) (w : World) (hw : Shp w) :
    Calls Tryd.prog 95 #[.agg #[.int .i64 kd, .int .i64 f, .string t, .slice AS nS cS, .slice AK nK cK]] w fun e w' => e = .returned (.bool o) ∧ Below w.heap.size w w' := by
  by_cases k0 : kd = 0
  · subst k0; exact impl_shape_0 f t AS nS cS AK nK cK w hw o ho
  by_cases k1 : kd = 1
  · subst k1; exact impl_shape_1 f t AS nS cS AK nK cK w hw o ho
  by_cases k2 : kd = 2
  · subst k2; exact impl_shape_2 f t AS nS cS AK nK cK w hw o ho
  by_cases k3 : kd = 3
  · subst k3; exact impl_shape_3 f t AS nS cS AK nK cK w hw o ho
  by_cases k4 : kd = 4
  · subst k4; exact impl_shape_4 f t AS nS cS AK nK cK w hw o ho
  by_cases k5 : kd = 5
  · subst k5; exact impl_shape_5 f t AS nS cS AK nK cK w hw o ho
  by_cases k6 : kd = 6
  · subst k6; exact impl_shape_6 f t AS nS cS AK nK cK w hw o ho
  by_cases k7 : kd = 7
  · subst k7; exact impl_shape_7 f t AS nS cS AK nK cK w hw o ho
  have hof : o = false := by
    rw [← ho]
    unfold shapeB
    simp [k0, k1, k2, k3, k4, k5, k6, k7]
  subst hof
  exact impl_shape_o kd f t AS nS cS AK nK cK w (by omega)
end Go.Proofs.YtpihibconbejlaaDoor
namespace Go.Proofs.YtpihibconbejlaaDoor
open Go.RowKit
set_option linter.unusedVariables false

/-- What a kind asks of its own field. -/
def leafB (kd f : Int) (t : ByteArray) (S : List (Int × Int)) : Bool :=
  if kd = 1 then flag1 f else if kd = 2 then nameB t.data.toList else if kd = 3 ∨ kd = 4 then setB S else true
theorem flag1_ne {f : Int} (h : flag1 f = true) : (f == 0) = false := by
  refine beq_eq_false_iff_ne.2 ?_
  rintro rfl
  exact absurd h (by decide)
theorem name_ne {t : ByteArray} (h : nameB t.data.toList = true) : (t.size == 0) = false := by
  refine beq_eq_false_iff_ne.2 fun h0 => ?_
  have h1 : t.data.toList = [] := List.eq_nil_of_length_eq_zero (by rw [Array.length_toList]; exact h0)
  rw [h1] at h
  exact absurd h (by decide)
theorem set_ne {S : List (Int × Int)} (h : setB S = true) : (S.length == 0) = false := by
  have := (setB_iff.1 h).2.1
  exact beq_eq_false_iff_ne.2 (by omega)
theorem node_shape (kd f : Int) (t : ByteArray) (S : List (Int × Int)) (n : Nat) : nodeB kd f t S n = (shapeB kd f t S.length n && leafB kd f t S) := by
  unfold nodeB shapeB leafB
  by_cases k0 : kd = 0
  · subst k0; simp
  by_cases k1 : kd = 1
  · subst k1
    cases h : flag1 f with
    | false => simp
    | true => simp [flag1_ne h]
  by_cases k2 : kd = 2
  · subst k2
    cases h : nameB t.data.toList with
    | false => simp
    | true => simp [name_ne h]
  by_cases k34 : kd = 3 ∨ kd = 4
  · rw [if_neg k0, if_neg k1, if_neg k2, if_pos k34, if_neg k0, if_neg k1, if_neg k2, if_pos k34, if_neg k1, if_neg k2, if_pos k34]
    cases h : setB S with
    | false => simp
    | true => simp [set_ne h]
  · rw [if_neg k0, if_neg k1, if_neg k2, if_neg k34, if_neg k0, if_neg k1, if_neg k2, if_neg k34, if_neg k1, if_neg k2, if_neg k34]
    simp
mutual
/-- The query that stands for a key. -/
def QV (w : World) : KT → Value → Prop
  | .mk kd f t S ks, q =>
    (kd = 0 ∧ q = .iface 116 (.agg #[])) ∨ (kd = 1 ∧ q = .iface 118 (.agg #[.int .i64 f])) ∨ (kd = 2 ∧ q = .iface 120 (.agg #[.string t])) ∨
    (kd = 3 ∧ ∃ AS cS, q = .iface 122 (.agg #[.slice AS S.length cS]) ∧ SpA w AS S) ∨ (kd = 4 ∧ ∃ AS cS, q = .iface 123 (.agg #[.slice AS S.length cS]) ∧ SpA w AS S) ∨
    (kd = 5 ∧ ∃ q1, q = .iface 125 (.agg #[q1]) ∧ QVs w ks [q1]) ∨ (kd = 6 ∧ ∃ q1 q2, q = .iface 127 (.agg #[q1, q2]) ∧ QVs w ks [q1, q2]) ∨
    (kd = 7 ∧ ∃ q1 q2, q = .iface 128 (.agg #[q1, q2]) ∧ QVs w ks [q1, q2])
def QVs (w : World) : List KT → List Value → Prop
  | [], qs => qs = []
  | k :: r, qs => ∃ q s, qs = q :: s ∧ QV w k q ∧ QVs w r s
end
mutual
theorem QV.below {w w' : World} {B : Nat} (hb : Below B w w') (hB : w.heap.size ≤ B) : ∀ (k : KT) (q : Value), QV w k q → QV w' k q
  | .mk kd f t S ks, q, h => by
    rw [QV] at h ⊢
    rcases h with h | h | h | ⟨h, AS, cS, h1, h2⟩ | ⟨h, AS, cS, h1, h2⟩ | ⟨h, q1, h1, h2⟩ | ⟨h, q1, q2, h1, h2⟩ | ⟨h, q1, q2, h1, h2⟩
    · exact .inl h
    · exact .inr (.inl h)
    · exact .inr (.inr (.inl h))
    · exact .inr (.inr (.inr (.inl ⟨h, AS, cS, h1, h2.below hb hB⟩)))
    · exact .inr (.inr (.inr (.inr (.inl ⟨h, AS, cS, h1, h2.below hb hB⟩))))
    · exact .inr (.inr (.inr (.inr (.inr (.inl ⟨h, q1, h1, QVs.below hb hB ks _ h2⟩)))))
    · exact .inr (.inr (.inr (.inr (.inr (.inr (.inl ⟨h, q1, q2, h1, QVs.below hb hB ks _ h2⟩))))))
    · exact .inr (.inr (.inr (.inr (.inr (.inr (.inr ⟨h, q1, q2, h1, QVs.below hb hB ks _ h2⟩))))))
theorem QVs.below {w w' : World} {B : Nat} (hb : Below B w w') (hB : w.heap.size ≤ B) : ∀ (ks : List KT) (qs : List Value), QVs w ks qs → QVs w' ks qs
  | [], qs, h => by rw [QVs] at h ⊢; exact h
  | k :: r, qs, h => by
    rw [QVs] at h ⊢
    obtain ⟨q, s, h1, h2, h3⟩ := h
    exact ⟨q, s, h1, QV.below hb hB k q h2, QVs.below hb hB r s h3⟩
end
theorem QVs.push {w : World} : ∀ {ks : List KT} {qs : List Value} {k : KT} {q : Value}, QVs w ks qs → QV w k q → QVs w (ks ++ [k]) (qs ++ [q])
  | [], qs, k, q, h, hq => by
    rw [QVs] at h
    subst h
    show QVs w [k] [q]
    rw [QVs]
    exact ⟨q, [], rfl, hq, by rw [QVs]⟩
  | x :: r, qs, k, q, h, hq => by
    rw [QVs] at h
    obtain ⟨q0, s, rfl, h2, h3⟩ := h
    rw [List.cons_append, List.cons_append, QVs]
    exact ⟨q0, s ++ [q], rfl, h2, QVs.push h3 hq⟩
end Go.Proofs.YtpihibconbejlaaDoor
namespace Go.Proofs.YtpihibconbejlaaDoor
open Go.Shelf
set_option linter.unusedVariables false
def shl159_ren : Go.Shelf.Ren := ⟨fun | 159 => 107 | 165 => 114 | 166 => 115 | 167 => 116 | 169 => 117 | 230 => 118 | 204 => 119 | 240 => 126 | 241 => 127 | 197 => 128 | 118 => 129 | 168 => 130 | 270 => 131 | 262 => 132 | 276 => 135 | 277 => 136 | 260 => 137 | 242 => 138 | 313 => 139 | 278 => 140 | 274 => 141 | 275 => 142 | n => n, fun | 9 => 9 | 4 => 4 | 3 => 3 | 5 => 5 | 72 => 156 | 0 => 0 | 76 => 160 | 75 => 159 | 107 => 164 | 70 => 154 | 20 => 20 | 37 => 22 | 127 => 167 | 21 => 21 | 105 => 168 | 164 => 177 | 162 => 183 | 203 => 181 | 119 => 184 | 46 => 166 | 139 => 187 | 138 => 186 | 51 => 174 | 160 => 188 | 208 => 194 | 206 => 192 | 80 => 68 | n => n, fun | 13 => 3 | 3 => 4 | 4 => 5 | n => n⟩
theorem shl159 : Go.Proofs.Lays.n159 Tryd.prog shl159_ren := {
  mixed := by kernel_rfl
  f118 := Tryd.func129.trans (congrArg some (by kernel_rfl))
  f159 := Tryd.func107.trans (congrArg some (by kernel_rfl))
  f165 := Tryd.func114.trans (congrArg some (by kernel_rfl))
  f166 := Tryd.func115.trans (congrArg some (by kernel_rfl))
  f167 := Tryd.func116.trans (congrArg some (by kernel_rfl))
  f168 := Tryd.func130.trans (congrArg some (by kernel_rfl))
  f169 := Tryd.func117.trans (congrArg some (by kernel_rfl))
  f197 := Tryd.func128.trans (congrArg some (by kernel_rfl))
  f204 := Tryd.func119.trans (congrArg some (by kernel_rfl))
  f230 := Tryd.func118.trans (congrArg some (by kernel_rfl))
  f240 := Tryd.func126.trans (congrArg some (by kernel_rfl))
  f241 := Tryd.func127.trans (congrArg some (by kernel_rfl))
  f242 := Tryd.func138.trans (congrArg some (by kernel_rfl))
  f260 := Tryd.func137.trans (congrArg some (by kernel_rfl))
  f262 := Tryd.func132.trans (congrArg some (by kernel_rfl))
  f270 := Tryd.func131.trans (congrArg some (by kernel_rfl))
  f274 := Tryd.func141.trans (congrArg some (by kernel_rfl))
  f275 := Tryd.func142.trans (congrArg some (by kernel_rfl))
  f276 := Tryd.func135.trans (congrArg some (by kernel_rfl))
  f277 := Tryd.func136.trans (congrArg some (by kernel_rfl))
  f278 := Tryd.func140.trans (congrArg some (by kernel_rfl))
  f313 := Tryd.func139.trans (congrArg some (by kernel_rfl))
  t0 := Tryd.underlying0
  a0 := Tryd.isAgg0
  z0 := Tryd.sizeOf0
  v0 := Tryd.zeroValue0
  t3 := Tryd.underlying3
  a3 := Tryd.isAgg3
  z3 := Tryd.sizeOf3
  v3 := Tryd.zeroValue3
  t4 := Tryd.underlying4
  a4 := Tryd.isAgg4
  z4 := Tryd.sizeOf4
  v4 := Tryd.zeroValue4
  t5 := Tryd.underlying5
  a5 := Tryd.isAgg5
  z5 := Tryd.sizeOf5
  v5 := Tryd.zeroValue5
  t9 := Tryd.underlying9
  a9 := Tryd.isAgg9
  z9 := Tryd.sizeOf9
  v9 := Tryd.zeroValue9
  t20 := Tryd.underlying20
  a20 := Tryd.isAgg20
  z20 := Tryd.sizeOf20
  v20 := Tryd.zeroValue20
  t21 := Tryd.underlying21
  a21 := Tryd.isAgg21
  z21 := Tryd.sizeOf21
  v21 := Tryd.zeroValue21
  t37 := Tryd.underlying22
  a37 := Tryd.isAgg22
  z37 := Tryd.sizeOf22
  v37 := Tryd.zeroValue22
  t46 := Tryd.underlying166
  a46 := Tryd.isAgg166
  z46 := Tryd.sizeOf166
  v46 := Tryd.zeroValue166
  t51 := Tryd.underlying174
  a51 := Tryd.isAgg174
  z51 := Tryd.sizeOf174
  v51 := Tryd.zeroValue174
  t70 := Tryd.underlying154
  a70 := Tryd.isAgg154
  z70 := Tryd.sizeOf154
  v70 := Tryd.zeroValue154
  t72 := Tryd.underlying156
  a72 := Tryd.isAgg156
  z72 := Tryd.sizeOf156
  v72 := Tryd.zeroValue156
  t75 := Tryd.underlying159
  a75 := Tryd.isAgg159
  z75 := Tryd.sizeOf159
  v75 := Tryd.zeroValue159
  t76 := Tryd.underlying160
  a76 := Tryd.isAgg160
  z76 := Tryd.sizeOf160
  v76 := Tryd.zeroValue160
  t105 := Tryd.underlying168
  a105 := Tryd.isAgg168
  z105 := Tryd.sizeOf168
  v105 := Tryd.zeroValue168
  t107 := Tryd.underlying164
  a107 := Tryd.isAgg164
  z107 := Tryd.sizeOf164
  v107 := Tryd.zeroValue164
  t119 := Tryd.underlying184
  a119 := Tryd.isAgg184
  z119 := Tryd.sizeOf184
  t127 := Tryd.underlying167
  a127 := Tryd.isAgg167
  z127 := Tryd.sizeOf167
  v127 := Tryd.zeroValue167
  t138 := Tryd.underlying186
  a138 := Tryd.isAgg186
  z138 := Tryd.sizeOf186
  v138 := Tryd.zeroValue186
  t139 := Tryd.underlying187
  a139 := Tryd.isAgg187
  z139 := Tryd.sizeOf187
  v139 := Tryd.zeroValue187
  t160 := Tryd.underlying188
  a160 := Tryd.isAgg188
  z160 := Tryd.sizeOf188
  v160 := Tryd.zeroValue188
  t162 := Tryd.underlying183
  a162 := Tryd.isAgg183
  z162 := Tryd.sizeOf183
  v162 := Tryd.zeroValue183
  t164 := Tryd.underlying177
  a164 := Tryd.isAgg177
  z164 := Tryd.sizeOf177
  v164 := Tryd.zeroValue177
  t203 := Tryd.underlying181
  a203 := Tryd.isAgg181
  z203 := Tryd.sizeOf181
  v203 := Tryd.zeroValue181
  t206 := Tryd.underlying192
  a206 := Tryd.isAgg192
  z206 := Tryd.sizeOf192
  v206 := Tryd.zeroValue192
  t208 := Tryd.underlying194
  a208 := Tryd.isAgg194
  z208 := Tryd.sizeOf194
  v208 := Tryd.zeroValue194
  g3 := by kernel_rfl
  g4 := by kernel_rfl
  g13 := by kernel_rfl }
theorem shx159 : Builder.Extra Tryd.prog shl159_ren := {
  sizeBuilder := by kernel_rfl
  liesBuilder := by kernel_rfl
  t5 := Tryd.underlying5
  a5 := Tryd.isAgg5
  z5 := Tryd.sizeOf5
  v5 := Tryd.zeroValue5
  infoByte := by kernel_rfl
  cellsByte := by kernel_rfl
  sizeByte := by kernel_rfl
  neB5 := by decide }
open Go.RowKit in
theorem shl_ToLower (s : ByteArray) (w : World) (hs : s.size ≤ 140737488355328) (hascii : ∀ (j : Nat) (b : UInt8), s.data.toList[j]? = some b → b.toNat < 128) :
    Calls Tryd.prog 107 #[.string s] w fun e w' => e = .returned (.string ⟨(Lib.toLowerA s.data.toList).toArray⟩) ∧ Below w.heap.size w w' := Any.strings_ToLower_ascii shl159 shx159 s w hs hascii
def shl144_ren : Go.Shelf.Ren := ⟨fun | 144 => 84 | 143 => 106 | 219 => 113 | 217 => 122 | 225 => 123 | 224 => 124 | 267 => 125 | 266 => 133 | 314 => 134 | n => n, fun | 9 => 9 | 4 => 4 | 3 => 3 | 5 => 5 | 46 => 166 | 146 => 175 | 51 => 174 | n => n, fun | 1 => 2 | n => n⟩
theorem shl144 : Go.Proofs.Lays.n144 Tryd.prog shl144_ren := {
  mixed := by kernel_rfl
  f143 := Tryd.func106.trans (congrArg some (by kernel_rfl))
  f144 := Tryd.func84.trans (congrArg some (by kernel_rfl))
  f217 := Tryd.func122.trans (congrArg some (by kernel_rfl))
  f219 := Tryd.func113.trans (congrArg some (by kernel_rfl))
  f224 := Tryd.func124.trans (congrArg some (by kernel_rfl))
  f225 := Tryd.func123.trans (congrArg some (by kernel_rfl))
  f266 := Tryd.func133.trans (congrArg some (by kernel_rfl))
  f267 := Tryd.func125.trans (congrArg some (by kernel_rfl))
  f314 := Tryd.func134.trans (congrArg some (by kernel_rfl))
  t3 := Tryd.underlying3
  a3 := Tryd.isAgg3
  z3 := Tryd.sizeOf3
  v3 := Tryd.zeroValue3
  t4 := Tryd.underlying4
  a4 := Tryd.isAgg4
  z4 := Tryd.sizeOf4
  v4 := Tryd.zeroValue4
  t5 := Tryd.underlying5
  a5 := Tryd.isAgg5
  z5 := Tryd.sizeOf5
  v5 := Tryd.zeroValue5
  t9 := Tryd.underlying9
  a9 := Tryd.isAgg9
  z9 := Tryd.sizeOf9
  v9 := Tryd.zeroValue9
  t46 := Tryd.underlying166
  a46 := Tryd.isAgg166
  z46 := Tryd.sizeOf166
  v46 := Tryd.zeroValue166
  t51 := Tryd.underlying174
  a51 := Tryd.isAgg174
  z51 := Tryd.sizeOf174
  v51 := Tryd.zeroValue174
  t146 := Tryd.underlying175
  a146 := Tryd.isAgg175
  z146 := Tryd.sizeOf175
  v146 := Tryd.zeroValue175
  g1 := by kernel_rfl }
open Go.RowKit in
theorem shl_Contains (s sub : ByteArray) (m : Int) (w : World) (hs : s.size < 4294967281) (hm : w.cell? ⟨2, 0, none⟩ = some (.int .i64 m)) :
    Calls Tryd.prog 84 #[.string s, .string sub] w fun e w' => e = .returned (.bool (Lib.contains s.data.toList sub.data.toList)) ∧ w' = w := Any.strings_Contains shl144 s sub m w hs hm
end Go.Proofs.YtpihibconbejlaaDoor
namespace Go.Proofs.YtpihibconbejlaaDoor
open Go.RowKit
set_option linter.unusedVariables false

def nm5 : Nat → ByteArray
  | 0 => ⟨#[83, 101, 101, 110]⟩
  | 1 => ⟨#[65, 110, 115, 119, 101, 114, 101, 100]⟩
  | 2 => ⟨#[70, 108, 97, 103, 103, 101, 100]⟩
  | 3 => ⟨#[68, 101, 108, 101, 116, 101, 100]⟩
  | _ => ⟨#[68, 114, 97, 102, 116]⟩
def nms5 : Array Value := #[.string (nm5 0), .string (nm5 1), .string (nm5 2), .string (nm5 3), .string (nm5 4)]
/-- The table of the names holds the names. -/
def Lst (w : World) : Prop := 1 < w.heap.size ∧ ∀ k, k < 5 → w.cell? ⟨1, k, none⟩ = nms5[k]?
theorem Lst.below {w w' : World} {B : Nat} (h : Lst w) (hb : Below B w w') (hB : w.heap.size ≤ B) : Lst w' :=
  ⟨Nat.lt_of_lt_of_le h.1 hb.size, fun k hk => (hb.cell (p := ⟨1, k, none⟩) (by have := h.1; simp; omega)).trans (h.2 k hk)⟩
theorem Lst.drewN {w : World} (h : Lst w) (n : Nat) : Lst (w.drewN n) := h
set_option maxRecDepth 100000 in
theorem index_nm {k : Nat} (hk : k < 5) : ∀ w : World, (Instr.index 142 (.agg #[.string ⟨#[83, 101, 101, 110]⟩, .string ⟨#[65, 110, 115, 119, 101, 114, 101, 100]⟩, .string ⟨#[70, 108, 97, 103, 103, 101, 100]⟩, .string ⟨#[68, 101, 108, 101, 116, 101, 100]⟩, .string ⟨#[68, 114, 97, 102, 116]⟩]) (.int .i64 (k : Int))).run Tryd.prog w = .ok (.string (nm5 k)) w := by
  intro w
  match k, hk with
  | 0, _ => rfl
  | 1, _ => rfl
  | 2, _ => rfl
  | 3, _ => rfl
  | 4, _ => rfl
/-- The word of a flag. -/
def fwL (f : Int) : List UInt8 := if f = 1 then [115, 101, 101, 110] else if f = 2 then [97, 110, 115, 119, 101, 114, 101, 100] else if f = 4 then [102, 108, 97, 103, 103, 101, 100] else if f = 8 then [100, 101, 108, 101, 116, 101, 100] else if f = 16 then [100, 114, 97, 102, 116] else []
theorem fw_at {k : Nat} (hk : k < 5) : (⟨(Lib.toLowerA (nm5 k).data.toList).toArray⟩ : ByteArray) = ⟨(fwL (2 ^ k : Nat)).toArray⟩ := by
  match k, hk with
  | 0, _ | 1, _ | 2, _ | 3, _ | 4, _ => decide
theorem nm_ascii {k : Nat} (hk : k < 5) : ∀ (j : Nat) (b : UInt8), (nm5 k).data.toList[j]? = some b → b.toNat < 128 := by
  have h : ∀ k : Fin 5, ∀ b ∈ (nm5 k.1).data.toList, b.toNat < 128 := by decide
  exact fun j b hb => h ⟨k, hk⟩ b (List.mem_of_getElem? hb)
theorem nm_size {k : Nat} (hk : k < 5) : (nm5 k).size ≤ 140737488355328 := by
  match k, hk with
  | 0, _ | 1, _ | 2, _ | 3, _ | 4, _ => decide
theorem pow5 {k q : Nat} (hk : k < 5) (hq : 2 ^ k = q) : 1 ≤ q ∧ q ≤ 16 ∧ IntKind.i64.wrap (2 ^ k) = (q : Int) := by
  subst hq
  match k, hk with
  | 0, _ | 1, _ | 2, _ | 3, _ | 4, _ => exact ⟨by decide, by decide, by decide⟩
theorem fw_none {f : Int} (h : ∀ j, j < 5 → f ≠ ((2 ^ j : Nat) : Int)) : fwL f = [] := by
  unfold fwL
  have h0 : ¬ f = 1 := h 0 (by omega)
  have h1 : ¬ f = 2 := h 1 (by omega)
  have h2 : ¬ f = 4 := h 2 (by omega)
  have h3 : ¬ f = 8 := h 3 (by omega)
  have h4 : ¬ f = 16 := h 4 (by omega)
  rw [if_neg h0, if_neg h1, if_neg h2, if_neg h3, if_neg h4]
theorem fw_flag (f : Int) : (fwL f).isEmpty = !flag1 f := by
  unfold fwL flag1
  by_cases h1 : f = 1
  · subst h1; rfl
  by_cases h2 : f = 2
  · subst h2; rfl
  by_cases h3 : f = 4
  · subst h3; rfl
  by_cases h4 : f = 8
  · subst h4; rfl
  by_cases h5 : f = 16
  · subst h5; rfl
  rw [if_neg h1, if_neg h2, if_neg h3, if_neg h4, if_neg h5]
  simp [h1, h2, h3, h4, h5]
def wB (l : List UInt8) : ByteArray := ⟨l.toArray⟩
set_option maxRecDepth 20000 in
set_option maxHeartbeats 4000000 in
theorem impl_flagword (f : Int) (w : World) (hL : Lst w) : Calls Tryd.prog 96 #[.int .i64 f] w fun e w' => e = .returned (.string (wB (fwL f))) ∧ Below w.heap.size w w' := by
  have c0 := hL.2 0 (by omega)
  have c1 := hL.2 1 (by omega)
  have c2 := hL.2 2 (by omega)
  have c3 := hL.2 3 (by omega)
  have c4 := hL.2 4 (by omega)
  simp [nms5, nm5] at c0 c1 c2 c3 c4
  clear hL
  go_enter Tryd.func96, Tryd.ntmps96
  go_wp2
  clear c0 c1 c2 c3 c4
  go_loopw [6] (fun i wr => ∃ k : Nat, k ≤ 5 ∧ i = .int .i64 (k : Int) ∧ Hid (∀ j, j < k → f ≠ ((2 ^ j : Nat) : Int)) ∧ wr = w) (fun i _ => 5 - (intOf i).toNat)
  case atStart => exact ⟨0, Nat.zero_le _, by go_num, fun j hj => by omega, rfl⟩
  case round =>
    obtain ⟨k, hk, rfl, HK, rfl⟩ := hrel
    by_cases hlt : k < 5
    · have h0 : (0 : Int) ≤ (k : Int) := by omega
      have h5 : (k : Int) < 5 := by omega
      obtain ⟨q, hq⟩ : ∃ q, 2 ^ k = q := ⟨_, rfl⟩
      obtain ⟨q1, q2, W1⟩ := pow5 hlt hq
      have X1 := index_nm hlt
      obtain ⟨s, hs⟩ : ∃ s, nm5 k = s := ⟨_, rfl⟩
      rw [hs] at X1
      by_cases he : f = (q : Int)
      · subst he
        have HT := Lib.hid (shl_ToLower s wr (hs ▸ nm_size hlt) (hs ▸ nm_ascii hlt))
        have HE : Hid ((⟨(Lib.toLowerA s.data.toList).toArray⟩ : ByteArray) = wB (fwL (q : Int))) := Lib.hid (by rw [← hs, ← hq]; exact fw_at hlt)
        clear hs hq
        go_wp2_with fail
        refine HT.out.mono ?_
        rw [HE.out]
        rintro e w2 ⟨rfl, hb⟩
        have HB := Lib.hid hb
        clear hb
        go_wp2
        go_ret
        exact ⟨rfl, HB.out⟩
      · have hne : (f == (q : Int)) = false := beq_eq_false_iff_ne.2 he
        have HK1 : Hid (∀ j, j < k + 1 → f ≠ ((2 ^ j : Nat) : Int)) := Lib.hid (fun j hj => by
          by_cases hjk : j < k
          · exact HK.out j hjk
          · have : j = k := by omega
            subst this
            rw [hq]
            exact he)
        clear hs hq he
        go_wp2
        go_roundw
        case rel => exact ⟨k + 1, by omega, by go_num, HK1, trivial⟩
        case measure => simp [intOf]; omega
    · have h5 : ¬ (k : Int) < 5 := by omega
      have HE : Hid (fwL f = []) := Lib.hid (fw_none (fun j hj => HK.out j (by omega)))
      go_wp2
      go_ret
      exact ⟨by rw [HE.out]; rfl, Below.refl _ _⟩
end Go.Proofs.YtpihibconbejlaaDoor
namespace Go.Proofs.YtpihibconbejlaaDoor
open Go.RowKit
set_option linter.unusedVariables false

/-- A world in which nothing of 'w' below 'G' has changed. -/
structure Later (G : Nat) (w : World) where
  v : World
  h : Below G w v
instance (G : Nat) (w : World) : Nonempty (Later G w) := ⟨⟨w, Below.refl G w⟩⟩
theorem Later.cell {G : Nat} {w : World} (x : Later G w) {p : Addr} {u : Value} (hp : p.block < G) (h : w.cell? p = some u) : x.v.cell? p = some u := (x.h.cell hp).trans h
theorem Later.call {G : Nat} {w : World} (x : Later G w) {w' : World} (hb : Below x.v.heap.size x.v w') (hG : G ≤ w.heap.size) : ∃ y : Later G w, w' = y.v := ⟨⟨w', x.h.trans (hb.mono (Nat.le_trans hG x.h.size))⟩, rfl⟩
theorem wp_region_later {P : Program} {id : Nat} {Q : Exit → Act → World → Prop} {a : Act} {l : List Oper} (G : Nat) (w : World) (hm : P.follows .mixedOrders = true) (hB : Region.lexB .any l.toArray = true)
    (h : wpQuiet P l.toArray (fun w' => ∃ x : Later G w, w' = x.v) (fun a' => ∀ w', (∃ x : Later G w, w' = x.v) → Q .normal a' w') l a) : (Code.region id l.toArray true).wp P Q a w :=
  wp_region_quiet (C := fun w' => ∃ x : Later G w, w' = x.v) hm hB ⟨⟨w.drew, ⟨(Below.refl G w).os, (Below.refl G w).tape, (Below.refl G w).output, (Below.refl G w).size, (Below.refl G w).block⟩⟩, rfl⟩ (by simpa using h)
end Go.Proofs.YtpihibconbejlaaDoor
