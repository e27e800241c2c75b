/-
  The contracts of the model's l12Flag, l12Node, l12All and KeyValid. Condition: the key can be read.
-/
import Derived.Test.YtnfigpknejmkmaaGreatDoorKt
import Derived.Test.YtnfigpknejmkmaaGreatDoorVals
import Derived.Test.YtnfigpknejmkmaaGreatDoorSnum
namespace Go.Proofs.YtnfigpknejmkmaaGreatDoor
open Go.RowKit
set_option linter.unusedVariables false

set_option maxHeartbeats 1000000 in
theorem spec_flag1 (f : Int) (w : World) : Calls Tryz.prog 106 #[.int .i64 f] w fun e w' => e = .returned (.bool (flag1 f)) ∧ w = w' := by
  have key : ∀ o, flag1 f = o → Calls Tryz.prog 106 #[.int .i64 f] w fun e w' => e = .returned (.bool o) ∧ w = w' := by
    intro o ho
    by_cases h1 : f = 1
    · subst h1; subst ho
      go_enter Tryz.func106, Tryz.ntmps106
      go_wp2
      go_ret
      exact ⟨rfl, rfl⟩
    · by_cases h2 : f = 2
      · subst h2; subst ho
        go_enter Tryz.func106, Tryz.ntmps106
        go_wp2
        go_ret
        exact ⟨rfl, rfl⟩
      · by_cases h4 : f = 4
        · subst h4; subst ho
          go_enter Tryz.func106, Tryz.ntmps106
          go_wp2
          go_ret
          exact ⟨rfl, rfl⟩
        · by_cases h8 : f = 8
          · subst h8; subst ho
            go_enter Tryz.func106, Tryz.ntmps106
            go_wp2
            go_ret
            exact ⟨rfl, rfl⟩
          · by_cases h16 : f = 16
            · subst h16; subst ho
              go_enter Tryz.func106, Tryz.ntmps106
              go_wp2
              go_ret
              exact ⟨rfl, rfl⟩
            · have e1 : (f == 1) = false := beq_eq_false_iff_ne.2 h1
              have e2 : (f == 2) = false := beq_eq_false_iff_ne.2 h2
              have e3 : (f == 4) = false := beq_eq_false_iff_ne.2 h4
              have e4 : (f == 8) = false := beq_eq_false_iff_ne.2 h8
              have e5 : (f == 16) = false := beq_eq_false_iff_ne.2 h16
              have hoo : o = false := by rw [← ho]; unfold flag1; rw [e1, e2, e3, e4, e5]; rfl
              subst hoo
              clear ho
              go_enter Tryz.func106, Tryz.ntmps106
              go_wp2
              go_ret
              exact ⟨rfl, rfl⟩
  exact key _ rfl

/-- t.size, as the walk asks it. -/
theorem txt_empty (t : ByteArray) : t.toList.isEmpty = (t.size == 0) := by
  rw [ByteArray.toList_eq]
  obtain ⟨⟨l⟩⟩ := t
  cases l <;> rfl

theorem intbeq (n m : Nat) : ((n : Int) == (m : Int)) = (n == m) := by
  by_cases h : n = m
  · subst h; simp
  · rw [beq_eq_false_iff_ne.2 h]; exact beq_eq_false_iff_ne.2 (by omega)
theorem below_newK (w : World) (o : Obj) : Below w.heap.size w (w.alloc o) := (Below.refl _ _).alloc (Nat.le_refl _) o
theorem spec_flag1_at {f : Int} {b : Bool} (h : flag1 f = b) (w : World) : Calls Tryz.prog 106 #[.int .i64 f] w fun e w' => e = .returned (.bool b) ∧ Below w.heap.size w w' := by
  subst h
  exact (spec_flag1 f w).mono fun e w' h => ⟨h.1, h.2 ▸ Below.refl _ _⟩
theorem spec_word_at {t : ByteArray} {b : Bool} (h : nameB t.data.toList = b) (w : World) (ht : t.size ≤ 16777216) : Calls Tryz.prog 90 #[.string t] w fun e w' => e = .returned (.bool b) ∧ Below w.heap.size w w' := by
  subst h
  go_enter Tryz.func90, Tryz.ntmps90
  go_wp2_with fail
  refine (spec_name t _ ht).mono ?_
  rintro e w2 ⟨rfl, rfl⟩
  go_wp2
  go_ret
  exact ⟨rfl, Below.refl _ _⟩
theorem spec_setvalid_k {A : Option Addr} {n cap : Nat} {L : List (Int × Int)} {o : Bool} (hn : L.length = n) (ho : setB L = o) (w : World) (h : SpA w A L) (hl : n ≤ 33554432) :
    Calls Tryz.prog 92 #[.slice A n cap] w fun e w' => e = .returned (.bool o) ∧ Below w.heap.size w w' := by
  subst hn
  subst ho
  exact (spec_setvalid A cap L w h hl).mono fun e w' h => ⟨h.1, h.2 ▸ Below.refl _ _⟩

set_option maxHeartbeats 2000000 in
theorem spec_node_0 (f : Int) (t : ByteArray) (S : List (Int × Int)) (AS : Option Addr) (nS cS : Nat) (AK : Option Addr) (nK cK : Nat) (w : World) (hS : S.length = nS) (hn : nS ≤ 33554432) (ht : t.size ≤ 16777216) (hsp : SpA w AS S) (o : Bool) (ho : nodeB 0 f t S nK = o) :
    Calls Tryz.prog 91 #[.agg #[.int .i64 (0 : Int), .int .i64 f, .string t, .slice AS nS cS, .slice AK nK cK]] w fun e w' => e = .returned (.bool o) ∧ Below w.heap.size w w' := by
  have HSP := Lib.hid hsp
  have HSL := Lib.hid hS
  clear hsp
  by_cases hf : f = 0
  · have hf1 : (f != 0) = false := by rw [hf]; rfl
    by_cases hz : t.size = 0
    · have hz1 : t.toList.isEmpty = true := by rw [txt_empty, hz]; rfl
      by_cases hs0 : nS = 0
      · have hs1 : decide (0 < nS) = false := decide_eq_false (by omega)
        have hs2 : ¬ 0 < nS := by omega
        have hs3 : ¬ (0 : Int) < (nS : Int) := by omega
        have hoo : ((nK : Int) == 0) = o := by
          rw [← ho]
          unfold nodeB
          simp [hf, hz, hs0, HSL.out]
          try exact intbeq _ _
        clear ho
        go_enter Tryz.func91, Tryz.ntmps91
        go_wp2
        go_ret
        exact ⟨rfl, below_newK _ _⟩
      · have hs1 : decide (0 < nS) = true := decide_eq_true (by omega)
        have hs2 : 0 < nS := by omega
        obtain rfl : o = false := by
          rw [← ho]
          unfold nodeB
          simp [hs0, HSL.out]
        clear ho
        go_enter Tryz.func91, Tryz.ntmps91
        go_wp2
        go_ret
        exact ⟨rfl, below_newK _ _⟩
    · have hz1 : t.toList.isEmpty = false := by rw [txt_empty]; exact beq_eq_false_iff_ne.2 hz
      obtain rfl : o = false := by
        rw [← ho]
        unfold nodeB
        simp [hz]
      clear ho
      go_enter Tryz.func91, Tryz.ntmps91
      go_wp2
      go_ret
      exact ⟨rfl, below_newK _ _⟩
  · have hf1 : (f != 0) = true := bne_iff_ne.2 hf
    obtain rfl : o = false := by
      rw [← ho]
      unfold nodeB
      simp [hf]
    clear ho
    go_enter Tryz.func91, Tryz.ntmps91
    go_wp2
    go_ret
    exact ⟨rfl, below_newK _ _⟩

set_option maxHeartbeats 2000000 in
theorem spec_node_1 (f : Int) (t : ByteArray) (S : List (Int × Int)) (AS : Option Addr) (nS cS : Nat) (AK : Option Addr) (nK cK : Nat) (w : World) (hS : S.length = nS) (hn : nS ≤ 33554432) (ht : t.size ≤ 16777216) (hsp : SpA w AS S) (o : Bool) (ho : nodeB 1 f t S nK = o) :
    Calls Tryz.prog 91 #[.agg #[.int .i64 (1 : Int), .int .i64 f, .string t, .slice AS nS cS, .slice AK nK cK]] w fun e w' => e = .returned (.bool o) ∧ Below w.heap.size w w' := by
  have HSP := Lib.hid hsp
  have HSL := Lib.hid hS
  clear hsp
  by_cases hz : t.size = 0
  · have hz1 : t.toList.isEmpty = true := by rw [txt_empty, hz]; rfl
    by_cases hs0 : nS = 0
    · have hs1 : decide (0 < nS) = false := decide_eq_false (by omega)
      have hs2 : ¬ 0 < nS := by omega
      have hs3 : ¬ (0 : Int) < (nS : Int) := by omega
      cases hg : flag1 f with
      | false =>
        obtain rfl : o = false := by
          rw [← ho]
          unfold nodeB
          simp [hg]
        have HG := Lib.hid hg
        clear ho hg
        go_enter Tryz.func91, Tryz.ntmps91
        go_wp2_with fail
        refine (spec_flag1_at HG.out _).mono ?_
        rintro e w2 ⟨rfl, hb⟩
        have HB2 := Lib.hid ((below_newK w _).trans (hb.mono (below_newK w _).size))
        have c4 := (hb.cell (p := ⟨w.heap.size, 4, none⟩) (by simp)).trans ((Whole.made w 27 _).cell 4)
        simp at c4
        clear hb
        go_wp2
        go_ret
        exact ⟨rfl, HB2.out⟩
      | true =>
        have hoo : ((nK : Int) == 0) = o := by
          rw [← ho]
          unfold nodeB
          simp [hg, hz, hs0, HSL.out]
          try exact intbeq _ _
        have HG := Lib.hid hg
        clear ho hg
        go_enter Tryz.func91, Tryz.ntmps91
        go_wp2_with fail
        refine (spec_flag1_at HG.out _).mono ?_
        rintro e w2 ⟨rfl, hb⟩
        have HB2 := Lib.hid ((below_newK w _).trans (hb.mono (below_newK w _).size))
        have c4 := (hb.cell (p := ⟨w.heap.size, 4, none⟩) (by simp)).trans ((Whole.made w 27 _).cell 4)
        simp at c4
        clear hb
        go_wp2
        go_ret
        exact ⟨rfl, HB2.out⟩
    · have hs1 : decide (0 < nS) = true := decide_eq_true (by omega)
      have hs2 : 0 < nS := by omega
      obtain rfl : o = false := by
        rw [← ho]
        unfold nodeB
        simp [hs0, HSL.out]
      clear ho
      go_enter Tryz.func91, Tryz.ntmps91
      go_wp2
      go_ret
      exact ⟨rfl, below_newK _ _⟩
  · have hz1 : t.toList.isEmpty = false := by rw [txt_empty]; exact beq_eq_false_iff_ne.2 hz
    obtain rfl : o = false := by
      rw [← ho]
      unfold nodeB
      simp [hz]
    clear ho
    go_enter Tryz.func91, Tryz.ntmps91
    go_wp2
    go_ret
    exact ⟨rfl, below_newK _ _⟩

set_option maxHeartbeats 2000000 in
theorem spec_node_2 (f : Int) (t : ByteArray) (S : List (Int × Int)) (AS : Option Addr) (nS cS : Nat) (AK : Option Addr) (nK cK : Nat) (w : World) (hS : S.length = nS) (hn : nS ≤ 33554432) (ht : t.size ≤ 16777216) (hsp : SpA w AS S) (o : Bool) (ho : nodeB 2 f t S nK = o) :
    Calls Tryz.prog 91 #[.agg #[.int .i64 (2 : Int), .int .i64 f, .string t, .slice AS nS cS, .slice AK nK cK]] w fun e w' => e = .returned (.bool o) ∧ Below w.heap.size w w' := by
  have HSP := Lib.hid hsp
  have HSL := Lib.hid hS
  clear hsp
  by_cases hf : f = 0
  · have hf1 : (f != 0) = false := by rw [hf]; rfl
    by_cases hs0 : nS = 0
    · have hs1 : decide (0 < nS) = false := decide_eq_false (by omega)
      have hs2 : ¬ 0 < nS := by omega
      have hs3 : ¬ (0 : Int) < (nS : Int) := by omega
      cases hg : nameB t.data.toList with
      | false =>
        obtain rfl : o = false := by
          rw [← ho]
          unfold nodeB
          simp [hg]
        have HG := Lib.hid hg
        clear ho hg
        go_enter Tryz.func91, Tryz.ntmps91
        go_wp2_with fail
        refine (spec_word_at HG.out _ ht).mono ?_
        rintro e w2 ⟨rfl, hb⟩
        have HB2 := Lib.hid ((below_newK w _).trans (hb.mono (below_newK w _).size))
        have c4 := (hb.cell (p := ⟨w.heap.size, 4, none⟩) (by simp)).trans ((Whole.made w 27 _).cell 4)
        simp at c4
        clear hb
        go_wp2
        go_ret
        exact ⟨rfl, HB2.out⟩
      | true =>
        have hoo : ((nK : Int) == 0) = o := by
          rw [← ho]
          unfold nodeB
          simp [hg, hf, hs0, HSL.out]
          try exact intbeq _ _
        have HG := Lib.hid hg
        clear ho hg
        go_enter Tryz.func91, Tryz.ntmps91
        go_wp2_with fail
        refine (spec_word_at HG.out _ ht).mono ?_
        rintro e w2 ⟨rfl, hb⟩
        have HB2 := Lib.hid ((below_newK w _).trans (hb.mono (below_newK w _).size))
        have c4 := (hb.cell (p := ⟨w.heap.size, 4, none⟩) (by simp)).trans ((Whole.made w 27 _).cell 4)
        simp at c4
        clear hb
        go_wp2
        go_ret
        exact ⟨rfl, HB2.out⟩
    · have hs1 : decide (0 < nS) = true := decide_eq_true (by omega)
      have hs2 : 0 < nS := by omega
      obtain rfl : o = false := by
        rw [← ho]
        unfold nodeB
        simp [hs0, HSL.out]
      clear ho
      go_enter Tryz.func91, Tryz.ntmps91
      go_wp2
      go_ret
      exact ⟨rfl, below_newK _ _⟩
  · have hf1 : (f != 0) = true := bne_iff_ne.2 hf
    obtain rfl : o = false := by
      rw [← ho]
      unfold nodeB
      simp [hf]
    clear ho
    go_enter Tryz.func91, Tryz.ntmps91
    go_wp2
    go_ret
    exact ⟨rfl, below_newK _ _⟩

set_option maxHeartbeats 2000000 in
theorem spec_node_3 (f : Int) (t : ByteArray) (S : List (Int × Int)) (AS : Option Addr) (nS cS : Nat) (AK : Option Addr) (nK cK : Nat) (w : World) (hS : S.length = nS) (hn : nS ≤ 33554432) (ht : t.size ≤ 16777216) (hsp : SpA w AS S) (o : Bool) (ho : nodeB 3 f t S nK = o) :
    Calls Tryz.prog 91 #[.agg #[.int .i64 (3 : Int), .int .i64 f, .string t, .slice AS nS cS, .slice AK nK cK]] w fun e w' => e = .returned (.bool o) ∧ Below w.heap.size w w' := by
  have HSP := Lib.hid hsp
  have HSL := Lib.hid hS
  clear hsp
  by_cases hf : f = 0
  · have hf1 : (f != 0) = false := by rw [hf]; rfl
    by_cases hz : t.size = 0
    · have hz1 : t.toList.isEmpty = true := by rw [txt_empty, hz]; rfl
      cases hg : setB S with
      | false =>
        obtain rfl : o = false := by
          rw [← ho]
          unfold nodeB
          simp [hg]
        have HG := Lib.hid hg
        clear ho hg
        go_enter Tryz.func91, Tryz.ntmps91
        go_wp2_with fail
        refine (spec_setvalid_k HSL.out HG.out _ (HSP.out.below (below_newK w _) (Nat.le_refl _)) hn).mono ?_
        rintro e w2 ⟨rfl, hb⟩
        have HB2 := Lib.hid ((below_newK w _).trans (hb.mono (below_newK w _).size))
        have c4 := (hb.cell (p := ⟨w.heap.size, 4, none⟩) (by simp)).trans ((Whole.made w 27 _).cell 4)
        simp at c4
        clear hb
        go_wp2
        go_ret
        exact ⟨rfl, HB2.out⟩
      | true =>
        have hoo : ((nK : Int) == 0) = o := by
          rw [← ho]
          unfold nodeB
          simp [hg, hf, hz]
          try exact intbeq _ _
        have HG := Lib.hid hg
        clear ho hg
        go_enter Tryz.func91, Tryz.ntmps91
        go_wp2_with fail
        refine (spec_setvalid_k HSL.out HG.out _ (HSP.out.below (below_newK w _) (Nat.le_refl _)) hn).mono ?_
        rintro e w2 ⟨rfl, hb⟩
        have HB2 := Lib.hid ((below_newK w _).trans (hb.mono (below_newK w _).size))
        have c4 := (hb.cell (p := ⟨w.heap.size, 4, none⟩) (by simp)).trans ((Whole.made w 27 _).cell 4)
        simp at c4
        clear hb
        go_wp2
        go_ret
        exact ⟨rfl, HB2.out⟩
    · have hz1 : t.toList.isEmpty = false := by rw [txt_empty]; exact beq_eq_false_iff_ne.2 hz
      obtain rfl : o = false := by
        rw [← ho]
        unfold nodeB
        simp [hz]
      clear ho
      go_enter Tryz.func91, Tryz.ntmps91
      go_wp2
      go_ret
      exact ⟨rfl, below_newK _ _⟩
  · have hf1 : (f != 0) = true := bne_iff_ne.2 hf
    obtain rfl : o = false := by
      rw [← ho]
      unfold nodeB
      simp [hf]
    clear ho
    go_enter Tryz.func91, Tryz.ntmps91
    go_wp2
    go_ret
    exact ⟨rfl, below_newK _ _⟩

set_option maxHeartbeats 2000000 in
theorem spec_node_4 (f : Int) (t : ByteArray) (S : List (Int × Int)) (AS : Option Addr) (nS cS : Nat) (AK : Option Addr) (nK cK : Nat) (w : World) (hS : S.length = nS) (hn : nS ≤ 33554432) (ht : t.size ≤ 16777216) (hsp : SpA w AS S) (o : Bool) (ho : nodeB 4 f t S nK = o) :
    Calls Tryz.prog 91 #[.agg #[.int .i64 (4 : Int), .int .i64 f, .string t, .slice AS nS cS, .slice AK nK cK]] w fun e w' => e = .returned (.bool o) ∧ Below w.heap.size w w' := by
  have HSP := Lib.hid hsp
  have HSL := Lib.hid hS
  clear hsp
  by_cases hf : f = 0
  · have hf1 : (f != 0) = false := by rw [hf]; rfl
    by_cases hz : t.size = 0
    · have hz1 : t.toList.isEmpty = true := by rw [txt_empty, hz]; rfl
      cases hg : setB S with
      | false =>
        obtain rfl : o = false := by
          rw [← ho]
          unfold nodeB
          simp [hg]
        have HG := Lib.hid hg
        clear ho hg
        go_enter Tryz.func91, Tryz.ntmps91
        go_wp2_with fail
        refine (spec_setvalid_k HSL.out HG.out _ (HSP.out.below (below_newK w _) (Nat.le_refl _)) hn).mono ?_
        rintro e w2 ⟨rfl, hb⟩
        have HB2 := Lib.hid ((below_newK w _).trans (hb.mono (below_newK w _).size))
        have c4 := (hb.cell (p := ⟨w.heap.size, 4, none⟩) (by simp)).trans ((Whole.made w 27 _).cell 4)
        simp at c4
        clear hb
        go_wp2
        go_ret
        exact ⟨rfl, HB2.out⟩
      | true =>
        have hoo : ((nK : Int) == 0) = o := by
          rw [← ho]
          unfold nodeB
          simp [hg, hf, hz]
          try exact intbeq _ _
        have HG := Lib.hid hg
        clear ho hg
        go_enter Tryz.func91, Tryz.ntmps91
        go_wp2_with fail
        refine (spec_setvalid_k HSL.out HG.out _ (HSP.out.below (below_newK w _) (Nat.le_refl _)) hn).mono ?_
        rintro e w2 ⟨rfl, hb⟩
        have HB2 := Lib.hid ((below_newK w _).trans (hb.mono (below_newK w _).size))
        have c4 := (hb.cell (p := ⟨w.heap.size, 4, none⟩) (by simp)).trans ((Whole.made w 27 _).cell 4)
        simp at c4
        clear hb
        go_wp2
        go_ret
        exact ⟨rfl, HB2.out⟩
    · have hz1 : t.toList.isEmpty = false := by rw [txt_empty]; exact beq_eq_false_iff_ne.2 hz
      obtain rfl : o = false := by
        rw [← ho]
        unfold nodeB
        simp [hz]
      clear ho
      go_enter Tryz.func91, Tryz.ntmps91
      go_wp2
      go_ret
      exact ⟨rfl, below_newK _ _⟩
  · have hf1 : (f != 0) = true := bne_iff_ne.2 hf
    obtain rfl : o = false := by
      rw [← ho]
      unfold nodeB
      simp [hf]
    clear ho
    go_enter Tryz.func91, Tryz.ntmps91
    go_wp2
    go_ret
    exact ⟨rfl, below_newK _ _⟩

set_option maxHeartbeats 2000000 in
theorem spec_node_5 (f : Int) (t : ByteArray) (S : List (Int × Int)) (AS : Option Addr) (nS cS : Nat) (AK : Option Addr) (nK cK : Nat) (w : World) (hS : S.length = nS) (hn : nS ≤ 33554432) (ht : t.size ≤ 16777216) (hsp : SpA w AS S) (o : Bool) (ho : nodeB 5 f t S nK = o) :
    Calls Tryz.prog 91 #[.agg #[.int .i64 (5 : Int), .int .i64 f, .string t, .slice AS nS cS, .slice AK nK cK]] w fun e w' => e = .returned (.bool o) ∧ Below w.heap.size w w' := by
  have HSP := Lib.hid hsp
  have HSL := Lib.hid hS
  clear hsp
  by_cases hf : f = 0
  · have hf1 : (f != 0) = false := by rw [hf]; rfl
    by_cases hz : t.size = 0
    · have hz1 : t.toList.isEmpty = true := by rw [txt_empty, hz]; rfl
      by_cases hs0 : nS = 0
      · have hs1 : decide (0 < nS) = false := decide_eq_false (by omega)
        have hs2 : ¬ 0 < nS := by omega
        have hs3 : ¬ (0 : Int) < (nS : Int) := by omega
        have hoo : ((nK : Int) == 1) = o := by
          rw [← ho]
          unfold nodeB
          simp [hf, hz, hs0, HSL.out]
          try exact intbeq _ _
        clear ho
        go_enter Tryz.func91, Tryz.ntmps91
        go_wp2
        go_ret
        exact ⟨rfl, below_newK _ _⟩
      · have hs1 : decide (0 < nS) = true := decide_eq_true (by omega)
        have hs2 : 0 < nS := by omega
        obtain rfl : o = false := by
          rw [← ho]
          unfold nodeB
          simp [hs0, HSL.out]
        clear ho
        go_enter Tryz.func91, Tryz.ntmps91
        go_wp2
        go_ret
        exact ⟨rfl, below_newK _ _⟩
    · have hz1 : t.toList.isEmpty = false := by rw [txt_empty]; exact beq_eq_false_iff_ne.2 hz
      obtain rfl : o = false := by
        rw [← ho]
        unfold nodeB
        simp [hz]
      clear ho
      go_enter Tryz.func91, Tryz.ntmps91
      go_wp2
      go_ret
      exact ⟨rfl, below_newK _ _⟩
  · have hf1 : (f != 0) = true := bne_iff_ne.2 hf
    obtain rfl : o = false := by
      rw [← ho]
      unfold nodeB
      simp [hf]
    clear ho
    go_enter Tryz.func91, Tryz.ntmps91
    go_wp2
    go_ret
    exact ⟨rfl, below_newK _ _⟩

set_option maxHeartbeats 2000000 in
theorem spec_node_6 (f : Int) (t : ByteArray) (S : List (Int × Int)) (AS : Option Addr) (nS cS : Nat) (AK : Option Addr) (nK cK : Nat) (w : World) (hS : S.length = nS) (hn : nS ≤ 33554432) (ht : t.size ≤ 16777216) (hsp : SpA w AS S) (o : Bool) (ho : nodeB 6 f t S nK = o) :
    Calls Tryz.prog 91 #[.agg #[.int .i64 (6 : Int), .int .i64 f, .string t, .slice AS nS cS, .slice AK nK cK]] w fun e w' => e = .returned (.bool o) ∧ Below w.heap.size w w' := by
  have HSP := Lib.hid hsp
  have HSL := Lib.hid hS
  clear hsp
  by_cases hf : f = 0
  · have hf1 : (f != 0) = false := by rw [hf]; rfl
    by_cases hz : t.size = 0
    · have hz1 : t.toList.isEmpty = true := by rw [txt_empty, hz]; rfl
      by_cases hs0 : nS = 0
      · have hs1 : decide (0 < nS) = false := decide_eq_false (by omega)
        have hs2 : ¬ 0 < nS := by omega
        have hs3 : ¬ (0 : Int) < (nS : Int) := by omega
        have hoo : ((nK : Int) == 2) = o := by
          rw [← ho]
          unfold nodeB
          simp [hf, hz, hs0, HSL.out]
          try exact intbeq _ _
        clear ho
        go_enter Tryz.func91, Tryz.ntmps91
        go_wp2
        go_ret
        exact ⟨rfl, below_newK _ _⟩
      · have hs1 : decide (0 < nS) = true := decide_eq_true (by omega)
        have hs2 : 0 < nS := by omega
        obtain rfl : o = false := by
          rw [← ho]
          unfold nodeB
          simp [hs0, HSL.out]
        clear ho
        go_enter Tryz.func91, Tryz.ntmps91
        go_wp2
        go_ret
        exact ⟨rfl, below_newK _ _⟩
    · have hz1 : t.toList.isEmpty = false := by rw [txt_empty]; exact beq_eq_false_iff_ne.2 hz
      obtain rfl : o = false := by
        rw [← ho]
        unfold nodeB
        simp [hz]
      clear ho
      go_enter Tryz.func91, Tryz.ntmps91
      go_wp2
      go_ret
      exact ⟨rfl, below_newK _ _⟩
  · have hf1 : (f != 0) = true := bne_iff_ne.2 hf
    obtain rfl : o = false := by
      rw [← ho]
      unfold nodeB
      simp [hf]
    clear ho
    go_enter Tryz.func91, Tryz.ntmps91
    go_wp2
    go_ret
    exact ⟨rfl, below_newK _ _⟩

set_option maxHeartbeats 2000000 in
theorem spec_node_7 (f : Int) (t : ByteArray) (S : List (Int × Int)) (AS : Option Addr) (nS cS : Nat) (AK : Option Addr) (nK cK : Nat) (w : World) (hS : S.length = nS) (hn : nS ≤ 33554432) (ht : t.size ≤ 16777216) (hsp : SpA w AS S) (o : Bool) (ho : nodeB 7 f t S nK = o) :
    Calls Tryz.prog 91 #[.agg #[.int .i64 (7 : Int), .int .i64 f, .string t, .slice AS nS cS, .slice AK nK cK]] w fun e w' => e = .returned (.bool o) ∧ Below w.heap.size w w' := by
  have HSP := Lib.hid hsp
  have HSL := Lib.hid hS
  clear hsp
  by_cases hf : f = 0
  · have hf1 : (f != 0) = false := by rw [hf]; rfl
    by_cases hz : t.size = 0
    · have hz1 : t.toList.isEmpty = true := by rw [txt_empty, hz]; rfl
      by_cases hs0 : nS = 0
      · have hs1 : decide (0 < nS) = false := decide_eq_false (by omega)
        have hs2 : ¬ 0 < nS := by omega
        have hs3 : ¬ (0 : Int) < (nS : Int) := by omega
        have hoo : ((nK : Int) == 2) = o := by
          rw [← ho]
          unfold nodeB
          simp [hf, hz, hs0, HSL.out]
          try exact intbeq _ _
        clear ho
        go_enter Tryz.func91, Tryz.ntmps91
        go_wp2
        go_ret
        exact ⟨rfl, below_newK _ _⟩
      · have hs1 : decide (0 < nS) = true := decide_eq_true (by omega)
        have hs2 : 0 < nS := by omega
        obtain rfl : o = false := by
          rw [← ho]
          unfold nodeB
          simp [hs0, HSL.out]
        clear ho
        go_enter Tryz.func91, Tryz.ntmps91
        go_wp2
        go_ret
        exact ⟨rfl, below_newK _ _⟩
    · have hz1 : t.toList.isEmpty = false := by rw [txt_empty]; exact beq_eq_false_iff_ne.2 hz
      obtain rfl : o = false := by
        rw [← ho]
        unfold nodeB
        simp [hz]
      clear ho
      go_enter Tryz.func91, Tryz.ntmps91
      go_wp2
      go_ret
      exact ⟨rfl, below_newK _ _⟩
  · have hf1 : (f != 0) = true := bne_iff_ne.2 hf
    obtain rfl : o = false := by
      rw [← ho]
      unfold nodeB
      simp [hf]
    clear ho
    go_enter Tryz.func91, Tryz.ntmps91
    go_wp2
    go_ret
    exact ⟨rfl, below_newK _ _⟩

set_option maxHeartbeats 2000000 in
theorem spec_node_o (kd : Int) (hk : ∀ c : Int, 0 ≤ c → c ≤ 7 → (kd == c) = false) (f : Int) (t : ByteArray) (S : List (Int × Int)) (AS : Option Addr) (nS cS : Nat) (AK : Option Addr) (nK cK : Nat) (w : World) (hS : S.length = nS) (hn : nS ≤ 33554432) (ht : t.size ≤ 16777216) (hsp : SpA w AS S) (o : Bool) (ho : nodeB kd f t S nK = o) :
    Calls Tryz.prog 91 #[.agg #[.int .i64 kd, .int .i64 f, .string t, .slice AS nS cS, .slice AK nK cK]] w fun e w' => e = .returned (.bool o) ∧ Below w.heap.size w w' := by
  have HSP := Lib.hid hsp
  have HSL := Lib.hid hS
  clear hsp
  have hk0 : (kd == 0) = false := hk 0 (by decide) (by decide)
  have hm0 : (kd != 0) = true := by show (!(kd == 0)) = true; rw [hk0]; rfl
  have hk1 : (kd == 1) = false := hk 1 (by decide) (by decide)
  have hm1 : (kd != 1) = true := by show (!(kd == 1)) = true; rw [hk1]; rfl
  have hk2 : (kd == 2) = false := hk 2 (by decide) (by decide)
  have hm2 : (kd != 2) = true := by show (!(kd == 2)) = true; rw [hk2]; rfl
  have hk3 : (kd == 3) = false := hk 3 (by decide) (by decide)
  have hm3 : (kd != 3) = true := by show (!(kd == 3)) = true; rw [hk3]; rfl
  have hk4 : (kd == 4) = false := hk 4 (by decide) (by decide)
  have hm4 : (kd != 4) = true := by show (!(kd == 4)) = true; rw [hk4]; rfl
  have hk5 : (kd == 5) = false := hk 5 (by decide) (by decide)
  have hm5 : (kd != 5) = true := by show (!(kd == 5)) = true; rw [hk5]; rfl
  have hk6 : (kd == 6) = false := hk 6 (by decide) (by decide)
  have hm6 : (kd != 6) = true := by show (!(kd == 6)) = true; rw [hk6]; rfl
  have hk7 : (kd == 7) = false := hk 7 (by decide) (by decide)
  have hm7 : (kd != 7) = true := by show (!(kd == 7)) = true; rw [hk7]; rfl
  have hkk : nodeB kd f t S nK = false := by
    have hne : ∀ c : Int, (kd == c) = false → ¬ kd = c := fun c h e => by simp [e] at h
    unfold nodeB
    simp [hne 0 hk0, hne 1 hk1, hne 2 hk2, hne 3 hk3, hne 4 hk4, hne 5 hk5, hne 6 hk6, hne 7 hk7]
  obtain rfl : o = false := by rw [← ho]; exact hkk
  clear ho hkk hk
  by_cases hf : f = 0
  · have hf1 : (f != 0) = false := by rw [hf]; rfl
    by_cases hz : t.size = 0
    · have hz1 : t.toList.isEmpty = true := by rw [txt_empty, hz]; rfl
      by_cases hs0 : nS = 0
      · have hs1 : decide (0 < nS) = false := decide_eq_false (by omega)
        have hs2 : ¬ 0 < nS := by omega
        have hs3 : ¬ (0 : Int) < (nS : Int) := by omega
        go_enter Tryz.func91, Tryz.ntmps91
        go_wp2
        go_ret
        exact ⟨rfl, below_newK _ _⟩
      · have hs1 : decide (0 < nS) = true := decide_eq_true (by omega)
        have hs2 : 0 < nS := by omega
        go_enter Tryz.func91, Tryz.ntmps91
        go_wp2
        go_ret
        exact ⟨rfl, below_newK _ _⟩
    · have hz1 : t.toList.isEmpty = false := by rw [txt_empty]; exact beq_eq_false_iff_ne.2 hz
      go_enter Tryz.func91, Tryz.ntmps91
      go_wp2
      go_ret
      exact ⟨rfl, below_newK _ _⟩
  · have hf1 : (f != 0) = true := bne_iff_ne.2 hf
    go_enter Tryz.func91, Tryz.ntmps91
    go_wp2
    go_ret
    exact ⟨rfl, below_newK _ _⟩

end Go.Proofs.YtnfigpknejmkmaaGreatDoor
