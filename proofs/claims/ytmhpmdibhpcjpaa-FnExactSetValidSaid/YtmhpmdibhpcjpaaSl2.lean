/-
  The walks of the laws FnSetMore and FnSetZero. Condition: the code can be read.
-/
import Derived.Test.YtmhpmdibhpcjpaaSl1
namespace Go.Proofs.Ytmhpmdibhpcjpaa
open Go.RowKit
set_option linter.unusedVariables false

/-- A parser of sets read a list. -/
def ReadS (w : World) (b : Bool) (M : List (Int × Int)) (e : Ending) (w' : World) : Prop :=
  ∃ (A : Option Addr) (cap : Nat), e = .returned (.tuple #[.slice A M.length cap, .bool b]) ∧ M.length ≤ cap ∧ cap ≤ maxLen ∧ SpA w' A M ∧ Below w.heap.size w w'
theorem parsed_read {w w' : World} {o : Option (List (Nat × Nat))} {M : List (Int × Int)} {b : Bool} {e : Ending} (h : ParsedS w o e w') (hb : o.isSome = b) (hM : up (o.getD []) = M) : ReadS w b M e w' := by
  subst hM
  subst hb
  obtain ⟨v, rfl, hown, hbl⟩ := h
  obtain ⟨A, cap, rfl, h1, h2, h3⟩ := hown.form
  exact ⟨A, cap, rfl, h1, h2, h3, hbl⟩
/-- What a text's set is. -/
def IsSet (s : ByteArray) (b : Bool) (M : List (Int × Int)) : Prop := (setO s.data.toList).isSome = b ∧ up ((setO s.data.toList).getD []) = M
theorem impl_read {s : ByteArray} {b : Bool} {M : List (Int × Int)} (h : IsSet s b M) (w : World) (hs : s.size ≤ 16777216) : Calls Try.prog 21 #[.string s] w (ReadS w b M) :=
  (impl_setparse s w hs).mono fun e w' h1 => parsed_read h1 h.1 h.2
theorem spec_read {s : ByteArray} {b : Bool} {M : List (Int × Int)} (h : IsSet s b M) (w : World) (hs : s.size ≤ 16777216) : Calls Try.prog 22 #[.string s] w (ReadS w b M) :=
  (spec_setparse s w hs).mono fun e w' h1 => parsed_read h1 h.1 h.2
theorem isSet_no {s : ByteArray} (h : setO s.data.toList = none) : IsSet s false [] := by
  unfold IsSet
  rw [h]
  exact ⟨rfl, rfl⟩
theorem isSet_yes {s : ByteArray} {P : List (Nat × Nat)} (h : setO s.data.toList = some P) : IsSet s true (up P) := by
  unfold IsSet
  rw [h]
  exact ⟨rfl, rfl⟩
theorem same_spans_at {A A2 : Option Addr} {n n2 cap cap2 : Nat} {L M : List (Int × Int)} {o : Bool} (w : World) (h : SpA w A L) (h2 : SpA w A2 M) (hn : L.length = n) (hn2 : M.length = n2) (hl : n ≤ 33554432) (hl2 : n2 ≤ 33554432) (ho : decide (L = M) = o) :
    Calls Try.prog 23 #[.slice A n cap, .slice A2 n2 cap2] w (Tests w o) := by
  subst hn
  subst hn2
  subst ho
  exact same_spans A A2 cap cap2 L M w h h2 hl hl2
theorem more_size {s : ByteArray} (h : s.size ≤ 100) : (s ++ (⟨#[44, 42]⟩ : ByteArray)).size ≤ 16777216 := by
  rw [ByteArray.size_append, show (⟨#[44, 42]⟩ : ByteArray).size = 2 from rfl]
  omega
theorem zero_size {s : ByteArray} (c : UInt8) (h : s.size ≤ 100) : ((⟨#[c]⟩ : ByteArray) ++ s).size ≤ 16777216 := by
  rw [ByteArray.size_append, show (⟨#[c]⟩ : ByteArray).size = 1 from rfl]
  omega
theorem set_up {L : List UInt8} {l : List (Nat × Nat)} (h : setO L = some l) : up l ≠ [] ∧ (up l).length ≤ 6 := by
  obtain ⟨h1, h2, _⟩ := set_mem h
  rw [up_len]
  refine ⟨fun e => h1 ?_, h2⟩
  have := congrArg List.length e
  rw [up_len] at this
  exact List.eq_nil_of_length_eq_zero this
theorem isSet_more {s : ByteArray} {P : List (Nat × Nat)} (h : setO s.data.toList = some P) (h6 : (up P).length < 6) : IsSet (s ++ ⟨#[44, 42]⟩) true (up P ++ [((0 : Int), (0 : Int))]) := by
  unfold IsSet
  rw [cat_list, show (⟨#[44, 42]⟩ : ByteArray).data.toList = [44, 42] from rfl, set_more h, if_pos (by rw [up_len] at h6; exact h6), Option.getD_some, up_snoc]
  exact ⟨rfl, rfl⟩
theorem isSet_much {s : ByteArray} {P : List (Nat × Nat)} (h : setO s.data.toList = some P) (h6 : ¬ (up P).length < 6) : IsSet (s ++ ⟨#[44, 42]⟩) false [] := by
  unfold IsSet
  rw [cat_list, show (⟨#[44, 42]⟩ : ByteArray).data.toList = [44, 42] from rfl, set_more h, if_neg (by rw [up_len] at h6; exact h6)]
  exact ⟨rfl, rfl⟩
theorem isSet_zero (c : UInt8) (hc : c = 48 ∨ c = 32 ∨ c = 44) (s : ByteArray) : IsSet ((⟨#[c]⟩ : ByteArray) ++ s) false [] := by
  unfold IsSet
  rw [cat_list, show (⟨#[c]⟩ : ByteArray).data.toList ++ s.data.toList = c :: s.data.toList from rfl, set_zero c hc]
  exact ⟨rfl, rfl⟩

section
variable {P : Program} {w : World}
/-- An append to a slice of the call's own, guarded: the guard is met. -/
theorem wpList_append_own_g {ops : Array Oper} {rest : List Oper} {o : Oper} {a : Act} {Q : Exit → Act → World → Prop} (hw : Region.wanted o (yielded ops a.tmps) = true) (s x : Operand) (t : TypeId)
    (ho : o.op = .call { callee := .builtin .append, args := #[s, x], argTypes := #[t, t] })
    (base : Nat) (e : TypeId) (i : TypeInfo) (z : Value) (size bytes : Nat) (ht : P.underlying t = some (.slice e)) (hi : P.info? e = some i) (hz : i.zero = some z)
    (hsize : i.size = size) (hby : i.bytes = bytes) (hzs : z.cells.size = size) (hsz : 0 < size)
    (v : Value) (n : Nat) (xs : List Value) (hs : a.eval s = v) (hown : w.ownsRow base e size v n xs)
    (ad : Addr) (m c : Nat) (news : List Value) (hx : a.eval x = .slice (some ad) m c) (hl : news.length = m * size) (hnews : ∀ j u, news[j]? = some u → w.cell? (ad.add j) = some u) (h1 : ∀ u ∈ news, u.oneCell' = true)
    (h63 : n + m ≤ maxLen) (hbytes : (n + m) * bytes ≤ 140737488355328) (hbase : base ≤ w.heap.size)
    (h : ∀ v' w', w'.ownsRow base e size v' (n + m) (xs ++ news) → w.grownBy w' v.ownBlock → (v' = .slice none 0 0 ↔ v = .slice none 0 0 ∧ m = 0) → wpList P ops Q rest (a.put o.dst v') w') : wpList P ops Q (o :: rest) a w :=
  wpList_step fun K hK => by
    rw [if_pos hw]
    exact wp_append_own w s x t ho base e i z size bytes ht hi hz hsize hby hzs hsz v n xs hs hown ad m c news hx hl hnews h1 h63 hbytes hbase fun v' w' h2 h3 h4 => hK _ _ (h v' w' h2 h3 h4)
end

set_option maxRecDepth 20000 in
set_option maxHeartbeats 4000000 in
theorem law_FnSetMore (A : Option Addr) (len cap : Nat) (w : World) (h : Coded w A len cap) : Calls Try.prog 5 #[.slice A len cap] w (Holds1 w) := by
  have HC := Lib.hid h
  clear h
  obtain ⟨i0, hi, hq0, hq1, hq2⟩ := info_parts Try.infoSpan
  by_cases hl : len ≤ 1048576
  · have hl' : (len : Int) ≤ 1048576 := by omega
    go_enter Try.func5, Try.ntmps5
    go_wp2_with fail
    refine (draw_setparse A len cap _ HC.out).mono ?_
    rintro e w1 ⟨s, hs, rfl, hb⟩
    have HB1 := Lib.hid hb
    clear hb
    cases hP : setO s.data.toList with
    | none =>
      have HI := Lib.hid (isSet_no hP)
      clear hP
      go_wp2_with fail
      refine (impl_read HI.out _ (by omega)).mono ?_
      rintro e w2 ⟨A2, cap2, rfl, h21, h22, hsp, hb⟩
      have HB2 := Lib.hid (HB1.out.trans (hb.mono HB1.out.size))
      have HS2 := Lib.hid hsp
      clear hb hsp
      go_wp2_with fail
      refine (spec_read HI.out _ (by omega)).mono ?_
      rintro e w3 ⟨A3, cap3, rfl, h31, h32, hsp, hb⟩
      have HB3 := Lib.hid (HB2.out.trans (hb.mono HB2.out.size))
      have HS3 := Lib.hid hsp
      have HS23 := Lib.hid (HS2.out.below hb (Nat.le_refl _))
      clear hb hsp
      go_wp2_with fail
      refine (same_spans_at (o := true) _ HS23.out HS3.out rfl rfl (by simp) (by simp) (by simp)).mono ?_
      rintro e w4 ⟨rfl, hb⟩
      have HB4 := Lib.hid (HB3.out.trans (hb.mono HB3.out.size))
      have HS24 := Lib.hid (HS23.out.below hb (Nat.le_refl _))
      have HS34 := Lib.hid (HS3.out.below hb (Nat.le_refl _))
      clear hb
      go_wp2_with fail
      refine (same_spans_at (o := true) _ HS24.out HS34.out rfl rfl (by simp) (by simp) (by simp)).mono ?_
      rintro e w5 ⟨rfl, hb⟩
      have HB5 := Lib.hid (HB4.out.trans (hb.mono HB4.out.size))
      clear hb
      go_wp2
      go_ret
      exact ⟨rfl, HB5.out⟩
    | some P =>
      have HI := Lib.hid (isSet_yes hP)
      have HPP := Lib.hid hP
      have hne := (set_up hP).1
      have hl6 := (set_up hP).2
      clear hP
      obtain ⟨M, hM⟩ : ∃ M, up P = M := ⟨_, rfl⟩
      have HM := Lib.hid hM
      rw [hM] at HI hne hl6
      clear hM
      have HNE := Lib.hid hne
      clear hne
      go_wp2_with fail
      refine (impl_read HI.out _ (by omega)).mono ?_
      rintro e w2 ⟨A2, cap2, rfl, h21, h22, hsp, hb⟩
      have HB2 := Lib.hid (HB1.out.trans (hb.mono HB1.out.size))
      have HS2 := Lib.hid hsp
      clear hb hsp
      go_wp2_with fail
      refine (spec_read HI.out _ (by omega)).mono ?_
      rintro e w3 ⟨A3, cap3, rfl, h31, h32, hsp, hb⟩
      have HB3 := Lib.hid (HB2.out.trans (hb.mono HB2.out.size))
      have HS3 := Lib.hid hsp
      have HS23 := Lib.hid (HS2.out.below hb (Nat.le_refl _))
      clear hb hsp
      go_wp2_with fail
      refine (same_spans_at (o := true) _ HS23.out HS3.out rfl rfl (by omega) (by omega) (by simp)).mono ?_
      rintro e w4 ⟨rfl, hb⟩
      have HB4 := Lib.hid (HB3.out.trans (hb.mono HB3.out.size))
      have HS24 := Lib.hid (HS23.out.below hb (Nat.le_refl _))
      clear hb
      by_cases h6 : M.length < 6
      · have q1 : ¬ ((6 : Int) ≤ (M.length : Int)) := by omega
        have HI2 : Hid (IsSet (s ++ ⟨#[44, 42]⟩) true (M ++ [((0 : Int), (0 : Int))])) := HM.out ▸ isSet_more HPP.out (by rw [HM.out]; exact h6)
        go_wp2_with fail
        refine (impl_read HI2.out _ (more_size hs)).mono ?_
        rintro e w5 ⟨A5, cap5, rfl, h51, h52, hsp, hb⟩
        have HB5 := Lib.hid (HB4.out.trans (hb.mono HB4.out.size))
        have HS5 := Lib.hid hsp
        have HS25 := Lib.hid (HS24.out.below hb (Nat.le_refl _))
        clear hb hsp
        obtain ⟨b, o, rfl, hbl, hnews⟩ := spa_news HS25.out HNE.out
        have hown := Own.lit w5 (Nat.le_refl w5.heap.size)
        have hnews1 : ∀ j u, (spn M)[j]? = some u → (w5.alloc (.cells #[] 27)).cell? ((⟨b, o, none⟩ : Addr).add j) = some u := fun j u hu => by
          have h1 := hnews j u hu
          rw [add_none] at h1 ⊢
          exact ((Below.refl w5.heap.size w5).alloc (Nat.le_refl _) (.cells #[] 27)).cell (p := ⟨b, o + j, none⟩) hbl |>.trans h1
        have hml : 0 + M.length ≤ maxLen := by unfold maxLen; omega
        have hby : (0 + M.length) * 16 ≤ 140737488355328 := by omega
        have hba : w5.heap.size ≤ (w5.alloc (.cells #[] 27)).heap.size := by simp
        have hsl := spn_len M
        clear hnews
        go_wp2_with (at_builtin; refine wpList_append_own_g (by rfl) _ _ 23 rfl w5.heap.size 27 i0 (.agg #[.int .i64 0, .int .i64 0]) 2 16 Try.underlying23 hi hq0 hq1 hq2 rfl (by decide) _ _ _ rfl (hown.row rfl) ⟨b, o, none⟩ M.length cap2 (spn M) rfl hsl hnews1 (spn_cells M) hml hby hba ?_)
        intro v' w6 hown1 hgrow hcp
        have HO6 := Lib.hid (Own.cat (L := []) hown1 (by simp))
        have HBL6 := Lib.hid (((Below.refl w5.heap.size w5).alloc (Nat.le_refl _) (.cells #[] 27)).grown hgrow (by simp) (fun z hz => (World.ownsRow.lt hown z hz).1))
        clear hown hown1 hgrow hnews1 hml hby hba hcp
        rw [List.nil_append] at HO6
        have hwz : w5.heap.size ≤ w6.heap.size := HBL6.out.size
        obtain ⟨A6, cap6, rfl, hc61, hc62, -⟩ := HO6.out.form
        have hown := HO6.out.alloc (.cells #[.int .i64 0, .int .i64 0] 27)
        have hnews := two_new' w6 (.int .i64 0) (.int .i64 0) 27 w6.heap.size rfl
        have hml : M.length + 1 ≤ maxLen := by unfold maxLen; omega
        have hby : (M.length + 1) * 16 ≤ 140737488355328 := by omega
        have hba : w5.heap.size ≤ (w6.alloc (.cells #[.int .i64 0, .int .i64 0] 27)).heap.size := by simp; omega
        go_wp2_with (at_builtin; refine wpList_append_own_g (by rfl) _ _ 23 rfl w5.heap.size 27 i0 (.agg #[.int .i64 0, .int .i64 0]) 2 16 Try.underlying23 hi hq0 hq1 hq2 rfl (by decide) _ _ _ rfl (hown.row rfl) ⟨w6.heap.size, 0, none⟩ 1 1 [.int .i64 0, .int .i64 0] rfl rfl hnews (two_one _ _) hml hby hba ?_)
        intro v' w7 hown1 hgrow hcp
        have HO7 := Lib.hid (Own.push hown1 rfl)
        have HBL7 := Lib.hid ((HBL6.out.alloc hwz (.cells #[.int .i64 0, .int .i64 0] 27)).grown hgrow (by simp; omega) (fun z hz => (World.ownsRow.lt hown z hz).1))
        clear hown hown1 hgrow hnews hml hby hba hcp
        obtain ⟨D, hD⟩ : ∃ D, M ++ [((0 : Int), (0 : Int))] = D := ⟨_, rfl⟩
        have hd7 : D.length ≤ 7 := by rw [← hD]; simp; omega
        rw [hD] at HO7 HS5
        obtain ⟨A7, cap7, rfl, hc71, hc72, hsp⟩ := HO7.out.form
        have HS7 := Lib.hid hsp
        have HS57 := Lib.hid (HS5.out.below HBL7.out (Nat.le_refl _))
        have HDD := Lib.hid hD
        clear hsp
        clear hD
        go_wp2_with fail
        refine (same_spans_at (L := D) (o := true) _ HS57.out HS7.out (by have := HDD.out; rw [← this]; first | rfl | simp) rfl (by first | omega | (simp; omega)) (by omega) (by simp)).mono ?_
        rintro e w8 ⟨rfl, hb⟩
        have HB8 := Lib.hid ((HB5.out.trans (HBL7.out.mono HB5.out.size)).trans (hb.mono (HB5.out.trans (HBL7.out.mono HB5.out.size)).size))
        clear hb
        go_wp2
        go_ret
        exact ⟨rfl, HB8.out⟩
      · have q1 : ((6 : Int) ≤ (M.length : Int)) := by omega
        have HI2 : Hid (IsSet (s ++ ⟨#[44, 42]⟩) false []) := isSet_much HPP.out (by rw [HM.out]; exact h6)
        go_wp2_with fail
        refine (impl_read HI2.out _ (more_size hs)).mono ?_
        rintro e w5 ⟨A5, cap5, rfl, h51, h52, hsp, hb⟩
        have HB5 := Lib.hid (HB4.out.trans (hb.mono HB4.out.size))
        clear hb hsp
        go_wp2
        go_ret
        exact ⟨rfl, HB5.out⟩
  · have hl' : (1048576 : Int) < (len : Int) := by omega
    go_enter Try.func5, Try.ntmps5
    go_wp2
    go_ret
    exact ⟨rfl, Below.refl _ _⟩

set_option maxRecDepth 20000 in
set_option maxHeartbeats 4000000 in
theorem law_FnSetZero (A : Option Addr) (len cap : Nat) (w : World) (h : Coded w A len cap) : Calls Try.prog 6 #[.slice A len cap] w (Holds1 w) := by
  have HC := Lib.hid h
  clear h
  by_cases hl : len ≤ 1048576
  · have hl' : (len : Int) ≤ 1048576 := by omega
    go_enter Try.func6, Try.ntmps6
    go_wp2_with fail
    refine (draw_setparse A len cap _ HC.out).mono ?_
    rintro e w1 ⟨s, hs, rfl, hb⟩
    have HB1 := Lib.hid hb
    clear hb
    cases hP : setO s.data.toList with
    | none =>
      have HI := Lib.hid (isSet_no hP)
      clear hP
      go_wp2_with fail
      refine (impl_read HI.out _ (by omega)).mono ?_
      rintro e w2 ⟨A2, cap2, rfl, h21, h22, hsp, hb⟩
      have HB2 := Lib.hid (HB1.out.trans (hb.mono HB1.out.size))
      have HS2 := Lib.hid hsp
      clear hb hsp
      go_wp2_with fail
      refine (spec_read HI.out _ (by omega)).mono ?_
      rintro e w3 ⟨A3, cap3, rfl, h31, h32, hsp, hb⟩
      have HB3 := Lib.hid (HB2.out.trans (hb.mono HB2.out.size))
      have HS3 := Lib.hid hsp
      have HS23 := Lib.hid (HS2.out.below hb (Nat.le_refl _))
      clear hb hsp
      go_wp2_with fail
      refine (same_spans_at (o := true) _ HS23.out HS3.out rfl rfl (by simp) (by simp) (by simp)).mono ?_
      rintro e w4 ⟨rfl, hb⟩
      have HB4 := Lib.hid (HB3.out.trans (hb.mono HB3.out.size))
      have HS24 := Lib.hid (HS23.out.below hb (Nat.le_refl _))
      have HS34 := Lib.hid (HS3.out.below hb (Nat.le_refl _))
      clear hb
      go_wp2_with fail
      refine (same_spans_at (o := true) _ HS24.out HS34.out rfl rfl (by simp) (by simp) (by simp)).mono ?_
      rintro e w5 ⟨rfl, hb⟩
      have HB5 := Lib.hid (HB4.out.trans (hb.mono HB4.out.size))
      clear hb
      go_wp2
      go_ret
      exact ⟨rfl, HB5.out⟩
    | some P =>
      have HI := Lib.hid (isSet_yes hP)
      have hl6 := (set_up hP).2
      clear hP
      obtain ⟨M, hM⟩ : ∃ M, up P = M := ⟨_, rfl⟩
      rw [hM] at HI hl6
      clear hM
      have HZ0 := Lib.hid (isSet_zero 48 (by decide) s)
      have HZ1 := Lib.hid (isSet_zero 32 (by decide) s)
      have HZ2 := Lib.hid (isSet_zero 44 (by decide) s)
      go_wp2_with fail
      refine (impl_read HI.out _ (by omega)).mono ?_
      rintro e w2 ⟨A2, cap2, rfl, h21, h22, hsp, hb⟩
      have HB2 := Lib.hid (HB1.out.trans (hb.mono HB1.out.size))
      have HS2 := Lib.hid hsp
      clear hb hsp
      go_wp2_with fail
      refine (spec_read HI.out _ (by omega)).mono ?_
      rintro e w3 ⟨A3, cap3, rfl, h31, h32, hsp, hb⟩
      have HB3 := Lib.hid (HB2.out.trans (hb.mono HB2.out.size))
      have HS3 := Lib.hid hsp
      have HS23 := Lib.hid (HS2.out.below hb (Nat.le_refl _))
      clear hb hsp
      go_wp2_with fail
      refine (same_spans_at (o := true) _ HS23.out HS3.out rfl rfl (by omega) (by omega) (by simp)).mono ?_
      rintro e w4 ⟨rfl, hb⟩
      have HB4 := Lib.hid (HB3.out.trans (hb.mono HB3.out.size))
      clear hb
      go_wp2_with fail
      refine (impl_read HZ0.out _ (zero_size _ hs)).mono ?_
      rintro e w5 ⟨A5, cap5, rfl, h51, h52, -, hb⟩
      have HB5 := Lib.hid (HB4.out.trans (hb.mono HB4.out.size))
      clear hb
      go_wp2_with fail
      refine (impl_read HZ1.out _ (zero_size _ hs)).mono ?_
      rintro e w6 ⟨A6, cap6, rfl, h61, h62, -, hb⟩
      have HB6 := Lib.hid (HB5.out.trans (hb.mono HB5.out.size))
      clear hb
      go_wp2_with fail
      refine (impl_read HZ2.out _ (zero_size _ hs)).mono ?_
      rintro e w7 ⟨A7, cap7, rfl, h71, h72, -, hb⟩
      have HB7 := Lib.hid (HB6.out.trans (hb.mono HB6.out.size))
      clear hb
      go_wp2
      go_ret
      exact ⟨rfl, HB7.out⟩
  · have hl' : (1048576 : Int) < (len : Int) := by omega
    go_enter Try.func6, Try.ntmps6
    go_wp2
    go_ret
    exact ⟨rfl, Below.refl _ _⟩
end Go.Proofs.Ytmhpmdibhpcjpaa
