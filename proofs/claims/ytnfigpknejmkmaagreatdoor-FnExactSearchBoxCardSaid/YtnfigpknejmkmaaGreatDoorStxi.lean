/-
  The contracts of the code's numberText, spanText and SetText. Condition: the spans can be read.
-/
import Derived.Test.YtnfigpknejmkmaaGreatDoorStext
import Derived.Test.YtnfigpknejmkmaaGreatDoorDshelf
import Derived.Test.YtnfigpknejmkmaaGreatDoorCut
import Derived.Test.YtnfigpknejmkmaaGreatDoorSmark
namespace Go.Proofs.YtnfigpknejmkmaaGreatDoor
open Go.RowKit
set_option linter.unusedVariables false

theorem dec_wordN {n : Nat} (h1 : 1 ≤ n) (h2 : n ≤ 99) : Lib.decDigits n = wordN n := by
  unfold wordN
  rw [if_neg (by omega)]
  by_cases h : n < 10
  · rw [if_pos h, Lib.decDigits, dif_pos h]
  · rw [if_neg h, Lib.decDigits, dif_neg h, Lib.decDigits, dif_pos (by omega)]
    rfl
set_option maxHeartbeats 1000000 in
theorem number_text (n : Nat) (w : World) (h2 : n ≤ 99) :
    Calls Tryz.prog 163 #[.int .i64 (n : Int)] w fun e w' => e = .returned (.string (wordB n)) ∧ ∃ k, w' = w.drewN k := by
  by_cases h : n = 0
  · subst h
    go_enter Tryz.func163, Tryz.ntmps163
    go_wp2_with fail
    go_ret
    exact ⟨rfl, 0, rfl⟩
  · have h0 : ((n : Int) == 0) = false := beq_eq_false_iff_ne.2 (by omega)
    have hd := dec_wordN (n := n) (by omega) h2
    have HB : Hid ((⟨(Lib.decDigits n).toArray⟩ : ByteArray) = wordB n) := by
      rw [hd]
      rfl
    clear h hd
    go_enter Tryz.func163, Tryz.ntmps163
    go_wp2_with fail
    refine (itoa_small n (by omega) _).mono ?_
    rintro e w1 ⟨rfl, rfl⟩
    rw [HB.out]
    go_wp2
    go_ret
    exact ⟨rfl, 0, rfl⟩
/-- A span as it is written. -/
def spanT (a b : Nat) : ByteArray := ⟨(spanW (a, b)).toArray⟩
theorem spanT_same (a : Nat) : spanT a a = wordB a := by unfold spanT spanW wordB; rw [if_pos rfl]
theorem spanT_two {a b : Nat} (h : a ≠ b) : wordB a ++ ⟨#[58]⟩ ++ wordB b = spanT a b := by
  have e : (wordB a ++ ⟨#[58]⟩ ++ wordB b).data.toList = spanW (a, b) := by
    unfold spanW
    rw [if_neg h]
    simp [wordB]
  unfold spanT
  rw [← e]
set_option maxHeartbeats 2000000 in
set_option maxRecDepth 20000 in
theorem span_text (a b : Nat) (w : World) (ha : a ≤ 99) (hb : b ≤ 99) :
    Calls Tryz.prog 161 #[.agg #[.int .i64 (a : Int), .int .i64 (b : Int)]] w fun e w' => e = .returned (.string (spanT a b)) ∧ Below w.heap.size w w' := by
  by_cases h : a = b
  · subst h
    have he : ((a : Int) == (a : Int)) = true := by simp
    have HS := Lib.hid (spanT_same a)
    go_enter Tryz.func161, Tryz.ntmps161
    go_wp2_with fail
    refine (number_text a _ ha).mono ?_
    rintro e w1 ⟨rfl, k, rfl⟩
    go_wp2
    go_ret
    exact ⟨by rw [HS.out]; rfl, below_drewN' ((Below.refl _ _).alloc (Nat.le_refl _) _) _⟩
  · have he : ((a : Int) == (b : Int)) = false := beq_eq_false_iff_ne.2 (by omega)
    have HS := Lib.hid (spanT_two h)
    have hsa := wordB_size a
    have hsb := wordB_size b
    clear h
    go_enter Tryz.func161, Tryz.ntmps161
    go_wp2_with fail
    go_quiet ((first
      | (go_at_call 163; exact Calls.quiet_of (number_text a _ ha))
      | (go_at_call 163; exact Calls.quiet_of (number_text b _ hb))))
    go_wp2
    go_ret
    refine ⟨?_, below_drewN' ((Below.refl _ _).alloc (Nat.le_refl _) _) _⟩
    rw [← HS.out]
    rfl

/-- The texts of spans. -/
def texts (L : List (Int × Int)) : List ByteArray := L.map fun x => spanT x.1.toNat x.2.toNat
theorem texts_len (L : List (Int × Int)) : (texts L).length = L.length := by unfold texts; rw [List.length_map]
theorem texts_take {L : List (Int × Int)} {k : Nat} {a b : Nat} (h : L[k]? = some ((a : Int), (b : Int))) : texts (L.take (k + 1)) = texts (L.take k) ++ [spanT a b] := by
  unfold texts
  rw [List.take_add_one, h, List.map_append]
  rfl
theorem join_texts : ∀ L : List (Int × Int), Lib.join ((texts L).map (·.data.toList)) [44] = joinW (dn L)
  | [] => rfl
  | [x] => by simp [texts, dn, joinW, Lib.join_one, spanT]
  | x :: y :: r => by
    have ih := join_texts (y :: r)
    rw [show dn (x :: y :: r) = (x.1.toNat, x.2.toNat) :: dn (y :: r) from rfl]
    rw [show dn (y :: r) = (y.1.toNat, y.2.toNat) :: dn r from rfl] at ih ⊢
    rw [joinW_cons, ← ih]
    simp [texts, Lib.join, List.intercalate, spanT]
def strs (xs : List ByteArray) : List Value := xs.map .string
theorem strs_len (xs : List ByteArray) : (strs xs).length = xs.length := by unfold strs; rw [List.length_map]
theorem one_str (x : ByteArray) : ∀ u ∈ [Value.string x], u.oneCell' = true := by
  intro u hu
  simp at hu
  subst hu
  rfl
def OwnT (w : World) (B : Nat) (v : Value) (xs : List ByteArray) : Prop := w.ownsRow B 9 1 v xs.length (strs xs)
theorem OwnT.push {w : World} {B : Nat} {v : Value} {xs : List ByteArray} {x : ByteArray} {n : Nat} (h : w.ownsRow B 9 1 v n (strs xs ++ [.string x])) (hn : n = xs.length + 1) : OwnT w B v (xs ++ [x]) := by
  unfold OwnT
  rw [List.length_append, List.length_singleton, ← hn, show strs (xs ++ [x]) = strs xs ++ [.string x] by unfold strs; rw [List.map_append]; rfl]
  exact h
theorem OwnT.form {w : World} {B : Nat} {v : Value} {xs : List ByteArray} (h : OwnT w B v xs) : ∃ A cap, v = .slice A xs.length cap ∧ xs.length ≤ cap ∧ cap ≤ maxLen ∧
    (xs ≠ [] → ∃ g, A = some ⟨g, 0, none⟩ ∧ g < w.heap.size ∧ ∀ (j : Nat) x, xs[j]? = some x → w.cell? ⟨g, 0 + j, none⟩ = some (.string x)) := by
  have hlt := World.ownsRow.lt h
  have hcell : ∀ g, v.ownBlock = some g → ∀ j u, (strs xs)[j]? = some u → w.cell? ((⟨g, 0, none⟩ : Addr).add j) = some u := fun g hg => World.ownsRow.cells h hg
  rcases h.2 with ⟨rfl, h0⟩ | ⟨g, cap, cur, rfl, hB, hg, hn, hm, hs, ht⟩
  · exact ⟨none, 0, by rw [h0], by omega, by unfold maxLen; omega, fun hne => absurd (List.eq_nil_of_length_eq_zero h0) hne⟩
  · refine ⟨_, cap, rfl, hn, hm, fun _ => ⟨g, rfl, (hlt g rfl).2, fun j x hx => ?_⟩⟩
    have := hcell g rfl j (.string x) (by unfold strs; rw [List.getElem?_map, hx]; rfl)
    rw [add_none] at this
    exact this

set_option maxRecDepth 20000 in
set_option maxHeartbeats 4000000 in
theorem impl_settext (A : Option Addr) (cap : Nat) (L : List (Int × Int)) (w : World) (h : SpA w A L) (hl : L.length ≤ 33554432) :
    Calls Tryz.prog 160 #[.slice A L.length cap] w (Tells w (textB L)) := by
  obtain ⟨i0, hi, hq0, hq1, hq2⟩ := info_parts Tryz.infoString
  have H := Lib.hid h
  clear h
  cases hs : setB L
  · have HSB := Lib.hid hs
    clear hs
    go_enter Tryz.func160, Tryz.ntmps160
    go_wp2_with fail
    refine (impl_setvalid_at HSB.out _ H.out hl).mono ?_
    rintro e w1 ⟨rfl, hb⟩
    have HB := Lib.hid hb
    clear hb
    go_wp2
    go_ret
    exact ⟨⟨#[]⟩, by rw [textB_no HSB.out], rfl, HB.out⟩
  · have HSB := Lib.hid hs
    obtain ⟨hsp, hl1, hl6⟩ := setB_iff.1 hs
    have HSP := Lib.hid hsp
    clear hs hsp
    go_enter Tryz.func160, Tryz.ntmps160
    go_wp2_with fail
    refine (impl_setvalid_at HSB.out _ H.out hl).mono ?_
    rintro e w1 ⟨rfl, hb⟩
    have HB1 := Lib.hid hb
    have H1 := Lib.hid (H.out.below hb (Nat.le_refl _))
    have hw1 := hb.size
    clear hb
    obtain ⟨n, hn⟩ : ∃ n, L.length = n := ⟨_, rfl⟩
    have HN := Lib.hid hn
    rw [hn] at hl hl1 hl6 ⊢
    clear hn
    go_wp2
    go_loopw [3, 11] (fun v i wr => ∃ k : Nat, k ≤ n ∧ i = .int .i64 (k : Int) ∧ w1.heap.size ≤ wr.heap.size ∧ Hid (OwnT wr w1.heap.size v (texts (L.take k))) ∧ Hid (Below w1.heap.size w1 wr)) (fun _ i _ => n - (intOf i).toNat)
    case atStart => exact ⟨0, Nat.zero_le _, by go_num, Nat.le_refl _, World.ownsRow_nil w1 w1.heap.size _ 1, Below.refl _ _⟩
    case round =>
      obtain ⟨k, hk, rfl, hwr, HO, HB⟩ := hrel
      obtain ⟨C, hC⟩ : ∃ C, texts (L.take k) = C := ⟨_, rfl⟩
      have hcl : C.length ≤ 6 := by rw [← hC, texts_len, List.length_take]; omega
      have HC := Lib.hid hC
      rw [hC] at HO
      clear hC
      obtain ⟨A2, cap2, rfl, hc1, hc2, hcs⟩ := HO.out.form
      have HCS := Lib.hid hcs
      clear hcs
      by_cases hlt : k < n
      · have h0 : (0 : Int) ≤ (k : Int) := by omega
        have h5 : (k : Int) < (n : Int) := by omega
        obtain ⟨⟨x1, x2⟩, hx⟩ : ∃ x, L[k]? = some x := ⟨_, List.getElem?_eq_getElem (by rw [HN.out]; exact hlt)⟩
        obtain ⟨⟨y1, y2⟩, y3, y4⟩ := spanB_iff.1 (HSP.out _ (List.mem_of_getElem? hx))
        obtain ⟨a, rfl⟩ : ∃ a : Nat, x1 = (a : Int) := ⟨x1.toNat, by simp at y1; omega⟩
        obtain ⟨b2, rfl⟩ : ∃ a : Nat, x2 = (a : Int) := ⟨x2.toNat, by simp at y3; omega⟩
        have ya : a ≤ 99 := by simp at y2; omega
        have yb : b2 ≤ 99 := by simp at y4; omega
        clear y1 y2 y3 y4
        obtain ⟨b, o, rfl, hbz, c1, c2⟩ := (H1.out.below HB.out (Nat.le_refl _)) k _ hx
        have HX := Lib.hid hx
        clear hx
        have HBA := Lib.hid (HB.out.alloc hwr (.cells #[.int .i64 (a : Int), .int .i64 (b2 : Int)] 108))
        go_wp2_with fail
        refine (span_text a b2 _ ya yb).mono ?_
        rintro e w2 ⟨rfl, hb⟩
        have HB2 := Lib.hid (HBA.out.trans (hb.mono HBA.out.size))
        have hO2 : w2.ownsRow w1.heap.size 9 1 (.slice A2 C.length cap2) C.length (strs C) :=
          World.ownsRow.kept (row := none) (World.ownsRow.alloc HO.out (.cells #[.int .i64 (a : Int), .int .i64 (b2 : Int)] 108)) ⟨hb.os, hb.tape, hb.output, hb.size, fun j hj _ => hb.block j hj⟩ (by cases hv : (Value.slice A2 C.length cap2).ownBlock <;> simp)
        have hw2 : w1.heap.size ≤ w2.heap.size := HB2.out.size
        clear hb
        have hown := World.ownsRow.alloc hO2 (.cells #[.string (spanT a b2)] 9)
        have hnews := one_new' w2 (.string (spanT a b2)) 9 w2.heap.size rfl
        have hml : C.length + 1 ≤ maxLen := by unfold maxLen; omega
        have hby : (C.length + 1) * 16 ≤ 140737488355328 := by omega
        have hba : w1.heap.size ≤ (w2.alloc (.cells #[.string (spanT a b2)] 9)).heap.size := by simp; omega
        go_wp2_with (at_builtin; refine wpList_append_own _ rfl _ _ 61 rfl w1.heap.size 9 i0 (.string ⟨#[]⟩) 1 16 Tryz.underlying61 hi hq0 hq1 hq2 rfl (by decide) _ _ _ rfl hown ⟨w2.heap.size, 0, none⟩ 1 1 [.string (spanT a b2)] rfl rfl hnews (one_str _) hml hby hba ?_)
        intro v' w3 hown1 hgrow hcp
        have HO3 := Lib.hid (OwnT.push hown1 rfl)
        have HB3 := Lib.hid ((HB2.out.alloc hw2 (.cells #[.string (spanT a b2)] 9)).grown hgrow hba (fun z hz => (World.ownsRow.lt hown z hz).1))
        have hw3 : w1.heap.size ≤ w3.heap.size := HB3.out.size
        clear hown hown1 hgrow hnews hml hby hba hcp hO2
        go_wp2
        go_roundw
        case rel => exact ⟨k + 1, by omega, by go_num, hw3, by rw [texts_take HX.out, HC.out]; exact HO3, HB3.out⟩
        case measure => simp [intOf]; omega
      · have h5 : ¬ (k : Int) < (n : Int) := by omega
        have hce : C = texts L := by rw [← HC.out, List.take_of_length_le (by rw [HN.out]; omega)]
        have hne : C ≠ [] := by
          rintro rfl
          have := congrArg List.length hce
          rw [texts_len, HN.out] at this
          simp at this
          omega
        obtain ⟨g, rfl, hg, hcells⟩ := HCS.out hne
        have HJ : Hid (Lib.join (C.map (·.data.toList)) [44] = textB L) := by rw [hce, join_texts, ← textB_yes HSB.out]; trivial
        have HCE := Lib.hid hcells
        have hjl : (Lib.join (C.map (·.data.toList)) [44]).length ≤ 140737488355328 := by
          rw [hce, join_texts]
          have := joinW_len (dn L)
          rw [dn_len, HN.out] at this
          omega
        have HJL := Lib.hid hjl
        have HBr := Lib.hid (HB1.out.trans (HB.out.mono hw1))
        clear hce hne hcells hjl
        go_wp2_with fail
        refine (join_any g 0 cap2 C ⟨#[44]⟩ _ HCE.out hg (by omega) hc1 HJL.out).mono ?_
        rintro e w4 ⟨rfl, hb⟩
        have HB4 := Lib.hid (HBr.out.trans (hb.mono HBr.out.size))
        clear hb
        go_wp2
        go_ret
        exact ⟨_, HJ.out, rfl, HB4.out⟩
end Go.Proofs.YtnfigpknejmkmaaGreatDoor
