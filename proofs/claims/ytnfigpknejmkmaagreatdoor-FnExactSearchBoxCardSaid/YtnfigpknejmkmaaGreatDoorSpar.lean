/-
  The contracts of SetParse, the code's and the model's. No condition beyond a bound on the text's length.
-/
import Derived.Test.YtnfigpknejmkmaaGreatDoorScur
import Derived.Test.YtnfigpknejmkmaaGreatDoorCut
import Derived.RegionTactic
import Derived.BigRegion
import Derived.Deep.RegionWith
import Derived.IntWalk
namespace Go.Proofs.YtnfigpknejmkmaaGreatDoor
open Go.RowKit
set_option linter.unusedVariables false

theorem Tryz.infoSpan : (Tryz.prog.info? 108).map (fun i => (i.zero, i.size, i.bytes)) = some (some (.agg #[.int .i64 0, .int .i64 0]), 2, 16) := by kernel_rfl
/-- Numbers as the code has them. -/
def up (l : List (Nat × Nat)) : List (Int × Int) := l.map fun s => ((s.1 : Int), (s.2 : Int))
theorem up_len (l : List (Nat × Nat)) : (up l).length = l.length := by unfold up; rw [List.length_map]
theorem up_snoc (l : List (Nat × Nat)) (s : Nat × Nat) : up (l ++ [s]) = up l ++ [((s.1 : Int), (s.2 : Int))] := by unfold up; rw [List.map_append]; rfl
theorem up_inj {l m : List (Nat × Nat)} (h : up l = up m) : l = m := by
  unfold up at h
  refine List.map_inj_right (fun x y e => ?_) |>.1 h
  obtain ⟨a, b⟩ := x
  obtain ⟨c, d⟩ := y
  simp only [Prod.mk.injEq] at e ⊢
  omega
theorem up_set {l : List (Nat × Nat)} (h : ∀ s ∈ l, s.1 ≤ 99 ∧ s.2 ≤ 99) (h0 : l ≠ []) : setB (up l) = decide (l.length ≤ 6) := by
  have hp : 1 ≤ l.length := List.length_pos_iff.2 h0
  have ha : ∀ x ∈ up l, spanB x = true := by
    intro x hx
    unfold up at hx
    obtain ⟨s, hs, rfl⟩ := List.mem_map.1 hx
    have := h s hs
    exact spanB_iff.2 ⟨⟨by simp only; omega, by simp only; omega⟩, by simp only; omega, by simp only; omega⟩
  by_cases h6 : l.length ≤ 6
  · rw [decide_eq_true h6]
    exact setB_iff.2 ⟨ha, by rw [up_len]; exact hp, by rw [up_len]; exact h6⟩
  · rw [decide_eq_false h6]
    exact setB_long (by rw [up_len]; omega)
theorem two_new (w : World) (x y : Value) (t : TypeId) : ∀ j u, [x, y][j]? = some u → (w.alloc (.cells #[x, y] t)).cell? ((⟨w.heap.size, 0, none⟩ : Addr).add j) = some u := by
  intro j u hj
  match j, hj with
  | 0, hj => simp at hj; subst hj; simp [Addr.add]
  | 1, hj => simp at hj; subst hj; simp [Addr.add]
theorem Own.push {w : World} {B : Nat} {v : Value} {L : List (Int × Int)} {x y : Int} {n : Nat} (h : w.ownsRow B 108 2 v n (spn L ++ [.int .i64 x, .int .i64 y])) (hn : n = L.length + 1) : Own w B v (L ++ [(x, y)]) := by
  unfold Own
  rw [spn_app, spn_one, List.length_append, List.length_singleton, ← hn]
  exact h
theorem Own.grown {w w' : World} {B b : Nat} {v : Value} {L : List (Int × Int)} (h : Own w B v L) (hg : w.grownBy w' (some b)) (hb : b < B) : Own w' B v L :=
  World.ownsRow.kept h hg (by
    rcases h.2 with ⟨rfl, _⟩ | ⟨g, cap, cur, rfl, hB, _⟩
    · exact Or.inl rfl
    · exact Or.inr (by simp [Value.ownBlock]; omega))
theorem Own.alloc {w : World} {B : Nat} {v : Value} {L : List (Int × Int)} (h : Own w B v L) (o : Obj) : Own (w.alloc o) B v L := World.ownsRow.alloc h o
theorem Own.nil (w : World) (B : Nat) : Own w B (.slice none 0 0) [] := World.ownsRow_nil w B _ 2
theorem Own.lit (w : World) {B : Nat} (hB : B ≤ w.heap.size) : Own (w.alloc (.cells #[] 108)) B (.slice (some ⟨w.heap.size, 0, none⟩) 0 0) [] := World.ownsRow_lit w #[] 0 hB (by unfold maxLen; omega) rfl
theorem Own.row {w : World} {B : Nat} {v : Value} {L : List (Int × Int)} {n : Nat} (h : Own w B v L) (hn : n = L.length) : w.ownsRow B 108 2 v n (spn L) := by subst hn; exact h

/-- What a parser of sets leaves. -/
def ParsedS (w : World) (o : Option (List (Nat × Nat))) (e : Ending) (w' : World) : Prop :=
  ∃ v : Value, e = .returned (.tuple #[v, .bool o.isSome]) ∧ Own w' w.heap.size v (up (o.getD [])) ∧ Below w.heap.size w w'
theorem parsedS_no {w w' : World} {o : Option (List (Nat × Nat))} {v : Value} (h : o = none) (hv : Own w' w.heap.size v []) (hb : Below w.heap.size w w') : ParsedS w o (.returned (.tuple #[v, .bool false])) w' := by
  subst h
  exact ⟨v, rfl, hv, hb⟩
theorem parsedS_yes {w w' : World} {o : Option (List (Nat × Nat))} {P : List (Nat × Nat)} {v : Value} (h : o = some P) (hv : Own w' w.heap.size v (up P)) (hb : Below w.heap.size w w') : ParsedS w o (.returned (.tuple #[v, .bool true])) w' := by
  subst h
  exact ⟨v, rfl, hv, hb⟩
theorem setF_no {n : Nat} {S : List UInt8} {s : Nat × Nat} {r : List UInt8} (h : spanF S = (s, false, r)) : setF n S = none := by
  cases n with
  | zero => rfl
  | succ n => unfold setF; rw [h]
theorem setF_comma {n : Nat} {S t : List UInt8} {s : Nat × Nat} (h : spanF S = (s, true, 44 :: t)) : setF (n + 1) S = (setF n t).map (s :: ·) := by
  conv => lhs; unfold setF
  rw [h]
  simp
theorem setF_last {n : Nat} {S r : List UInt8} {s : Nat × Nat} (h : spanF S = (s, true, r)) (hr : ∀ t, r ≠ 44 :: t) : setF (n + 1) S = if r = [] then some [s] else none := by
  conv => lhs; unfold setF
  rw [h]
  cases r with
  | nil => rfl
  | cons c t =>
    have hc : c ≠ 44 := fun e => hr t (by rw [e])
    simp [hc]
theorem drop_end {L : List UInt8} {k n : Nat} (hl : L.length = n) (hk : k ≤ n) : L.drop k = [] ↔ k = n := by
  rw [List.drop_eq_nil_iff]; omega

/-- What is still to be read. -/
def Rest (L : List UInt8) (P : List (Nat × Nat)) (k : Nat) : Bool → Prop
  | true => setF 6 L = (setF (6 - P.length) (L.drop k)).map (P ++ ·)
  | false => setF 6 L = if L.drop k = [] then some P else none
theorem rest_begin (L : List UInt8) : Rest L [] 0 true := by
  show setF 6 L = _
  simp
theorem rest_bad {L : List UInt8} {P : List (Nat × Nat)} {k : Nat} (h : Rest L P k true) (hn : setF (6 - P.length) (L.drop k) = none) : setF 6 L = none := by
  have : setF 6 L = _ := h
  rw [this, hn]; rfl
theorem rest_comma {L t : List UInt8} {P : List (Nat × Nat)} {s : Nat × Nat} {k k' : Nat} (h : Rest L P k true) (h6 : P.length < 6) (hs : spanF (L.drop k) = (s, true, 44 :: t)) (ht : L.drop k' = t) : Rest L (P ++ [s]) k' true := by
  have h1 : setF 6 L = _ := h
  show setF 6 L = _
  obtain ⟨n, hn⟩ : ∃ n, 6 - P.length = n + 1 := ⟨5 - P.length, by omega⟩
  rw [h1, hn, setF_comma hs, ht, List.length_append, List.length_singleton, show 6 - (P.length + 1) = n by omega, Option.map_map]
  congr 1
  funext l
  simp
theorem rest_last {L r : List UInt8} {P : List (Nat × Nat)} {s : Nat × Nat} {k k' : Nat} (h : Rest L P k true) (h6 : P.length < 6) (hs : spanF (L.drop k) = (s, true, r)) (hr : ∀ t, r ≠ 44 :: t) (ht : L.drop k' = r) : Rest L (P ++ [s]) k' false := by
  have h1 : setF 6 L = _ := h
  show setF 6 L = _
  obtain ⟨n, hn⟩ : ∃ n, 6 - P.length = n + 1 := ⟨5 - P.length, by omega⟩
  rw [h1, hn, setF_last hs hr, ht]
  by_cases e : r = []
  · rw [if_pos e, if_pos e]; rfl
  · rw [if_neg e, if_neg e]; rfl

set_option maxHeartbeats 2000000 in
theorem impl_setparse (s : ByteArray) (w : World) (hs : s.size ≤ 16777216) :
    Calls Tryz.prog 62 #[.string s] w (ParsedS w (setO s.data.toList)) := by
  have hl : s.data.toList.length = s.size := by simp
  have HL := Lib.hid hl
  clear hl
  obtain ⟨L, hL⟩ : ∃ L, s.data.toList = L := ⟨_, rfl⟩
  have HLL := Lib.hid hL
  rw [hL] at HL ⊢
  clear hL
  rw [← setF6]
  obtain ⟨i0, hi, hq0, hq1, hq2⟩ := info_parts Tryz.infoSpan
  have hsz : (w.alloc (.cells #[.string s, .int .i64 0] 63)).heap.size = w.heap.size + 1 := by simp
  go_enter Tryz.func62, Tryz.ntmps62
  go_wp2
  go_loopg [5, 6] 7 (fun g v m wr => ∃ (k : Nat) (P : List (Nat × Nat)) (o : Bool), k ≤ s.size ∧ P.length ≤ 6 ∧ g = (if o then 7 - P.length else 0) ∧ m = .bool o ∧ w.heap.size < wr.heap.size ∧ Hid (Own wr (w.heap.size + 1) v (up P)) ∧ Hid (Cur wr w.heap.size s k) ∧ Hid (Below w.heap.size w wr) ∧ Hid (Rest L P k o))
  case atStart => exact ⟨0, [], true, Nat.zero_le _, by simp, rfl, rfl, by simp, Own.nil _ _, cur_new w s, (Below.refl _ _).alloc (Nat.le_refl _) _, rest_begin L⟩
  case round =>
    obtain ⟨k, P, o, hk, hP, hg, rfl, hwz, HO, HC, HB, HR⟩ := hrel
    have HG := Lib.hid hg
    clear hg
    obtain ⟨A, cap, rfl, hcl, hcm, hsp⟩ := HO.out.form
    clear hsp hcl hcm
    rw [up_len] at HO ⊢
    cases o with
    | false =>
      by_cases hz : k = s.size
      · have HZ := Lib.hid hz
        clear hz
        go_wp2_with fail
        refine (done_yes w.heap.size k s _ HC.out HZ.out).mono ?_
        rintro e w2 ⟨rfl, n, rfl⟩
        go_wp2
        go_ret2
        have hv := HO.out.from (B' := w.heap.size) (by omega)
        exact parsedS_yes (by have h := HR.out; unfold Rest at h; rw [h, if_pos ((drop_end HL.out hk).2 HZ.out)]) (by exact hv) (below_drewN' HB.out _)
      · have HZ := Lib.hid hz
        clear hz
        go_wp2_with fail
        refine (done_no w.heap.size k s _ HC.out (by have := HZ.out; omega)).mono ?_
        rintro e w2 ⟨rfl, n, rfl⟩
        go_wp2
        go_ret2
        exact parsedS_no (by have h := HR.out; unfold Rest at h; rw [h, if_neg (fun e => HZ.out ((drop_end HL.out hk).1 e))]) (Own.nil _ _) (below_drewN' HB.out _)
    | true =>
      obtain ⟨⟨⟨m, n⟩, o, r⟩, hsp⟩ : ∃ x, spanF (L.drop k) = x := ⟨_, rfl⟩
      have HSP := Lib.hid hsp
      clear hsp
      go_wp2_with fail
      refine (span_any w.heap.size k s _ HC.out hs hk).mono ?_
      rw [HLL.out, HSP.out]
      rintro e w1 ⟨k1, hk1, rfl, hr, hc, hg⟩
      have HC1 := Lib.hid hc
      have HB1 := Lib.hid (below_gr HB.out hg (by omega) (Nat.le_refl _))
      have HO1 := Lib.hid (HO.out.grown hg (Nat.lt_succ_self _))
      have HR1 := Lib.hid hr
      have hz1 : w.heap.size < w1.heap.size := Whole.lt hc
      clear hc hg hr
      cases o with
      | false =>
        go_wp2
        go_ret2
        exact parsedS_no (rest_bad HR.out (setF_no HSP.out)) (Own.nil _ _) (HB1.out.alloc (by omega) _)
      | true =>
        by_cases h6 : P.length = 6
        · have h6' : ((P.length : Int) == 6) = true := by rw [h6]; rfl
          have H6 := Lib.hid h6
          clear h6
          go_wp2
          go_ret2
          exact parsedS_no (rest_bad HR.out (by rw [H6.out]; rfl)) (Own.nil _ _) (HB1.out.alloc (by omega) _)
        · have h6' : ((P.length : Int) == 6) = false := beq_eq_false_iff_ne.2 (by omega)
          have H6 := Lib.hid h6
          clear h6
          have hown := (HO1.out.alloc (.cells #[.int .i64 (m : Int), .int .i64 (n : Int)] 108)).alloc (.cells #[.int .i64 (m : Int), .int .i64 (n : Int)] 108)
          go_wp2_with (at_builtin; refine wpList_append_own _ rfl _ _ 24 rfl (w.heap.size + 1) 108 i0 (.agg #[.int .i64 0, .int .i64 0]) 2 16 Tryz.underlying24 hi hq0 hq1 hq2 rfl (by decide) _ _ _ rfl (hown.row (up_len P).symm) ⟨w1.heap.size + 1, 0, none⟩ 1 1 [.int .i64 (m : Int), .int .i64 (n : Int)] rfl rfl ?c1 ?c2 ?c3 ?c4 ?c5 ?_)
          case c1 =>
            have := two_new (w1.alloc (.cells #[.int .i64 (m : Int), .int .i64 (n : Int)] 108)) (.int .i64 (m : Int)) (.int .i64 (n : Int)) 108
            simpa using this
          case c2 => intro u hu; simp at hu; rcases hu with rfl | rfl <;> rfl
          case c3 => unfold maxLen; omega
          case c4 => omega
          case c5 => simp; omega
          intro v' w2 hown2 hgrow _
          have hrow : ∀ q, Value.ownBlock (.slice A P.length cap) = some q → w.heap.size + 1 ≤ q := fun q hq => (World.ownsRow.lt hown q hq).1
          have HB2 := Lib.hid (((HB1.out.alloc (by omega) _).alloc (by simp; omega) _).grown hgrow (by simp; omega) (fun q hq => by have := hrow q hq; omega))
          have HC2 := Lib.hid (Whole.grown ((Whole.alloc HC1.out (.cells #[.int .i64 (m : Int), .int .i64 (n : Int)] 108)).alloc (.cells #[.int .i64 (m : Int), .int .i64 (n : Int)] 108)) hgrow (fun e => by have := hrow _ e.symm; omega))
          have HO2 := Lib.hid (Own.push hown2 (by rw [up_len]))
          have hz2 : w.heap.size < w2.heap.size := Whole.lt HC2.out
          clear hown2 hgrow hown hrow
          by_cases hx : nextIs s.data.toList k1 44 = true
          · have HX := Lib.hid hx
            clear hx
            have hkl : k1 + 1 ≤ s.size := by have := nextIs_lt HX.out; have := HL.out; rw [HLL.out] at *; omega
            go_wp2_with fail
            refine (take_at_yes 44 44 rfl w.heap.size k1 s _ HC2.out hs hk1 HX.out).mono ?_
            rintro e w3 ⟨rfl, hc, hg⟩
            have HC3 := Lib.hid hc
            have HB3 := Lib.hid (below_gr HB2.out hg (by omega) (Nat.le_refl _))
            have HO3 := Lib.hid (HO2.out.grown hg (Nat.lt_succ_self _))
            clear hc hg
            go_wp2
            go_roundg (7 - (P.length + 1))
            case measure => have := HG.out; simp at this; omega
            case rel =>
              have := H6.out
              refine ⟨k1 + 1, P ++ [(m, n)], true, hkl, by simp; omega, by simp, rfl, Whole.lt HC3.out, ?_, HC3.out, HB3.out, rest_comma HR.out (by omega) (t := L.drop (k1 + 1)) ?_ rfl⟩
              · rw [up_snoc]; exact HO3.out
              · rw [HSP.out]
                have h1 := HR1.out
                have h2 := next_drop HX.out
                rw [HLL.out] at h1 h2
                rw [← h1, h2]
          · have HX := Lib.hid (Bool.eq_false_iff.2 hx)
            clear hx
            go_wp2_with fail
            refine (take_at_no 44 44 rfl w.heap.size k1 s _ HC2.out hs hk1 HX.out).mono ?_
            rintro e w3 ⟨rfl, hc, hg⟩
            have HC3 := Lib.hid hc
            have HB3 := Lib.hid (below_gr HB2.out hg (by omega) (Nat.le_refl _))
            have HO3 := Lib.hid (HO2.out.grown hg (Nat.lt_succ_self _))
            clear hc hg
            go_wp2
            go_roundg 0
            case measure => have := HG.out; simp at this; omega
            case rel =>
              have := H6.out
              refine ⟨k1, P ++ [(m, n)], false, hk1, by simp; omega, rfl, rfl, Whole.lt HC3.out, ?_, HC3.out, HB3.out, rest_last HR.out (by omega) HSP.out ?_ ?_⟩
              · rw [up_snoc]; exact HO3.out
              · intro t e
                exact next_ne HX.out t (by rw [HR1.out]; exact e)
              · have h1 := HR1.out
                rw [HLL.out] at h1
                exact h1
end Go.Proofs.YtnfigpknejmkmaaGreatDoor
