/-
  The loops of the code's Base64Encode and Base64Decode over the groups of a text. Conditions: a bound on the text's length.
-/
import Derived.Test.YtmangdkaklnpdaaGrp
import Derived.Test.YtmangdkaklnpdaaBld
import Derived.Test.YtmangdkaklnpdaaIdec
import Derived.Test.YtmangdkaklnpdaaBbase
namespace Go.Proofs.Ytmangdkaklnpdaa
open Go.RowKit Go.Shelf
set_option linter.unusedVariables false
attribute [local go_sem] Oper.semAt_some

theorem builder_kept {T e : TypeId} {B b : Nat} {bs : List Value} {W W' : World} {row : Option Nat} (h : Lib.IsBuilder T e B b bs W) (hg : W.grownBy W' row) (hr : ∀ r, row = some r → ∃ o : Obj, W.heap[r]? = some o ∧ o.isCells = false) : Lib.IsBuilder T e B b bs W' := by
  have one : ∀ p, Lib.BuilderAt T e B b p bs W → Lib.BuilderAt T e B b p bs W' := by
    rintro p ⟨hB, v, hb, hown, hne⟩
    have hlt : b < W.heap.size := (Array.getElem?_eq_some_iff.1 hb).1
    refine ⟨hB, v, ?_, ?_, hne⟩
    · rw [hg.block b hlt ?_]
      · exact hb
      · intro e
        obtain ⟨o, ho, hc⟩ := hr b e.symm
        rw [hb] at ho
        cases ho
        cases hc
    · refine hown.kept hg ?_
      cases hv : v.ownBlock with
      | none =>
        rcases hown.2 with ⟨rfl, _⟩ | ⟨g, cap, cur, rfl, _⟩
        · exact Or.inl rfl
        · simp [Value.ownBlock] at hv
      | some g =>
        refine Or.inr ?_
        intro e
        obtain ⟨o, ho, hc⟩ := hr g e.symm
        obtain ⟨c, fz, hh⟩ := Lib.ownsRowF_kind (World.ownsRowF_of hown) g hv
        rw [hh] at ho
        cases ho
        cases hc
  rcases h with h | h
  · exact .inl (one _ h)
  · exact .inr (one _ h)
theorem others_keep {e : TypeId} {b : Nat} {W W' : World} {t : TypeId} {cs : Array Value} (h : Lib.OthersKept e (some b) W W') (hw : Whole W b t cs) (hs : W.heap.size ≤ W'.heap.size) : KeepsOthers W W' :=
  ⟨hs, fun k o hk ho => h k o hk (by
    intro e
    cases e
    rw [show W.heap[b]? = _ from hw] at hk
    cases hk
    cases ho) (by
    intro c fz e
    subst e
    cases ho)⟩
theorem others_whole {e : TypeId} {b c : Nat} {W W' : World} {t : TypeId} {cs : Array Value} (h : Lib.OthersKept e (some b) W W') (hw : Whole W c t cs) (hc : c ≠ b) (ht : t ≠ e) : Whole W' c t cs :=
  h c _ hw (by intro e; cases e; exact hc rfl) (by intro c' fz e; cases e; exact ht rfl)
theorem Lib_byteCells_append (a b : List UInt8) : Lib.byteCells (a ++ b) = Lib.byteCells a ++ Lib.byteCells b := by simp [Lib.byteCells]
theorem str_cells (l : List UInt8) : Lib.strCells (bt l) = Lib.byteCells l := rfl
theorem builder_new {T e : TypeId} (w : World) : Lib.IsBuilder T e w.heap.size w.heap.size [] (w.alloc (.cells #[.pointer none, .slice none 0 0] T)) := Lib.fresh_isBuilder T e w

/-- What the loop over the groups keeps. -/
def LoopI (n : Nat) (f : List UInt8 → List UInt8) (s : ByteArray) (w : World) (b c1 c2 : Nat) (pre : List (Gn n)) (W : World) : Prop :=
  (Lib.IsBuilder 81 5 b b (Lib.byteCells ((gl pre).flatMap f)) W ∧ Whole W c1 9 #[.string s] ∧ Whole W c2 3 #[.int .i64 (n : Int)]) ∧ Below b w W
theorem whole_kept {W W' : World} {b : Nat} {t : TypeId} {cs : Array Value} {row : Option Nat} (h : Whole W b t cs) (hg : W.grownBy W' row) (hr : ∀ r, row = some r → ∃ o : Obj, W.heap[r]? = some o ∧ o.isCells = false) : Whole W' b t cs :=
  h.grown hg (fun e => by
    obtain ⟨o, ho, hc⟩ := hr b e.symm
    rw [show W.heap[b]? = _ from h] at ho
    cases ho
    cases hc)
theorem loopI_own {n : Nat} {f : List UInt8 → List UInt8} {s : ByteArray} {w : World} {b c1 c2 B : Nat} (hb : b ≤ w.heap.size) (hB : b ≤ B) : OwnFrom B (LoopI n f s w b c1 c2) :=
  OwnFrom.and (Own.from (fun pre X Y row hs hg hr => ⟨builder_kept hs.1 hg hr, whole_kept hs.2.1 hg hr, whole_kept hs.2.2 hg hr⟩) _) (ownFrom_below hb hB)
theorem flat_len {n k : Nat} {f : List UInt8 → List UInt8} (hf : ∀ x : Gn n, (f x.1.data.toList).length ≤ k) (pre : List (Gn n)) : ((gl pre).flatMap f).length ≤ k * pre.length := by
  induction pre with
  | nil => simp [gl]
  | cons x t ih =>
    have := hf x
    show (f x.1.data.toList ++ (gl t).flatMap f).length ≤ _
    rw [List.length_append, List.length_cons, Nat.mul_add]
    omega
/-- What a round leaves, where it has made the text 'f x' and written it. -/
theorem loopI_round {n : Nat} {f : List UInt8 → List UInt8} {s : ByteArray} {w : World} {b c1 c2 B : Nat} {pre : List (Gn n)} {x : Gn n} {W W1 W2 : World} (hc1 : c1 ≠ b) (hc2 : c2 ≠ b) (hb : b ≤ w.heap.size)
    (h : LoopI n f s w b c1 c2 pre W) (hb1 : Below W.heap.size W W1)
    (hA : Lib.BuilderAt 81 5 b b (.pointer (some ⟨b, 0, none⟩)) (Lib.byteCells ((gl pre).flatMap f) ++ Lib.strCells (bt (f x.1.data.toList))) W2) (hb2 : Below b W1 W2) (hk2 : Lib.OthersKept 5 (some b) W1 W2) :
    KeepsFrom B W W2 ∧ Two c1 c2 W W2 ∧ LoopI n f s w b c1 c2 (pre ++ [x]) W2 := by
  obtain ⟨⟨hB, h1, h2⟩, hbel⟩ := h
  have g1 : W.grownBy W1 none := gr_below hb1 none
  have a1 := h1.below hb1 h1.lt
  have a2 := h2.below hb1 h2.lt
  have hbW : ∃ cs, Whole W1 b 81 cs := by
    have h' := builder_kept hB g1 (fun r e => by cases e)
    rcases h' with ⟨_, v, hv, _⟩ | ⟨_, v, hv, _⟩
    · exact ⟨_, hv⟩
    · exact ⟨_, hv⟩
  obtain ⟨cs, hcs⟩ := hbW
  have k1 : KeepsOthers W W1 := KeepsOthers.of_grownBy g1 (fun j o e _ => by cases e)
  have k2 := others_keep hk2 hcs hb2.size
  have e1 := others_whole hk2 a1 hc1 (by decide)
  have e2 := others_whole hk2 a2 hc2 (by decide)
  refine ⟨(k1.trans k2).from _, ⟨Eq.trans e1 h1.symm, Eq.trans e2 h2.symm⟩, ⟨.inr ?_, e1, e2⟩, ?_⟩
  · rw [gl_snoc, List.flatMap_append]
    rw [str_cells, ← Lib_byteCells_append] at hA
    simpa using hA
  · exact (hbel.trans (hb1.mono (Nat.le_trans hb hbel.size))).trans hb2

set_option maxRecDepth 100000 in
set_option maxHeartbeats 2000000 in
theorem ienc_loop (s : ByteArray) (w : World) (hs : s.size ≤ 30) : Calls Try.prog 44 #[.string s] w (Says w (bt (enc s.data.toList))) := by
  have hi : ¬ (30 : Int) < (s.size : Int) := by omega
  have HS := Lib.hid hs
  clear hs
  refine (callsIn_wide (n := 4)).1 ?_
  refine callsIn_of_wp_marks Try.func44 rfl trivial ?_ rfl
  simp only [Try.ntmps44, List.size_toArray, List.length_cons, List.length_nil, Nat.reduceAdd, Nat.reduceSub, Array.replicate_succ, Array.replicate_zero, List.push_toArray, List.append_toArray, List.nil_append, List.cons_append]
  gi_wp2_with (refine ⟨trivial, ?_⟩; gi_at_call 56; refine (callsIn_wide.2 (groups_in s 3 _)).mono ?_; rintro e w' ⟨rfl, rfl⟩)
  obtain ⟨b, hb⟩ : ∃ b, w.heap.size = b := ⟨_, rfl⟩
  obtain ⟨w0, hw0⟩ : ∃ w0, w.alloc (.cells #[.pointer none, .slice none 0 0] 81) = w0 := ⟨_, rfl⟩
  have hz0 : w0.heap.size = b + 1 := by rw [← hw0, ← hb]; simp
  have hb0 : Lib.IsBuilder 81 5 b b [] w0 := by rw [← hw0, ← hb]; exact builder_new w
  have hB0 : Below b w w0 := by rw [← hw0, ← hb]; exact (Below.refl _ _).alloc (Nat.le_refl _) _
  rw [hw0, hb]
  obtain ⟨w1, hw1⟩ : ∃ w1, (w0.alloc (.cells #[.string s] 9)).alloc (.cells #[.int .i64 3] 3) = w1 := ⟨_, rfl⟩
  have hz1 : w1.heap.size = b + 3 := by rw [← hw1]; simp; omega
  have a1 : Whole w1 (b + 1) 9 #[.string s] := by rw [← hw1, ← hz0]; exact (Whole.made w0 _ _).alloc _
  have a2 : Whole w1 (b + 1 + 1) 3 #[.int .i64 ((3 : Nat) : Int)] := by
    have h := Whole.made (w0.alloc (.cells #[.string s] 9)) 3 #[.int .i64 3]
    rw [hw1, World.size_alloc, hz0] at h
    exact h
  have hB1 : Below b w w1 := by rw [← hw1]; exact (hB0.alloc (by omega) _).alloc (by simp; omega) _
  have hbb1 : Lib.IsBuilder 81 5 b b [] w1 := by
    rw [← hw1]
    exact builder_kept (builder_kept hb0 (World.grownBy_alloc w0 _ none) (fun r e => by cases e)) (World.grownBy_alloc _ _ none) (fun r e => by cases e)
  rw [hw1]
  have hbw : b ≤ w.heap.size := by omega
  clear hw0 hw1 hz0 hb0 hB0
  refine wpIn_rangeFunc_ownG (α := Gn 3) rfl (by decide) (gf := 67) (lb := #[.pointer (some ⟨b + 1, 0, none⟩), .pointer (some ⟨b + 1 + 1, 0, none⟩)]) rfl trivial (enters_of Try.func67 (by kernel_rfl) rfl)
    (groups_stops 3 (b + 1) (b + 1 + 1) 3 (by decide) (by decide) (by decide) s (by have := HS.out; omega) w1 a1 a2) two_t (two_b (by omega) (by omega)) (Below.refl _ _) (fun _ => rfl)
    (LoopI 3 enc s w b (b + 1) (b + 1 + 1)) (fun _ _ _ => False) (loopI_own hbw (by omega)) (fun _ _ _ _ _ hs _ _ => hs)
    ⟨⟨hbb1, a1, a2⟩, hB1⟩
    (fun x => { tmps := #[.string s, undef, .string ⟨#[]⟩, .pointer (some ⟨b, 0, none⟩), .string x.1, .string s, .int .i64 (s.size : Int), .bool false, .string s, .func (.func 67) #[] #[.pointer (some ⟨b + 1, 0, none⟩), .pointer (some ⟨b + 1 + 1, 0, none⟩)], .string x.1, undef, undef, undef, undef], defers := [] }) ?assign ?body ?done ?stop
  case assign =>
    intro l x W K hK
    gi_wp2
    exact hK
  case body =>
    rintro l pre x W hI hlt
    have HI := Lib.hid hI
    have HX := Lib.hid x.2
    have HL := Lib.hid hlt
    clear hI hlt
    gi_wp2_with (refine ⟨trivial, ?_⟩; gi_at_call 58; refine (CallsIn.inRound l (callsIn_wide.2 (enc_group x.1 _ HX.out.1 HX.out.2))).mono ?_)
    rintro e W1 ⟨rfl, hb1⟩
    have HB1 := Lib.hid hb1
    clear hb1
    have hBW : Lib.IsBuilder 81 5 b b (Lib.byteCells ((gl pre).flatMap enc)) W1 := builder_kept HI.out.1.1 (gr_below HB1.out none) (fun r e => by cases e)
    have hbW : b ≤ W1.heap.size := Nat.le_trans hbw (Nat.le_trans HI.out.2.size HB1.out.size)
    have hlen : (Lib.byteCells ((gl pre).flatMap enc)).length + (bt (enc x.1.data.toList)).size ≤ 140737488355328 := by
      have h1 := flat_len (n := 3) (k := 4) (f := enc) (fun y => by rw [enc_len]; have := y.2.2; have hl : y.1.data.toList.length = y.1.size := by simp
                                                                    omega) pre
      have h2 := HL.out
      have h3 := HS.out
      rw [Lib.byteCells_length, bt_size, enc_len]
      have h4 := HX.out.2
      have hl : x.1.data.toList.length = x.1.size := by simp
      omega
    gi_wp2_with (refine ⟨trivial, ?_⟩; gi_at_call 57; refine (CallsIn.inRound l (callsIn_wide.2 (write_string b b _ _ _ hBW hlen hbW))).mono ?_)
    rintro e W2 ⟨rfl, hA, hb2, hk2⟩
    have HR := Lib.hid (loopI_round (B := w1.heap.size) (by omega) (by omega) hbw HI.out HB1.out hA hb2 hk2)
    clear hA hb2 hk2 hBW hbW hlen
    gi_wp2
    exact HR.out
  case done =>
    rintro D ys W hD hG hI hK
    have HI := Lib.hid hI
    have HG := Lib.hid (grp_enc _ _ hG)
    have HD := Lib.hid hD
    have HK := Lib.hid hK
    clear hI hG hD hK
    have hbW : b ≤ W.heap.size := Nat.le_trans hbw HI.out.2.size
    gi_wp2_with (refine ⟨trivial, ?_⟩; gi_at_call 59; refine (callsIn_wide.2 (builder_string_k b b _ _ (Lib.IsBuilderF.of HI.out.1.1) hbW)).mono ?_)
    rintro e W2 ⟨rfl, hF, hb2, hk2⟩
    have hK2 := hk2 D _ HK.out (by intro e; cases e; have := HD.out; omega) (by intro c fz e; cases e)
    have HK2 := Lib.hid hK2
    have HB2 := Lib.hid (HI.out.2.trans hb2)
    clear hF hb2 hk2 hK2
    gi_wp2
    refine ⟨by simp, .inl ⟨_, _, rfl, run_takeDeferred HK2.out, ?_⟩⟩
    refine ⟨_, results_tmp rfl _ _ _, ?_, ?_⟩
    · rw [HG.out]
      rfl
    · rw [hb]
      exact HB2.out.trans (belowK_b (w := w) (by omega) _ D _ _ (by have := HD.out; omega) HK2.out rfl rfl)
  case stop =>
    rintro D c pre W _ _ h _
    exact h.elim

theorem ienc (s : ByteArray) (w : World) : Calls Try.prog 44 #[.string s] w (Says w (encB s)) := by
  by_cases h : s.size ≤ 30
  · rw [encB_yes h]
    exact ienc_loop s w h
  · have h1 : (30 : Int) < (s.size : Int) := by omega
    have HE := Lib.hid (encB_no h)
    clear h
    go_enter Try.func44, Try.ntmps44
    go_wp2
    go_ret
    exact ⟨by rw [HE.out]; rfl, Below.refl _ _⟩
theorem toList_iff {x y : ByteArray} : x.toList = y.toList ↔ x = y := by
  rw [ByteArray.toList_eq, ByteArray.toList_eq]
  constructor
  · intro h; rw [← bt_of x, h, bt_of]
  · rintro rfl; rfl
theorem isD_same {s : ByteArray} (h : (encB (bt (dg s.data.toList))).toList = s.toList) : IsD s true (bt (dg s.data.toList)) := by
  rw [toList_iff] at h
  by_cases hl : (bt (dg s.data.toList)).size ≤ 30
  · rw [encB_yes hl] at h
    exact dg_same hl (by rw [bt_list] at h; rw [← bt_list (enc (dg s.data.toList)), h])
  · rw [encB_no hl] at h
    subst h
    exact absurd (show (bt (dg [])).size ≤ 30 by decide) hl
theorem isD_other {s : ByteArray} (h : ¬ (encB (bt (dg s.data.toList))).toList = s.toList) : IsD s false ⟨#[]⟩ := by
  refine isD_no (dg_other (fun hl he => h ?_))
  rw [toList_iff, encB_yes (by rw [bt_size]; exact hl), bt_list, he, bt_of]
set_option maxRecDepth 100000 in
set_option maxHeartbeats 2000000 in
theorem idec_loop {s x : ByteArray} {o : Bool} (hd : IsD s o x) (w : World) (hs : s.size ≤ 16777216) : Calls Try.prog 52 #[.string s] w (Gives w x o) := by
  have HDD := Lib.hid hd
  clear hd
  have HS := Lib.hid hs
  clear hs
  refine (callsIn_wide (n := 4)).1 ?_
  refine callsIn_of_wp_marks Try.func52 rfl trivial ?_ rfl
  simp only [Try.ntmps52, List.size_toArray, List.length_cons, List.length_nil, Nat.reduceAdd, Nat.reduceSub, Array.replicate_succ, Array.replicate_zero, List.push_toArray, List.append_toArray, List.nil_append, List.cons_append]
  gi_wp2_with (refine ⟨trivial, ?_⟩; gi_at_call 56; refine (callsIn_wide.2 (groups_in s 4 _)).mono ?_; rintro e w' ⟨rfl, rfl⟩)
  obtain ⟨b, hb⟩ : ∃ b, w.heap.size = b := ⟨_, rfl⟩
  obtain ⟨w0, hw0⟩ : ∃ w0, w.alloc (.cells #[.pointer none, .slice none 0 0] 81) = w0 := ⟨_, rfl⟩
  have hz0 : w0.heap.size = b + 1 := by rw [← hw0, ← hb]; simp
  have hb0 : Lib.IsBuilder 81 5 b b [] w0 := by rw [← hw0, ← hb]; exact builder_new w
  have hB0 : Below b w w0 := by rw [← hw0, ← hb]; exact (Below.refl _ _).alloc (Nat.le_refl _) _
  rw [hw0, hb]
  obtain ⟨w1, hw1⟩ : ∃ w1, (w0.alloc (.cells #[.string s] 9)).alloc (.cells #[.int .i64 4] 3) = w1 := ⟨_, rfl⟩
  have hz1 : w1.heap.size = b + 3 := by rw [← hw1]; simp; omega
  have a1 : Whole w1 (b + 1) 9 #[.string s] := by rw [← hw1, ← hz0]; exact (Whole.made w0 _ _).alloc _
  have a2 : Whole w1 (b + 1 + 1) 3 #[.int .i64 ((4 : Nat) : Int)] := by
    have h := Whole.made (w0.alloc (.cells #[.string s] 9)) 3 #[.int .i64 4]
    rw [hw1, World.size_alloc, hz0] at h
    exact h
  have hB1 : Below b w w1 := by rw [← hw1]; exact (hB0.alloc (by omega) _).alloc (by simp; omega) _
  have hbb1 : Lib.IsBuilder 81 5 b b [] w1 := by
    rw [← hw1]
    exact builder_kept (builder_kept hb0 (World.grownBy_alloc w0 _ none) (fun r e => by cases e)) (World.grownBy_alloc _ _ none) (fun r e => by cases e)
  rw [hw1]
  have hbw : b ≤ w.heap.size := by omega
  clear hw0 hw1 hz0 hb0 hB0
  refine wpIn_rangeFunc_ownG (α := Gn 4) rfl (by decide) (gf := 67) (lb := #[.pointer (some ⟨b + 1, 0, none⟩), .pointer (some ⟨b + 1 + 1, 0, none⟩)]) rfl trivial (enters_of Try.func67 (by kernel_rfl) rfl)
    (groups_stops 3 (b + 1) (b + 1 + 1) 4 (by decide) (by decide) (by decide) s (by have := HS.out; omega) w1 a1 a2) two_t (two_b (by omega) (by omega)) (Below.refl _ _) (fun _ => rfl)
    (LoopI 4 decG s w b (b + 1) (b + 1 + 1)) (fun _ _ _ => False) (loopI_own hbw (by omega)) (fun _ _ _ _ _ hs _ _ => hs)
    ⟨⟨hbb1, a1, a2⟩, hB1⟩
    (fun x => { tmps := #[.string s, undef, .string ⟨#[]⟩, .bool false, .pointer (some ⟨b, 0, none⟩), .string x.1, undef, .string s, .func (.func 67) #[] #[.pointer (some ⟨b + 1, 0, none⟩), .pointer (some ⟨b + 1 + 1, 0, none⟩)], .string x.1, undef, undef, undef, undef, undef, undef, undef, undef, undef], defers := [] }) ?assign ?body ?done ?stop
  case assign =>
    intro l x W K hK
    gi_wp2
    exact hK
  case body =>
    rintro l pre x W hI hlt
    have HI := Lib.hid hI
    have HX := Lib.hid x.2
    have HL := Lib.hid hlt
    clear hI hlt
    gi_wp2_with (refine ⟨trivial, ?_⟩; gi_at_call 65; refine (CallsIn.inRound l (callsIn_wide.2 (dec_group x.1 _ HX.out.2))).mono ?_)
    rintro e W1 ⟨rfl, hb1⟩
    have HB1 := Lib.hid hb1
    clear hb1
    have hBW : Lib.IsBuilder 81 5 b b (Lib.byteCells ((gl pre).flatMap decG)) W1 := builder_kept HI.out.1.1 (gr_below HB1.out none) (fun r e => by cases e)
    have hbW : b ≤ W1.heap.size := Nat.le_trans hbw (Nat.le_trans HI.out.2.size HB1.out.size)
    have hlen : (Lib.byteCells ((gl pre).flatMap decG)).length + (bt (decG x.1.data.toList)).size ≤ 140737488355328 := by
      have h1 := flat_len (n := 4) (k := 3) (f := decG) (fun y => decG_len _) pre
      have h2 := HL.out
      have h3 := HS.out
      rw [Lib.byteCells_length, bt_size]
      have h5 := decG_len x.1.data.toList
      have h4 := HX.out.2
      have hl : x.1.data.toList.length = x.1.size := by simp
      omega
    gi_wp2_with (refine ⟨trivial, ?_⟩; gi_at_call 57; refine (CallsIn.inRound l (callsIn_wide.2 (write_string b b _ _ _ hBW hlen hbW))).mono ?_)
    rintro e W2 ⟨rfl, hA, hb2, hk2⟩
    have HR := Lib.hid (loopI_round (B := w1.heap.size) (by omega) (by omega) hbw HI.out HB1.out hA hb2 hk2)
    clear hA hb2 hk2 hBW hbW hlen
    gi_wp2
    exact HR.out
  case done =>
    rintro D ys W hD hG hI hK
    have HI := Lib.hid hI
    have HG := Lib.hid (grp_dg _ _ hG)
    have HD := Lib.hid hD
    have HK := Lib.hid hK
    clear hI hG hD hK
    have hbW : b ≤ W.heap.size := Nat.le_trans hbw HI.out.2.size
    gi_wp2_with (refine ⟨trivial, ?_⟩; gi_at_call 59; refine (callsIn_wide.2 (builder_string_k b b _ _ (Lib.IsBuilderF.of HI.out.1.1) hbW)).mono ?_)
    rintro e W2 ⟨rfl, hF, hb2, hk2⟩
    have hK2 := hk2 D _ HK.out (by intro e; cases e; have := HD.out; omega) (by intro c fz e; cases e)
    have HK2 := Lib.hid hK2
    have HB2 := Lib.hid (HI.out.2.trans hb2)
    clear hF hb2 hk2 hK2
    rw [HG.out]
    obtain ⟨p, hp⟩ : ∃ p, (⟨(dg s.data.toList).toArray⟩ : ByteArray) = p := ⟨_, rfl⟩
    rw [hp]
    have HP := Lib.hid (show bt (dg s.data.toList) = p from hp)
    clear hp
    by_cases he : (encB p).toList = s.toList
    · have q1 : ((encB p).toList == s.toList) = true := beq_iff_eq.2 he
      have q2 : ((encB p).toList != s.toList) = false := by simp [he]
      have HDY : Hid (IsD s true p) := by
        rw [← HP.out]
        exact Lib.hid (isD_same (by rw [HP.out]; exact he))
      clear he
      gi_wp2_with (refine ⟨trivial, ?_⟩; gi_at_call 44; refine (callsIn_wide.2 (ienc p _)).mono ?_)
      rintro e W3 ⟨rfl, hb3⟩
      have HK3 := Lib.hid ((hb3.block D (Array.getElem?_eq_some_iff.1 HK2.out).1).trans HK2.out)
      have HB3 := Lib.hid (HB2.out.trans (hb3.mono (Nat.le_trans hbw HB2.out.size)))
      clear hb3
      gi_wp2
      refine ⟨by simp, .inl ⟨_, _, rfl, run_takeDeferred HK3.out, ?_⟩⟩
      refine ⟨_, results_tmp2 rfl _ _ _, ?_⟩
      exact gives_mk HDD.out HDY.out (by rw [hb]; exact HB3.out.trans (belowK_b (w := w) (by omega) _ D _ _ (by have := HD.out; omega) HK3.out rfl rfl))
    · have q1 : ((encB p).toList == s.toList) = false := beq_eq_false_iff_ne.2 he
      have q2 : ((encB p).toList != s.toList) = true := by simp [he]
      have HDY : Hid (IsD s false ⟨#[]⟩) := Lib.hid (isD_other (by rw [HP.out]; exact he))
      clear he
      gi_wp2_with (refine ⟨trivial, ?_⟩; gi_at_call 44; refine (callsIn_wide.2 (ienc p _)).mono ?_)
      rintro e W3 ⟨rfl, hb3⟩
      have HK3 := Lib.hid ((hb3.block D (Array.getElem?_eq_some_iff.1 HK2.out).1).trans HK2.out)
      have HB3 := Lib.hid (HB2.out.trans (hb3.mono (Nat.le_trans hbw HB2.out.size)))
      clear hb3
      gi_wp2
      refine ⟨by simp, .inl ⟨_, _, rfl, run_takeDeferred HK3.out, ?_⟩⟩
      refine ⟨_, results_tmp2 rfl _ _ _, ?_⟩
      exact gives_mk HDD.out HDY.out (by rw [hb]; exact HB3.out.trans (belowK_b (w := w) (by omega) _ D _ _ (by have := HD.out; omega) HK3.out rfl rfl))
  case stop =>
    rintro D c pre W _ _ h _
    exact h.elim
end Go.Proofs.Ytmangdkaklnpdaa
