/-
  Kna, Knb, Knc, Knd, Kne, Koj in one text. Conditions: each contract's own.
-/
import Derived.Test.YtnfigpknejmkmaaGreatDoorKmy
import Derived.Test.YtnfigpknejmkmaaGreatDoorKny
import Derived.Test.YtnfigpknejmkmaaGreatDoorKox
import Derived.Test.YtnfigpknejmkmaaGreatDoorLawa
namespace Go.Proofs.YtnfigpknejmkmaaGreatDoor
open Go.RowKit
set_option linter.unusedVariables false

/-- The words behind a key's first one, ahead of its keys. -/
def hxw (kd : Int) (t : ByteArray) (S : List (Int × Int)) : List (List UInt8) := if kd = 2 then [t.data.toList] else if kd = 3 ∨ kd = 4 then [textB S] else []
mutual
/-- A key's words. -/
def wT : KT → List (List UInt8)
  | .mk kd f t S ks => hw kd f :: (hxw kd t S ++ wL ks)
def wL : List KT → List (List UInt8)
  | [] => []
  | k :: r => wT k ++ wL r
end
/-- Words, each with a blank ahead of it. -/
def tlJ : List (List UInt8) → List UInt8
  | [] => []
  | w :: r => 32 :: (w ++ tlJ r)
theorem tlJ_app : ∀ (a b : List (List UInt8)), tlJ (a ++ b) = tlJ a ++ tlJ b
  | [], b => rfl
  | w :: r, b => by rw [List.cons_append, tlJ, tlJ, tlJ_app r b]; simp
theorem hx_tlJ (kd : Int) (t : ByteArray) (S : List (Int × Int)) : hx kd t S = tlJ (hxw kd t S) := by
  unfold hx hxw
  split
  · rw [tlJ, tlJ, List.append_nil]
  · split
    · rw [tlJ, tlJ, List.append_nil]
    · rfl
mutual
theorem fmtT_words : ∀ (K : KT), ∃ h r, wT K = h :: r ∧ fmtT K = h ++ tlJ r
  | .mk kd f t S ks => by
    refine ⟨hw kd f, hxw kd t S ++ wL ks, by rw [wT], ?_⟩
    rw [fmtT, headW_hw, hx_tlJ, fmtL_words ks, tlJ_app, List.append_assoc]
theorem fmtL_words : ∀ (l : List KT), fmtL l = tlJ (wL l)
  | [] => by rw [fmtL, wL, tlJ]
  | k :: r => by
    obtain ⟨h, t, h1, h2⟩ := fmtT_words k
    rw [fmtL, wL, tlJ_app, fmtL_words r, h1, tlJ, h2]
    simp
end
theorem cutGo_word : ∀ (W : List UInt8) (cur : List UInt8) (R : List (List UInt8)), Nb W → (∀ v ∈ R, Nb v) → cutGo 32 cur (W ++ tlJ R) = (cur ++ W) :: R
  | [], cur, [], _, _ => by rw [tlJ, List.append_nil, cutGo, List.append_nil]
  | [], cur, v :: R, _, h => by
    rw [tlJ, List.nil_append, cutGo, if_pos rfl, cutGo_word v [] R (h v (by simp)) (fun x hx => h x (List.mem_cons_of_mem _ hx)), List.append_nil, List.nil_append]
  | c :: W, cur, R, hw, h => by
    rw [List.cons_append, cutGo, if_neg (hw c (by simp)), cutGo_word W (cur ++ [c]) R (fun x hx => hw x (List.mem_cons_of_mem _ hx)) h, List.append_assoc]
    rfl
theorem nb_hxw {kd f : Int} {t : ByteArray} {S : List (Int × Int)} {n : Nat} (h : nodeB kd f t S n = true) : ∀ v ∈ hxw kd t S, Nb v := by
  intro v hv
  unfold hxw at hv
  split at hv
  · rename_i e
    subst e
    rw [List.mem_singleton] at hv
    subst hv
    exact nb_name (node2 h)
  · split at hv
    · rename_i e
      rw [List.mem_singleton] at hv
      subst hv
      exact nb_text ((node_lenR h).2.1 e)
    · cases hv
mutual
theorem nb_wT : ∀ (K : KT), allT K = true → ∀ v ∈ wT K, Nb v
  | .mk kd f t S ks, h => by
    rw [allT, Bool.and_eq_true] at h
    intro v hv
    rw [wT] at hv
    rcases List.mem_cons.1 hv with rfl | hv
    · exact hw_nb kd f
    · rcases List.mem_append.1 hv with hv | hv
      · exact nb_hxw h.2 v hv
      · exact nb_wL ks h.1 v hv
theorem nb_wL : ∀ (l : List KT), allL l = true → ∀ v ∈ wL l, Nb v
  | [], _ => by intro v hv; rw [wL] at hv; cases hv
  | k :: r, h => by
    rw [allL, Bool.and_eq_true] at h
    intro v hv
    rw [wL] at hv
    rcases List.mem_append.1 hv with hv | hv
    · exact nb_wT k h.1 v hv
    · exact nb_wL r h.2 v hv
end
/-- A valid key's text, cut at its blanks. -/
theorem cut_key {K : KT} (h : allT K = true) : cut 32 (fmtT K) = wT K := by
  obtain ⟨a, r, h1, h2⟩ := fmtT_words K
  have h3 := nb_wT K h
  rw [h1] at h3
  unfold cut
  rw [h2, cutGo_word a [] r (h3 a (by simp)) (fun v hv => h3 v (List.mem_cons_of_mem _ hv)), h1, List.nil_append]
theorem wL_app : ∀ (a b : List KT), wL (a ++ b) = wL a ++ wL b
  | [], b => by rw [List.nil_append, wL, List.nil_append]
  | k :: r, b => by rw [List.cons_append, wL, wL, wL_app r b, List.append_assoc]
theorem wT_pos : ∀ (K : KT), 0 < (wT K).length
  | .mk kd f t S ks => by rw [wT, List.length_cons]; omega
/-- A valid key's words stand at a place. -/
def AtW (ws : List (List UInt8)) (k : Nat) (K : KT) (R : List (List UInt8)) : Prop := allT K = true ∧ ws.drop k = wT K ++ R
/-- The key whose words stand there is the one that was read. -/
def CmpW (ws : List (List UInt8)) (k : Nat) (e : Int) (K : KT) : Prop := ∀ K2 R2, AtW ws k K2 R2 → e = ((k + (wT K2).length : Nat) : Int) ∧ K = K2
/-- The keys of a node. -/
def CmpJ (ws : List (List UInt8)) (k many : Nat) (e : Int) (ks : List KT) : Prop := ∀ ks2 R2, allL ks2 = true → ks2.length = many → ws.drop k = wL ks2 ++ R2 → e = ((k + (wL ks2).length : Nat) : Int) ∧ ks = ks2
theorem drop_get {α : Type} {ws : List α} {k : Nat} {a : α} {r : List α} (h : ws.drop k = a :: r) : ws[k]? = some a ∧ ws.drop (k + 1) = r ∧ k < ws.length := by
  have hk : k < ws.length := by
    rcases Nat.lt_or_ge k ws.length with h1 | h1
    · exact h1
    · rw [List.drop_eq_nil_of_le h1] at h; cases h
  rw [List.drop_eq_getElem_cons hk] at h
  exact ⟨by rw [List.getElem?_eq_getElem hk, (List.cons.inj h).1], (List.cons.inj h).2, hk⟩
theorem AtW.first {ws : List (List UInt8)} {k : Nat} {kd f : Int} {t : ByteArray} {S : List (Int × Int)} {ks : List KT} {R : List (List UInt8)} (h : AtW ws k (.mk kd f t S ks) R) :
    ws[k]? = some (hw kd f) ∧ ws.drop (k + 1) = hxw kd t S ++ (wL ks ++ R) ∧ k < ws.length := by
  have h2 := h.2
  rw [wT, List.cons_append, List.append_assoc] at h2
  exact drop_get h2
/-- What the first word says. -/
theorem AtW.kind {ws : List (List UInt8)} {k : Nat} {kd f kd1 f1 : Int} {t : ByteArray} {S : List (Int × Int)} {ks : List KT} {R : List (List UInt8)} {W : List UInt8} {o : Bool} (h : AtW ws k (.mk kd f t S ks) R) (hW : ws[k]? = some W) (hk : wk W = (kd1, f1, o)) :
    kd = kd1 ∧ f = f1 ∧ o = true ∧ nodeB kd f t S ks.length = true := by
  have h1 := h.first.1
  rw [hW] at h1
  cases h1
  have h2 := h.1
  rw [allT, Bool.and_eq_true] at h2
  rw [wk_hw h2.2] at hk
  obtain ⟨rfl, h3⟩ := Prod.mk.inj hk
  obtain ⟨rfl, rfl⟩ := Prod.mk.inj h3
  exact ⟨rfl, rfl, rfl, h2.2⟩
/-- A node that holds others has no text and no set. -/
theorem node_join {kd f : Int} {t : ByteArray} {S : List (Int × Int)} {n : Nat} (h : nodeB kd f t S n = true) (hk : kd = 5 ∨ kd = 6 ∨ kd = 7) : f = 0 ∧ t = ⟨#[]⟩ ∧ S = [] ∧ n = nOf kd := by
  have hn := node_n h
  have h2 : f = 0 ∧ t.size = 0 ∧ S.length = 0 := by
    unfold nodeB at h
    repeat' (split at h)
    all_goals first | (simp only [Bool.and_eq_true, beq_iff_eq] at h; omega) | (cases h; done)
  refine ⟨h2.1, ?_, List.length_eq_zero_iff.1 h2.2.2, hn⟩
  exact txt_isR (List.length_eq_zero_iff.1 (by rw [← size_txt]; exact h2.2.1))
/-- A node that is read by its keys. -/
theorem cmp_join {ws : List (List UInt8)} {k : Nat} {kd : Int} {W : List UInt8} {e : Int} {ks : List KT} (hW : ws[k]? = some W) (hwk : wk W = (kd, 0, true)) (hk : kd = 5 ∨ kd = 6 ∨ kd = 7) (h : CmpJ ws (k + 1) (nOf kd) e ks) : CmpW ws k e (.mk kd 0 ⟨#[]⟩ [] ks) := by
  rintro ⟨kd2, f2, t2, S2, ks2⟩ R2 ha
  obtain ⟨rfl, rfl, _, hn⟩ := ha.kind hW hwk
  obtain ⟨_, rfl, rfl, hl⟩ := node_join hn hk
  have h2 := ha.first.2.1
  have hx0 : hxw kd2 ⟨#[]⟩ [] = [] := by unfold hxw; rw [if_neg (by omega), if_neg (by omega)]
  rw [hx0, List.nil_append] at h2
  have ha1 := ha.1
  rw [allT, Bool.and_eq_true] at ha1
  obtain ⟨h3, rfl⟩ := h ks2 R2 ha1.1 hl h2
  refine ⟨?_, rfl⟩
  rw [h3, wT, hx0, List.nil_append, List.length_cons]
  omega
/-- What has been read of a node's keys so far. -/
def CIJ (ws : List (List UInt8)) (k many i at' : Nat) (ks : List KT) : Prop := ∀ ks2 R2, allL ks2 = true → ks2.length = many → ws.drop k = wL ks2 ++ R2 → ks = ks2.take i ∧ ws.drop at' = wL (ks2.drop i) ++ R2 ∧ at' = k + (wL (ks2.take i)).length
theorem cij_begin (ws : List (List UInt8)) (k many : Nat) : CIJ ws k many 0 k [] := fun ks2 R2 _ _ h => ⟨by simp, by simpa using h, by simp [wL]⟩
theorem cij_at {ws : List (List UInt8)} {k many i at' : Nat} {ks ks2 : List KT} {R2 : List (List UInt8)} (h : CIJ ws k many i at' ks) (hi : i < many) (ha : allL ks2 = true) (hl : ks2.length = many) (hd : ws.drop k = wL ks2 ++ R2) :
    ∃ K3, ks2[i]? = some K3 ∧ AtW ws at' K3 (wL (ks2.drop (i + 1)) ++ R2) := by
  have hi2 : i < ks2.length := by omega
  have e : ks2.drop i = ks2[i] :: ks2.drop (i + 1) := List.drop_eq_getElem_cons hi2
  obtain ⟨_, h2, _⟩ := h ks2 R2 ha hl hd
  have hal : allL (ks2.drop i) = true := by
    have h7 := allL_app (ks2.take i) (ks2.drop i)
    rw [List.take_append_drop, ha] at h7
    have h8 := h7.symm
    rw [Bool.and_eq_true] at h8
    exact h8.2
  rw [e] at h2 hal
  rw [allL, Bool.and_eq_true] at hal
  rw [wL, List.append_assoc] at h2
  exact ⟨ks2[i], List.getElem?_eq_getElem hi2, hal.1, h2⟩
theorem cij_next {ws : List (List UInt8)} {k many i at' e : Nat} {ks : List KT} {K : KT} (h : CIJ ws k many i at' ks) (hi : i < many) (hc : CmpW ws at' (e : Int) K) : CIJ ws k many (i + 1) e (ks ++ [K]) := by
  intro ks2 R2 ha hl hd
  obtain ⟨K3, h1, h2⟩ := cij_at h hi ha hl hd
  obtain ⟨c1, c2, c3⟩ := h ks2 R2 ha hl hd
  obtain ⟨d1, rfl⟩ := hc _ _ h2
  have e1 : e = at' + (wT K).length := by omega
  have e2 : ks2.take (i + 1) = ks2.take i ++ [K] := by rw [List.take_add_one, h1]; rfl
  refine ⟨by rw [c1, e2], ?_, ?_⟩
  · rw [e1, ← List.drop_drop, h2.2]
    simp
  · rw [e2, wL_app, e1, c3, List.length_append, wL, wL, List.append_nil]
    omega
theorem cij_fail {ws : List (List UInt8)} {k many i at' : Nat} {ks ks6 : List KT} {K : KT} (h : CIJ ws k many i at' ks) (hi : i < many) (hc : CmpW ws at' (-1) K) : CmpJ ws k many (-1) ks6 := by
  intro ks2 R2 ha hl hd
  obtain ⟨K3, _, h2⟩ := cij_at h hi ha hl hd
  have := (hc _ _ h2).1
  omega
theorem cij_end {ws : List (List UInt8)} {k many at' : Nat} {ks : List KT} (h : CIJ ws k many many at' ks) : CmpJ ws k many (at' : Int) ks := by
  intro ks2 R2 ha hl hd
  obtain ⟨c1, _, c3⟩ := h ks2 R2 ha hl hd
  have e : ks2.take many = ks2 := List.take_of_length_le (by omega)
  rw [e] at c1 c3
  exact ⟨by rw [c3], c1⟩
/-- Nothing stands there. -/
theorem cmp_none {ws : List (List UInt8)} {k : Nat} {e : Int} {K : KT} (h : ∀ K2 R2, ¬ AtW ws k K2 R2) : CmpW ws k e K := fun K2 R2 ha => absurd ha (h K2 R2)
theorem cmp_out {ws : List (List UInt8)} {k : Nat} {e : Int} {K : KT} (h : ws.length ≤ k) : CmpW ws k e K := cmp_none fun K2 R2 ha => by
  obtain ⟨kd, f, t, S, ks⟩ := K2
  have := ha.first.2.2
  omega
/-- A leaf of one word. -/
theorem cmp_one {ws : List (List UInt8)} {k : Nat} {kd f : Int} {W : List UInt8} (hW : ws[k]? = some W) (hwk : wk W = (kd, f, true)) (hk : kd = 0 ∨ kd = 1) : CmpW ws k ((k + 1 : Nat) : Int) (.mk kd f ⟨#[]⟩ [] []) := by
  rintro ⟨kd2, f2, t2, S2, ks2⟩ R2 ha
  obtain ⟨rfl, rfl, _, hn⟩ := ha.kind hW hwk
  have h0 := (node_lenR hn).1 (by omega)
  have h2 : t2.size = 0 ∧ S2.length = 0 := by
    unfold nodeB at hn
    repeat' (split at hn)
    all_goals first | (simp only [Bool.and_eq_true, beq_iff_eq] at hn; omega) | (cases hn; done)
  have ht : t2 = ⟨#[]⟩ := txt_isR (List.length_eq_zero_iff.1 (by rw [← size_txt]; exact h2.1))
  have hS : S2 = [] := List.length_eq_zero_iff.1 h2.2
  have hks : ks2 = [] := List.length_eq_zero_iff.1 h0
  subst ht hS hks
  refine ⟨?_, rfl⟩
  rw [wT, wL, List.append_nil]
  unfold hxw
  rw [if_neg (by omega), if_neg (by omega)]
  rfl
/-- The word behind a leaf's first one. -/
def nxW (ws : List (List UInt8)) (k : Nat) : List UInt8 := ws.getD (k + 1) []
theorem nx_of {ws : List (List UInt8)} {k : Nat} {kd f : Int} {t : ByteArray} {S : List (Int × Int)} {ks : List KT} {R : List (List UInt8)} {v : List UInt8} (h : AtW ws k (.mk kd f t S ks) R) (hv : hxw kd t S = [v]) : nxW ws k = v := by
  have h2 := h.first.2.1
  rw [hv, List.singleton_append] at h2
  unfold nxW
  rw [List.getD_eq_getElem?_getD, (drop_get h2).1]
  rfl
theorem cmp_text {ws : List (List UInt8)} {k : Nat} {W : List UInt8} {t : ByteArray} (hW : ws[k]? = some W) (hwk : wk W = (2, 0, true)) (ht : t.data.toList = nxW ws k) : CmpW ws k ((k + 2 : Nat) : Int) (.mk 2 0 t [] []) := by
  rintro ⟨kd2, f2, t2, S2, ks2⟩ R2 ha
  obtain ⟨rfl, rfl, _, hn⟩ := ha.kind hW hwk
  have h0 := (node_lenR hn).1 (by omega)
  have hS : S2 = [] := by
    unfold nodeB at hn
    rw [if_neg (by decide), if_neg (by decide), if_pos rfl] at hn
    simp only [Bool.and_eq_true, beq_iff_eq] at hn
    exact List.length_eq_zero_iff.1 hn.1.2
  have hks : ks2 = [] := List.length_eq_zero_iff.1 h0
  subst hS hks
  have hv : hxw 2 t2 [] = [t2.data.toList] := rfl
  have := nx_of ha hv
  have e : t = t2 := (txt_isR (ht.trans this)).trans (txt_isR rfl).symm
  subst e
  refine ⟨?_, rfl⟩
  rw [wT, wL, List.append_nil, hv]
  rfl
theorem cmp_text_no {ws : List (List UInt8)} {k : Nat} {W : List UInt8} {K : KT} {e : Int} (hW : ws[k]? = some W) (hwk : wk W = (2, 0, true)) (ht : nameB (nxW ws k) = false) : CmpW ws k e K := cmp_none fun K2 R2 ha => by
  obtain ⟨kd2, f2, t2, S2, ks2⟩ := K2
  obtain ⟨rfl, rfl, _, hn⟩ := ha.kind hW hwk
  have := nx_of (v := t2.data.toList) ha rfl
  rw [this, node2 hn] at ht
  cases ht
theorem cmp_set {ws : List (List UInt8)} {k : Nat} {kd : Int} {W : List UInt8} {S : List (Int × Int)} (hW : ws[k]? = some W) (hwk : wk W = (kd, 0, true)) (hk : kd = 3 ∨ kd = 4) (hS : up ((setO (nxW ws k)).getD []) = S) : CmpW ws k ((k + 2 : Nat) : Int) (.mk kd 0 ⟨#[]⟩ S []) := by
  rintro ⟨kd2, f2, t2, S2, ks2⟩ R2 ha
  obtain ⟨rfl, rfl, _, hn⟩ := ha.kind hW hwk
  have hl := node_lenR hn
  have hks : ks2 = [] := List.length_eq_zero_iff.1 (hl.1 (by omega))
  have hSb := hl.2.1 hk
  have ht : t2 = ⟨#[]⟩ := by
    unfold nodeB at hn
    rw [if_neg (by omega), if_neg (by omega), if_neg (by omega), if_pos hk] at hn
    simp only [Bool.and_eq_true, beq_iff_eq] at hn
    exact txt_isR (List.length_eq_zero_iff.1 (by rw [← size_txt]; exact hn.1.1.2))
  subst hks ht
  have hv : hxw kd2 ⟨#[]⟩ S2 = [textB S2] := by unfold hxw; rw [if_neg (by omega), if_pos hk]
  have h1 := nx_of ha hv
  have e : S = S2 := by rw [← hS]; exact set_back_text hSb h1
  subst e
  refine ⟨?_, rfl⟩
  rw [wT, wL, List.append_nil, hv]
  rfl
theorem cmp_set_no {ws : List (List UInt8)} {k : Nat} {kd : Int} {W : List UInt8} {K : KT} {e : Int} (hW : ws[k]? = some W) (hwk : wk W = (kd, 0, true)) (hk : kd = 3 ∨ kd = 4) (hS : setO (nxW ws k) = none) : CmpW ws k e K := cmp_none fun K2 R2 ha => by
  obtain ⟨kd2, f2, t2, S2, ks2⟩ := K2
  obtain ⟨rfl, rfl, _, hn⟩ := ha.kind hW hwk
  have hSb := (node_lenR hn).2.1 hk
  have hv : hxw kd2 t2 S2 = [textB S2] := by unfold hxw; rw [if_neg (by omega), if_pos hk]
  rw [nx_of ha hv] at hS
  obtain ⟨_, h1, h6⟩ := setB_iff.1 hSb
  have hb : setO (textB S2) = some (dn S2) := by
    rw [textB_yes hSb]
    refine set_back ?_ (by rw [dn_len]; exact h6) (dn_le hSb)
    intro e
    have := congrArg List.length e
    rw [dn_len] at this
    simp at this
    subst this
    simp at h1
  rw [hb] at hS
  cases hS
theorem cmp_word_no {ws : List (List UInt8)} {k : Nat} {kd f : Int} {W : List UInt8} {K : KT} {e : Int} (hW : ws[k]? = some W) (hwk : wk W = (kd, f, false)) : CmpW ws k e K := cmp_none fun K2 R2 ha => by
  obtain ⟨kd2, f2, t2, S2, ks2⟩ := K2
  have := (ha.kind hW hwk).2.2.1
  cases this
/-- A key whose text has these words is the one that was read. -/
theorem cmp_whole {t : ByteArray} {e : Int} {K K2 : KT} (h : CmpW (cut 32 t.data.toList) 0 e K) (h1 : keyB K2 = true) (h2 : fmtT K2 = t.data.toList) : e = ((cut 32 t.data.toList).length : Int) ∧ K = K2 := by
  unfold keyB at h1
  rw [Bool.and_eq_true] at h1
  have hc := cut_key h1.1
  rw [h2] at hc
  obtain ⟨h3, h4⟩ := h K2 [] ⟨h1.1, by rw [List.drop_zero, List.append_nil]; exact hc⟩
  refine ⟨?_, h4⟩
  rw [h3, Nat.zero_add, hc]
end Go.Proofs.YtnfigpknejmkmaaGreatDoor
namespace Go.Proofs.YtnfigpknejmkmaaGreatDoor
open Go.RowKit
set_option linter.unusedVariables false

theorem node_leaf {kd f : Int} {t : ByteArray} {S : List (Int × Int)} {n : Nat} (h : nodeB kd f t S n = true) : (kd ≠ 2 → t = ⟨#[]⟩) ∧ (kd ≠ 3 → kd ≠ 4 → S = []) := by
  have h2 : (kd ≠ 2 → t.size = 0) ∧ (kd ≠ 3 → kd ≠ 4 → S.length = 0) := by
    unfold nodeB at h
    repeat' (split at h)
    all_goals first | (simp only [Bool.and_eq_true, beq_iff_eq] at h; omega) | (cases h; done)
  exact ⟨fun e => txt_isR (List.length_eq_zero_iff.1 (by rw [← size_txt]; exact h2.1 e)), fun e1 e2 => List.length_eq_zero_iff.1 (h2.2 e1 e2)⟩
theorem textB_inj {S S2 : List (Int × Int)} (h : setB S = true) (h2 : setB S2 = true) (e : textB S = textB S2) : S = S2 := by
  have a := set_back_text h (L := textB S) rfl
  have b := set_back_text h2 (L := textB S) e
  exact a.symm.trans b
mutual
theorem wT_inj : ∀ (K : KT), allT K = true → ∀ (K2 : KT) (R R2 : List (List UInt8)), allT K2 = true → wT K ++ R = wT K2 ++ R2 → K = K2 ∧ R = R2
  | .mk kd f t S ks, h, .mk kd2 f2 t2 S2 ks2, R, R2, h2, e => by
    rw [allT, Bool.and_eq_true] at h h2
    rw [wT, wT, List.cons_append, List.cons_append, List.append_assoc, List.append_assoc] at e
    have e1 := (List.cons.inj e).1
    have e2 := (List.cons.inj e).2
    have w1 := wk_hw h.2
    rw [e1, wk_hw h2.2] at w1
    obtain ⟨rfl, w3⟩ := Prod.mk.inj w1
    obtain ⟨rfl, _⟩ := Prod.mk.inj w3
    have l1 := node_leaf h.2
    have l2 := node_leaf h2.2
    have hn : ks.length = ks2.length := (node_n h.2).trans (node_n h2.2).symm
    by_cases k2 : kd2 = 2
    · have hx1 : hxw kd2 t S = [t.data.toList] := by unfold hxw; rw [if_pos k2]
      have hx2 : hxw kd2 t2 S2 = [t2.data.toList] := by unfold hxw; rw [if_pos k2]
      rw [hx1, hx2, List.singleton_append, List.singleton_append] at e2
      have ht : t = t2 := (txt_isR (List.cons.inj e2).1).trans (txt_isR rfl).symm
      obtain ⟨rfl, rfl⟩ := wL_inj ks h.1 ks2 R R2 h2.1 hn (List.cons.inj e2).2
      obtain rfl := ht
      rw [l1.2 (by omega) (by omega), l2.2 (by omega) (by omega)]
      exact ⟨rfl, rfl⟩
    · by_cases k3 : kd2 = 3 ∨ kd2 = 4
      · have hx1 : hxw kd2 t S = [textB S] := by unfold hxw; rw [if_neg k2, if_pos k3]
        have hx2 : hxw kd2 t2 S2 = [textB S2] := by unfold hxw; rw [if_neg k2, if_pos k3]
        rw [hx1, hx2, List.singleton_append, List.singleton_append] at e2
        have hS : S = S2 := textB_inj ((node_lenR h.2).2.1 k3) ((node_lenR h2.2).2.1 k3) (List.cons.inj e2).1
        obtain ⟨rfl, rfl⟩ := wL_inj ks h.1 ks2 R R2 h2.1 hn (List.cons.inj e2).2
        rw [l1.1 k2, l2.1 k2, hS]
        exact ⟨rfl, rfl⟩
      · have hx1 : hxw kd2 t S = [] := by unfold hxw; rw [if_neg k2, if_neg k3]
        have hx2 : hxw kd2 t2 S2 = [] := by unfold hxw; rw [if_neg k2, if_neg k3]
        rw [hx1, hx2, List.nil_append, List.nil_append] at e2
        obtain ⟨rfl, rfl⟩ := wL_inj ks h.1 ks2 R R2 h2.1 hn e2
        rw [l1.1 k2, l2.1 k2, l1.2 (by omega) (by omega), l2.2 (by omega) (by omega)]
        exact ⟨rfl, rfl⟩
theorem wL_inj : ∀ (l : List KT), allL l = true → ∀ (l2 : List KT) (R R2 : List (List UInt8)), allL l2 = true → l.length = l2.length → wL l ++ R = wL l2 ++ R2 → l = l2 ∧ R = R2
  | [], _, [], R, R2, _, _, e => by rw [wL, List.nil_append, List.nil_append] at e; exact ⟨rfl, e⟩
  | [], _, k2 :: r2, R, R2, _, hl, _ => by simp at hl
  | k :: r, _, [], R, R2, _, hl, _ => by simp at hl
  | k :: r, h, k2 :: r2, R, R2, h2, hl, e => by
    rw [allL, Bool.and_eq_true] at h h2
    rw [wL, wL, List.append_assoc, List.append_assoc] at e
    obtain ⟨rfl, e2⟩ := wT_inj k h.1 k2 _ _ h2.1 e
    obtain ⟨rfl, e3⟩ := wL_inj r h.2 r2 R R2 h2.2 (by simpa using hl) e2
    exact ⟨rfl, e3⟩
end
theorem cutk_more {K : KT} (h : allT K = true) {v : List UInt8} (hv : Nb v) : cut 32 (fmtT K ++ 32 :: v) = wT K ++ [v] := by
  obtain ⟨a, r, h1, h2⟩ := fmtT_words K
  have h3 := nb_wT K h
  rw [h1] at h3
  have e : fmtT K ++ 32 :: v = a ++ tlJ (r ++ [v]) := by rw [h2, tlJ_app, tlJ, tlJ, List.append_nil, List.append_assoc]
  unfold cut
  rw [e, cutGo_word a [] (r ++ [v]) (h3 a (by simp)) (fun x hx => by
    rcases List.mem_append.1 hx with hx | hx
    · exact h3 x (List.mem_cons_of_mem _ hx)
    · rw [List.mem_singleton] at hx; subst hx; exact hv), h1]
  rfl
/-- No key's text is another's with a blank and a word behind it. -/
theorem blank_behind {K K2 : KT} (h : keyB K = true) (h2 : keyB K2 = true) {v : List UInt8} (hv : Nb v) : fmtT K2 ≠ fmtT K ++ 32 :: v := by
  unfold keyB at h h2
  rw [Bool.and_eq_true] at h h2
  intro e
  have h3 := cut_key h2.1
  rw [e, cutk_more h.1 hv] at h3
  have h4 := (wT_inj K h.1 K2 [v] [] h2.1 (by rw [h3, List.append_nil])).2
  cases h4
/-- .. or with a blank ahead. -/
theorem blank_ahead {K2 : KT} (h2 : keyB K2 = true) {l : List UInt8} : fmtT K2 ≠ 32 :: l := by
  unfold keyB at h2
  rw [Bool.and_eq_true] at h2
  intro e
  obtain ⟨kd, f, t, S, ks⟩ := K2
  have h3 := h2.1
  rw [allT, Bool.and_eq_true] at h3
  have h1 := wk_hw h3.2
  rw [fmtT, headW_hw] at e
  rcases hc : hw kd f with _ | ⟨c, r⟩
  · rw [hc] at h1
    have h5 : wk [] = (0, 0, false) := by decide
    rw [h5] at h1
    have h4 := (Prod.mk.inj (Prod.mk.inj h1).2).2
    cases h4
  · have h4 := hw_nb kd f
    rw [hc] at h4 e
    rw [List.cons_append, List.cons_append] at e
    exact h4 c (by simp) (List.cons.inj e).1
end Go.Proofs.YtnfigpknejmkmaaGreatDoor
namespace Go.Proofs.YtnfigpknejmkmaaGreatDoor
open Go.RowKit
set_option linter.unusedVariables false
set_option linter.unusedSimpArgs false

/-- Words in memory. -/
def Wds (w : World) (g : Nat) (ws : List (List UInt8)) : Prop := g < w.heap.size ∧ ∀ j, j < ws.length → w.cell? ⟨g, j, none⟩ = some (.string (wB (ws.getD j [])))
theorem Wds.below {w w' : World} {g : Nat} {ws : List (List UInt8)} (h : Wds w g ws) (hb : Below w.heap.size w w') : Wds w' g ws := ⟨Nat.lt_of_lt_of_le h.1 hb.size, fun j hj => (hb.cell (p := ⟨g, j, none⟩) h.1).trans (h.2 j hj)⟩
theorem Wds.at {w : World} {g k : Nat} {ws : List (List UInt8)} {t : ByteArray} (h : Wds w g ws) (hk : k < ws.length) (ht : wB (ws.getD k []) = t) : w.cell? ⟨g, k, none⟩ = some (.string t) := by rw [h.2 k hk, ht]
/-- What l12Leaf leaves. -/
def LfP (w : World) (ws : List (List UInt8)) (k : Nat) (e : Ending) (w' : World) : Prop :=
  ∃ (K : KT) (r : KR) (n : Nat), e = .returned (.tuple #[kval r, .int .i64 (n : Int)]) ∧ KA w.heap.size w'.heap.size w' K (kval r) ∧ Below w.heap.size w w' ∧ nodesT K = 1 ∧ n ≤ 2 ∧ (n ≠ 0 → CmpW ws k ((k + n : Nat) : Int) K) ∧ (n = 0 → ∀ e K2, CmpW ws k e K2)
theorem lf_mk {w w' : World} {ws : List (List UInt8)} {k n B nS cS : Nat} {kd f : Int} {t : ByteArray} {S : List (Int × Int)} {AS : Option Addr} (hB : w.heap.size = B) (hb : Below w.heap.size w w') (ht : t.size ≤ 16777216) (hS : S.length = nS) (hn : nS ≤ 33554432) (hs : SpA (low (B + 1) w'.heap.size w') AS S) (h2 : n ≤ 2)
    (h3 : n ≠ 0 → CmpW ws k ((k + n : Nat) : Int) (.mk kd f t S [])) (h4 : n = 0 → ∀ e K2, CmpW ws k e K2) (a0 a1 a2 a3 a4 : Value) :
    LfP w ws k (.returned (.tuple #[kval (kd, f, t, (AS, nS, cS), (none, 0, 0)), .int .i64 (n : Int)])) (st5 w' B a0 a1 a2 a3 a4) := by
  have hk : KA (B + 1) w'.heap.size w' (.mk kd f t S []) (kval (kd, f, t, (AS, nS, cS), (none, 0, 0))) := ka_leaf ht hS hn hs
  refine ⟨.mk kd f t S [], _, n, rfl, (hk.grown (gr_st5 _ _ _ _ _ _ _) (fun g e => by cases e; omega)).widen (by omega) (gr_st5 w' B a0 a1 a2 a3 a4).size, below_st5 hb (Nat.le_of_eq hB) _ _ _ _ _, by rw [nodesT, nodesL], h2, h3, h4⟩
theorem toList_ww {a b : ByteArray} {x y : List UInt8} (ha : a.data.toList = x) (hb : b.data.toList = y) (h : x = y) : (a.toList == b.toList) = true := by rw [ByteArray.toList_eq, ByteArray.toList_eq, ha, hb, h]; simp
theorem toList_wn {a b : ByteArray} {x y : List UInt8} (ha : a.data.toList = x) (hb : b.data.toList = y) (h : x ≠ y) : (a.toList == b.toList) = false := by rw [ByteArray.toList_eq, ByteArray.toList_eq, ha, hb]; exact beq_eq_false_iff_ne.2 h
set_option maxRecDepth 20000 in
set_option maxHeartbeats 16000000 in
theorem spec_leaf {g N cap k : Nat} {ws : List (List UInt8)} (w : World) (hw : Wds w g ws) (hN : ws.length = N) (hNb : N ≤ 16777217) (hk : k < N) (hL : ∀ v ∈ ws, v.length ≤ 16777216) {W : List UInt8} (hW : ws[k]? = some W) (h5 : W ≠ [110, 111, 116]) (h6 : W ≠ [97, 110, 100]) (h7 : W ≠ [111, 114]) :
    Calls Tryz.prog 65 #[.slice (some ⟨g, 0, none⟩) N cap, .int .i64 (k : Int)] w (LfP w ws k) := by
  obtain ⟨B, hB⟩ : ∃ B, w.heap.size = B := ⟨_, rfl⟩
  have HBB := Lib.hid hB
  obtain ⟨wa, hwa⟩ : ∃ wa, w.alloc (.cells #[.int .i64 0, .int .i64 0, .string ⟨#[]⟩, .slice none 0 0, .slice none 0 0] 27) = wa := ⟨_, rfl⟩
  have HWA := Lib.hid hwa
  have HBA : Hid (Below w.heap.size w wa) := Lib.hid (by rw [← hwa]; exact below_new _ _)
  have HZA : Hid (Whole wa B 27 #[.int .i64 0, .int .i64 0, .string ⟨#[]⟩, .slice none 0 0, .slice none 0 0]) := Lib.hid (by rw [← hwa, ← hB]; exact Whole.made w _ _)
  have HWa : Hid (Wds wa g ws) := Lib.hid (hw.below HBA.out)
  obtain ⟨G, hG⟩ : ∃ z, B + 1 = z := ⟨_, rfl⟩
  have hGe : wa.heap.size = G := by rw [← hwa, ← hG, ← hB]; simp
  obtain ⟨wn, hwn⟩ : ∃ z, wa.alloc (.cells nmA 9) = z := ⟨_, rfl⟩
  have hbn : Below wa.heap.size wa wn := by rw [← hwn]; exact below_new _ _
  have HBn := Lib.hid (HBA.out.trans (hbn.mono HBA.out.size))
  have HZn := Lib.hid (HZA.out.below hbn HZA.out.lt)
  have HWn := Lib.hid (HWa.out.below hbn)
  have HGn : Hid (Whole wn G 9 nmA) := Lib.hid (by rw [← hwn, ← hGe]; exact Whole.made _ _ _)
  have HWN := Lib.hid hwn
  have HGE := Lib.hid hGe
  have HGG := Lib.hid hG
  unfold nmA at HWN
  have HKN : Hid (k < ws.length) := Lib.hid (by rw [hN]; exact hk)
  have HAT := Lib.hid hW
  obtain ⟨tw, htw⟩ : ∃ t, wB (ws.getD k []) = t := ⟨_, rfl⟩
  have HTE := Lib.hid htw
  have HTW : Hid (tw.data.toList = W) := Lib.hid (by rw [← htw, List.getD_eq_getElem?_getD, hW]; rfl)
  obtain ⟨nx, hnx⟩ : ∃ t, wB (nxW ws k) = t := ⟨_, rfl⟩
  have HNW : Hid (nx.data.toList = nxW ws k) := Lib.hid (by rw [← hnx]; rfl)
  have HNX : Hid (nx.size ≤ 16777216) := Lib.hid (by
    rw [size_txt, HNW.out]
    unfold nxW
    rw [List.getD_eq_getElem?_getD]
    cases hq : ws[k + 1]? with
    | none => decide
    | some v => exact hL v (List.mem_of_getElem? hq))
  have HN5 := Lib.hid h5
  have HN6 := Lib.hid h6
  have HN7 := Lib.hid h7
  have HNE := Lib.hid hN
  have HNXE := Lib.hid hnx
  have k0 : (0 : Int) ≤ (k : Int) := by omega
  have kN : (k : Int) < (N : Int) := by omega
  clear hw hB hwa hG hGe hwn hbn hW h5 h6 h7 htw hnx hN hL
  by_cases hk1 : k + 1 < N
  · obtain ⟨k1, hk1e⟩ : ∃ z, k + 1 = z := ⟨_, rfl⟩
    rw [hk1e] at hk1
    have E1 : (k : Int) + 1 = (k1 : Int) := by omega
    have k10 : (0 : Int) ≤ (k1 : Int) := by omega
    have k1N : (k1 : Int) < (N : Int) := by omega
    have hcx := HWa.out.at (k := k1) (t := nx) (by rw [HNE.out]; exact hk1) (by rw [← HNXE.out, ← hk1e]; rfl)
    clear hk1e
    go_enter Tryz.func65, Tryz.ntmps65
    go_upto_region 1 with fail
    try rw [HBB.out]
    rw [HWA.out]
    go_upto_region 5 with fail
    try rw [HGE.out]
    rw [HWN.out]
    clear hcx E1 k10 k1N
    go_wp2
    go_loopw [8] (fun iv wr => ∃ i : Nat, i ≤ 5 ∧ iv = .int .i64 (i : Int) ∧ Hid (∀ j, j < i → W ≠ fwL ((2 ^ j : Nat) : Int)) ∧ Hid (Below wn.heap.size wn wr)) (fun iv _ => 5 - (intOf iv).toNat)
    case atStart => exact ⟨0, Nat.zero_le _, by go_num, Lib.hid (fun j hj => absurd hj (Nat.not_lt_zero _)), Below.refl _ _⟩
    case round =>
      obtain ⟨i, hi, rfl, HK, KB⟩ := hrel
      have HZr := Lib.hid (HZn.out.below KB.out HZn.out.lt)
      have HBr := Lib.hid (HBn.out.trans (KB.out.mono HBn.out.size))
      have HWr := Lib.hid (HWn.out.below KB.out)
      have HGr := Lib.hid (HGn.out.below KB.out HGn.out.lt)
      have hcw := HWr.out.at HKN.out HTE.out
      by_cases hlt : i < 5
      · have i0 : (0 : Int) ≤ (i : Int) := by omega
        have i5 : (i : Int) < 5 := by omega
        have hcn : wr.cell? ⟨G, i, none⟩ = some (.string (wB (fwL ((2 ^ i : Nat) : Int)))) := (HGr.out.cell i).trans (nmA_at hlt)
        obtain ⟨fw, hfw⟩ : ∃ z, wB (fwL ((2 ^ i : Nat) : Int)) = z := ⟨_, rfl⟩
        rw [hfw] at hcn
        have HFW : Hid (fw.data.toList = fwL ((2 ^ i : Nat) : Int)) := Lib.hid (by rw [← hfw]; rfl)
        clear hfw
        by_cases he : W = fwL ((2 ^ i : Nat) : Int)
        · have hx := toList_ww HTW.out HFW.out he
          have HV : Hid (wk W = (1, ((2 ^ i : Nat) : Int), true)) := Lib.hid (wk_flag hlt he)
          obtain ⟨pi, hpi⟩ : ∃ z : Int, ((2 ^ i : Nat) : Int) = z := ⟨_, rfl⟩
          have HBT0 := spec_bitk i
          rw [hpi] at HBT0
          have HBT := Lib.hid HBT0
          have HV2 : Hid (wk W = (1, pi, true)) := Lib.hid (by rw [HV.out, hpi])
          clear he hpi HBT0
          go_wp2
          go_quiet (fail)
          go_wp2_with fail
          refine (HBT.out _ hlt).mono ?_
          rintro e w2 ⟨rfl, hb⟩
          have KB2 := Lib.hid ((below_drewN' KB.out _).trans (hb.mono KB.out.size))
          have HB2 := Lib.hid (HBn.out.trans (KB2.out.mono HBn.out.size))
          have HZ2 := Lib.hid (HZn.out.below KB2.out HZn.out.lt)
          clear hb hcn hcw hx
          have e0 := HZ2.out.cell 0
          have e1 := HZ2.out.cell 1
          have e2 := HZ2.out.cell 2
          have e3 := HZ2.out.cell 3
          have e4 := HZ2.out.cell 4
          have j0 := HZ2.out.free 0
          have j1 := HZ2.out.free 1
          have j2 := HZ2.out.free 2
          have j3 := HZ2.out.free 3
          have j4 := HZ2.out.free 4
          simp only [List.getElem?_toArray, List.getElem?_cons_zero, List.getElem?_cons_succ] at e0 e1 e2 e3 e4
          go_wp2
          refine bodyPost_ret (v := .tuple #[.agg #[.int .i64 1, .int .i64 pi, .string ⟨#[]⟩, .slice none 0 0, .slice none 0 0], .int .i64 1]) (by rw [results_cell_tmp Tryz.results65]; go_simp) rfl ?_
          exact lf_mk (n := 1) HBB.out HB2.out (by decide) rfl (by decide) (SpA.nil _ _) (by omega) (fun _ => cmp_one HAT.out HV2.out (.inr rfl)) (fun e => by cases e) _ _ _ _ _
        · have hx := toList_wn HTW.out HFW.out he
          have HK1 : Hid (∀ j, j < i + 1 → W ≠ fwL ((2 ^ j : Nat) : Int)) := Lib.hid (fun j hj => by
            by_cases hji : j < i
            · exact HK.out j hji
            · have : j = i := by omega
              subst this
              exact he)
          clear he
          go_wp2
          go_quiet (fail)
          go_wp2
          go_roundw
          case rel => exact ⟨i + 1, by omega, by go_num, HK1, below_drewN' KB.out _⟩
          case measure => simp [intOf]; omega
      · have i5 : ¬ (i : Int) < 5 := by omega
        have HE : Hid (wk W = wk2 W) := Lib.hid (wk_none (fun j hj => HK.out j (by omega)))
        clear hcw
        go_wp2_with fail
        refine (spec_setparse nx wr HNX.out).mono ?_
        rintro e w7 ⟨v, rfl, hown, hb⟩
        obtain ⟨AS, nS, cS, rfl⟩ := own_slice hown
        obtain ⟨SS, hSSe⟩ : ∃ z, up ((setO nx.data.toList).getD []) = z := ⟨_, rfl⟩
        rw [hSSe] at hown
        have HSE : Hid (up ((setO (nxW ws k)).getD []) = SS) := Lib.hid (by rw [← HNW.out]; exact hSSe)
        obtain ⟨os, hos⟩ : ∃ z, (setO nx.data.toList).isSome = z := ⟨_, rfl⟩
        try rw [hos]
        have HOS : Hid ((setO (nxW ws k)).isSome = os) := Lib.hid (by rw [← HNW.out]; exact hos)
        have hBr : B + 1 ≤ wr.heap.size := HZr.out.lt
        obtain ⟨hs1, hs2⟩ := spa_own1 hown hBr
        have HS1 := Lib.hid hs1
        have HS2 := Lib.hid hs2
        have HS3 : Hid (nS ≤ 33554432) := Lib.hid (by
          have : (up ((setO nx.data.toList).getD [])).length ≤ 6 := by
            cases hh : setO nx.data.toList with
            | none => decide
            | some l => rw [Option.getD_some, up_len]; exact (set_mem hh).2.1
          rw [hSSe, hs2] at this
          omega)
        have KB7 := Lib.hid (KB.out.trans (hb.mono KB.out.size))
        have HB7 := Lib.hid (HBn.out.trans (KB7.out.mono HBn.out.size))
        have HZ7 := Lib.hid (HZn.out.below KB7.out HZn.out.lt)
        have hcw := (HWn.out.below KB7.out).at HKN.out HTE.out
        clear hb hown hSSe hos hs1 hs2
        have e0 := HZ7.out.cell 0
        have e1 := HZ7.out.cell 1
        have e2 := HZ7.out.cell 2
        have e3 := HZ7.out.cell 3
        have e4 := HZ7.out.cell 4
        have j0 := HZ7.out.free 0
        have j1 := HZ7.out.free 1
        have j2 := HZ7.out.free 2
        have j3 := HZ7.out.free 3
        have j4 := HZ7.out.free 4
        simp only [List.getElem?_toArray, List.getElem?_cons_zero, List.getElem?_cons_succ] at e0 e1 e2 e3 e4
        by_cases hw0 : W = [97, 108, 108]
        · have hx0 := txt_eq (HTW.out.trans hw0)
          have HV : Hid (wk W = (0, 0, true)) := Lib.hid (by rw [HE.out, wk2, if_pos hw0])
          clear hw0
          go_wp2
          refine bodyPost_ret (v := .tuple #[.agg #[.int .i64 0, .int .i64 0, .string ⟨#[]⟩, .slice none 0 0, .slice none 0 0], .int .i64 1]) (by rw [results_cell_tmp Tryz.results65]; go_simp) rfl ?_
          exact lf_mk (n := 1) HBB.out HB7.out (by decide) rfl (by decide) (SpA.nil _ _) (by omega) (fun _ => cmp_one HAT.out HV.out (.inl rfl)) (fun e => by cases e) _ _ _ _ _
        · have hx0 := txt_ne (fun e => hw0 (HTW.out.symm.trans e))
          have g0 := Lib.hid hw0
          clear hw0
          by_cases hw1 : W = [116, 101, 120, 116]
          · have hx1 := txt_eq (HTW.out.trans hw1)
            have HV : Hid (wk W = (2, 0, true)) := Lib.hid (by rw [HE.out, wk2, if_neg g0.out, if_pos hw1])
            clear hw1
            obtain ⟨nb, hnb⟩ : ∃ z, nameB nx.data.toList = z := ⟨_, rfl⟩
            have HNM : Hid (nameB (nxW ws k) = nb) := Lib.hid (by rw [← HNW.out]; exact hnb)
            have HC := Lib.hid (spec_word_at hnb w7 HNX.out)
            clear hnb hcw e0 j0 e1 j1 e2 j2 e3 j3 e4 j4
            have hcw := (HWn.out.below KB7.out).at HKN.out HTE.out
            go_wp2_with fail
            refine HC.out.mono ?_
            rintro e w8 ⟨rfl, hb⟩
            have HB8 := Lib.hid (HB7.out.trans (hb.mono HB7.out.size))
            have HZ8 := Lib.hid (HZ7.out.below hb HZ7.out.lt)
            have hcw := (HWn.out.below (KB7.out.trans (hb.mono KB7.out.size))).at HKN.out HTE.out
            clear hb
            have e0 := HZ8.out.cell 0
            have e1 := HZ8.out.cell 1
            have e2 := HZ8.out.cell 2
            have e3 := HZ8.out.cell 3
            have e4 := HZ8.out.cell 4
            have j0 := HZ8.out.free 0
            have j1 := HZ8.out.free 1
            have j2 := HZ8.out.free 2
            have j3 := HZ8.out.free 3
            have j4 := HZ8.out.free 4
            simp only [List.getElem?_toArray, List.getElem?_cons_zero, List.getElem?_cons_succ] at e0 e1 e2 e3 e4
            cases nb with
            | true =>
              go_wp2
              refine bodyPost_ret (v := .tuple #[.agg #[.int .i64 2, .int .i64 0, .string nx, .slice none 0 0, .slice none 0 0], .int .i64 2]) (by rw [results_cell_tmp Tryz.results65]; go_simp) rfl ?_
              exact lf_mk (n := 2) HBB.out HB8.out HNX.out rfl (by decide) (SpA.nil _ _) (by omega) (fun _ => cmp_text HAT.out HV.out HNW.out) (fun e => by cases e) _ _ _ _ _
            | false =>
              have hx2 : (tw.toList == [97, 116]) = false := by have h0 := eq_of_beq hx1; rw [h0]; decide
              have hx3 : (tw.toList == [117, 105, 100]) = false := by have h0 := eq_of_beq hx1; rw [h0]; decide
              go_wp2
              refine bodyPost_ret (v := .tuple #[.agg #[.int .i64 0, .int .i64 0, .string ⟨#[]⟩, .slice none 0 0, .slice none 0 0], .int .i64 0]) (by rw [results_cell_tmp Tryz.results65]; go_simp) rfl ?_
              exact lf_mk (n := 0) HBB.out HB8.out (by decide) rfl (by decide) (SpA.nil _ _) (by omega) (fun e => absurd rfl e) (fun _ e K2 => cmp_text_no HAT.out HV.out HNM.out) _ _ _ _ _
          · have hx1 := txt_ne (fun e => hw1 (HTW.out.symm.trans e))
            have g1 := Lib.hid hw1
            clear hw1
            by_cases hw2 : W = [97, 116]
            · have hx2 := txt_eq (HTW.out.trans hw2)
              have HV : Hid (wk W = (3, 0, true)) := Lib.hid (by rw [HE.out, wk2, if_neg g0.out, if_neg g1.out, if_pos hw2])
              clear hw2
              cases os with
              | true =>
                go_wp2
                refine bodyPost_ret (v := .tuple #[.agg #[.int .i64 3, .int .i64 0, .string ⟨#[]⟩, .slice AS nS cS, .slice none 0 0], .int .i64 2]) (by rw [results_cell_tmp Tryz.results65]; go_simp) rfl ?_
                exact lf_mk (n := 2) HBB.out HB7.out (by decide) HS2.out HS3.out (HS1.out) (by omega) (fun _ => cmp_set HAT.out HV.out (by decide) HSE.out) (fun e => by cases e) _ _ _ _ _
              | false =>
                have hx3 : (tw.toList == [117, 105, 100]) = false := by have h0 := eq_of_beq hx2; rw [h0]; decide
                have HNN : Hid (setO (nxW ws k) = none) := Lib.hid (by have := HOS.out; cases hq : setO (nxW ws k) with | none => rfl | some _ => rw [hq] at this; cases this)
                go_wp2
                refine bodyPost_ret (v := .tuple #[.agg #[.int .i64 0, .int .i64 0, .string ⟨#[]⟩, .slice none 0 0, .slice none 0 0], .int .i64 0]) (by rw [results_cell_tmp Tryz.results65]; go_simp) rfl ?_
                exact lf_mk (n := 0) HBB.out HB7.out (by decide) rfl (by decide) (SpA.nil _ _) (by omega) (fun e => absurd rfl e) (fun _ e K2 => cmp_set_no HAT.out HV.out (by decide) HNN.out) _ _ _ _ _
            · have hx2 := txt_ne (fun e => hw2 (HTW.out.symm.trans e))
              have g2 := Lib.hid hw2
              clear hw2
              by_cases hw3 : W = [117, 105, 100]
              · have hx3 := txt_eq (HTW.out.trans hw3)
                have HV : Hid (wk W = (4, 0, true)) := Lib.hid (by rw [HE.out, wk2, if_neg g0.out, if_neg g1.out, if_neg g2.out, if_pos hw3])
                clear hw3
                cases os with
                | true =>
                  go_wp2
                  refine bodyPost_ret (v := .tuple #[.agg #[.int .i64 4, .int .i64 0, .string ⟨#[]⟩, .slice AS nS cS, .slice none 0 0], .int .i64 2]) (by rw [results_cell_tmp Tryz.results65]; go_simp) rfl ?_
                  exact lf_mk (n := 2) HBB.out HB7.out (by decide) HS2.out HS3.out (HS1.out) (by omega) (fun _ => cmp_set HAT.out HV.out (by decide) HSE.out) (fun e => by cases e) _ _ _ _ _
                | false =>
                  have HNN : Hid (setO (nxW ws k) = none) := Lib.hid (by have := HOS.out; cases hq : setO (nxW ws k) with | none => rfl | some _ => rw [hq] at this; cases this)
                  go_wp2
                  refine bodyPost_ret (v := .tuple #[.agg #[.int .i64 0, .int .i64 0, .string ⟨#[]⟩, .slice none 0 0, .slice none 0 0], .int .i64 0]) (by rw [results_cell_tmp Tryz.results65]; go_simp) rfl ?_
                  exact lf_mk (n := 0) HBB.out HB7.out (by decide) rfl (by decide) (SpA.nil _ _) (by omega) (fun e => absurd rfl e) (fun _ e K2 => cmp_set_no HAT.out HV.out (by decide) HNN.out) _ _ _ _ _
              · have hx3 := txt_ne (fun e => hw3 (HTW.out.symm.trans e))
                have g3 := Lib.hid hw3
                clear hw3
                have HV : Hid (wk W = (0, 0, false)) := Lib.hid (by rw [HE.out, wk2, if_neg g0.out, if_neg g1.out, if_neg g2.out, if_neg g3.out, if_neg HN5.out, if_neg HN6.out, if_neg HN7.out])
                go_wp2
                refine bodyPost_ret (v := .tuple #[.agg #[.int .i64 0, .int .i64 0, .string ⟨#[]⟩, .slice none 0 0, .slice none 0 0], .int .i64 0]) (by rw [results_cell_tmp Tryz.results65]; go_simp) rfl ?_
                exact lf_mk (n := 0) HBB.out HB7.out (by decide) rfl (by decide) (SpA.nil _ _) (by omega) (fun e => absurd rfl e) (fun _ e K2 => cmp_word_no HAT.out HV.out) _ _ _ _ _
  · have hn1 : ¬ (k : Int) + 1 < (N : Int) := by omega
    have HN0 : Hid (nx = ⟨#[]⟩) := Lib.hid (by
      rw [← HNXE.out]
      unfold nxW
      rw [List.getD_eq_getElem?_getD, List.getElem?_eq_none (by rw [HNE.out]; omega)]
      rfl)
    go_enter Tryz.func65, Tryz.ntmps65
    go_upto_region 1 with fail
    try rw [HBB.out]
    rw [HWA.out]
    go_upto_region 5 with fail
    try rw [HGE.out]
    rw [HWN.out]
    clear hn1
    rw [← HN0.out]
    go_wp2
    go_loopw [8] (fun iv wr => ∃ i : Nat, i ≤ 5 ∧ iv = .int .i64 (i : Int) ∧ Hid (∀ j, j < i → W ≠ fwL ((2 ^ j : Nat) : Int)) ∧ Hid (Below wn.heap.size wn wr)) (fun iv _ => 5 - (intOf iv).toNat)
    case atStart => exact ⟨0, Nat.zero_le _, by go_num, Lib.hid (fun j hj => absurd hj (Nat.not_lt_zero _)), Below.refl _ _⟩
    case round =>
      obtain ⟨i, hi, rfl, HK, KB⟩ := hrel
      have HZr := Lib.hid (HZn.out.below KB.out HZn.out.lt)
      have HBr := Lib.hid (HBn.out.trans (KB.out.mono HBn.out.size))
      have HWr := Lib.hid (HWn.out.below KB.out)
      have HGr := Lib.hid (HGn.out.below KB.out HGn.out.lt)
      have hcw := HWr.out.at HKN.out HTE.out
      by_cases hlt : i < 5
      · have i0 : (0 : Int) ≤ (i : Int) := by omega
        have i5 : (i : Int) < 5 := by omega
        have hcn : wr.cell? ⟨G, i, none⟩ = some (.string (wB (fwL ((2 ^ i : Nat) : Int)))) := (HGr.out.cell i).trans (nmA_at hlt)
        obtain ⟨fw, hfw⟩ : ∃ z, wB (fwL ((2 ^ i : Nat) : Int)) = z := ⟨_, rfl⟩
        rw [hfw] at hcn
        have HFW : Hid (fw.data.toList = fwL ((2 ^ i : Nat) : Int)) := Lib.hid (by rw [← hfw]; rfl)
        clear hfw
        by_cases he : W = fwL ((2 ^ i : Nat) : Int)
        · have hx := toList_ww HTW.out HFW.out he
          have HV : Hid (wk W = (1, ((2 ^ i : Nat) : Int), true)) := Lib.hid (wk_flag hlt he)
          obtain ⟨pi, hpi⟩ : ∃ z : Int, ((2 ^ i : Nat) : Int) = z := ⟨_, rfl⟩
          have HBT0 := spec_bitk i
          rw [hpi] at HBT0
          have HBT := Lib.hid HBT0
          have HV2 : Hid (wk W = (1, pi, true)) := Lib.hid (by rw [HV.out, hpi])
          clear he hpi HBT0
          go_wp2
          go_quiet (fail)
          go_wp2_with fail
          refine (HBT.out _ hlt).mono ?_
          rintro e w2 ⟨rfl, hb⟩
          have KB2 := Lib.hid ((below_drewN' KB.out _).trans (hb.mono KB.out.size))
          have HB2 := Lib.hid (HBn.out.trans (KB2.out.mono HBn.out.size))
          have HZ2 := Lib.hid (HZn.out.below KB2.out HZn.out.lt)
          clear hb hcn hcw hx
          have e0 := HZ2.out.cell 0
          have e1 := HZ2.out.cell 1
          have e2 := HZ2.out.cell 2
          have e3 := HZ2.out.cell 3
          have e4 := HZ2.out.cell 4
          have j0 := HZ2.out.free 0
          have j1 := HZ2.out.free 1
          have j2 := HZ2.out.free 2
          have j3 := HZ2.out.free 3
          have j4 := HZ2.out.free 4
          simp only [List.getElem?_toArray, List.getElem?_cons_zero, List.getElem?_cons_succ] at e0 e1 e2 e3 e4
          go_wp2
          refine bodyPost_ret (v := .tuple #[.agg #[.int .i64 1, .int .i64 pi, .string ⟨#[]⟩, .slice none 0 0, .slice none 0 0], .int .i64 1]) (by rw [results_cell_tmp Tryz.results65]; go_simp) rfl ?_
          exact lf_mk (n := 1) HBB.out HB2.out (by decide) rfl (by decide) (SpA.nil _ _) (by omega) (fun _ => cmp_one HAT.out HV2.out (.inr rfl)) (fun e => by cases e) _ _ _ _ _
        · have hx := toList_wn HTW.out HFW.out he
          have HK1 : Hid (∀ j, j < i + 1 → W ≠ fwL ((2 ^ j : Nat) : Int)) := Lib.hid (fun j hj => by
            by_cases hji : j < i
            · exact HK.out j hji
            · have : j = i := by omega
              subst this
              exact he)
          clear he
          go_wp2
          go_quiet (fail)
          go_wp2
          go_roundw
          case rel => exact ⟨i + 1, by omega, by go_num, HK1, below_drewN' KB.out _⟩
          case measure => simp [intOf]; omega
      · have i5 : ¬ (i : Int) < 5 := by omega
        have HE : Hid (wk W = wk2 W) := Lib.hid (wk_none (fun j hj => HK.out j (by omega)))
        clear hcw
        go_wp2_with fail
        refine (spec_setparse nx wr HNX.out).mono ?_
        rintro e w7 ⟨v, rfl, hown, hb⟩
        obtain ⟨AS, nS, cS, rfl⟩ := own_slice hown
        obtain ⟨SS, hSSe⟩ : ∃ z, up ((setO nx.data.toList).getD []) = z := ⟨_, rfl⟩
        rw [hSSe] at hown
        have HSE : Hid (up ((setO (nxW ws k)).getD []) = SS) := Lib.hid (by rw [← HNW.out]; exact hSSe)
        obtain ⟨os, hos⟩ : ∃ z, (setO nx.data.toList).isSome = z := ⟨_, rfl⟩
        try rw [hos]
        have HOS : Hid ((setO (nxW ws k)).isSome = os) := Lib.hid (by rw [← HNW.out]; exact hos)
        have hBr : B + 1 ≤ wr.heap.size := HZr.out.lt
        obtain ⟨hs1, hs2⟩ := spa_own1 hown hBr
        have HS1 := Lib.hid hs1
        have HS2 := Lib.hid hs2
        have HS3 : Hid (nS ≤ 33554432) := Lib.hid (by
          have : (up ((setO nx.data.toList).getD [])).length ≤ 6 := by
            cases hh : setO nx.data.toList with
            | none => decide
            | some l => rw [Option.getD_some, up_len]; exact (set_mem hh).2.1
          rw [hSSe, hs2] at this
          omega)
        have KB7 := Lib.hid (KB.out.trans (hb.mono KB.out.size))
        have HB7 := Lib.hid (HBn.out.trans (KB7.out.mono HBn.out.size))
        have HZ7 := Lib.hid (HZn.out.below KB7.out HZn.out.lt)
        have hcw := (HWn.out.below KB7.out).at HKN.out HTE.out
        clear hb hown hSSe hos hs1 hs2
        have e0 := HZ7.out.cell 0
        have e1 := HZ7.out.cell 1
        have e2 := HZ7.out.cell 2
        have e3 := HZ7.out.cell 3
        have e4 := HZ7.out.cell 4
        have j0 := HZ7.out.free 0
        have j1 := HZ7.out.free 1
        have j2 := HZ7.out.free 2
        have j3 := HZ7.out.free 3
        have j4 := HZ7.out.free 4
        simp only [List.getElem?_toArray, List.getElem?_cons_zero, List.getElem?_cons_succ] at e0 e1 e2 e3 e4
        by_cases hw0 : W = [97, 108, 108]
        · have hx0 := txt_eq (HTW.out.trans hw0)
          have HV : Hid (wk W = (0, 0, true)) := Lib.hid (by rw [HE.out, wk2, if_pos hw0])
          clear hw0
          go_wp2
          refine bodyPost_ret (v := .tuple #[.agg #[.int .i64 0, .int .i64 0, .string ⟨#[]⟩, .slice none 0 0, .slice none 0 0], .int .i64 1]) (by rw [results_cell_tmp Tryz.results65]; go_simp) rfl ?_
          exact lf_mk (n := 1) HBB.out HB7.out (by decide) rfl (by decide) (SpA.nil _ _) (by omega) (fun _ => cmp_one HAT.out HV.out (.inl rfl)) (fun e => by cases e) _ _ _ _ _
        · have hx0 := txt_ne (fun e => hw0 (HTW.out.symm.trans e))
          have g0 := Lib.hid hw0
          clear hw0
          by_cases hw1 : W = [116, 101, 120, 116]
          · have hx1 := txt_eq (HTW.out.trans hw1)
            have HV : Hid (wk W = (2, 0, true)) := Lib.hid (by rw [HE.out, wk2, if_neg g0.out, if_pos hw1])
            clear hw1
            obtain ⟨nb, hnb⟩ : ∃ z, nameB nx.data.toList = z := ⟨_, rfl⟩
            have HNM : Hid (nameB (nxW ws k) = nb) := Lib.hid (by rw [← HNW.out]; exact hnb)
            have HC := Lib.hid (spec_word_at hnb w7 HNX.out)
            clear hnb hcw e0 j0 e1 j1 e2 j2 e3 j3 e4 j4
            have hcw := (HWn.out.below KB7.out).at HKN.out HTE.out
            go_wp2_with fail
            refine HC.out.mono ?_
            rintro e w8 ⟨rfl, hb⟩
            have HB8 := Lib.hid (HB7.out.trans (hb.mono HB7.out.size))
            have HZ8 := Lib.hid (HZ7.out.below hb HZ7.out.lt)
            have hcw := (HWn.out.below (KB7.out.trans (hb.mono KB7.out.size))).at HKN.out HTE.out
            clear hb
            have e0 := HZ8.out.cell 0
            have e1 := HZ8.out.cell 1
            have e2 := HZ8.out.cell 2
            have e3 := HZ8.out.cell 3
            have e4 := HZ8.out.cell 4
            have j0 := HZ8.out.free 0
            have j1 := HZ8.out.free 1
            have j2 := HZ8.out.free 2
            have j3 := HZ8.out.free 3
            have j4 := HZ8.out.free 4
            simp only [List.getElem?_toArray, List.getElem?_cons_zero, List.getElem?_cons_succ] at e0 e1 e2 e3 e4
            cases nb with
            | true =>
              go_wp2
              refine bodyPost_ret (v := .tuple #[.agg #[.int .i64 2, .int .i64 0, .string nx, .slice none 0 0, .slice none 0 0], .int .i64 2]) (by rw [results_cell_tmp Tryz.results65]; go_simp) rfl ?_
              exact lf_mk (n := 2) HBB.out HB8.out HNX.out rfl (by decide) (SpA.nil _ _) (by omega) (fun _ => cmp_text HAT.out HV.out HNW.out) (fun e => by cases e) _ _ _ _ _
            | false =>
              have hx2 : (tw.toList == [97, 116]) = false := by have h0 := eq_of_beq hx1; rw [h0]; decide
              have hx3 : (tw.toList == [117, 105, 100]) = false := by have h0 := eq_of_beq hx1; rw [h0]; decide
              go_wp2
              refine bodyPost_ret (v := .tuple #[.agg #[.int .i64 0, .int .i64 0, .string ⟨#[]⟩, .slice none 0 0, .slice none 0 0], .int .i64 0]) (by rw [results_cell_tmp Tryz.results65]; go_simp) rfl ?_
              exact lf_mk (n := 0) HBB.out HB8.out (by decide) rfl (by decide) (SpA.nil _ _) (by omega) (fun e => absurd rfl e) (fun _ e K2 => cmp_text_no HAT.out HV.out HNM.out) _ _ _ _ _
          · have hx1 := txt_ne (fun e => hw1 (HTW.out.symm.trans e))
            have g1 := Lib.hid hw1
            clear hw1
            by_cases hw2 : W = [97, 116]
            · have hx2 := txt_eq (HTW.out.trans hw2)
              have HV : Hid (wk W = (3, 0, true)) := Lib.hid (by rw [HE.out, wk2, if_neg g0.out, if_neg g1.out, if_pos hw2])
              clear hw2
              cases os with
              | true =>
                go_wp2
                refine bodyPost_ret (v := .tuple #[.agg #[.int .i64 3, .int .i64 0, .string ⟨#[]⟩, .slice AS nS cS, .slice none 0 0], .int .i64 2]) (by rw [results_cell_tmp Tryz.results65]; go_simp) rfl ?_
                exact lf_mk (n := 2) HBB.out HB7.out (by decide) HS2.out HS3.out (HS1.out) (by omega) (fun _ => cmp_set HAT.out HV.out (by decide) HSE.out) (fun e => by cases e) _ _ _ _ _
              | false =>
                have hx3 : (tw.toList == [117, 105, 100]) = false := by have h0 := eq_of_beq hx2; rw [h0]; decide
                have HNN : Hid (setO (nxW ws k) = none) := Lib.hid (by have := HOS.out; cases hq : setO (nxW ws k) with | none => rfl | some _ => rw [hq] at this; cases this)
                go_wp2
                refine bodyPost_ret (v := .tuple #[.agg #[.int .i64 0, .int .i64 0, .string ⟨#[]⟩, .slice none 0 0, .slice none 0 0], .int .i64 0]) (by rw [results_cell_tmp Tryz.results65]; go_simp) rfl ?_
                exact lf_mk (n := 0) HBB.out HB7.out (by decide) rfl (by decide) (SpA.nil _ _) (by omega) (fun e => absurd rfl e) (fun _ e K2 => cmp_set_no HAT.out HV.out (by decide) HNN.out) _ _ _ _ _
            · have hx2 := txt_ne (fun e => hw2 (HTW.out.symm.trans e))
              have g2 := Lib.hid hw2
              clear hw2
              by_cases hw3 : W = [117, 105, 100]
              · have hx3 := txt_eq (HTW.out.trans hw3)
                have HV : Hid (wk W = (4, 0, true)) := Lib.hid (by rw [HE.out, wk2, if_neg g0.out, if_neg g1.out, if_neg g2.out, if_pos hw3])
                clear hw3
                cases os with
                | true =>
                  go_wp2
                  refine bodyPost_ret (v := .tuple #[.agg #[.int .i64 4, .int .i64 0, .string ⟨#[]⟩, .slice AS nS cS, .slice none 0 0], .int .i64 2]) (by rw [results_cell_tmp Tryz.results65]; go_simp) rfl ?_
                  exact lf_mk (n := 2) HBB.out HB7.out (by decide) HS2.out HS3.out (HS1.out) (by omega) (fun _ => cmp_set HAT.out HV.out (by decide) HSE.out) (fun e => by cases e) _ _ _ _ _
                | false =>
                  have HNN : Hid (setO (nxW ws k) = none) := Lib.hid (by have := HOS.out; cases hq : setO (nxW ws k) with | none => rfl | some _ => rw [hq] at this; cases this)
                  go_wp2
                  refine bodyPost_ret (v := .tuple #[.agg #[.int .i64 0, .int .i64 0, .string ⟨#[]⟩, .slice none 0 0, .slice none 0 0], .int .i64 0]) (by rw [results_cell_tmp Tryz.results65]; go_simp) rfl ?_
                  exact lf_mk (n := 0) HBB.out HB7.out (by decide) rfl (by decide) (SpA.nil _ _) (by omega) (fun e => absurd rfl e) (fun _ e K2 => cmp_set_no HAT.out HV.out (by decide) HNN.out) _ _ _ _ _
              · have hx3 := txt_ne (fun e => hw3 (HTW.out.symm.trans e))
                have g3 := Lib.hid hw3
                clear hw3
                have HV : Hid (wk W = (0, 0, false)) := Lib.hid (by rw [HE.out, wk2, if_neg g0.out, if_neg g1.out, if_neg g2.out, if_neg g3.out, if_neg HN5.out, if_neg HN6.out, if_neg HN7.out])
                go_wp2
                refine bodyPost_ret (v := .tuple #[.agg #[.int .i64 0, .int .i64 0, .string ⟨#[]⟩, .slice none 0 0, .slice none 0 0], .int .i64 0]) (by rw [results_cell_tmp Tryz.results65]; go_simp) rfl ?_
                exact lf_mk (n := 0) HBB.out HB7.out (by decide) rfl (by decide) (SpA.nil _ _) (by omega) (fun e => absurd rfl e) (fun _ e K2 => cmp_word_no HAT.out HV.out) _ _ _ _ _
end Go.Proofs.YtnfigpknejmkmaaGreatDoor
namespace Go.Proofs.YtnfigpknejmkmaaGreatDoor
open Go.RowKit
set_option linter.unusedVariables false
set_option linter.unusedSimpArgs false

/-- What l12Read leaves. -/
def RdP (w : World) (ws : List (List UInt8)) (k : Nat) (e : Ending) (w' : World) : Prop :=
  ∃ (K : KT) (r : KR) (x : Int), e = .returned (.tuple #[kval r, .int .i64 x]) ∧ KA w.heap.size w'.heap.size w' K (kval r) ∧ Below w.heap.size w w' ∧ CmpW ws k x K ∧ (x = -1 ∧ nodesT K = 1 ∨ ∃ y : Nat, x = (y : Int) ∧ k < y ∧ y ≤ ws.length + 1 ∧ nodesT K ≤ y - k)
/-- What l12Join leaves. -/
def JoP (w : World) (ws : List (List UInt8)) (k : Nat) (kd : Int) (many : Nat) (e : Ending) (w' : World) : Prop :=
  ∃ (K : KT) (r : KR) (x : Int), e = .returned (.tuple #[kval r, .int .i64 x]) ∧ KA w.heap.size w'.heap.size w' K (kval r) ∧ Below w.heap.size w w' ∧ (x = -1 ∧ nodesT K = 1 ∧ (∀ ks, CmpJ ws k many (-1) ks) ∨ ∃ (ks : List KT) (y : Nat), x = (y : Int) ∧ K = .mk kd 0 ⟨#[]⟩ [] ks ∧ CmpJ ws k many (y : Int) ks ∧ k ≤ y ∧ y ≤ ws.length + 1 ∧ nodesL ks ≤ y - k)
/-- The loop over a node's keys. -/
def RdJ (w : World) (S0 D E g : Nat) (ws : List (List UInt8)) (k many : Nat) (kd : Int) (i at' : Nat) (wr : World) : Prop :=
  ∃ (A : Option Addr) (cap base h : Nat) (ks : List KT) (rs : List KR), E ≤ base ∧ E ≤ h ∧ h ≤ wr.heap.size ∧ base ≤ wr.heap.size ∧ (i = 0 → A = none ∧ cap = 0) ∧ (i < 2 → ∀ q, Value.ownBlock (.slice A i cap) = some q → h ≤ q) ∧ k ≤ at' ∧ at' ≤ ws.length + 1 ∧ nodesL ks ≤ at' - k ∧
    Hid (Below w.heap.size w wr) ∧ Hid (Wds wr g ws) ∧ Hid (Whole wr S0 27 #[.int .i64 0, .int .i64 0, .string ⟨#[]⟩, .slice none 0 0, .slice none 0 0]) ∧ Hid (Whole wr D 27 #[.int .i64 kd, .int .i64 0, .string ⟨#[]⟩, .slice none 0 0, .slice A i cap]) ∧ Hid (ROwn keyR wr base (.slice A i cap) rs) ∧ Hid (KRs (KA (D + 1) h wr) ks rs) ∧ Hid (CIJ ws k many i at' ks)
theorem wds_grown {w w' : World} {g : Nat} {row : Option Nat} {ws : List (List UInt8)} (h : Wds w g ws) (hg : w.grownBy w' row) (hr : row ≠ some g) : Wds w' g ws :=
  ⟨Nat.lt_of_lt_of_le h.1 hg.size, fun j hj => (World.grownBy.cell_far hg ⟨g, j, none⟩ h.1 (fun e => hr e.symm)).trans (h.2 j hj)⟩
theorem rdj_next {w wr w6 w9 : World} {S0 D E g i k many at' y base base2 h cap c9 : Nat} {A A9 : Option Addr} {ws : List (List UInt8)} {kd : Int} {ks : List KT} {rs : List KR} {K6 : KT} {r6 : KR}
    (hgS : g < S0) (hSD : S0 < D) (hDE : D < E) (hSS : w.heap.size = S0) (hlt : i < many) (hM : many ≤ 2) (hba : E ≤ base) (hEh : E ≤ h) (hhw : h ≤ wr.heap.size) (hat : k ≤ at') (hn : nodesL ks ≤ at' - k) (hy1 : at' < y) (hy2 : y ≤ ws.length + 1) (hy3 : nodesT K6 ≤ y - at')
    (hOB : i < 2 → ∀ q, Value.ownBlock (.slice A i cap) = some q → h ≤ q) (hB : Below w.heap.size w wr) (hW : Wds wr g ws) (hZ : Whole wr S0 27 #[.int .i64 0, .int .i64 0, .string ⟨#[]⟩, .slice none 0 0, .slice none 0 0])
    (hX : Whole wr D 27 #[.int .i64 kd, .int .i64 0, .string ⟨#[]⟩, .slice none 0 0, .slice A i cap]) (hO : ROwn keyR wr base (.slice A i cap) rs) (hK : KRs (KA (D + 1) h wr) ks rs)
    (hb : Below wr.heap.size wr w6) (hK6 : KA wr.heap.size w6.heap.size w6 K6 (kval r6))
    (hO6 : ROwn keyR w6 base2 (.slice A i cap) rs) (hb1 : E ≤ base2) (hb2 : base2 ≤ w6.heap.size) (hb3 : i = 0 → base2 = w6.heap.size)
    (hGW : ((w6.alloc (.cells (kcells r6).toArray 27)).alloc (.cells (kcells r6).toArray 27)).grownBy w9 (Value.ownBlock (.slice A i cap))) (hOW : ROwn keyR w9 base2 (.slice A9 (i + 1) c9) (rs ++ [r6]))
    (hCI : CIJ ws k many (i + 1) y (ks ++ [K6])) :
    RdJ w S0 D E g ws k many kd (i + 1) y (w9.setCell ⟨D, 4, none⟩ (.slice A9 (i + 1) c9)) := by
  have hrow : ∀ q, Value.ownBlock (.slice A i cap) = some q → base2 ≤ q ∧ q < w6.heap.size := fun q hq => World.ownsRow.lt hO6 q hq
  have hrow0 : ∀ q, Value.ownBlock (.slice A i cap) = some q → base ≤ q ∧ q < wr.heap.size := fun q hq => World.ownsRow.lt hO q hq
  have hrow9 : ∀ q, Value.ownBlock (.slice A9 (i + 1) c9) = some q → base2 ≤ q ∧ q < w9.heap.size := fun q hq => World.ownsRow.lt hOW q hq
  have hz6 : wr.heap.size ≤ w6.heap.size := hb.size
  have hz9 : w6.heap.size + 2 ≤ w9.heap.size := by have := hGW.size; simpa using this
  have al : w6.grownBy ((w6.alloc (.cells (kcells r6).toArray 27)).alloc (.cells (kcells r6).toArray 27)) none := gr_alloc (gr_alloc (gr_refl _ _) _) _
  have hg : wr.grownBy w6 none := gr_below hb none
  have hB6 : Below w.heap.size w w6 := hB.trans (hb.mono hB.size)
  have hB7 : Below w.heap.size w ((w6.alloc (.cells (kcells r6).toArray 27)).alloc (.cells (kcells r6).toArray 27)) := (hB6.alloc hB6.size _).alloc (by have := hB6.size; simp; omega) _
  have hB9 : Below w.heap.size w w9 := ⟨hGW.os.trans hB7.os, hGW.tape.trans hB7.tape, hGW.output.trans hB7.output, Nat.le_trans hB7.size hGW.size, fun q hq => (hGW.block q (Nat.lt_of_lt_of_le hq hB7.size) (fun e => by have := hrow q e.symm; omega)).trans (hB7.block q hq)⟩
  have sD : w9.grownBy (w9.setCell ⟨D, 4, none⟩ (.slice A9 (i + 1) c9)) (some D) := gr_one (gr_refl _ _) _ _
  have hXl := hX.lt
  have h9 : (w9.setCell ⟨D, 4, none⟩ (.slice A9 (i + 1) c9)).heap.size = w9.heap.size := by simp [World.setCell]
  have hnd : nodesL (ks ++ [K6]) = nodesL ks + nodesT K6 := by rw [nodesL_app, nodesL, nodesL, Nat.add_zero]
  refine ⟨A9, c9, base2, w6.heap.size, ks ++ [K6], rs ++ [r6], hb1, by omega, by omega, by omega, fun e => by omega, fun hi q hq => ?_, by omega, hy2, by rw [hnd]; omega, ?_, ?_, ?_, ?_, ?_, ?_, hCI⟩
  · have := hrow9 q hq
    have := hb3 (by omega)
    omega
  · exact hB9.setCell (p := ⟨D, 4, none⟩) (by show w.heap.size ≤ D; omega) _
  · exact wds_grown (wds_grown (wds_grown (wds_grown hW hg (by simp)) al (by simp)) hGW (fun e => by have := hrow g e; omega)) sD (fun e => by have := Option.some.inj e; omega)
  · exact (((((hZ.grown hg (by simp)).alloc _).alloc _).grown hGW (fun e => by have := hrow S0 e.symm; omega)).apart (by show S0 ≠ D; omega) _)
  · exact (((((hX.grown hg (by simp)).alloc _).alloc _).grown hGW (fun e => by have := hrow D e.symm; omega)).store 4 _)
  · exact hOW.store (fun e => by have := hrow9 D e; omega) _
  · refine KRs.push (KRs.imp (fun k v hk => ?_) hK) ?_
    · exact ((((hk.grown hg (fun q e => by cases e)).grown al (fun q e => by cases e)).grown hGW (fun q e => .inr (hOB (by omega) q e))).grown sD (fun q e => by cases e; omega)).widen (Nat.le_refl _) (by omega)
    · exact (((hK6.grown al (fun q e => by cases e)).grown hGW (fun q e => .inl (hrow0 q e).2)).grown sD (fun q e => by cases e; exact .inl hXl)).widen hXl (Nat.le_refl _)
theorem zero_ka {lo hi : Nat} {w : World} : KA lo hi w (.mk 0 0 ⟨#[]⟩ [] []) (kval (0, 0, ⟨#[]⟩, (none, 0, 0), (none, 0, 0))) := ka_leaf (by decide) rfl (by decide) (SpA.nil _ _)
theorem rdj_fail {w w' : World} {ws : List (List UInt8)} {k many S0 : Nat} {kd : Int} (hSS : w.heap.size = S0) (hb : Below w.heap.size w w') (hc : ∀ ks, CmpJ ws k many (-1) ks) (a0 a1 a2 a3 a4 : Value) :
    JoP w ws k kd many (.returned (.tuple #[kval (0, 0, ⟨#[]⟩, (none, 0, 0), (none, 0, 0)), .int .i64 (-1)])) (st5 w' S0 a0 a1 a2 a3 a4) :=
  ⟨.mk 0 0 ⟨#[]⟩ [] [], _, -1, rfl, zero_ka, below_st5 hb (Nat.le_of_eq hSS) _ _ _ _ _, .inl ⟨rfl, by rw [nodesT, nodesL], hc⟩⟩
theorem rdj_end {w wr : World} {ws : List (List UInt8)} {S0 D E k many at' base h cap : Nat} {A : Option Addr} {kd : Int} {ks : List KT} {rs : List KR} (hSS : w.heap.size = S0) (hSD : S0 < D) (hDE : D < E) (hba : E ≤ base) (hEh : E ≤ h) (hhw : h ≤ wr.heap.size) (hat : k ≤ at') (ha2 : at' ≤ ws.length + 1) (hn : nodesL ks ≤ at' - k)
    (hB : Below w.heap.size w wr) (hO : ROwn keyR wr base (.slice A many cap) rs) (hK : KRs (KA (D + 1) h wr) ks rs) (hCI : CIJ ws k many many at' ks) (a0 a1 a2 a3 a4 : Value) :
    JoP w ws k kd many (.returned (.tuple #[kval (kd, 0, ⟨#[]⟩, (none, 0, 0), (A, many, cap)), .int .i64 (at' : Int)])) (st5 wr S0 a0 a1 a2 a3 a4) := by
  have h5 := gr_st5 wr S0 a0 a1 a2 a3 a4
  have h1 := ka_full hO (by omega) hK hhw (ka_leaf (lo := D + 1) (hi := E) (w := wr) (kd := kd) (f := 0) (t := ⟨#[]⟩) (S := []) (A := none) (n := 0) (c := 0) (by decide) rfl (by decide) (SpA.nil _ _)) (by omega)
  exact ⟨.mk kd 0 ⟨#[]⟩ [] ks, _, (at' : Int), rfl, (h1.grown h5 (fun q e => by cases e; omega)).widen (by omega) h5.size, below_st5 hB (Nat.le_of_eq hSS) _ _ _ _ _, .inr ⟨ks, at', rfl, rfl, cij_end hCI, hat, ha2, hn⟩⟩
set_option maxRecDepth 20000 in
set_option maxHeartbeats 16000000 in
theorem spec_join_step {g N cap k many : Nat} {kd : Int} {ws : List (List UInt8)} (w : World) (hw : Wds w g ws) (hN : ws.length = N) (hNb : N ≤ 16777217) (hk : k ≤ N + 1) (hm : many ≤ 2)
    (ih : ∀ (k1 : Nat) (w1 : World), k ≤ k1 → k1 ≤ N + 1 → Wds w1 g ws → Calls Tryz.prog 33 #[.slice (some ⟨g, 0, none⟩) N cap, .int .i64 (k1 : Int)] w1 (RdP w1 ws k1)) :
    Calls Tryz.prog 64 #[.slice (some ⟨g, 0, none⟩) N cap, .int .i64 (k : Int), .int .i64 kd, .int .i64 (many : Int)] w (JoP w ws k kd many) := by
  obtain ⟨S0, hSS⟩ : ∃ B, w.heap.size = B := ⟨_, rfl⟩
  have HSS := Lib.hid hSS
  have hgS : g < S0 := by rw [← hSS]; exact hw.1
  obtain ⟨wa, hwa⟩ : ∃ wa, w.alloc (.cells #[.int .i64 0, .int .i64 0, .string ⟨#[]⟩, .slice none 0 0, .slice none 0 0] 27) = wa := ⟨_, rfl⟩
  have HWA := Lib.hid hwa
  have HBa : Hid (Below w.heap.size w wa) := Lib.hid (by rw [← hwa]; exact below_new _ _)
  have HZa : Hid (Whole wa S0 27 #[.int .i64 0, .int .i64 0, .string ⟨#[]⟩, .slice none 0 0, .slice none 0 0]) := Lib.hid (by rw [← hwa, ← hSS]; exact Whole.made w _ _)
  obtain ⟨D, hD⟩ : ∃ B, wa.heap.size = B := ⟨_, rfl⟩
  have HDD := Lib.hid hD
  have HDE : Hid (S0 + 1 = D) := Lib.hid (by rw [← hD, ← hwa, ← hSS]; simp)
  have hSD : S0 < D := by have := HZa.out.lt; omega
  obtain ⟨wb, hwb⟩ : ∃ wb, wa.alloc (.cells #[.int .i64 kd, .int .i64 0, .string ⟨#[]⟩, .slice none 0 0, .slice none 0 0] 27) = wb := ⟨_, rfl⟩
  have HWB := Lib.hid hwb
  have hbab : Below wa.heap.size wa wb := by rw [← hwb]; exact below_new _ _
  have HBb := Lib.hid (HBa.out.trans (hbab.mono HBa.out.size))
  have HZb := Lib.hid (HZa.out.below hbab HZa.out.lt)
  have HXb : Hid (Whole wb D 27 #[.int .i64 kd, .int .i64 0, .string ⟨#[]⟩, .slice none 0 0, .slice none 0 0]) := Lib.hid (by rw [← hwb, ← hD]; exact Whole.made wa _ _)
  have HWb := Lib.hid ((hw.below HBa.out).below hbab)
  obtain ⟨E, hE⟩ : ∃ B, wb.heap.size = B := ⟨_, rfl⟩
  have hDE : D < E := by have := HXb.out.lt; omega
  have HR0 : Hid (RdJ w S0 D E g ws k many kd 0 k wb) := Lib.hid ⟨none, 0, E, E, [], [], Nat.le_refl _, Nat.le_refl _, by omega, by omega, fun _ => ⟨rfl, rfl⟩, fun _ q hq => (by cases hq), Nat.le_refl _, by rw [hN]; exact hk, by rw [nodesL]; omega, HBb, HWb, HZb, HXb, Lib.hid (ROwn.nil _ _), Lib.hid rfl, Lib.hid (cij_begin _ _ _)⟩
  have HIH := Lib.hid ih
  have HNE := Lib.hid hN
  clear hw hN ih hSS hwa hD hwb hbab hE
  go_enter Tryz.func64, Tryz.ntmps64
  go_upto_region 2 with fail
  try rw [HSS.out]
  rw [HWA.out]
  first | rw [HDD.out] | rw [HDE.out]
  rw [HWB.out]
  go_wp2
  go_loopw [1, 11, 12, 13] (fun av iv _ _ wr => ∃ i at' : Nat, i ≤ many ∧ av = .int .i64 (at' : Int) ∧ iv = .int .i64 (i : Int) ∧ Hid (RdJ w S0 D E g ws k many kd i at' wr)) (fun _ iv _ _ _ => many - (intOf iv).toNat)
  case atStart => exact ⟨0, k, Nat.zero_le _, rfl, by go_num, HR0⟩
  case round =>
    obtain ⟨i, at', hin, rfl, rfl, HREL⟩ := hrel
    obtain ⟨A, cap2, base, h, ks, rs, hba, hEh, hhw, hbw, hA0, hOB, hat, ha2, hnd, HB, HW, HZ, HX, HO, HK, HCI⟩ := HREL.out
    by_cases hlt : i < many
    · have h5 : (i : Int) < (many : Int) := by omega
      have HIC := Lib.hid (HIH.out at' wr hat (by rw [← HNE.out]; exact ha2) HW.out)
      have hmlE : i + 1 ≤ maxLen := by unfold maxLen; omega
      have hbyE : (i + 1) * 80 ≤ 140737488355328 := by omega
      go_wp2_with fail
      refine HIC.out.mono ?_
      rintro e w6 ⟨K6, ⟨a0, a1, a2, ⟨a3, a4, a5⟩, ⟨a6, a7, a8⟩⟩, x, rfl, hka6, hb6, hcm6, hx6⟩
      have HB6 := Lib.hid hb6
      have HKA6 := Lib.hid hka6
      have HCM6 := Lib.hid hcm6
      have HX6 := Lib.hid hx6
      clear hb6 hka6 hcm6 hx6
      obtain ⟨base2, hO6, hb1, hb2, hb3⟩ := own_base2 HO.out hA0 (gr_below HB6.out (some 0)) (by omega) hba (by omega)
      have HO6 := Lib.hid hO6
      clear hO6
      obtain ⟨D7, hD7⟩ : ∃ D, w6.heap.size = D := ⟨_, rfl⟩
      have HDD7 := Lib.hid hD7
      obtain ⟨w7, hw7⟩ : ∃ z, w6.alloc (.cells #[.int .i64 a0, .int .i64 a1, .string a2, .slice a3 a4 a5, .slice a6 a7 a8] 27) = z := ⟨_, rfl⟩
      have HW7 := Lib.hid hw7
      have HZ7 : Hid (Whole w7 S0 27 #[.int .i64 0, .int .i64 0, .string ⟨#[]⟩, .slice none 0 0, .slice none 0 0]) := Lib.hid (by rw [← hw7]; exact (HZ.out.below HB6.out HZ.out.lt).alloc _)
      have HX7 := Lib.hid (show Whole w7 D 27 #[.int .i64 kd, .int .i64 0, .string ⟨#[]⟩, .slice none 0 0, .slice A i cap2] by rw [← hw7]; exact (HX.out.below HB6.out HX.out.lt).alloc _)
      have HR7 : Hid (Whole w7 D7 27 #[.int .i64 a0, .int .i64 a1, .string a2, .slice a3 a4 a5, .slice a6 a7 a8]) := Lib.hid (by rw [← hw7, ← hD7]; exact Whole.made w6 _ _)
      have HO7 : Hid (ROwn keyR w7 base2 (.slice A i cap2) rs) := Lib.hid (by rw [← hw7]; exact HO6.out.alloc _)
      have HB7 : Hid (Below w.heap.size w w7) := Lib.hid (by rw [← hw7]; exact (HB.out.trans (HB6.out.mono HB.out.size)).alloc (HB.out.trans (HB6.out.mono HB.out.size)).size _)
      have hb27 : base2 ≤ w7.heap.size := by rw [← hw7]; simp; omega
      clear hD7 hw7
      go_upto_region 6 with fail
      rw [HDD7.out, HW7.out]
      rcases HX6.out with ⟨rfl, -⟩ | ⟨y, rfl, hy1, hy2, hy3⟩
      · have HCF : Hid (∀ ks6, CmpJ ws k many (-1) ks6) := Lib.hid (fun ks6 => cij_fail HCI.out hlt HCM6.out)
        have zc0 := HZ7.out.cell 0
        have zc1 := HZ7.out.cell 1
        have zc2 := HZ7.out.cell 2
        have zc3 := HZ7.out.cell 3
        have zc4 := HZ7.out.cell 4
        have zf0 := HZ7.out.free 0
        have zf1 := HZ7.out.free 1
        have zf2 := HZ7.out.free 2
        have zf3 := HZ7.out.free 3
        have zf4 := HZ7.out.free 4
        simp only [List.getElem?_toArray, List.getElem?_cons_zero, List.getElem?_cons_succ] at zc0 zc1 zc2 zc3 zc4
        go_wp2
        refine bodyPost_ret (v := .tuple #[.agg #[.int .i64 0, .int .i64 0, .string ⟨#[]⟩, .slice none 0 0, .slice none 0 0], .int .i64 (-1)]) (by rw [results_cell_tmp Tryz.results64]; go_simp) rfl ?_
        exact rdj_fail HSS.out HB7.out HCF.out _ _ _ _ _
      · obtain ⟨i0, hi, hq0, hq1, hq2⟩ := info_parts Tryz.infoKey
        have hny : ¬ (y : Int) < 0 := by omega
        have HLN : Hid (rs.length = i) := Lib.hid HO.out.len.1.symm
        have xc4 := HX7.out.cell 4
        have rc0 := HR7.out.cell 0
        have rc1 := HR7.out.cell 1
        have rc2 := HR7.out.cell 2
        have rc3 := HR7.out.cell 3
        have rc4 := HR7.out.cell 4
        simp only [List.getElem?_toArray, List.getElem?_cons_zero, List.getElem?_cons_succ] at rc0 rc1 rc2 rc3 rc4
        simp only [List.getElem?_toArray, List.getElem?_cons_zero, List.getElem?_cons_succ] at xc4
        go_wp2_with (at_builtin; refine wpList_append_rows rfl (.tmp 31) (.tmp 33) 25 rfl keyR base2 i0 _ 80 Tryz.underlying25 hi hq0 hq1 hq2 rfl (by decide) _ rs [(a0, a1, a2, (a3, a4, a5), (a6, a7, a8))] i HLN.out rfl (HO7.out.alloc _) (some ⟨w7.heap.size, 0, none⟩) 1 1 rfl rfl (RAt.made keyR w7 [(a0, a1, a2, (a3, a4, a5), (a6, a7, a8))] _ rfl) (fun e => by cases e) (fun q e => by cases e; rfl) hmlE hbyE (by simp; omega) ?_)
        intro v' w9 hown hgrow hnn
        obtain ⟨A9, N9, c9, rfl⟩ := hown.val
        have hN9 : N9 = i + 1 := by
          have := hown.len.1
          rw [List.length_append, HLN.out] at this
          exact this
        subst hN9
        have HOW := Lib.hid hown
        have HGW := Lib.hid hgrow
        have hx9 := (HX7.out.alloc (.cells #[.int .i64 a0, .int .i64 a1, .string a2, .slice a3 a4 a5, .slice a6 a7 a8] 27)).grown hgrow (fun e => by have := (World.ownsRow.lt HO6.out D e.symm).1; omega)
        have xc94 := hx9.cell 4
        have xf94 := hx9.free 4
        simp only [List.getElem?_toArray, List.getElem?_cons_zero, List.getElem?_cons_succ] at xc94
        clear hown hgrow hnn hx9 xc4 rc0 rc1 rc2 rc3 rc4
        go_wp2
        go_roundw
        case rel => exact ⟨i + 1, y, by omega, rfl, by go_num, Lib.hid (rdj_next hgS hSD hDE HSS.out hlt hm hba hEh hhw hat hnd hy1 hy2 hy3 hOB HB.out HW.out HZ.out HX.out HO.out HK.out HB6.out HKA6.out HO6.out hb1 hb2 hb3 (by rw [HW7.out]; exact HGW.out) HOW.out (cij_next HCI.out hlt HCM6.out))⟩
        case measure => simp [intOf]; omega
    · have h5 : ¬ (i : Int) < (many : Int) := by omega
      obtain rfl : i = many := by omega
      have xc0 := HX.out.cell 0
      have xc1 := HX.out.cell 1
      have xc2 := HX.out.cell 2
      have xc3 := HX.out.cell 3
      have xc4 := HX.out.cell 4
      simp only [List.getElem?_toArray, List.getElem?_cons_zero, List.getElem?_cons_succ] at xc0 xc1 xc2 xc3 xc4
      have zc0 := HZ.out.cell 0
      have zc1 := HZ.out.cell 1
      have zc2 := HZ.out.cell 2
      have zc3 := HZ.out.cell 3
      have zc4 := HZ.out.cell 4
      have zf0 := HZ.out.free 0
      have zf1 := HZ.out.free 1
      have zf2 := HZ.out.free 2
      have zf3 := HZ.out.free 3
      have zf4 := HZ.out.free 4
      simp only [List.getElem?_toArray, List.getElem?_cons_zero, List.getElem?_cons_succ] at zc0 zc1 zc2 zc3 zc4
      go_wp2
      refine bodyPost_ret (v := .tuple #[.agg #[.int .i64 kd, .int .i64 0, .string ⟨#[]⟩, .slice none 0 0, .slice A i cap2], .int .i64 (at' : Int)]) (by rw [results_cell_tmp Tryz.results64]; go_simp) rfl ?_
      exact rdj_end HSS.out hSD hDE hba hEh hhw hat ha2 hnd HB.out HO.out HK.out HCI.out _ _ _ _ _
def nm3 : Array Value := #[.string ⟨#[110, 111, 116]⟩, .string ⟨#[97, 110, 100]⟩, .string ⟨#[111, 114]⟩]
def wd3 (i : Nat) : List UInt8 := if i = 0 then [110, 111, 116] else if i = 1 then [97, 110, 100] else [111, 114]
theorem nm3_at {i : Nat} (h : i < 3) : nm3[i]? = some (.string (wB (wd3 i))) := by
  match i, h with
  | 0, _ | 1, _ | 2, _ => rfl
theorem wk_3 {i : Nat} (h : i < 3) : wk (wd3 i) = (((5 + i : Nat) : Int), 0, true) := by
  match i, h with
  | 0, _ | 1, _ | 2, _ => decide
theorem nOf_3 {i : Nat} (h : i < 3) : nOf ((5 + i : Nat) : Int) = min (i + 1) 2 := by
  match i, h with
  | 0, _ | 1, _ | 2, _ => rfl
theorem rdp_mk {w w' : World} {ws : List (List UInt8)} {k S0 : Nat} {K : KT} {r : KR} {x : Int} (hSS : w.heap.size = S0) (hb : Below w.heap.size w w') (hk : KA (S0 + 1) w'.heap.size w' K (kval r)) (hc : CmpW ws k x K) (hx : x = -1 ∧ nodesT K = 1 ∨ ∃ y : Nat, x = (y : Int) ∧ k < y ∧ y ≤ ws.length + 1 ∧ nodesT K ≤ y - k) (a0 a1 a2 a3 a4 : Value) :
    RdP w ws k (.returned (.tuple #[kval r, .int .i64 x])) (st5 w' S0 a0 a1 a2 a3 a4) :=
  ⟨K, r, x, rfl, (hk.grown (gr_st5 _ _ _ _ _ _ _) (fun q e => by cases e; omega)).widen (by omega) (gr_st5 w' S0 a0 a1 a2 a3 a4).size, below_st5 hb (Nat.le_of_eq hSS) _ _ _ _ _, hc, hx⟩

set_option maxRecDepth 20000 in
set_option maxHeartbeats 16000000 in
theorem spec_read_step {g N cap k : Nat} {ws : List (List UInt8)} (w : World) (hw : Wds w g ws) (hN : ws.length = N) (hNb : N ≤ 16777217) (hk : k ≤ N + 1) (hL : ∀ v ∈ ws, v.length ≤ 16777216)
    (ih : ∀ (k1 : Nat) (w1 : World), k < k1 → k1 ≤ N + 1 → Wds w1 g ws → Calls Tryz.prog 33 #[.slice (some ⟨g, 0, none⟩) N cap, .int .i64 (k1 : Int)] w1 (RdP w1 ws k1)) :
    Calls Tryz.prog 33 #[.slice (some ⟨g, 0, none⟩) N cap, .int .i64 (k : Int)] w (RdP w ws k) := by
  obtain ⟨S0, hSS⟩ : ∃ B, w.heap.size = B := ⟨_, rfl⟩
  have HSS := Lib.hid hSS
  obtain ⟨wa, hwa⟩ : ∃ wa, w.alloc (.cells #[.int .i64 0, .int .i64 0, .string ⟨#[]⟩, .slice none 0 0, .slice none 0 0] 27) = wa := ⟨_, rfl⟩
  have HWA := Lib.hid hwa
  have HBa : Hid (Below w.heap.size w wa) := Lib.hid (by rw [← hwa]; exact below_new _ _)
  have HZa : Hid (Whole wa S0 27 #[.int .i64 0, .int .i64 0, .string ⟨#[]⟩, .slice none 0 0, .slice none 0 0]) := Lib.hid (by rw [← hwa, ← hSS]; exact Whole.made w _ _)
  have HWa := Lib.hid (hw.below HBa.out)
  have HNE := Lib.hid hN
  have HIH := Lib.hid ih
  have HLL := Lib.hid hL
  by_cases hkN : N ≤ k
  · have hge : (N : Int) ≤ (k : Int) := by omega
    have HCO : Hid (CmpW ws k (-1) (.mk 0 0 ⟨#[]⟩ [] [])) := Lib.hid (cmp_out (by rw [hN]; exact hkN))
    clear hw hN ih hL hSS hwa
    have zc0 := HZa.out.cell 0
    have zc1 := HZa.out.cell 1
    have zc2 := HZa.out.cell 2
    have zc3 := HZa.out.cell 3
    have zc4 := HZa.out.cell 4
    have zf0 := HZa.out.free 0
    have zf1 := HZa.out.free 1
    have zf2 := HZa.out.free 2
    have zf3 := HZa.out.free 3
    have zf4 := HZa.out.free 4
    simp only [List.getElem?_toArray, List.getElem?_cons_zero, List.getElem?_cons_succ] at zc0 zc1 zc2 zc3 zc4
    go_enter Tryz.func33, Tryz.ntmps33
    go_upto_region 1 with fail
    try rw [HSS.out]
    rw [HWA.out]
    go_wp2
    refine bodyPost_ret (v := .tuple #[.agg #[.int .i64 0, .int .i64 0, .string ⟨#[]⟩, .slice none 0 0, .slice none 0 0], .int .i64 (-1)]) (by rw [results_cell_tmp Tryz.results33]; go_simp) rfl ?_
    exact rdp_mk HSS.out HBa.out zero_ka HCO.out (.inl ⟨rfl, by rw [nodesT, nodesL]⟩) _ _ _ _ _
  · have hge : ¬ (N : Int) ≤ (k : Int) := by omega
    have hkl : k < N := by omega
    have k0 : (0 : Int) ≤ (k : Int) := by omega
    have kN : (k : Int) < (N : Int) := by omega
    obtain ⟨W, hW⟩ : ∃ W, ws[k]? = some W := ⟨_, List.getElem?_eq_getElem (by rw [hN]; exact hkl)⟩
    have HAT := Lib.hid hW
    have HKN : Hid (k < ws.length) := Lib.hid (by rw [hN]; exact hkl)
    obtain ⟨tw, htw⟩ : ∃ t, wB (ws.getD k []) = t := ⟨_, rfl⟩
    have HTE := Lib.hid htw
    have HTW : Hid (tw.data.toList = W) := Lib.hid (by rw [← htw, List.getD_eq_getElem?_getD, hW]; rfl)
    obtain ⟨G, hG⟩ : ∃ z, S0 + 1 = z := ⟨_, rfl⟩
    have hGe : wa.heap.size = G := by rw [← hwa, ← hG, ← hSS]; simp
    obtain ⟨wn, hwn⟩ : ∃ z, wa.alloc (.cells nm3 9) = z := ⟨_, rfl⟩
    have hbn : Below wa.heap.size wa wn := by rw [← hwn]; exact below_new _ _
    have HBn := Lib.hid (HBa.out.trans (hbn.mono HBa.out.size))
    have HZn := Lib.hid (HZa.out.below hbn HZa.out.lt)
    have HWn := Lib.hid (HWa.out.below hbn)
    have HGn : Hid (Whole wn G 9 nm3) := Lib.hid (by rw [← hwn, ← hGe]; exact Whole.made _ _ _)
    have HWN := Lib.hid hwn
    have HGE := Lib.hid hGe
    unfold nm3 at HWN
    clear hw hN ih hL hSS hwa hW htw hG hGe hwn hbn hkN
    go_enter Tryz.func33, Tryz.ntmps33
    go_upto_region 1 with fail
    try rw [HSS.out]
    rw [HWA.out]
    go_upto_region 4 with fail
    try rw [HGE.out]
    rw [HWN.out]
    go_wp2
    go_loopw [7] (fun iv wr => ∃ i : Nat, i ≤ 3 ∧ iv = .int .i64 (i : Int) ∧ Hid (∀ j, j < i → W ≠ wd3 j) ∧ Hid (Below wn.heap.size wn wr)) (fun iv _ => 3 - (intOf iv).toNat)
    case atStart => exact ⟨0, Nat.zero_le _, by go_num, Lib.hid (fun j hj => absurd hj (Nat.not_lt_zero _)), Below.refl _ _⟩
    case round =>
      obtain ⟨i, hi, rfl, HJ, KB⟩ := hrel
      have HZr := Lib.hid (HZn.out.below KB.out HZn.out.lt)
      have HBr := Lib.hid (HBn.out.trans (KB.out.mono HBn.out.size))
      have HWr := Lib.hid (HWn.out.below KB.out)
      have HGr := Lib.hid (HGn.out.below KB.out HGn.out.lt)
      by_cases hlt : i < 3
      · have i0 : (0 : Int) ≤ (i : Int) := by omega
        have i3 : (i : Int) < 3 := by omega
        have hcw := HWr.out.at HKN.out HTE.out
        have hcn : wr.cell? ⟨G, i, none⟩ = some (.string (wB (wd3 i))) := (HGr.out.cell i).trans (nm3_at hlt)
        obtain ⟨fw, hfw⟩ : ∃ z, wB (wd3 i) = z := ⟨_, rfl⟩
        rw [hfw] at hcn
        have HFW : Hid (fw.data.toList = wd3 i) := Lib.hid (by rw [← hfw]; rfl)
        clear hfw
        by_cases he : W = wd3 i
        · have hx := toList_ww HTW.out HFW.out he
          obtain ⟨k1, hk1⟩ : ∃ z, k + 1 = z := ⟨_, rfl⟩
          have E1 : (k : Int) + 1 = (k1 : Int) := by omega
          have HK1 := Lib.hid hk1
          obtain ⟨kd, hkd⟩ : ∃ z, 5 + i = z := ⟨_, rfl⟩
          have E2 : 5 + (i : Int) = (kd : Int) := by omega
          obtain ⟨i1, hi1⟩ : ∃ z, i + 1 = z := ⟨_, rfl⟩
          have E3 : (i : Int) + 1 = (i1 : Int) := by omega
          obtain ⟨mm, hmm⟩ : ∃ z, min (i + 1) 2 = z := ⟨_, rfl⟩
          have E4 : min (i1 : Int) 2 = (mm : Int) := by omega
          have HV : Hid (wk W = ((kd : Int), 0, true)) := Lib.hid (by rw [he, wk_3 hlt, hkd])
          have HNO : Hid (nOf (kd : Int) = mm) := Lib.hid (by rw [← hkd, nOf_3 hlt, hmm])
          have HKD : Hid ((kd : Int) = 5 ∨ (kd : Int) = 6 ∨ (kd : Int) = 7) := Lib.hid (by omega)
          have hkd7 : kd ≤ 7 := by omega
          have hmm2 : mm ≤ 2 := by omega
          clear he hk1 hkd hi1 hmm
          go_wp2
          go_quiet (fail)
          obtain ⟨wz, hwz⟩ : ∃ z, World.drewN wr nq = z := ⟨_, rfl⟩
          have hbz : Below wr.heap.size wr wz := by rw [← hwz]; exact below_drewN' (Below.refl _ _) _
          have KBz := Lib.hid (KB.out.trans (hbz.mono KB.out.size))
          have HWz := Lib.hid (HWn.out.below KBz.out)
          have HBz := Lib.hid (HBn.out.trans (KBz.out.mono HBn.out.size))
          have HZz := Lib.hid (HZn.out.below KBz.out HZn.out.lt)
          have HJC := Lib.hid (spec_join_step (cap := cap) (kd := (kd : Int)) wz HWz.out HNE.out hNb (show k1 ≤ N + 1 by rw [← HK1.out]; omega) hmm2 (fun k2 w2 h1 h2 h3 => HIH.out k2 w2 (by have := HK1.out; omega) h2 h3))
          have HZW := Lib.hid hwz
          clear hbz hwz hcw hcn hx
          go_wp2_with fail
          rw [HZW.out]
          refine HJC.out.mono ?_
          rintro e w6 ⟨K6, ⟨a0, a1, a2, ⟨a3, a4, a5⟩, ⟨a6, a7, a8⟩⟩, x, rfl, hka6, hb6, hx6⟩
          have HB6 := Lib.hid (HBz.out.trans (hb6.mono HBz.out.size))
          have HZ6 := Lib.hid (HZz.out.below hb6 HZz.out.lt)
          have HKA6 := Lib.hid (hka6.widen (lo' := S0 + 1) (hi' := w6.heap.size) HZz.out.lt (Nat.le_refl _))
          have HX6 : Hid (CmpW ws k x K6 ∧ (x = -1 ∧ nodesT K6 = 1 ∨ ∃ y : Nat, x = (y : Int) ∧ k < y ∧ y ≤ ws.length + 1 ∧ nodesT K6 ≤ y - k)) := Lib.hid (by
            have hk1 := HK1.out
            rcases hx6 with ⟨rfl, h1, h2⟩ | ⟨ks, y, rfl, rfl, h2, h3, h4, h5⟩
            · refine ⟨?_, .inl ⟨rfl, h1⟩⟩
              have hcm : ∀ ks, CmpW ws k (-1) (.mk (kd : Int) 0 ⟨#[]⟩ [] ks) := fun ks => cmp_join HAT.out HV.out HKD.out (by rw [HNO.out, hk1]; exact h2 ks)
              intro K2 R2 ha
              have := (hcm [] K2 R2 ha).1
              omega
            · exact ⟨cmp_join HAT.out HV.out HKD.out (by rw [HNO.out, hk1]; exact h2), .inr ⟨y, rfl, by omega, h4, by rw [nodesT]; omega⟩⟩)
          clear hka6 hb6 hx6
          have zc0 := HZ6.out.cell 0
          have zc1 := HZ6.out.cell 1
          have zc2 := HZ6.out.cell 2
          have zc3 := HZ6.out.cell 3
          have zc4 := HZ6.out.cell 4
          have zf0 := HZ6.out.free 0
          have zf1 := HZ6.out.free 1
          have zf2 := HZ6.out.free 2
          have zf3 := HZ6.out.free 3
          have zf4 := HZ6.out.free 4
          simp only [List.getElem?_toArray, List.getElem?_cons_zero, List.getElem?_cons_succ] at zc0 zc1 zc2 zc3 zc4
          go_wp2
          refine bodyPost_ret (v := .tuple #[.agg #[.int .i64 a0, .int .i64 a1, .string a2, .slice a3 a4 a5, .slice a6 a7 a8], .int .i64 x]) (by rw [results_cell_tmp Tryz.results33]; go_simp) rfl ?_
          exact rdp_mk HSS.out HB6.out HKA6.out HX6.out.1 HX6.out.2 _ _ _ _ _
        · have hx := toList_wn HTW.out HFW.out he
          have HJ1 : Hid (∀ j, j < i + 1 → W ≠ wd3 j) := Lib.hid (fun j hj => by
            by_cases hji : j < i
            · exact HJ.out j hji
            · have : j = i := by omega
              subst this
              exact he)
          clear he
          go_wp2
          go_quiet (fail)
          go_wp2
          go_roundw
          case rel => exact ⟨i + 1, by omega, by go_num, HJ1, below_drewN' KB.out _⟩
          case measure => simp [intOf]; omega
      · have i3 : ¬ (i : Int) < 3 := by omega
        have HLF := Lib.hid (spec_leaf (cap := cap) wr HWr.out HNE.out hNb hkl HLL.out HAT.out (HJ.out 0 (by omega)) (HJ.out 1 (by omega)) (HJ.out 2 (by omega)))
        go_wp2_with fail
        refine HLF.out.mono ?_
        rintro e w6 ⟨K6, ⟨a0, a1, a2, ⟨a3, a4, a5⟩, ⟨a6, a7, a8⟩⟩, n, rfl, hka6, hb6, hnd6, hn2, hcm6, hno6⟩
        obtain ⟨D7, hD7⟩ : ∃ D, w6.heap.size = D := ⟨_, rfl⟩
        have HDD7 := Lib.hid hD7
        obtain ⟨w7, hw7⟩ : ∃ z, w6.alloc (.cells #[.int .i64 a0, .int .i64 a1, .string a2, .slice a3 a4 a5, .slice a6 a7 a8] 27) = z := ⟨_, rfl⟩
        have HW7 := Lib.hid hw7
        have hb7 : Below w6.heap.size w6 w7 := by rw [← hw7]; exact below_new _ _
        have HB7 := Lib.hid ((HBr.out.trans (hb6.mono HBr.out.size)).trans (hb7.mono (HBr.out.trans (hb6.mono HBr.out.size)).size))
        have HZ7 := Lib.hid ((HZr.out.below hb6 HZr.out.lt).below hb7 (HZr.out.below hb6 HZr.out.lt).lt)
        have HR7 : Hid (Whole w7 D7 27 #[.int .i64 a0, .int .i64 a1, .string a2, .slice a3 a4 a5, .slice a6 a7 a8]) := Lib.hid (by rw [← hw7, ← hD7]; exact Whole.made w6 _ _)
        have HKA7 := Lib.hid ((hka6.grown (gr_below hb7 none) (fun q e => by cases e)).widen (lo' := S0 + 1) (hi' := w7.heap.size) HZr.out.lt hb7.size)
        have HND := Lib.hid hnd6
        have HCM := Lib.hid hcm6
        have HNO := Lib.hid hno6
        clear hka6 hb6 hnd6 hcm6 hno6 hb7 hD7 hw7
        go_upto_region 10 with fail
        rw [HDD7.out, HW7.out]
        by_cases hn0 : n = 0
        · subst hn0
          have zc0 := HZ7.out.cell 0
          have zc1 := HZ7.out.cell 1
          have zc2 := HZ7.out.cell 2
          have zc3 := HZ7.out.cell 3
          have zc4 := HZ7.out.cell 4
          have zf0 := HZ7.out.free 0
          have zf1 := HZ7.out.free 1
          have zf2 := HZ7.out.free 2
          have zf3 := HZ7.out.free 3
          have zf4 := HZ7.out.free 4
          simp only [List.getElem?_toArray, List.getElem?_cons_zero, List.getElem?_cons_succ] at zc0 zc1 zc2 zc3 zc4
          go_wp2
          refine bodyPost_ret (v := .tuple #[.agg #[.int .i64 0, .int .i64 0, .string ⟨#[]⟩, .slice none 0 0, .slice none 0 0], .int .i64 (-1)]) (by rw [results_cell_tmp Tryz.results33]; go_simp) rfl ?_
          exact rdp_mk HSS.out HB7.out zero_ka (HNO.out (by trivial) _ _) (.inl ⟨rfl, by rw [nodesT, nodesL]⟩) _ _ _ _ _
        · have hn : ((n : Int) == 0) = false := beq_eq_false_iff_ne.2 (by omega)
          have zc0 := HZ7.out.cell 0
          have zc1 := HZ7.out.cell 1
          have zc2 := HZ7.out.cell 2
          have zc3 := HZ7.out.cell 3
          have zc4 := HZ7.out.cell 4
          have zf0 := HZ7.out.free 0
          have zf1 := HZ7.out.free 1
          have zf2 := HZ7.out.free 2
          have zf3 := HZ7.out.free 3
          have zf4 := HZ7.out.free 4
          simp only [List.getElem?_toArray, List.getElem?_cons_zero, List.getElem?_cons_succ] at zc0 zc1 zc2 zc3 zc4
          have rc0 := HR7.out.cell 0
          have rc1 := HR7.out.cell 1
          have rc2 := HR7.out.cell 2
          have rc3 := HR7.out.cell 3
          have rc4 := HR7.out.cell 4
          simp only [List.getElem?_toArray, List.getElem?_cons_zero, List.getElem?_cons_succ] at rc0 rc1 rc2 rc3 rc4
          obtain ⟨y, hy⟩ : ∃ z, k + n = z := ⟨_, rfl⟩
          have E1 : (k : Int) + (n : Int) = (y : Int) := by omega
          have HY := Lib.hid hy
          have HN0 := Lib.hid hn0
          clear hy hn0
          go_wp2
          refine bodyPost_ret (v := .tuple #[.agg #[.int .i64 a0, .int .i64 a1, .string a2, .slice a3 a4 a5, .slice a6 a7 a8], .int .i64 (y : Int)]) (by rw [results_cell_tmp Tryz.results33]; go_simp) rfl ?_
          have hyy := HY.out
          have hnn := HN0.out
          have hln := HNE.out
          exact rdp_mk HSS.out HB7.out HKA7.out (by rw [← hyy]; exact HCM.out hnn) (.inr ⟨y, rfl, by omega, by omega, by rw [HND.out]; omega⟩) _ _ _ _ _
theorem spec_read {g N cap : Nat} {ws : List (List UInt8)} (hN : ws.length = N) (hNb : N ≤ 16777217) (hL : ∀ v ∈ ws, v.length ≤ 16777216) : ∀ (n k : Nat) (w : World), N + 1 - k ≤ n → k ≤ N + 1 → Wds w g ws →
    Calls Tryz.prog 33 #[.slice (some ⟨g, 0, none⟩) N cap, .int .i64 (k : Int)] w (RdP w ws k)
  | 0, k, w, hn, hk, hw => spec_read_step w hw hN hNb hk hL (fun k1 w1 h1 h2 h3 => by omega)
  | n + 1, k, w, hn, hk, hw => spec_read_step w hw hN hNb hk hL (fun k1 w1 h1 h2 h3 => spec_read hN hNb hL n k1 w1 (by omega) h2 h3)
end Go.Proofs.YtnfigpknejmkmaaGreatDoor
namespace Go.Proofs.YtnfigpknejmkmaaGreatDoor
open Go.RowKit
set_option linter.unusedVariables false
set_option linter.unusedSimpArgs false

theorem cutGo_each (c : UInt8) : ∀ (l cur : List UInt8), ∀ v ∈ cutGo c cur l, v.length ≤ cur.length + l.length
  | [], cur, v, hv => by
    rw [cutGo, List.mem_singleton] at hv
    subst hv
    simp
  | x :: t, cur, v, hv => by
    rw [cutGo] at hv
    split at hv
    · rcases List.mem_cons.1 hv with rfl | hv
      · omega
      · have := cutGo_each c t [] v hv
        simp at this ⊢
        omega
    · have := cutGo_each c t (cur ++ [x]) v hv
      simp at this ⊢
      omega
theorem wds_of {w w' : World} {t : ByteArray} {g cap : Nat} (h1 : g < w'.heap.size) (h2 : ∀ j, j < (cut 32 t.data.toList).length → w'.cell? ⟨g, j, none⟩ = some (str ((cut 32 t.data.toList).getD j []))) : Wds w' g (cut 32 t.data.toList) := ⟨h1, h2⟩
theorem cut_blank32 (u : ByteArray) (w : World) (hs : u.size ≤ 16777216) : Calls Tryz.prog 32 #[.string u, .int .u8 32] w (Cuts w (cut 32 u.data.toList)) := cut_any u 32 w hs
set_option maxRecDepth 20000 in
set_option maxHeartbeats 16000000 in
theorem spec_keyparse {t : ByteArray} (w : World) (ht : t.size ≤ 3000000) : Calls Tryz.prog 9 #[.string t] w (PKy w t) := by
  obtain ⟨S0, hSS⟩ : ∃ B, w.heap.size = B := ⟨_, rfl⟩
  have HSS := Lib.hid hSS
  obtain ⟨wa, hwa⟩ : ∃ wa, w.alloc (.cells #[.int .i64 0, .int .i64 0, .string ⟨#[]⟩, .slice none 0 0, .slice none 0 0] 27) = wa := ⟨_, rfl⟩
  have HWA := Lib.hid hwa
  have HBa : Hid (Below w.heap.size w wa) := Lib.hid (by rw [← hwa]; exact below_new _ _)
  have HZa : Hid (Whole wa S0 27 #[.int .i64 0, .int .i64 0, .string ⟨#[]⟩, .slice none 0 0, .slice none 0 0]) := Lib.hid (by rw [← hwa, ← hSS]; exact Whole.made w _ _)
  have HC0 := Lib.hid (cut_blank32 t wa (by omega))
  have HL : Hid (∀ v ∈ cut 32 t.data.toList, v.length ≤ 16777216) := Lib.hid (fun v hv => by
    have h1 := cutGo_each 32 t.data.toList [] v hv
    have h2 := size_txt t
    simp at h1
    omega)
  have HLN : Hid ((cut 32 t.data.toList).length ≤ 3000001) := Lib.hid (by
    have h1 := (cut_len 32 t.data.toList).2
    have h2 := size_txt t
    omega)
  clear hSS hwa ht
  go_enter Tryz.func9, Tryz.ntmps9
  go_upto_region 1 with fail
  try rw [HSS.out]
  rw [HWA.out]
  go_wp2_with fail
  refine HC0.out.mono ?_
  rintro e w1 ⟨g, cap, rfl, hg0, hg1, hgc, hb⟩
  have HW1 := Lib.hid (wds_of (cap := cap) (w := w) hg1 hgc)
  have HB1 := Lib.hid (HBa.out.trans (hb.mono HBa.out.size))
  have HZ1 := Lib.hid (HZa.out.below hb HZa.out.lt)
  clear hb hgc
  obtain ⟨ws, hws⟩ : ∃ ws, cut 32 t.data.toList = ws := ⟨_, rfl⟩
  have HWS := Lib.hid hws
  rw [hws] at HW1 HL HLN ⊢
  obtain ⟨N, hN⟩ : ∃ N, ws.length = N := ⟨_, rfl⟩
  have HNN := Lib.hid hN
  have hNb : N ≤ 3000001 := by rw [← hN]; exact HLN.out
  rw [hN]
  have HR := Lib.hid (spec_read (cap := cap) hN (by omega) HL.out (N + 1) 0 w1 (by omega) (by omega) HW1.out)
  clear hws hN
  go_wp2_with fail
  refine HR.out.mono ?_
  rintro e w2 ⟨K, ⟨a0, a1, a2, ⟨a3, a4, a5⟩, ⟨a6, a7, a8⟩⟩, x, rfl, hka, hb, hcm, hx⟩
  obtain ⟨D, hD⟩ : ∃ B, w2.heap.size = B := ⟨_, rfl⟩
  have HDD := Lib.hid hD
  obtain ⟨w3, hw3⟩ : ∃ z, w2.alloc (.cells #[.int .i64 a0, .int .i64 a1, .string a2, .slice a3 a4 a5, .slice a6 a7 a8] 27) = z := ⟨_, rfl⟩
  have HW3 := Lib.hid hw3
  have hb3 : Below w2.heap.size w2 w3 := by rw [← hw3]; exact below_new _ _
  have HX3 : Hid (Whole w3 D 27 #[.int .i64 a0, .int .i64 a1, .string a2, .slice a3 a4 a5, .slice a6 a7 a8]) := Lib.hid (by rw [← hw3, ← hD]; exact Whole.made w2 _ _)
  have HB3 := Lib.hid ((HB1.out.trans (hb.mono HB1.out.size)).trans (hb3.mono (HB1.out.trans (hb.mono HB1.out.size)).size))
  have HZ3 := Lib.hid ((HZ1.out.below hb HZ1.out.lt).below hb3 (HZ1.out.below hb HZ1.out.lt).lt)
  have HKA3 := Lib.hid ((hka.grown (gr_below hb3 none) (fun q e => by cases e)).widen (lo' := S0 + 1) (hi' := w3.heap.size) HZ1.out.lt hb3.size)
  have HCO : Hid (∀ K2, keyB K2 = true → fmtT K2 = t.data.toList → x = (N : Int) ∧ K = K2) := Lib.hid (fun K2 h1 h2 => by
    have h3 := cmp_whole (t := t) (e := x) (K := K) (by rw [HWS.out]; exact hcm) h1 h2
    rw [HWS.out, HNN.out] at h3
    exact h3)
  have HND : Hid (x = (N : Int) → nodesT K ≤ 4000000) := Lib.hid (fun e => by
    rcases hx with ⟨h1, h2⟩ | ⟨y, h1, h2, h3, h4⟩
    · omega
    · omega)
  clear hka hb hcm hx hD hw3 hb3
  go_upto_region 3 with fail
  rw [HDD.out, HW3.out]
  by_cases hxN : x = (N : Int)
  · have hne : (x != (N : Int)) = false := by rw [hxN]; simp
    obtain ⟨o, ho⟩ : ∃ o, keyB K = o := ⟨_, rfl⟩
    have HO := Lib.hid ho
    have HV := Lib.hid (spec_key HKA3.out.kv (HND.out hxN) ho)
    have HXN := Lib.hid hxN
    clear ho hxN
    have xc0 := HX3.out.cell 0
    have xc1 := HX3.out.cell 1
    have xc2 := HX3.out.cell 2
    have xc3 := HX3.out.cell 3
    have xc4 := HX3.out.cell 4
    simp only [List.getElem?_toArray, List.getElem?_cons_zero, List.getElem?_cons_succ] at xc0 xc1 xc2 xc3 xc4
    go_wp2_with fail
    refine HV.out.mono ?_
    rintro e w4 ⟨rfl, hb⟩
    have HB4 := Lib.hid (HB3.out.trans (hb.mono HB3.out.size))
    have HZ4 := Lib.hid (HZ3.out.below hb HZ3.out.lt)
    have HX4 := Lib.hid (HX3.out.below hb HX3.out.lt)
    have HKA4 := Lib.hid ((HKA3.out.grown (gr_below hb none) (fun q e => by cases e)).widen (Nat.le_refl _) hb.size)
    clear hb xc0 xc1 xc2 xc3 xc4
    cases o with
    | false =>
      have HNO : Hid (∀ K2, keyB K2 = true → fmtT K2 ≠ t.data.toList) := Lib.hid (fun K2 h1 h2 => by
        obtain ⟨_, rfl⟩ := HCO.out K2 h1 h2
        rw [HO.out] at h1
        cases h1)
      have zc0 := HZ4.out.cell 0
      have zc1 := HZ4.out.cell 1
      have zc2 := HZ4.out.cell 2
      have zc3 := HZ4.out.cell 3
      have zc4 := HZ4.out.cell 4
      have zf0 := HZ4.out.free 0
      have zf1 := HZ4.out.free 1
      have zf2 := HZ4.out.free 2
      have zf3 := HZ4.out.free 3
      have zf4 := HZ4.out.free 4
      simp only [List.getElem?_toArray, List.getElem?_cons_zero, List.getElem?_cons_succ] at zc0 zc1 zc2 zc3 zc4
      go_wp2
      refine bodyPost_ret (v := .tuple #[.agg #[.int .i64 0, .int .i64 0, .string ⟨#[]⟩, .slice none 0 0, .slice none 0 0], .bool false]) (by rw [results_cell_tmp Tryz.results9]; go_simp) rfl ?_
      exact pk_fail HSS.out HB4.out HNO.out _ _ _ _ _
    | true =>
      have HN9 : Hid (allT K = true ∧ nodesT K ≤ 9) := Lib.hid (by
        have h1 : keyB K = true := HO.out
        unfold keyB at h1
        rw [Bool.and_eq_true, decide_eq_true_eq] at h1
        exact h1)
      have HF := Lib.hid (spec_fmt 9 K _ w4 HN9.out.2 (by omega) HN9.out.1 HKA4.out.kv)
      have xc0 := HX4.out.cell 0
      have xc1 := HX4.out.cell 1
      have xc2 := HX4.out.cell 2
      have xc3 := HX4.out.cell 3
      have xc4 := HX4.out.cell 4
      simp only [List.getElem?_toArray, List.getElem?_cons_zero, List.getElem?_cons_succ] at xc0 xc1 xc2 xc3 xc4
      go_wp2_with fail
      refine HF.out.mono ?_
      rintro e w5 ⟨Y, hY, rfl, hb⟩
      have HY := Lib.hid hY
      have HB5 := Lib.hid (HB4.out.trans (hb.mono HB4.out.size))
      have HZ5 := Lib.hid (HZ4.out.below hb HZ4.out.lt)
      have HX5 := Lib.hid (HX4.out.below hb HX4.out.lt)
      have HKA5 := Lib.hid ((HKA4.out.grown (gr_below hb none) (fun q e => by cases e)).widen (Nat.le_refl _) hb.size)
      clear hb hY xc0 xc1 xc2 xc3 xc4
      by_cases he : Y = t
      · have heq : (Y.toList == t.toList) = true := by rw [he]; simp
        have hnq : (Y.toList != t.toList) = false := by rw [he]; simp
        have HFT : Hid (fmtT K = t.data.toList) := Lib.hid (by rw [← HY.out, he])
        clear he
        have zc0 := HZ5.out.cell 0
        have zc1 := HZ5.out.cell 1
        have zc2 := HZ5.out.cell 2
        have zc3 := HZ5.out.cell 3
        have zc4 := HZ5.out.cell 4
        have zf0 := HZ5.out.free 0
        have zf1 := HZ5.out.free 1
        have zf2 := HZ5.out.free 2
        have zf3 := HZ5.out.free 3
        have zf4 := HZ5.out.free 4
        simp only [List.getElem?_toArray, List.getElem?_cons_zero, List.getElem?_cons_succ] at zc0 zc1 zc2 zc3 zc4
        have xc0 := HX5.out.cell 0
        have xc1 := HX5.out.cell 1
        have xc2 := HX5.out.cell 2
        have xc3 := HX5.out.cell 3
        have xc4 := HX5.out.cell 4
        simp only [List.getElem?_toArray, List.getElem?_cons_zero, List.getElem?_cons_succ] at xc0 xc1 xc2 xc3 xc4
        go_wp2
        refine bodyPost_ret (v := .tuple #[.agg #[.int .i64 a0, .int .i64 a1, .string a2, .slice a3 a4 a5, .slice a6 a7 a8], .bool true]) (by rw [results_cell_tmp Tryz.results9]; go_simp) rfl ?_
        exact pk_end HSS.out HB5.out HKA5.out HO.out HFT.out (fun K2 h1 h2 => (HCO.out K2 h1 h2).2) _ _ _ _ _
      · have heq : (Y.toList == t.toList) = false := by
          rw [ByteArray.toList_eq, ByteArray.toList_eq]
          exact beq_eq_false_iff_ne.2 (fun h => he ((txt_is h).trans (txt_is rfl).symm))
        have hnq : (Y.toList != t.toList) = true := by unfold bne; rw [heq]; rfl
        have HNO : Hid (∀ K2, keyB K2 = true → fmtT K2 ≠ t.data.toList) := Lib.hid (fun K2 h1 h2 => by
          obtain ⟨_, rfl⟩ := HCO.out K2 h1 h2
          exact he ((txt_is (HY.out.trans h2)).trans (txt_is rfl).symm))
        clear he
        have zc0 := HZ5.out.cell 0
        have zc1 := HZ5.out.cell 1
        have zc2 := HZ5.out.cell 2
        have zc3 := HZ5.out.cell 3
        have zc4 := HZ5.out.cell 4
        have zf0 := HZ5.out.free 0
        have zf1 := HZ5.out.free 1
        have zf2 := HZ5.out.free 2
        have zf3 := HZ5.out.free 3
        have zf4 := HZ5.out.free 4
        simp only [List.getElem?_toArray, List.getElem?_cons_zero, List.getElem?_cons_succ] at zc0 zc1 zc2 zc3 zc4
        go_wp2
        refine bodyPost_ret (v := .tuple #[.agg #[.int .i64 0, .int .i64 0, .string ⟨#[]⟩, .slice none 0 0, .slice none 0 0], .bool false]) (by rw [results_cell_tmp Tryz.results9]; go_simp) rfl ?_
        exact pk_fail HSS.out HB5.out HNO.out _ _ _ _ _
  · have hne : (x != (N : Int)) = true := by unfold bne; rw [beq_eq_false_iff_ne.2 hxN]; rfl
    have HNO : Hid (∀ K2, keyB K2 = true → fmtT K2 ≠ t.data.toList) := Lib.hid (fun K2 h1 h2 => hxN (HCO.out K2 h1 h2).1)
    clear hxN
    have zc0 := HZ3.out.cell 0
    have zc1 := HZ3.out.cell 1
    have zc2 := HZ3.out.cell 2
    have zc3 := HZ3.out.cell 3
    have zc4 := HZ3.out.cell 4
    have zf0 := HZ3.out.free 0
    have zf1 := HZ3.out.free 1
    have zf2 := HZ3.out.free 2
    have zf3 := HZ3.out.free 3
    have zf4 := HZ3.out.free 4
    simp only [List.getElem?_toArray, List.getElem?_cons_zero, List.getElem?_cons_succ] at zc0 zc1 zc2 zc3 zc4
    go_wp2
    refine bodyPost_ret (v := .tuple #[.agg #[.int .i64 0, .int .i64 0, .string ⟨#[]⟩, .slice none 0 0, .slice none 0 0], .bool false]) (by rw [results_cell_tmp Tryz.results9]; go_simp) rfl ?_
    exact pk_fail HSS.out HB3.out HNO.out _ _ _ _ _
end Go.Proofs.YtnfigpknejmkmaaGreatDoor
namespace Go.Proofs.YtnfigpknejmkmaaGreatDoor
open Go.RowKit
set_option linter.unusedVariables false
set_option linter.unusedSimpArgs false

mutual
theorem cT_le : ∀ k : KT, allT k = true → cT k ≤ 15 * nodesT k
  | .mk kd f t S ks, h => by
    rw [allT, Bool.and_eq_true] at h
    have h1 := cL_le ks h.1
    have h2 : S.length ≤ 6 := by
      have h3 := h.2
      unfold nodeB at h3
      by_cases k0 : kd = 0
      · rw [if_pos k0] at h3; simp only [Bool.and_eq_true, beq_iff_eq] at h3; omega
      by_cases k1 : kd = 1
      · rw [if_neg k0, if_pos k1] at h3; simp only [Bool.and_eq_true, beq_iff_eq] at h3; omega
      by_cases k2 : kd = 2
      · rw [if_neg k0, if_neg k1, if_pos k2] at h3; simp only [Bool.and_eq_true, beq_iff_eq] at h3; omega
      by_cases k34 : kd = 3 ∨ kd = 4
      · rw [if_neg k0, if_neg k1, if_neg k2, if_pos k34] at h3
        simp only [Bool.and_eq_true] at h3
        exact (setB_iff.1 h3.1.2).2.2
      by_cases k5 : kd = 5
      · rw [if_neg k0, if_neg k1, if_neg k2, if_neg k34, if_pos k5] at h3; simp only [Bool.and_eq_true, beq_iff_eq] at h3; omega
      by_cases k67 : kd = 6 ∨ kd = 7
      · rw [if_neg k0, if_neg k1, if_neg k2, if_neg k34, if_neg k5, if_pos k67] at h3; simp only [Bool.and_eq_true, beq_iff_eq] at h3; omega
      · rw [if_neg k0, if_neg k1, if_neg k2, if_neg k34, if_neg k5, if_neg k67] at h3; cases h3
    rw [cT, nodesT]
    omega
theorem cL_le : ∀ ks : List KT, allL ks = true → cL ks ≤ 15 * nodesL ks
  | [], h => by rw [cL]; exact Nat.zero_le _
  | k :: r, h => by
    rw [allL, Bool.and_eq_true] at h
    have h1 := cT_le k h.1
    have h2 := cL_le r h.2
    rw [cL, nodesL]
    omega
end
theorem cY_le {k : KT} (h : keyB k = true) : cY k ≤ 1000 := by
  unfold keyB at h
  rw [Bool.and_eq_true, decide_eq_true_eq] at h
  have h1 := cT_le k h.1
  obtain ⟨kd, f, t, S, ks⟩ := k
  rw [cT] at h1
  rw [cY]
  omega
set_option maxRecDepth 20000 in
set_option maxHeartbeats 16000000 in
theorem law_FnExactKeyParse (t : ByteArray) (w : World) (hSh : Shp w) (hLs : Lst w) : Calls Tryz.prog 5 #[.string t] w (Holds1 w) := by
  have HSH := Lib.hid hSh
  have HLS := Lib.hid hLs
  clear hSh hLs
  by_cases hl : t.size ≤ 1048576
  · have hl' : ¬ (1048576 : Int) < (t.size : Int) := by omega
    have HP0 := Lib.hid (spec_keyparse (t := t) w (by omega))
    go_enter Tryz.func5, Tryz.ntmps5
    go_wp2_with fail
    refine HP0.out.mono ?_
    rintro e w1 ⟨K, ⟨a0, a1, a2, ⟨a3, a4, a5⟩, ⟨a6, a7, a8⟩⟩, o, rfl, hka, hb, hyes, hco, hno⟩
    have HB1 := Lib.hid hb
    have HYES := Lib.hid hyes
    have HCO := Lib.hid hco
    have HNO := Lib.hid hno
    have hKN : nodesT K ≤ 16 := by
      cases o with
      | true =>
        have h1 := (hyes rfl).1
        unfold keyB at h1
        rw [Bool.and_eq_true, decide_eq_true_eq] at h1
        omega
      | false => rw [hno rfl, nodesT, nodesL]; omega
    have hcY : cY K ≤ 1000 := by
      cases o with
      | true => exact cY_le (hyes rfl).1
      | false => rw [hno rfl, cY, cL]; exact Nat.zero_le _
    obtain ⟨m, hm⟩ : ∃ m, 1 + cY K = m := ⟨_, rfl⟩
    have HM : Hid (1 + cY K = m ∧ m ≤ 90000000) := Lib.hid ⟨hm, by omega⟩
    have m0 : ¬ (m : Int) < 0 := by omega
    have mm : ((m : Int) != (m : Int)) = false := by simp
    have hoo : (o != o) = false := by simp
    clear hcY hm
    obtain ⟨D1, hD1⟩ : ∃ D, w1.heap.size = D := ⟨_, rfl⟩
    have HD1 := Lib.hid hD1
    obtain ⟨w2, hw2⟩ : ∃ z, w1.alloc (.cells #[.int .i64 a0, .int .i64 a1, .string a2, .slice a3 a4 a5, .slice a6 a7 a8] 27) = z := ⟨_, rfl⟩
    have HW2 := Lib.hid hw2
    have hb2 : Below w1.heap.size w1 w2 := by rw [← hw2]; exact below_new _ _
    have HX2 : Hid (Whole w2 D1 27 #[.int .i64 a0, .int .i64 a1, .string a2, .slice a3 a4 a5, .slice a6 a7 a8]) := Lib.hid (by rw [← hw2, ← hD1]; exact Whole.made w1 _ _)
    have HB2 := Lib.hid (HB1.out.trans (hb2.mono HB1.out.size))
    have HKA2 := Lib.hid (hka.grown (gr_below hb2 none) (fun g e => by cases e))
    have HD1s : Hid (D1 < w2.heap.size ∧ w1.heap.size = D1) := Lib.hid ⟨HX2.out.lt, hD1⟩
    clear hka hb hyes hco hno hD1 hw2 hb2
    go_upto_region 4 with fail
    rw [HD1.out, HW2.out]
    have HQ := Lib.hid (own_keyparse (t := t) w2 (by omega) (HSH.out.below HB2.out (Nat.le_refl _)) (HLS.out.below HB2.out (Nat.le_refl _)))
    go_wp2_with fail
    refine HQ.out.mono ?_
    rintro e w3 ⟨xK, ⟨b0, b1, b2, ⟨b3, b4, b5⟩, ⟨b6, b7, b8⟩⟩, xo, rfl, hkw, hb, xyes, xco, xno⟩
    have HSAME : Hid (xo = o ∧ xK = K) := Lib.hid (by
      cases o with
      | true =>
        obtain ⟨h1, h2⟩ := HYES.out (by trivial)
        exact xco K h1 h2
      | false =>
        cases xo with
        | true =>
          obtain ⟨h1, h2⟩ := xyes (by trivial)
          have := (HCO.out xK h1 h2).1
          cases this
        | false => exact ⟨rfl, (xno (by trivial)).trans (HNO.out (by trivial)).symm⟩)
    obtain ⟨hs1, hs2⟩ := HSAME.out
    subst hs1
    subst hs2
    have HB3 := Lib.hid (HB2.out.trans (hb.mono HB2.out.size))
    have HX3 := Lib.hid (HX2.out.below hb HX2.out.lt)
    have HKA3 := Lib.hid (HKA2.out.grown (gr_below hb none) (fun g e => by cases e))
    obtain ⟨P, hP⟩ : ∃ P : Nat → Prop, (fun b => w2.heap.size ≤ b ∧ b < w3.heap.size) = P := ⟨_, rfl⟩
    have HP : Hid (∀ b, P b → w2.heap.size ≤ b ∧ b < w3.heap.size) := Lib.hid (fun b h => by rw [← hP] at h; exact h)
    have HKO3 : Hid (KO w3 P xK (kval (b0, b1, b2, (b3, b4, b5), (b6, b7, b8)))) := Lib.hid (by rw [← hP]; exact hkw)
    obtain ⟨D3, hD3⟩ : ∃ D, w3.heap.size = D := ⟨_, rfl⟩
    have HD3 := Lib.hid hD3
    obtain ⟨w4, hw4⟩ : ∃ z, w3.alloc (.cells #[.int .i64 b0, .int .i64 b1, .string b2, .slice b3 b4 b5, .slice b6 b7 b8] 27) = z := ⟨_, rfl⟩
    have HW4 := Lib.hid hw4
    have hb4 : Below w3.heap.size w3 w4 := by rw [← hw4]; exact below_new _ _
    have HY4 : Hid (Whole w4 D3 27 #[.int .i64 b0, .int .i64 b1, .string b2, .slice b3 b4 b5, .slice b6 b7 b8]) := Lib.hid (by rw [← hw4, ← hD3]; exact Whole.made w3 _ _)
    have HX4 := Lib.hid (HX3.out.below hb4 HX3.out.lt)
    have HB4 := Lib.hid (HB3.out.trans (hb4.mono HB3.out.size))
    have HKA4 := Lib.hid (HKA3.out.grown (gr_below hb4 none) (fun g e => by cases e))
    have HKO4 := Lib.hid (KO.writ (S := fun _ => False) (Writ.one (gr_below hb4 none) (fun _ e => by cases e)) _ _ P (fun _ _ h => h) HKO3.out)
    have HPD : Hid (∀ b, P b → b ≠ D3 ∧ b ≠ D1 ∧ w.heap.size ≤ b ∧ b < w4.heap.size ∧ (b < w.heap.size ∨ w1.heap.size ≤ b)) := Lib.hid (fun b h => by
      have h1 := HP.out b h
      have h2 := HD1s.out
      have h3 := HB1.out.size
      have h4 := hb4.size
      omega)
    clear hkw hb xyes xco xno hP hD3 hw4 hb4
    have hN16 : (16 : Nat) ≤ 33554432 := by omega
    have xc0 := HX4.out.cell 0
    have xc1 := HX4.out.cell 1
    have xc2 := HX4.out.cell 2
    have xc3 := HX4.out.cell 3
    have xc4 := HX4.out.cell 4
    simp only [List.getElem?_toArray, List.getElem?_cons_zero, List.getElem?_cons_succ] at xc0 xc1 xc2 xc3 xc4
    have yc0 := HY4.out.cell 0
    have yc1 := HY4.out.cell 1
    have yc2 := HY4.out.cell 2
    have yc3 := HY4.out.cell 3
    have yc4 := HY4.out.cell 4
    simp only [List.getElem?_toArray, List.getElem?_cons_zero, List.getElem?_cons_succ] at yc0 yc1 yc2 yc3 yc4
    go_upto_region 5 with fail
    rw [HD3.out, HW4.out]
    go_wp2_with fail
    refine (eq_key 16 xK _ _ w4 hKN hN16 (KO.kv _ _ _ HKO4.out) HKA4.out.kv).mono ?_
    rintro e w5 ⟨rfl, hb⟩
    have HB5 := Lib.hid (HB4.out.trans (hb.mono HB4.out.size))
    have HX5 := Lib.hid (HX4.out.below hb HX4.out.lt)
    have HY5 := Lib.hid (HY4.out.below hb HY4.out.lt)
    have HKA5 := Lib.hid (HKA4.out.grown (gr_below hb none) (fun g e => by cases e))
    have HKO5 := Lib.hid (KO.writ (S := fun _ => False) (Writ.one (gr_below hb none) (fun _ e => by cases e)) _ _ P (fun _ _ h => h) HKO4.out)
    have HP5 : Hid (∀ b, P b → b < w5.heap.size) := Lib.hid (fun b h => Nat.lt_of_lt_of_le (HPD.out b h).2.2.2.1 hb.size)
    clear hb
    clear xc0 xc1 xc2 xc3 xc4 yc0 yc1 yc2 yc3 yc4
    have xc0 := HX5.out.cell 0
    have xc1 := HX5.out.cell 1
    have xc2 := HX5.out.cell 2
    have xc3 := HX5.out.cell 3
    have xc4 := HX5.out.cell 4
    simp only [List.getElem?_toArray, List.getElem?_cons_zero, List.getElem?_cons_succ] at xc0 xc1 xc2 xc3 xc4
    have yc0 := HY5.out.cell 0
    have yc1 := HY5.out.cell 1
    have yc2 := HY5.out.cell 2
    have yc3 := HY5.out.cell 3
    have yc4 := HY5.out.cell 4
    simp only [List.getElem?_toArray, List.getElem?_cons_zero, List.getElem?_cons_succ] at yc0 yc1 yc2 yc3 yc4
    go_wp2_with fail
    refine (mark_key 1 m P xK _ w5 HKO5.out HP5.out (by omega) HM.out.1 HM.out.2).mono ?_
    rintro e w6 ⟨rfl, hko, hw⟩
    have HB6 := Lib.hid (hw.under HB5.out HB5.out.size (fun b h => (HPD.out b h).2.2.1))
    have HX6 := Lib.hid (HX5.out.writ hw (fun h => (HPD.out _ h).2.1 rfl))
    have HY6 := Lib.hid (HY5.out.writ hw (fun h => (HPD.out _ h).1 rfl))
    have HKA6 := Lib.hid (HKA5.out.writ hw (fun b h => (HPD.out b h).2.2.2.2))
    have HKV6 := Lib.hid (KO.kv _ _ _ hko)
    clear hko hw
    clear xc0 xc1 xc2 xc3 xc4 yc0 yc1 yc2 yc3 yc4
    have yc0 := HY6.out.cell 0
    have yc1 := HY6.out.cell 1
    have yc2 := HY6.out.cell 2
    have yc3 := HY6.out.cell 3
    have yc4 := HY6.out.cell 4
    simp only [List.getElem?_toArray, List.getElem?_cons_zero, List.getElem?_cons_succ] at yc0 yc1 yc2 yc3 yc4
    go_wp2_with fail
    refine (held_key 1 m xK _ w6 HKV6.out (by omega) HM.out.1 HM.out.2).mono ?_
    rintro e w7 ⟨rfl, hb⟩
    have HB7 := Lib.hid (HB6.out.trans (hb.mono HB6.out.size))
    have HX7 := Lib.hid (HX6.out.below hb HX6.out.lt)
    have HY7 := Lib.hid (HY6.out.below hb HY6.out.lt)
    have HKA7 := Lib.hid (HKA6.out.grown (gr_below hb none) (fun g e => by cases e))
    have HKV7 := Lib.hid (KV.below hb (Nat.le_refl _) _ _ HKV6.out)
    clear hb
    clear yc0 yc1 yc2 yc3 yc4
    have HQ2 := Lib.hid (impl_keyparse (t := t) w7 (by omega) (HSH.out.below HB7.out (Nat.le_refl _)) (HLS.out.below HB7.out (Nat.le_refl _)))
    go_wp2_with fail
    refine HQ2.out.mono ?_
    rintro e w8 ⟨yK, ⟨d0, d1, d2, ⟨d3, d4, d5⟩, ⟨d6, d7, d8⟩⟩, yo, rfl, hkd, hb, yyes, yco, yno⟩
    have HSAME : Hid (yo = xo ∧ yK = xK) := Lib.hid (by
      cases xo with
      | true =>
        obtain ⟨h1, h2⟩ := HYES.out (by trivial)
        exact yco xK h1 h2
      | false =>
        cases yo with
        | true =>
          obtain ⟨h1, h2⟩ := yyes (by trivial)
          have := (HCO.out yK h1 h2).1
          cases this
        | false => exact ⟨rfl, (yno (by trivial)).trans (HNO.out (by trivial)).symm⟩)
    obtain ⟨hs1, hs2⟩ := HSAME.out
    subst hs1
    subst hs2
    have HB8 := Lib.hid (HB7.out.trans (hb.mono HB7.out.size))
    have HX8 := Lib.hid (HX7.out.below hb HX7.out.lt)
    have HY8 := Lib.hid (HY7.out.below hb HY7.out.lt)
    have HKA8 := Lib.hid (HKA7.out.grown (gr_below hb none) (fun g e => by cases e))
    have HKV8 := Lib.hid (KV.below hb (Nat.le_refl _) _ _ HKV7.out)
    obtain ⟨D8, hD8⟩ : ∃ D, w8.heap.size = D := ⟨_, rfl⟩
    have HD8 := Lib.hid hD8
    obtain ⟨w9, hw9⟩ : ∃ z, w8.alloc (.cells #[.int .i64 d0, .int .i64 d1, .string d2, .slice d3 d4 d5, .slice d6 d7 d8] 27) = z := ⟨_, rfl⟩
    have HW9 := Lib.hid hw9
    have hb9 : Below w8.heap.size w8 w9 := by rw [← hw9]; exact below_new _ _
    have HZ9 : Hid (Whole w9 D8 27 #[.int .i64 d0, .int .i64 d1, .string d2, .slice d3 d4 d5, .slice d6 d7 d8]) := Lib.hid (by rw [← hw9, ← hD8]; exact Whole.made w8 _ _)
    have HB9 := Lib.hid (HB8.out.trans (hb9.mono HB8.out.size))
    have HX9 := Lib.hid (HX8.out.below hb9 HX8.out.lt)
    have HY9 := Lib.hid (HY8.out.below hb9 HY8.out.lt)
    have HKA9 := Lib.hid (HKA8.out.grown (gr_below hb9 none) (fun g e => by cases e))
    have HKV9 := Lib.hid (KV.below hb9 (Nat.le_refl _) _ _ HKV8.out)
    have HKD9 := Lib.hid (KV.below hb9 (Nat.le_refl _) _ _ hkd.kv)
    clear hkd hb yyes yco yno hD8 hw9 hb9
    have xc0 := HX9.out.cell 0
    have xc1 := HX9.out.cell 1
    have xc2 := HX9.out.cell 2
    have xc3 := HX9.out.cell 3
    have xc4 := HX9.out.cell 4
    simp only [List.getElem?_toArray, List.getElem?_cons_zero, List.getElem?_cons_succ] at xc0 xc1 xc2 xc3 xc4
    have zc0 := HZ9.out.cell 0
    have zc1 := HZ9.out.cell 1
    have zc2 := HZ9.out.cell 2
    have zc3 := HZ9.out.cell 3
    have zc4 := HZ9.out.cell 4
    simp only [List.getElem?_toArray, List.getElem?_cons_zero, List.getElem?_cons_succ] at zc0 zc1 zc2 zc3 zc4
    go_upto_region 16 with fail
    rw [HD8.out, HW9.out]
    go_wp2_with fail
    refine (eq_key 16 yK _ _ w9 hKN hN16 HKD9.out HKA9.out.kv).mono ?_
    rintro e w10 ⟨rfl, hb⟩
    have HB10 := Lib.hid (HB9.out.trans (hb.mono HB9.out.size))
    have HY10 := Lib.hid (HY9.out.below hb HY9.out.lt)
    have HKV10 := Lib.hid (KV.below hb (Nat.le_refl _) _ _ HKV9.out)
    clear hb
    clear xc0 xc1 xc2 xc3 xc4 zc0 zc1 zc2 zc3 zc4
    have yc0 := HY10.out.cell 0
    have yc1 := HY10.out.cell 1
    have yc2 := HY10.out.cell 2
    have yc3 := HY10.out.cell 3
    have yc4 := HY10.out.cell 4
    simp only [List.getElem?_toArray, List.getElem?_cons_zero, List.getElem?_cons_succ] at yc0 yc1 yc2 yc3 yc4
    go_wp2_with fail
    refine (held_key 1 m yK _ w10 HKV10.out (by omega) HM.out.1 HM.out.2).mono ?_
    rintro e w11 ⟨rfl, hb⟩
    have HB11 := Lib.hid (HB10.out.trans (hb.mono HB10.out.size))
    clear hb
    clear yc0 yc1 yc2 yc3 yc4
    go_wp2
    go_ret
    exact ⟨rfl, HB11.out⟩
  · have hl' : (1048576 : Int) < (t.size : Int) := by omega
    go_enter Tryz.func5, Tryz.ntmps5
    go_wp2
    go_ret
    exact ⟨rfl, Below.refl _ _⟩
end Go.Proofs.YtnfigpknejmkmaaGreatDoor
