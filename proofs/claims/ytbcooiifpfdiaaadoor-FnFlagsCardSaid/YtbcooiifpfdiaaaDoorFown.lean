/-
  A slice of texts of the call's own, what the table of the flags' names holds, and the contract of the code's FlagsText. Condition: the table holds the five names.
-/
import Derived.Test.YtbcooiifpfdiaaaDoorFtxt
import Derived.Test.YtbcooiifpfdiaaaDoorFshelf
import Derived.Test.YtbcooiifpfdiaaaDoorFl1
import Derived.Maps.AppendAt
import Derived.Deep.AppendLies
namespace Go.Proofs.YtbcooiifpfdiaaaDoor
open Go.RowKit
set_option linter.unusedVariables false

def fstrs (xs : List ByteArray) : List Value := xs.map .string
theorem fstrs_len (xs : List ByteArray) : (fstrs xs).length = xs.length := by unfold fstrs; rw [List.length_map]
theorem fone_str (x : ByteArray) : ∀ u ∈ [Value.string x], u.oneCell' = true := by
  intro u hu
  simp at hu
  subst hu
  rfl
theorem fone_new (w : World) (x : Value) (t : TypeId) (N : Nat) (hN : w.heap.size = N) : ∀ j u, [x][j]? = some u → (w.alloc (.cells #[x] t)).cell? ((⟨N, 0, none⟩ : Addr).add j) = some u := by
  subst hN
  intro j u hj
  match j, hj with
  | 0, hj => simp at hj; subst hj; simp [Addr.add]
def OwnF (w : World) (B : Nat) (v : Value) (xs : List ByteArray) : Prop := w.ownsRow B 9 1 v xs.length (fstrs xs)
theorem OwnF.push {w : World} {B : Nat} {v : Value} {xs : List ByteArray} {x : ByteArray} {n : Nat} (h : w.ownsRow B 9 1 v n (fstrs xs ++ [.string x])) (hn : n = xs.length + 1) : OwnF w B v (xs ++ [x]) := by
  unfold OwnF
  rw [List.length_append, List.length_singleton, ← hn, show fstrs (xs ++ [x]) = fstrs xs ++ [.string x] by unfold fstrs; rw [List.map_append]; rfl]
  exact h
theorem OwnF.form {w : World} {B : Nat} {v : Value} {xs : List ByteArray} (h : OwnF w B v xs) : ∃ A cap, v = .slice A xs.length cap ∧ xs.length ≤ cap ∧ cap ≤ maxLen ∧
    (xs ≠ [] → ∃ g, A = some ⟨g, 0, none⟩ ∧ g < w.heap.size ∧ ∀ (j : Nat) x, xs[j]? = some x → w.cell? ⟨g, 0 + j, none⟩ = some (.string x)) := by
  have hlt := World.ownsRow.lt h
  have hcell : ∀ g, v.ownBlock = some g → ∀ j u, (fstrs xs)[j]? = some u → w.cell? ((⟨g, 0, none⟩ : Addr).add j) = some u := fun g hg => World.ownsRow.cells h hg
  rcases h.2 with ⟨rfl, h0⟩ | ⟨g, cap, cur, rfl, hB, hg, hn, hm, hs, ht⟩
  · exact ⟨none, 0, by rw [h0], by omega, by unfold maxLen; omega, fun hne => absurd (List.eq_nil_of_length_eq_zero h0) hne⟩
  · refine ⟨_, cap, rfl, hn, hm, fun _ => ⟨g, rfl, (hlt g rfl).2, fun j x hx => ?_⟩⟩
    have := hcell g rfl j (.string x) (by unfold fstrs; rw [List.getElem?_map, hx]; rfl)
    have e : (⟨g, 0, none⟩ : Addr).add j = ⟨g, 0 + j, none⟩ := by unfold Addr.add; split <;> simp_all
    rw [e] at this
    exact this
/-- The table of the names holds the names. -/
def Lst (w : World) : Prop := 0 < w.heap.size ∧ ∀ k, k < 5 → w.cell? ⟨0, k, none⟩ = fnames[k]?
theorem Lst.below {w w' : World} {B : Nat} (h : Lst w) (hb : Below B w w') (hB : w.heap.size ≤ B) : Lst w' :=
  ⟨Nat.lt_of_lt_of_le h.1 hb.size, fun k hk => (hb.cell (p := ⟨0, k, none⟩) (by have := h.1; simp; omega)).trans (h.2 k hk)⟩
theorem Lst.drewN {w : World} (h : Lst w) (n : Nat) : Lst (w.drewN n) := h
/-- The names in the table, in the order. -/
theorem index_name0 : ∀ w : World, (Instr.index 41 (.agg #[.string ⟨#[83, 101, 101, 110]⟩, .string ⟨#[65, 110, 115, 119, 101, 114, 101, 100]⟩, .string ⟨#[70, 108, 97, 103, 103, 101, 100]⟩, .string ⟨#[68, 101, 108, 101, 116, 101, 100]⟩, .string ⟨#[68, 114, 97, 102, 116]⟩]) (.int .i64 0)).run Tryd.prog w = .ok (.string ⟨#[83, 101, 101, 110]⟩) w := fun _ => by kernel_rfl
theorem index_name1 : ∀ w : World, (Instr.index 41 (.agg #[.string ⟨#[83, 101, 101, 110]⟩, .string ⟨#[65, 110, 115, 119, 101, 114, 101, 100]⟩, .string ⟨#[70, 108, 97, 103, 103, 101, 100]⟩, .string ⟨#[68, 101, 108, 101, 116, 101, 100]⟩, .string ⟨#[68, 114, 97, 102, 116]⟩]) (.int .i64 1)).run Tryd.prog w = .ok (.string ⟨#[65, 110, 115, 119, 101, 114, 101, 100]⟩) w := fun _ => by kernel_rfl
theorem index_name2 : ∀ w : World, (Instr.index 41 (.agg #[.string ⟨#[83, 101, 101, 110]⟩, .string ⟨#[65, 110, 115, 119, 101, 114, 101, 100]⟩, .string ⟨#[70, 108, 97, 103, 103, 101, 100]⟩, .string ⟨#[68, 101, 108, 101, 116, 101, 100]⟩, .string ⟨#[68, 114, 97, 102, 116]⟩]) (.int .i64 2)).run Tryd.prog w = .ok (.string ⟨#[70, 108, 97, 103, 103, 101, 100]⟩) w := fun _ => by kernel_rfl
theorem index_name3 : ∀ w : World, (Instr.index 41 (.agg #[.string ⟨#[83, 101, 101, 110]⟩, .string ⟨#[65, 110, 115, 119, 101, 114, 101, 100]⟩, .string ⟨#[70, 108, 97, 103, 103, 101, 100]⟩, .string ⟨#[68, 101, 108, 101, 116, 101, 100]⟩, .string ⟨#[68, 114, 97, 102, 116]⟩]) (.int .i64 3)).run Tryd.prog w = .ok (.string ⟨#[68, 101, 108, 101, 116, 101, 100]⟩) w := fun _ => by kernel_rfl
theorem index_name4 : ∀ w : World, (Instr.index 41 (.agg #[.string ⟨#[83, 101, 101, 110]⟩, .string ⟨#[65, 110, 115, 119, 101, 114, 101, 100]⟩, .string ⟨#[70, 108, 97, 103, 103, 101, 100]⟩, .string ⟨#[68, 101, 108, 101, 116, 101, 100]⟩, .string ⟨#[68, 114, 97, 102, 116]⟩]) (.int .i64 4)).run Tryd.prog w = .ok (.string ⟨#[68, 114, 97, 102, 116]⟩) w := fun _ => by kernel_rfl
theorem index_name {k : Nat} (hk : k < 5) : ∀ w : World, (Instr.index 41 (.agg #[.string ⟨#[83, 101, 101, 110]⟩, .string ⟨#[65, 110, 115, 119, 101, 114, 101, 100]⟩, .string ⟨#[70, 108, 97, 103, 103, 101, 100]⟩, .string ⟨#[68, 101, 108, 101, 116, 101, 100]⟩, .string ⟨#[68, 114, 97, 102, 116]⟩]) (.int .i64 (k : Int))).run Tryd.prog w = .ok (.string (sB (fnm k))) w := by
  intro w
  match k, hk with
  | 0, _ => exact index_name0 w
  | 1, _ => exact index_name1 w
  | 2, _ => exact index_name2 w
  | 3, _ => exact index_name3 w
  | 4, _ => exact index_name4 w
def fidx (f k : Nat) : List ByteArray := (idxF f k).map sB
theorem fidx_yes {f k : Nat} (h : tb f k = true) : fidx f k ++ [sB (fnm k)] = fidx f (k + 1) := by unfold fidx; rw [idxF, if_pos h, List.map_append]; rfl
theorem fidx_no {f k : Nat} (h : tb f k = false) : fidx f k = fidx f (k + 1) := by unfold fidx; rw [idxF, if_neg (by rw [h]; simp)]
theorem fidx_len (f k : Nat) : (fidx f k).length ≤ k := by
  induction k with
  | zero => exact Nat.zero_le _
  | succ k ih =>
    cases h : tb f k
    · rw [← fidx_no h]; omega
    · rw [← fidx_yes h, List.length_append, List.length_singleton]; omega
theorem fidx_join (f k : Nat) : Lib.join ((fidx f k).map (·.data.toList)) [32] = Lib.join (idxF f k) [32] := by
  unfold fidx
  rw [List.map_map]
  congr 1
  conv => rhs; rw [← List.map_id (idxF f k)]
  exact List.map_congr_left fun x _ => sB_list x
theorem shl_flag {k q : Nat} (hk : k < 5) (hq : 2 ^ k = q) : wrap64 ((2 : Int) ^ k) = (q : Int) := by
  subst hq
  match k, hk with
  | 0, _ => unfold wrap64; decide
  | 1, _ => unfold wrap64; decide
  | 2, _ => unfold wrap64; decide
  | 3, _ => unfold wrap64; decide
  | 4, _ => unfold wrap64; decide
theorem have_flag {f k q : Nat} (hf : f < 32) (hk : k < 5) (hq : 2 ^ k = q) : hvI (f : Int) (q : Int) = tb f k := by
  have := (pow_five hk hq).2
  rw [hvI_yes hf (by omega), ← hq, have_bit hf hk]
set_option maxRecDepth 20000 in
set_option maxHeartbeats 4000000 in
theorem impl_ftext_yes (f : Nat) (w : World) (hf : f < 32) (hL : Lst w) : Calls Tryd.prog 13 #[.int .i64 (f : Int)] w (SaysT w (textF f)) := by
  have HF := Lib.hid (isF_of hf)
  obtain ⟨i0, hi, hq0, hq1, hq2⟩ := info_parts Tryd.infoString
  have c0 := hL.2 0 (by omega)
  have c1 := hL.2 1 (by omega)
  have c2 := hL.2 2 (by omega)
  have c3 := hL.2 3 (by omega)
  have c4 := hL.2 4 (by omega)
  simp [fnames] at c0 c1 c2 c3 c4
  go_enter Tryd.func13, Tryd.ntmps13
  go_wp2_with fail
  refine (impl_isflags (f : Int) _).mono ?_
  rintro e w0 ⟨rfl, hw0⟩
  subst w0
  rw [HF.out]
  go_wp2_with fail
  clear c0 c1 c2 c3 c4
  go_loopw [3, 10] (fun v i wr => ∃ k : Nat, k ≤ 5 ∧ i = .int .i64 (k : Int) ∧ w.heap.size ≤ wr.heap.size ∧ Hid (OwnF wr w.heap.size v (fidx f k)) ∧ Hid (Below w.heap.size w wr)) (fun _ i _ => 5 - (intOf i).toNat)
  case atStart => exact ⟨0, Nat.zero_le _, by go_num, Nat.le_refl _, World.ownsRow_nil w w.heap.size _ 1, Below.refl _ _⟩
  case round =>
    obtain ⟨k, hk, rfl, hwr, HO, HB⟩ := hrel
    obtain ⟨C, hC⟩ : ∃ C, fidx f k = C := ⟨_, rfl⟩
    have hcl : C.length ≤ 5 := by have := fidx_len f k; rw [hC] at this; omega
    have HC := Lib.hid hC
    rw [hC] at HO
    clear hC
    obtain ⟨A2, cap2, rfl, hcc1, hcc2, hcs⟩ := HO.out.form
    have HCS := Lib.hid hcs
    clear hcs
    by_cases hlt : k < 5
    · have h5 : (k : Int) < 5 := by omega
      have h0 : (0 : Int) ≤ (k : Int) := by omega
      obtain ⟨q, hq⟩ : ∃ q, 2 ^ k = q := ⟨_, rfl⟩
      have ik := index_name hlt
      have HW := Lib.hid (shl_flag hlt hq)
      have HV := Lib.hid (have_flag hf hlt hq)
      obtain ⟨nm, hnm⟩ : ∃ nm, sB (fnm k) = nm := ⟨_, rfl⟩
      rw [hnm] at ik
      have HN := Lib.hid hnm
      have HQ := Lib.hid hq
      clear hnm hq
      go_wp2_with fail
      rw [HW.out]
      refine (impl_have (f : Int) (q : Int) _).mono ?_
      rintro e w2 ⟨rfl, n2, hw2⟩
      subst w2
      rw [HV.out]
      cases ht : tb f k with
      | false =>
        have HT := Lib.hid ht
        clear ht
        go_wp2
        go_roundw
        case rel => exact ⟨k + 1, by omega, by go_num, hwr, by rw [← fidx_no HT.out, HC.out]; exact HO, below_drewN' HB.out _⟩
        case measure => simp [intOf]; omega
      | true =>
        have HT := Lib.hid ht
        clear ht
        have hown := World.ownsRow.alloc (show OwnF (wr.drewN n2) w.heap.size (.slice A2 C.length cap2) C from HO.out) (.cells #[.string nm] 9)
        have hnews := fone_new (wr.drewN n2) (.string nm) 9 wr.heap.size rfl
        have hml : C.length + 1 ≤ maxLen := by unfold maxLen; omega
        have hby : (C.length + 1) * 16 ≤ 140737488355328 := by omega
        have hba : w.heap.size ≤ ((wr.drewN n2).alloc (.cells #[.string nm] 9)).heap.size := by simp; exact Nat.le_succ_of_le hwr
        go_wp2_with (at_builtin; refine wpList_append_own _ rfl _ _ 40 rfl w.heap.size 9 i0 (.string ⟨#[]⟩) 1 16 Tryd.underlying40 hi hq0 hq1 hq2 rfl (by decide) _ _ _ rfl hown ⟨wr.heap.size, 0, none⟩ 1 1 [.string nm] rfl rfl hnews (fone_str _) hml hby hba ?_)
        intro v' w3 hown1 hgrow hcp
        have HO3 := Lib.hid (OwnF.push hown1 rfl)
        have HB3 := Lib.hid (((below_drewN' HB.out n2).alloc hwr (.cells #[.string nm] 9)).grown hgrow hba (fun z hz => (World.ownsRow.lt hown z hz).1))
        have hw3 : w.heap.size ≤ w3.heap.size := HB3.out.size
        clear hown hown1 hgrow hnews hml hby hba hcp
        go_wp2
        go_roundw
        case rel => exact ⟨k + 1, by omega, by go_num, hw3, by rw [← fidx_yes HT.out, HC.out, HN.out]; exact HO3, HB3.out⟩
        case measure => simp [intOf]; omega
    · have h5 : ¬ (k : Int) < 5 := by omega
      have hk5 : k = 5 := by omega
      subst hk5
      have hj : Lib.join (C.map (·.data.toList)) [32] = Lib.join (idxF f 5) [32] := by rw [← HC.out, fidx_join]
      have hlen : (textF f).length ≤ 40 := (textF_shape hf).2.1
      have htj := text_join f hf
      obtain ⟨J, hJ⟩ : ∃ J, Lib.join (idxF f 5) [32] = J := ⟨_, rfl⟩
      rw [hJ] at hj htj
      have hJl : J.length ≤ 40 := by
        have := congrArg List.length htj
        simp at this
        omega
      have hJs : (sB J).size ≤ 40 := by rw [sB_size]; exact hJl
      have HJ := Lib.hid hj
      have HTJ := Lib.hid htj
      have HJL : Hid ((Lib.join (C.map (·.data.toList)) [32]).length ≤ 140737488355328) := by show _ ≤ _; rw [hj]; omega
      clear hj htj hJ hJl hlen
      by_cases hce : C = []
      · subst hce
        have hJ0 : J = [] := HJ.out.symm.trans rfl
        subst hJ0
        go_wp2_with fail
        refine (join_none A2 cap2 ⟨#[32]⟩ _).mono ?_
        rintro e w4 ⟨rfl, hw4⟩
        subst w4
        go_wp2
        go_ret
        exact ⟨ret_str (by rw [← HTJ.out]; rfl), HB.out⟩
      · obtain ⟨g, rfl, hg, hcells⟩ := HCS.out hce
        have HCE := Lib.hid hcells
        clear hcells hce
        go_wp2_with fail
        refine (join_any g 0 cap2 C ⟨#[32]⟩ _ HCE.out hg (by omega) hcc1 HJL.out).mono ?_
        rintro e w4 ⟨rfl, hb⟩
        have HB4 := Lib.hid (HB.out.trans (hb.mono hwr))
        clear hb
        have HV : Hid ((⟨(Lib.join (C.map (·.data.toList)) (⟨#[32]⟩ : ByteArray).data.toList).toArray⟩ : ByteArray) = sB J) := by show _ = sB J; rw [← HJ.out]; rfl
        rw [HV.out]
        go_wp2
        go_ret
        exact ⟨ret_str (by rw [← HTJ.out, ← sB_cat, ← sB_cat]; rfl), HB4.out⟩
theorem impl_ftext_no (f : Int) (w : World) (hf : isF f = false) : Calls Tryd.prog 13 #[.int .i64 f] w (SaysT w []) := by
  have HF := Lib.hid hf
  clear hf
  go_enter Tryd.func13, Tryd.ntmps13
  go_wp2_with fail
  refine (impl_isflags f _).mono ?_
  rintro e w1 ⟨rfl, rfl⟩
  rw [HF.out]
  go_wp2
  go_ret
  exact ⟨rfl, Below.refl _ _⟩
theorem impl_ftext (f : Int) (w : World) (hL : Lst w) : Calls Tryd.prog 13 #[.int .i64 f] w (SaysT w (ftI f)) := by
  cases hf : isF f with
  | false =>
    rw [ftI_no hf]
    exact impl_ftext_no f w hf
  | true =>
    obtain ⟨a, ha, rfl⟩ := isF_nat hf
    rw [ftI_yes ha]
    exact impl_ftext_yes a w ha hL
end Go.Proofs.YtbcooiifpfdiaaaDoor
