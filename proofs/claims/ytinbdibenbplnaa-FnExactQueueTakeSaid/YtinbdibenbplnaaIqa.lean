/-
  The exact laws' own texts of marks, on items and queues; copies of queues whose items share no memory. Condition: the list is the call's own.
-/
import Derived.Test.YtinbdibenbplnaaQf
import Derived.Test.YtinbdibenbplnaaYd
namespace Go.Proofs.Ytinbdibenbplnaa
open Go.RowKit
set_option linter.unusedVariables false

/-- What is written lies in some blocks alone: step by step. -/
inductive Writ (S : Nat → Prop) : World → World → Prop
  | refl (w : World) : Writ S w w
  | step {w w1 w2 : World} {row : Option Nat} (h : w.grownBy w1 row) (hr : ∀ g, row = some g → S g) (h2 : Writ S w1 w2) : Writ S w w2
section
variable {S S' : Nat → Prop} {w w' w2 : World} {B N cap : Nat} {A : Option Addr} {L : List QI}
theorem Writ.trans (h : Writ S w w') (h2 : Writ S w' w2) : Writ S w w2 := by
  induction h with
  | refl _ => exact h2
  | step hg hr _ ih => exact .step hg hr (ih h2)
theorem Writ.one {row : Option Nat} (h : w.grownBy w' row) (hr : ∀ g, row = some g → S g) : Writ S w w' := .step h hr (.refl _)
theorem Writ.mono (h : Writ S w w') (hs : ∀ g, S g → S' g) : Writ S' w w' := by
  induction h with
  | refl _ => exact .refl _
  | step hg hr _ ih => exact .step hg (fun g e => hs g (hr g e)) ih
theorem Writ.under {w0 : World} (h : Writ S w w') (hb : Below B w0 w) (hB : B ≤ w.heap.size) (hs : ∀ g, S g → B ≤ g) : Below B w0 w' := by
  induction h with
  | refl _ => exact hb
  | step hg hr _ ih => exact ih (hb.grown hg hB (fun k e => hs k (hr k e))) (Nat.le_trans hB hg.size)
theorem Writ.size (h : Writ S w w') : w.heap.size ≤ w'.heap.size := by
  induction h with
  | refl _ => exact Nat.le_refl _
  | step hg _ _ ih => exact Nat.le_trans hg.size ih
theorem Whole.writ {b : Nat} {t : TypeId} {cs : Array Value} (h : Whole w b t cs) (hc : Writ S w w') (hs : ¬ S b) : Whole w' b t cs := by
  induction hc with
  | refl _ => exact h
  | step hg hr _ ih => exact ih (h.grown hg (fun e => hs (hr b e.symm)))
theorem ROwn.writ {α : Type} {R : RowT α} {v : Value} {K : List α} (h : ROwn R w B v K) (hc : Writ S w w') (hs : ∀ g, v.ownBlock = some g → ¬ S g) : ROwn R w' B v K := by
  induction hc with
  | refl _ => exact h
  | step hg hr _ ih =>
    refine ih (h.apart hg ?_)
    cases hv : v.ownBlock with
    | none => exact .inl rfl
    | some g => exact .inr (fun e => hs g hv (hr g e.symm))
/-- All of a queue's rows lie in these blocks. -/
def InB (S : Nat → Prop) (A : Option Addr) (N cap : Nat) (L : List QI) : Prop := (∀ g, (Value.slice A N cap).ownBlock = some g → S g) ∧ ∀ x ∈ L, ∀ g, (lfV x).ownBlock = some g → S g
theorem OwnQ.writ (h : OwnQ w B A N cap L) (hc : Writ S w w') (hs : InB (fun g => ¬ S g) A N cap L) : OwnQ w' B A N cap L := ⟨h.1.writ hc hs.1, fun x hx => (h.2.1 x hx).writ hc (hs.2 x hx), h.2.2⟩
theorem OwnQ.inB (h : OwnQ w B A N cap L) : InB (fun g => B ≤ g ∧ g < w.heap.size) A N cap L := ⟨fun g e => World.ownsRow.lt h.1 g e, fun x hx g e => World.ownsRow.lt (h.2.1 x hx) g e⟩
theorem InB.mono (h : InB S A N cap L) (hs : ∀ g, S g → S' g) : InB S' A N cap L := ⟨fun g e => hs g (h.1 g e), fun x hx g e => hs g (h.2 x hx g e)⟩
end
/-- An item that is marked. -/
def mkI (s : Nat) (g : QI) : QI := ⟨(s : Int), rB (mt (s + 1)), rB (mt (s + 2)), g.A, g.N, g.cap, mks (s + 3) g.N⟩
def mkQ : Nat → List QI → List QI
  | _, [] => []
  | s, g :: L => mkI s g :: mkQ (s + 3 + g.N) L
def endQ : Nat → List QI → Nat
  | s, [] => s
  | s, g :: L => endQ (s + 3 + g.N) L
def totK (K : List QK) : Nat := (K.map fun k => 3 + k.2.2.2.length).sum
theorem mkQ_len : ∀ (s : Nat) (L : List QI), (mkQ s L).length = L.length
  | _, [] => rfl
  | s, g :: L => by show (mkQ _ L).length + 1 = _; rw [mkQ_len]; rfl
theorem mkQ_app : ∀ (s : Nat) (L M : List QI), mkQ s (L ++ M) = mkQ s L ++ mkQ (endQ s L) M
  | _, [], _ => rfl
  | s, g :: L, M => by show mkI s g :: mkQ _ (L ++ M) = _; rw [mkQ_app]; rfl
theorem endQ_app : ∀ (s : Nat) (L M : List QI), endQ s (L ++ M) = endQ (endQ s L) M
  | _, [], _ => rfl
  | s, g :: L, M => by show endQ _ (L ++ M) = _; rw [endQ_app]; rfl
theorem endQ_le : ∀ (s : Nat) (L : List QI), s ≤ endQ s L
  | _, [] => Nat.le_refl _
  | s, g :: L => by have := endQ_le (s + 3 + g.N) L; show s ≤ endQ (s + 3 + g.N) L; omega
theorem endQ_tot : ∀ (s : Nat) (L : List QI), (∀ g ∈ L, g.T.length = g.N) → endQ s L = s + totK (L.map keyI)
  | _, [], _ => rfl
  | s, g :: L, h => by
    have h1 := h g List.mem_cons_self
    show endQ (s + 3 + g.N) L = s + ((3 + g.T.length) + totK (L.map keyI))
    rw [endQ_tot _ L (fun x hx => h x (List.mem_cons_of_mem _ hx)), h1]
    omega
theorem mkQ_lf : ∀ (s : Nat) (L : List QI), (mkQ s L).map lfV = L.map lfV
  | _, [] => rfl
  | s, g :: L => by show lfV g :: (mkQ _ L).map lfV = _; rw [mkQ_lf]; rfl
theorem take_one {L : List QI} {k : Nat} {g : QI} (hx : L[k]? = some g) (s : Nat) : mkQ s (L.take (k + 1)) = mkQ s (L.take k) ++ [mkI (endQ s (L.take k)) g] ∧ endQ s (L.take (k + 1)) = endQ s (L.take k) + 3 + g.N := by
  rw [List.take_add_one, hx]
  show mkQ s (L.take k ++ [g]) = _ ∧ endQ s (L.take k ++ [g]) = _
  rw [mkQ_app, endQ_app]
  exact ⟨rfl, rfl⟩
theorem end_take {L : List QI} {k s : Nat} {g : QI} (hx : L[k]? = some g) : endQ s (L.take k) + 3 + g.N ≤ endQ s L := by
  rw [← (take_one hx s).2]
  have h := endQ_app s (L.take (k + 1)) (L.drop (k + 1))
  rw [List.take_append_drop] at h
  rw [h]
  exact endQ_le _ _
theorem apt_lf {L M : List QI} (h : M.map lfV = L.map lfV) (ha : L.Pairwise Apt) : M.Pairwise Apt := by
  have key : ∀ K : List QI, K.Pairwise Apt ↔ (K.map lfV).Pairwise (fun a b => ∀ g, a.ownBlock = some g → b.ownBlock ≠ some g) := fun K => by rw [List.pairwise_map]; exact Iff.rfl
  rw [key, h, ← key]
  exact ha
theorem set_lf {C : List QI} {k : Nat} {y y' : QI} (hx : C[k]? = some y) (hl : lfV y' = lfV y) : (C.set k y').map lfV = C.map lfV := by
  rw [List.map_set, hl]
  refine List.ext_getElem? fun i => ?_
  rw [List.getElem?_set]
  split
  · rename_i e
    subst e
    obtain ⟨hk, he⟩ := List.getElem?_eq_some_iff.1 hx
    rw [List.getElem?_map, hx]
    simp [hk]
  · rfl
theorem mem_setI {C : List QI} {k : Nat} {x y' : QI} (h : x ∈ C.set k y') : x = y' ∨ ∃ i, i ≠ k ∧ C[i]? = some x := by
  obtain ⟨i, hi⟩ := List.mem_iff_getElem?.1 h
  rw [List.getElem?_set] at hi
  split at hi
  · split at hi
    · exact .inl (Option.some.inj hi).symm
    · cases hi
  · rename_i e
    exact .inr ⟨i, fun e' => e e'.symm, hi⟩
theorem apt_at {C : List QI} (ha : C.Pairwise Apt) {i k : Nat} {x y : QI} (hi : C[i]? = some x) (hk : C[k]? = some y) (hne : i ≠ k) : Apt x y := by
  obtain ⟨h1, rfl⟩ := List.getElem?_eq_some_iff.1 hi
  obtain ⟨h2, rfl⟩ := List.getElem?_eq_some_iff.1 hk
  rcases Nat.lt_or_gt_of_ne hne with h | h
  · exact List.pairwise_iff_getElem.1 ha i k h1 h2 h
  · exact (List.pairwise_iff_getElem.1 ha k i h2 h1 h).symm
/-- One cell of an item is written. -/
theorem OwnQ.setI {w : World} {B g n cap k : Nat} {C : List QI} {y : QI} (h : OwnQ w B (some ⟨g, 0, none⟩) n cap C) (hx : C[k]? = some y) (y' : QI) (hl : lfV y' = lfV y) (hT : y'.T = y.T) (j : Nat) (u : Value) (hj : j < 4) (he : qiR.enc y' = (qiR.enc y).set j u) :
    OwnQ (w.setCell ⟨g, k * 4 + j, none⟩ u) B (some ⟨g, 0, none⟩) n cap (C.set k y') ∧ w.grownBy (w.setCell ⟨g, k * 4 + j, none⟩ u) (some g) := by
  obtain ⟨h1, h2⟩ := h.1.stored (y := y') (j := j) (u := u) hx hj he
  have h3 : ∀ x ∈ C, ROwn stR (w.setCell ⟨g, k * 4 + j, none⟩ u) B (.slice x.A x.N x.cap) x.T := fun x hm => (h.2.1 x hm).apart h2 (own_apart (h.2.1 x hm) h.1 (by decide))
  refine ⟨⟨h1, fun x hm => ?_, apt_lf (set_lf hx hl) h.2.2⟩, h2⟩
  rcases mem_setI hm with rfl | ⟨i, _, hi⟩
  · have h4 := h3 y (List.mem_of_getElem? hx)
    rw [hT]
    show ROwn stR _ B (lfV x) _
    rw [hl]
    exact h4
  · exact h3 x (List.mem_of_getElem? hi)
/-- An item's names are written. -/
theorem OwnQ.setT {w w' : World} {B n cap k : Nat} {A : Option Addr} {C : List QI} {y : QI} (h : OwnQ w B A n cap C) (hx : C[k]? = some y) (T' : List ByteArray) (ho : ROwn stR w' B (.slice y.A y.N y.cap) T') (hg : w.grownBy w' (lfV y).ownBlock) :
    OwnQ w' B A n cap (C.set k { y with T := T' }) := by
  have hy := h.2.1 y (List.mem_of_getElem? hx)
  have e : rcells qiR (C.set k { y with T := T' }) = rcells qiR C := by
    obtain ⟨hk, hq⟩ := List.getElem?_eq_some_iff.1 hx
    have : (C.set k { y with T := T' }).map qiR.enc = C.map qiR.enc := by
      rw [List.map_set]
      refine List.ext_getElem? fun i => ?_
      rw [List.getElem?_set]
      split
      · rename_i e
        subst e
        rw [List.getElem?_map, hx]
        simp [hk]
        rfl
      · rfl
    unfold rcells
    rw [List.flatMap_def, List.flatMap_def, this]
  have hm : ROwn qiR w' B (.slice A n cap) C := h.1.apart hg (own_apart h.1 hy (by decide))
  refine ⟨?_, fun x hxm => ?_, apt_lf (set_lf hx rfl) h.2.2⟩
  · unfold ROwn at hm ⊢
    rw [e, List.length_set]
    exact hm
  · rcases mem_setI hxm with rfl | ⟨i, hi, hi2⟩
    · exact ho
    · refine (h.2.1 x (List.mem_of_getElem? hi2)).apart hg ?_
      have ha := apt_at h.2.2 hi2 hx hi
      cases hb : (lfV x).ownBlock with
      | none => exact .inl hb
      | some b => exact .inr (fun e => ha b hb (by rw [← e]; exact hb))
theorem tot_len : ∀ L : List QI, L.length ≤ totK (L.map keyI)
  | [] => Nat.le_refl _
  | g :: L => by
    have := tot_len L
    show L.length + 1 ≤ (3 + g.T.length) + totK (L.map keyI)
    omega
set_option maxRecDepth 20000 in
set_option maxHeartbeats 8000000 in
theorem to_itemsA (A : Option Addr) (n cap : Nat) (L : List QI) (w : World) (h : QArg w A n cap L) (hl : n ≤ 1048576) (hT : ∀ g ∈ L, g.T.length ≤ 1048576) :
    Calls Try.prog 66 #[.slice A n cap] w fun e w' => ∃ g M, e = .returned (.slice (some ⟨g, 0, none⟩) n n) ∧ M.map keyI = L.map keyI ∧ OwnS w' w.heap.size M ∧ ROwn qiR w' w.heap.size (.slice (some ⟨g, 0, none⟩) n n) M ∧ Below w.heap.size w w' ∧ M.Pairwise Apt := by
  obtain ⟨i0, hi, hq0, hq1, hq2⟩ := info_parts Try.infoItem
  have H := Lib.hid h
  have HN := Lib.hid h.1
  have HT := Lib.hid hT
  clear h hT
  have hb2 : i0.bytes * n ≤ 281474976710656 := by rw [hq2]; omega
  have hb3 : n ≤ maxLen := by unfold maxLen; omega
  go_enter Try.func66, Try.ntmps66
  go_wp2_with (at_make; refine wpList_make_full _ rfl _ _ 29 rfl w.heap.size 38 i0 (.agg #[.int .i64 0, .string ⟨#[]⟩, .string ⟨#[]⟩, .slice none 0 0]) 4 Try.underlying29 hi hq0 hq1 .i64 .i64 (n : Int) (n : Int) n rfl rfl rfl rfl hb2 hb3 (Nat.le_refl _) ?_)
  intro w1 hown hgrow
  obtain ⟨N, hN⟩ : ∃ N, w.heap.size = N := ⟨_, rfl⟩
  have HNN := Lib.hid hN
  have HB1 : Hid (Below N w w1) := hN ▸ (Below.refl _ _).grown hgrow (Nat.le_refl _) (fun z hz => by cases hz)
  have ho1 : ROwn qiR w1 N (.slice (some ⟨N, 0, none⟩) n n) (List.replicate n noI) := by
    unfold ROwn
    rw [List.length_replicate, ← made_rows qiR (.agg #[.int .i64 0, .string ⟨#[]⟩, .string ⟨#[]⟩, .slice none 0 0]) noI rfl (by decide), ← hN]
    exact hown
  have HO1 := Lib.hid ho1
  have hN1 : N + 1 ≤ w1.heap.size := by
    have := (World.ownsRow.lt ho1 N rfl).2
    omega
  rw [hN]
  clear hown hgrow ho1 hN
  go_wp2
  go_loopw [4] (fun i wr => ∃ (k : Nat) (M : List QI), k ≤ n ∧ i = .int .i64 (k : Int) ∧ N + 1 ≤ wr.heap.size ∧ Hid (Below N w wr) ∧ Hid (M.map keyI = (L.take k).map keyI) ∧ Hid (OwnS wr (N + 1) M) ∧ Hid (ROwn qiR wr N (.slice (some ⟨N, 0, none⟩) n n) (M ++ List.replicate (n - k) noI)) ∧ Hid (M.Pairwise Apt)) (fun i _ => n - (intOf i).toNat)
  case atStart => exact ⟨0, [], Nat.zero_le _, by go_num, hN1, HB1, rfl, (fun g hg => by cases hg), by rw [List.nil_append, Nat.sub_zero]; exact HO1, Lib.hid List.Pairwise.nil⟩
  case round =>
    obtain ⟨k, M, hk, rfl, hNr, HB, HK, HS, HO, HPA⟩ := hrel
    by_cases hlt : k < n
    · have h0 : (0 : Int) ≤ (k : Int) := by omega
      have h5 : (k : Int) < (n : Int) := by omega
      obtain ⟨g, hx⟩ : ∃ x, L[k]? = some x := ⟨_, List.getElem?_eq_getElem (by rw [HN.out]; omega)⟩
      have HM := Lib.hid (List.mem_of_getElem? hx)
      have hkl : k < L.length := (List.getElem?_eq_some_iff.1 hx).1
      have HML : Hid (M.length = k) := Lib.hid (by have := key_len HK.out; rw [List.length_take] at this; omega)
      have HTK : Hid (L.take (k + 1) = L.take k ++ [g]) := Lib.hid (by rw [List.take_succ_eq_append_getElem hkl, (List.getElem?_eq_some_iff.1 hx).2])
      have HHr := Lib.hid (H.out.below HB.out (Nat.le_of_eq HNN.out))
      obtain ⟨id, us, tx, A2, N2, cap2, T2⟩ := g
      obtain ⟨b, o, rfl, hbz, c0, c1, c2, c3⟩ := ql_at HHr.out.2.2.2.1 hx
      simp only at c0 c1 c2 c3
      have hN2 : N2 ≤ 1048576 := by
        have h1 := HT.out _ HM.out
        have h2 := (HHr.out.2.2.2.2 _ HM.out).2.2.1
        simp only at h1 h2
        omega
      clear hx hkl
      go_wp2_with fail
      refine (to_item id us tx T2 A2 N2 cap2 wr (HHr.out.2.2.2.2 _ HM.out).2.2 hN2).mono ?_
      rintro e w2 ⟨g2, rfl, hown, hb⟩
      have HB2 := Lib.hid (HB.out.trans (hb.mono (Nat.le_trans (Nat.le_succ N) hNr)))
      have HO2 := Lib.hid (HO.out.kept hb)
      have HS2 : Hid (OwnS w2 (N + 1) (M ++ [⟨id, us, tx, some ⟨g2, 0, none⟩, N2, N2, T2⟩])) := Lib.hid (fun x hx => by
        rcases List.mem_append.1 hx with hx | hx
        · exact (HS.out x hx).kept hb
        · rw [List.mem_singleton] at hx
          subst hx
          exact hown.from hNr)
      have HPA2 : Hid ((M ++ [(⟨id, us, tx, some ⟨g2, 0, none⟩, N2, N2, T2⟩ : QI)]).Pairwise Apt) := Lib.hid (apt_push HPA.out (fun x hx b e1 e2 => by
        have h1 := (World.ownsRow.lt (HS.out x hx) b e1).2
        have h2 := (World.ownsRow.lt hown b e2).1
        omega))
      have hN2 := Nat.le_trans hNr hb.size
      clear hb hown
      obtain ⟨y, hy⟩ : ∃ y, (M ++ List.replicate (n - k) noI)[k]? = some y := ⟨_, List.getElem?_eq_getElem (by rw [List.length_append, List.length_replicate, HML.out]; omega)⟩
      have d0 := HO2.out.cell hy (j := 0) rfl
      have d1 := HO2.out.cell hy (j := 1) rfl
      have d2 := HO2.out.cell hy (j := 2) rfl
      have d3 := HO2.out.cell hy (j := 3) rfl
      have f0 := HO2.out.free (k * 4)
      have f1 := HO2.out.free (k * 4 + 1)
      have f2 := HO2.out.free (k * 4 + 2)
      have f3 := HO2.out.free (k * 4 + 3)
      have HST := Lib.hid (put_items HO2.out hy ⟨id, us, tx, some ⟨g2, 0, none⟩, N2, N2, T2⟩)
      simp only [qiR, Nat.add_zero] at d0 d1 d2 d3
      clear hy
      go_wp2
      go_roundw
      case rel =>
        refine ⟨k + 1, M ++ [⟨id, us, tx, some ⟨g2, 0, none⟩, N2, N2, T2⟩], by omega, by go_num, by simpa using hN2, (((HB2.out.setCell (Nat.le_refl _) _).setCell (Nat.le_refl _) _).setCell (Nat.le_refl _) _).setCell (Nat.le_refl _) _, ?_, ?_, ?_⟩
        · rw [HTK.out, List.map_append, List.map_append, HK.out]
          rfl
        · exact (((HS2.out.store (p := ⟨N, k * 4, none⟩) (by simp) _).store (p := ⟨N, k * 4 + 1, none⟩) (by simp) _).store (p := ⟨N, k * 4 + 2, none⟩) (by simp) _).store (p := ⟨N, k * 4 + 3, none⟩) (by simp) _
        · exact ⟨by rw [← set_tail HML.out hlt]; exact HST.out, HPA2⟩
      case measure => simp [intOf]; omega
    · have h5 : ¬ (k : Int) < (n : Int) := by omega
      have hkn : k = n := by omega
      have ho := HO.out
      have hkk := HK.out
      rw [hkn, Nat.sub_self, List.replicate_zero, List.append_nil] at ho
      rw [hkn, List.take_of_length_le (by rw [HN.out]; exact Nat.le_refl _)] at hkk
      have HOE := Lib.hid ho
      have HKE := Lib.hid hkk
      clear ho hkn hkk
      go_wp2
      go_ret
      exact ⟨N, rfl, M, HKE.out, fun g hg => by rw [HNN.out]; exact (HS.out g hg).from (Nat.le_succ N), HNN.out ▸ HOE.out, HNN.out ▸ HB.out, HPA.out⟩
set_option maxHeartbeats 2000000 in
theorem to_queueA (nx : Int) (A : Option Addr) (n cap : Nat) (L : List QI) (w : World) (h : QArg w A n cap L) (hl : n ≤ 1048576) (hT : ∀ g ∈ L, g.T.length ≤ 1048576) :
    Calls Try.prog 38 #[.agg #[.int .i64 nx, .slice A n cap]] w fun e w' => ∃ g M, e = .returned (.agg #[.int .i64 nx, .slice (some ⟨g, 0, none⟩) n n]) ∧ M.map keyI = L.map keyI ∧ OwnQ w' w.heap.size (some ⟨g, 0, none⟩) n n M ∧ Below w.heap.size w w' := by
  have H := Lib.hid h
  have HT := Lib.hid hT
  clear h hT
  obtain ⟨S, hS⟩ : ∃ S, w.heap.size = S := ⟨_, rfl⟩
  have HS := Lib.hid hS
  obtain ⟨wq, hwq⟩ : ∃ wq, (((w.alloc (.cells #[.int .i64 nx, .slice A n cap] 54)).alloc (.cells #[.int .i64 0, .slice none 0 0] 31)).alloc (.cells #[.int .i64 nx, .slice none 0 0] 31)) = wq := ⟨_, rfl⟩
  have HBA : Hid (Below S w wq) := by rw [← hwq, ← hS]; exact (((Below.refl _ _).alloc (Nat.le_refl _) _).alloc (by simp) _).alloc (by simp; omega) _
  have HW0 : Hid (Whole wq S 54 #[.int .i64 nx, .slice A n cap]) := by
    rw [← hwq, ← hS]
    exact ((Whole.made w _ _).alloc _).alloc _
  have HW1 : Hid (Whole wq (S + 1) 31 #[.int .i64 0, .slice none 0 0]) := by
    rw [← hwq, ← hS]
    have h2 := Whole.made (w.alloc (.cells #[.int .i64 nx, .slice A n cap] 54)) 31 #[.int .i64 0, .slice none 0 0]
    rw [show (w.alloc (.cells #[.int .i64 nx, .slice A n cap] 54)).heap.size = w.heap.size + 1 by simp] at h2
    exact h2.alloc _
  have HW2 : Hid (Whole wq (S + 1 + 1) 31 #[.int .i64 nx, .slice none 0 0]) := by
    rw [← hwq, ← hS]
    have h2 := Whole.made ((w.alloc (.cells #[.int .i64 nx, .slice A n cap] 54)).alloc (.cells #[.int .i64 0, .slice none 0 0] 31)) 31 #[.int .i64 nx, .slice none 0 0]
    rw [show ((w.alloc (.cells #[.int .i64 nx, .slice A n cap] 54)).alloc (.cells #[.int .i64 0, .slice none 0 0] 31)).heap.size = w.heap.size + 1 + 1 by simp] at h2
    exact h2
  have hzq : S + 1 + 1 < wq.heap.size := HW2.out.lt
  have HA := Lib.hid (H.out.below HBA.out (Nat.le_of_eq hS))
  have c1 := HW0.out.cell 1
  simp at c1
  go_enter Try.func38, Try.ntmps38
  go_wp2_with fail
  refine (to_itemsA A n cap L wq HA.out hl HT.out).mono ?_
  rintro e w2 ⟨g, M, rfl, hk, hos, hown, hb, hpa⟩
  have HPA := Lib.hid hpa
  have hzS : S ≤ wq.heap.size := by omega
  have HK := Lib.hid hk
  have HO2 := Lib.hid (hown.from hzS)
  have HOS : Hid (OwnS w2 S M) := Lib.hid (fun x hx => (hos x hx).from hzS)
  have HB2 := Lib.hid (HBA.out.trans (hb.mono hzS))
  have HOT : Hid (OwnS w2 (S + 1 + 1 + 1) M) := Lib.hid (fun x hx => (hos x hx).from (by omega))
  have HV1 := Lib.hid (HW1.out.below hb HW1.out.lt)
  have HV2 := Lib.hid (HW2.out.below hb HW2.out.lt)
  clear hb hown c1 hk hos hpa
  have b0 := HV1.out.cell 0
  have e0 := HV1.out.free 0
  have g0 := HV2.out.cell 0
  have k0 := HV2.out.free 0
  have b1 := HV1.out.cell 1
  have e1 := HV1.out.free 1
  have g1 := HV2.out.cell 1
  have k1 := HV2.out.free 1
  simp at b0 g0 b1 g1
  go_wp2
  refine bodyPost_ret (v := .agg #[.int .i64 nx, .slice (some ⟨g, 0, none⟩) n n]) (by simp [results, Try.results38, go_sem, *]) rfl ?_
  refine ⟨g, M, rfl, HK.out, ⟨?_, ?_, HPA.out⟩, ?_⟩
  · rw [HS.out]
    refine ROwn.store (ROwn.store (ROwn.store HO2.out ?_ _) ?_ _) ?_ _ <;> first | exact HO2.out.whole HV2.out (by decide) | exact HO2.out.whole HV1.out (by decide)
  · rw [HS.out]
    intro x hx
    exact ((((HOT.out.store (by simp) _).store (by simp) _).store (by simp) _) x hx).from (by omega)
  · rw [HS.out]
    refine (((HB2.out.setCell ?_ _).setCell ?_ _).setCell ?_ _) <;> (simp <;> try omega)
set_option maxRecDepth 20000 in
set_option maxHeartbeats 4000000 in
theorem mark_items (S : Nat → Prop) (s r : Nat) (A : Option Addr) (cap n B : Nat) (L : List QI) (w : World) (h : OwnQ w B A n cap L) (hS : InB S A n cap L) (hs : 0 < s) (hr : endQ s L = r) (hr2 : r ≤ 90000000) (hNs : ∀ g ∈ L, g.N ≤ 4000000) :
    Calls Try.prog 70 #[.slice A n cap, .int .i64 (s : Int)] w fun e w' => e = .returned (.int .i64 (r : Int)) ∧ OwnQ w' B A n cap (mkQ s L) ∧ Writ S w w' := by
  have HN := Lib.hid h.1.len.1
  have HO := Lib.hid h
  have HS := Lib.hid hS
  have HNS := Lib.hid hNs
  have HR := Lib.hid hr
  have hn9 : n ≤ 90000000 := by
    have h1 := h.1.len.1
    have h2 := endQ_tot s L (fun g hg => (h.2.1 g hg).len.1.symm)
    have h3 := tot_len L
    omega
  clear h hS hr hNs
  go_enter Try.func70, Try.ntmps70
  go_wp2
  go_loopw [1, 5] (fun m i wr => ∃ k z : Nat, k ≤ n ∧ m = .int .i64 (z : Int) ∧ i = .int .i64 (k : Int) ∧ Hid (z = endQ s (L.take k)) ∧ Hid (Writ S w wr) ∧ Hid (OwnQ wr B A n cap (mkQ s (L.take k) ++ L.drop k))) (fun _ i _ => n - (intOf i).toNat)
  case atStart => exact ⟨0, s, Nat.zero_le _, by go_num, by go_num, rfl, .refl _, HO.out⟩
  case round =>
    obtain ⟨k, z, hk, rfl, rfl, HZ, HG, HW⟩ := hrel
    by_cases hlt : k < n
    · have h0 : (0 : Int) ≤ (k : Int) := by omega
      have h5 : (k : Int) < (n : Int) := by omega
      obtain ⟨y, hy⟩ : ∃ y, L[k]? = some y := ⟨_, List.getElem?_eq_getElem (by rw [← HN.out]; exact hlt)⟩
      have hzr : z + 3 + y.N ≤ r := by rw [HZ.out, ← HR.out]; exact end_take hy
      have hz0 : 0 < z := by have := endQ_le s (L.take k); rw [← HZ.out] at this; omega
      have HT1 := Lib.hid (take_one hy s)
      have hpl : (mkQ s (L.take k)).length = k := by rw [mkQ_len, List.length_take, ← HN.out]; omega
      have hkL : k < L.length := by rw [← HN.out]; exact hlt
      have hC : (mkQ s (L.take k) ++ L.drop k)[k]? = some y := by
        rw [List.getElem?_append_right (by rw [hpl]; exact Nat.le_refl _), hpl, Nat.sub_self, List.getElem?_drop, Nat.add_zero]
        exact hy
      obtain ⟨C, hCC⟩ : ∃ C, mkQ s (L.take k) ++ L.drop k = C := ⟨_, rfl⟩
      have HEND : Hid (C.set k (mkI z y) = mkQ s (L.take (k + 1)) ++ L.drop (k + 1)) := Lib.hid (by rw [← hCC, set_front _ hpl hkL, HT1.out.1, ← HZ.out])
      have HEZ : Hid (z + 3 + y.N = endQ s (L.take (k + 1))) := Lib.hid (by rw [HT1.out.2, ← HZ.out])
      have hyS : ∀ g, (lfV y).ownBlock = some g → S g := HS.out.2 y (List.mem_of_getElem? hy)
      have HYS := Lib.hid hyS
      rw [hCC] at hC
      have hw := HW.out
      rw [hCC] at hw
      obtain ⟨g, rfl⟩ := own_blockY hw.1 (by omega)
      have hgS : S g := HS.out.1 g rfl
      have HGS : Hid (∀ b, some g = some b → S b) := Lib.hid (fun b e => Option.some.inj e ▸ hgS)
      have hkC : k < C.length := (List.getElem?_eq_some_iff.1 hC).1
      obtain ⟨q1, hq1⟩ : ∃ q, z + 1 = q := ⟨_, rfl⟩
      obtain ⟨q2, hq2⟩ : ∃ q, q1 + 1 = q := ⟨_, rfl⟩
      obtain ⟨q3, hq3⟩ : ∃ q, q2 + 1 = q := ⟨_, rfl⟩
      have E1 : (z : Int) + 1 = (q1 : Int) := by omega
      have E2 : (q1 : Int) + 1 = (q2 : Int) := by omega
      have E3 : (q2 : Int) + 1 = (q3 : Int) := by omega
      have HQS : Hid (q1 = z + 1 ∧ q2 = z + 2 ∧ q3 = z + 3) := Lib.hid (by omega)
      have HQ1 : Hid (0 < q1 ∧ q1 ≤ 1000000000) := Lib.hid (by omega)
      have HQ2 : Hid (0 < q2 ∧ q2 ≤ 1000000000) := Lib.hid (by omega)
      have HQ3 : Hid (0 < q3 ∧ q3 ≤ 100000000) := Lib.hid (by omega)
      have HYN : Hid (y.N ≤ 4000000) := Lib.hid (HNS.out y (List.mem_of_getElem? hy))
      have hzb : z ≤ 90000000 := by omega
      have hq1b : q1 ≤ 90000001 := by omega
      have hq2b : q2 ≤ 90000002 := by omega
      obtain ⟨y1, hy1⟩ : ∃ x, ({ y with id := (z : Int) } : QI) = x := ⟨_, rfl⟩
      obtain ⟨y2, hy2⟩ : ∃ x, ({ y1 with us := rB (mt q1) } : QI) = x := ⟨_, rfl⟩
      obtain ⟨y3, hy3⟩ : ∃ x, ({ y2 with tx := rB (mt q2) } : QI) = x := ⟨_, rfl⟩
      have HY3 : Hid (({ y3 with T := mks q3 y3.N } : QI) = mkI z y ∧ y3.A = y.A ∧ y3.N = y.N ∧ y3.cap = y.cap ∧ y3.T = y.T ∧ lfV y3 = lfV y) := Lib.hid (by subst hy1 hy2 hy3 hq3 hq2 hq1; exact ⟨rfl, rfl, rfl, rfl, rfl, rfl⟩)
      -- the number
      have hA := hw.setI hC y1 (by rw [← hy1]; rfl) (by rw [← hy1]) 0 (.int .i64 (z : Int)) (by decide) (by rw [← hy1]; rfl)
      have d0 := hw.1.cell hC (j := 0) rfl
      have f0 := hw.1.free (k * 4)
      simp only [qiR, Nat.add_zero] at d0 hA
      obtain ⟨wa, hwa⟩ : ∃ wa, wr.setCell ⟨g, k * 4, none⟩ (.int .i64 (z : Int)) = wa := ⟨_, rfl⟩
      rw [hwa] at hA
      have HA := Lib.hid hA.1
      have CA := Lib.hid (HG.out.trans (Writ.one hA.2 HGS.out))
      have HWA := Lib.hid hwa
      have hC1 : (C.set k y1)[k]? = some y1 := List.getElem?_set_self hkC
      have hC2 : (C.set k y2)[k]? = some y2 := List.getElem?_set_self hkC
      have hC3 : (C.set k y3)[k]? = some y3 := List.getElem?_set_self hkC
      have HC1 := Lib.hid hC1
      have HC2 := Lib.hid hC2
      have HC3 := Lib.hid hC3
      have HY12 : Hid (lfV y2 = lfV y1 ∧ y2.T = y1.T ∧ qiR.enc y2 = (qiR.enc y1).set 1 (.string (rB (mt q1)))) := Lib.hid (by rw [← hy2]; exact ⟨rfl, rfl, rfl⟩)
      have HY23 : Hid (lfV y3 = lfV y2 ∧ y3.T = y2.T ∧ qiR.enc y3 = (qiR.enc y2).set 2 (.string (rB (mt q2)))) := Lib.hid (by rw [← hy3]; exact ⟨rfl, rfl, rfl⟩)
      clear hw hA hwa hC1 hC2 hC3 hy1 hy2 hy3 hq1 hq2 hq3 hzr hy hpl hkL hCC hyS hgS hC
      go_wp2_with fail
      rw [HWA.out]
      refine (mark_text q1 wa HQ1.out.1 HQ1.out.2).mono ?_
      rintro e w1 ⟨rfl, hb⟩
      have hO1 := HA.out.kept hb
      have C1 := Lib.hid (CA.out.trans (Writ.one (gr_belowY (row := none) hb) (fun _ e => by cases e)))
      have hB1 := hO1.setI HC1.out y2 HY12.out.1 HY12.out.2.1 1 (.string (rB (mt q1))) (by decide) HY12.out.2.2
      rw [List.set_set] at hB1
      have d1 := hO1.1.cell HC1.out (j := 1) rfl
      have f1 := hO1.1.free (k * 4 + 1)
      simp only [qiR] at d1 hB1
      obtain ⟨v1, hv1⟩ : ∃ v, rB (mt q1) = v := ⟨_, rfl⟩
      rw [hv1] at hB1
      obtain ⟨wb, hwb⟩ : ∃ wb, w1.setCell ⟨g, k * 4 + 1, none⟩ (.string v1) = wb := ⟨_, rfl⟩
      rw [hwb] at hB1
      have HB := Lib.hid hB1.1
      have CB := Lib.hid (C1.out.trans (Writ.one hB1.2 HGS.out))
      have HWB := Lib.hid hwb
      rw [hv1]
      clear d0 f0 hb hO1 hB1 hwb hv1
      go_wp2_with fail
      rw [HWB.out]
      refine (mark_text q2 wb HQ2.out.1 HQ2.out.2).mono ?_
      rintro e w2 ⟨rfl, hb⟩
      have hO2 := HB.out.kept hb
      have C2 := Lib.hid (CB.out.trans (Writ.one (gr_belowY (row := none) hb) (fun _ e => by cases e)))
      have hB2 := hO2.setI HC2.out y3 HY23.out.1 HY23.out.2.1 2 (.string (rB (mt q2))) (by decide) HY23.out.2.2
      rw [List.set_set] at hB2
      have d2 := hO2.1.cell HC2.out (j := 2) rfl
      have f2 := hO2.1.free (k * 4 + 2)
      simp only [qiR] at d2 hB2
      obtain ⟨v2, hv2⟩ : ∃ v, rB (mt q2) = v := ⟨_, rfl⟩
      rw [hv2] at hB2
      obtain ⟨wc, hwc⟩ : ∃ wc, w2.setCell ⟨g, k * 4 + 2, none⟩ (.string v2) = wc := ⟨_, rfl⟩
      rw [hwc] at hB2
      have HC := Lib.hid hB2.1
      have CC := Lib.hid (C2.out.trans (Writ.one hB2.2 HGS.out))
      have HWC := Lib.hid hwc
      have d3 := hB2.1.1.cell HC3.out (j := 3) rfl
      simp only [qiR] at d3
      rw [hv2]
      clear d1 f1 hb hO2 hB2 hv2
      go_wp2_with fail
      try rw [HWC.out]
      refine (mark_strs q3 (q3 + y3.N) y3.A y3.cap y3.N B y3.T wc ((HC.out.2.1 y3 (List.mem_of_getElem? HC3.out)).len.1.symm) (HC.out.2.1 y3 (List.mem_of_getElem? HC3.out)) (by have := HYN.out; have := HY3.out.2.2.1; omega) HQ3.out.1 HQ3.out.2 rfl).mono ?_
      rintro e w3 ⟨rfl, hown, hg⟩
      have hD := HC.out.setT HC3.out (mks q3 y3.N) hown hg
      rw [List.set_set, HY3.out.1, HEND.out] at hD
      have HD := Lib.hid hD
      have CD := Lib.hid (CC.out.trans (Writ.one hg (fun b e => HYS.out b (by rw [← HY3.out.2.2.2.2.2]; exact e))))
      have HZ4 : Hid (q3 + y3.N = endQ s (L.take (k + 1))) := Lib.hid (by rw [← HEZ.out, HY3.out.2.2.1, HQS.out.2.2])
      clear d2 f2 d3 hown hg hD hwc
      go_wp2
      go_roundw
      case rel => exact ⟨k + 1, q3 + y3.N, by omega, by go_num, by go_num, HZ4, CD, HD⟩
      case measure => simp [intOf]; omega
    · have h5 : ¬ (k : Int) < (n : Int) := by omega
      have hkn : k = n := by omega
      have ho := HW.out
      have hz := HZ.out
      rw [hkn, List.drop_of_length_le (by rw [← HN.out]; exact Nat.le_refl _), List.append_nil, List.take_of_length_le (by rw [← HN.out]; exact Nat.le_refl _)] at ho
      rw [hkn, List.take_of_length_le (by rw [← HN.out]; exact Nat.le_refl _), HR.out] at hz
      have HOE := Lib.hid ho
      have HZ2 := Lib.hid hz
      clear ho hkn hz
      go_wp2
      go_ret
      refine ⟨?_, HOE.out, HG.out⟩
      rw [HZ2.out]
      rfl
set_option maxRecDepth 20000 in
set_option maxHeartbeats 8000000 in
theorem held_items (s r : Nat) (A : Option Addr) (cap n B : Nat) (L : List QI) (w : World) (h : OwnQ w B A n cap (mkQ s L)) (hs : 0 < s) (hr : endQ s L = r) (hr2 : r ≤ 90000000) (hn9 : n ≤ 90000000) (hNs : ∀ g ∈ L, g.N ≤ 4000000) :
    Calls Try.prog 72 #[.slice A n cap, .int .i64 (s : Int)] w fun e w' => e = .returned (.int .i64 (r : Int)) ∧ Below w.heap.size w w' := by
  have HN := Lib.hid h.1.len.1
  have HO := Lib.hid h
  have HR := Lib.hid hr
  have HNS := Lib.hid hNs
  clear h hr hNs
  go_enter Try.func72, Try.ntmps72
  go_wp2
  go_loopw [1, 5] (fun m i wr => ∃ k z : Nat, k ≤ n ∧ m = .int .i64 (z : Int) ∧ i = .int .i64 (k : Int) ∧ Hid (z = endQ s (L.take k)) ∧ Hid (Below w.heap.size w wr)) (fun _ i _ => n - (intOf i).toNat)
  case atStart => exact ⟨0, s, Nat.zero_le _, by go_num, by go_num, rfl, Below.refl _ _⟩
  case round =>
    obtain ⟨k, z, hk, rfl, rfl, HZ, HB⟩ := hrel
    by_cases hlt : k < n
    · have h0 : (0 : Int) ≤ (k : Int) := by omega
      have h5 : (k : Int) < (n : Int) := by omega
      have hkL : k < L.length := by have := HN.out; rw [mkQ_len] at this; omega
      obtain ⟨y, hy⟩ : ∃ y, L[k]? = some y := ⟨_, List.getElem?_eq_getElem hkL⟩
      have hzr : z + 3 + y.N ≤ r := by rw [HZ.out, ← HR.out]; exact end_take hy
      have hz0 : 0 < z := by have := endQ_le s (L.take k); rw [← HZ.out] at this; omega
      have HT1 := Lib.hid (take_one hy s)
      have HEZ : Hid (z + 3 + y.N = endQ s (L.take (k + 1))) := Lib.hid (by rw [HT1.out.2, ← HZ.out])
      have hC : (mkQ s L)[k]? = some (mkI z y) := by
        have h1 : L = L.take (k + 1) ++ L.drop (k + 1) := (List.take_append_drop _ _).symm
        rw [h1, mkQ_app, List.getElem?_append_left (by rw [mkQ_len, List.length_take]; omega), HT1.out.1, ← HZ.out, List.getElem?_append_right (by rw [mkQ_len, List.length_take]; omega), mkQ_len, List.length_take, show k - min k L.length = 0 by omega]
        rfl
      obtain ⟨b, o, rfl, hbz, x0, x1, x2, x3⟩ := qi_at (HO.out.kept HB.out).1.at hC
      have HRW := Lib.hid ((HO.out.kept HB.out).2.1 _ (List.mem_of_getElem? hC))
      obtain ⟨q1, hq1⟩ : ∃ q, z + 1 = q := ⟨_, rfl⟩
      obtain ⟨q2, hq2⟩ : ∃ q, z + 2 = q := ⟨_, rfl⟩
      obtain ⟨q3, hq3⟩ : ∃ q, z + 3 = q := ⟨_, rfl⟩
      simp only [mkI] at x0 x1 x2 x3 HRW
      rw [hq1] at x1
      rw [hq2] at x2
      rw [hq3] at HRW
      obtain ⟨v1, hv1⟩ : ∃ v, rB (mt q1) = v := ⟨_, rfl⟩
      obtain ⟨v2, hv2⟩ : ∃ v, rB (mt q2) = v := ⟨_, rfl⟩
      rw [hv1] at x1
      rw [hv2] at x2
      have HV1 := Lib.hid hv1
      have HV2 := Lib.hid hv2
      have E1 : (z : Int) + 1 = (q1 : Int) := by omega
      have E2 : (q1 : Int) + 1 = (q2 : Int) := by omega
      have E3 : (q2 : Int) + 1 = (q3 : Int) := by omega
      have HQ1 : Hid (0 < q1 ∧ q1 ≤ 1000000000) := Lib.hid (by omega)
      have HQ2 : Hid (0 < q2 ∧ q2 ≤ 1000000000) := Lib.hid (by omega)
      have HQ3 : Hid (0 < q3 ∧ q3 ≤ 100000000) := Lib.hid (by omega)
      have HYM := Lib.hid (List.mem_of_getElem? hy)
      have HQS : Hid (q3 = z + 3) := Lib.hid hq3.symm
      have hzb : z ≤ 90000000 := by omega
      have hq1b : q1 ≤ 90000001 := by omega
      have hq2b : q2 ≤ 90000002 := by omega
      have hne0 : ((z : Int) != (z : Int)) = false := by simp
      have HX1 := Lib.hid x1
      have HX2 := Lib.hid x2
      have HX3 := Lib.hid x3
      clear hq1 hq2 hq3 hzr hy hkL hC hv1 hv2
      have HBD : Hid (Below w.heap.size w wr.drew) := HB.out.drew
      have HSZ := Lib.hid HBD.out.size
      clear x2 x3
      go_wp2
      go_region_held3 (fun w' => w'.cell? ⟨b, o + k * 4 + 1, none⟩ = some (.string v1)) (first | exact x1 | go_keep)
        ((go_at_call 88; refine (mark_text q1 wr.drew HQ1.out.1 HQ1.out.2).mono ?_; rw [HV1.out]; rintro e w2 ⟨rfl, hb2⟩; have HB2 := Lib.hid (HBD.out.trans (hb2.mono HSZ.out)); have c3 := (hb2.cell (p := ⟨b, o + k * 4 + 1, none⟩) hbz).trans x1; have HY2 := Lib.hid ((hb2.cell (p := ⟨b, o + k * 4 + 2, none⟩) hbz).trans HX2.out); have HY3 := Lib.hid ((hb2.cell (p := ⟨b, o + k * 4 + 3, none⟩) hbz).trans HX3.out); have HRZ := Lib.hid (show ROwn stR w2 B _ _ from (HRW.out.drewN 1).kept hb2); have HZS := Lib.hid hb2.size; clear hb2))
      all_goals
        have HBE : Hid (Below w.heap.size w w2.drew) := HB2.out.drew
        have HSY := Lib.hid HBE.out.size
        have x2 := HY2.out
        have hbz2 : b < w2.heap.size := Nat.lt_of_lt_of_le hbz HZS.out
        clear c3
        go_wp2
        go_region_held3 (fun w' => w'.cell? ⟨b, o + k * 4 + 2, none⟩ = some (.string v2)) (first | exact x2 | go_keep)
          ((go_at_call 88; refine (mark_text q2 w2.drew HQ2.out.1 HQ2.out.2).mono ?_; rw [HV2.out]; rintro e w4 ⟨rfl, hb4⟩; have HB4 := Lib.hid (HBE.out.trans (hb4.mono HSY.out)); have c4 := (hb4.cell (p := ⟨b, o + k * 4 + 2, none⟩) hbz2).trans x2; have HU3 := Lib.hid ((hb4.cell (p := ⟨b, o + k * 4 + 3, none⟩) hbz2).trans HY3.out); have HRV := Lib.hid (show ROwn stR w4 B _ _ from (HRZ.out.drewN 1).kept hb4); clear hb4))
        all_goals
          have x3 := HU3.out
          obtain ⟨r3, hr3⟩ : ∃ r, q3 + y.N = r := ⟨_, rfl⟩
          have HR3 := Lib.hid hr3
          have r30 : ¬ (r3 : Int) < 0 := by omega
          clear c4 x2 hr3
          go_wp2_with fail
          refine (held_strs q3 r3 y.A y.cap y.N w4 HRV.out.at (HNS.out y HYM.out) HQ3.out.1 HQ3.out.2 HR3.out).mono ?_
          rintro e w5 ⟨rfl, hb5⟩
          have HB5 := Lib.hid (HB4.out.trans (hb5.mono HB4.out.size))
          have HZ5 : Hid (r3 = endQ s (L.take (k + 1))) := Lib.hid (by rw [← HEZ.out, ← HR3.out, HQS.out])
          clear hb5
          go_wp2
          go_roundw
          case rel => exact ⟨k + 1, r3, by omega, by go_num, by go_num, HZ5, HB5⟩
          case measure => simp [intOf]; omega
    · have h5 : ¬ (k : Int) < (n : Int) := by omega
      have hkn : k = n := by omega
      have hz := HZ.out
      rw [hkn, List.take_of_length_le (by have := HN.out; rw [mkQ_len] at this; omega), HR.out] at hz
      have HZ2 := Lib.hid hz
      clear hkn hz
      go_wp2
      go_ret
      refine ⟨?_, HB.out⟩
      rw [HZ2.out]
      rfl
set_option maxHeartbeats 1000000 in
theorem mark_queue (S : Nat → Prop) (s r : Nat) (nx : Int) (A : Option Addr) (cap n B : Nat) (L : List QI) (w : World) (h : OwnQ w B A n cap L) (hS : InB S A n cap L) (hs : 0 < s) (hr : endQ s L = r) (hr2 : r ≤ 90000000) (hNs : ∀ g ∈ L, g.N ≤ 4000000) :
    Calls Try.prog 42 #[.agg #[.int .i64 nx, .slice A n cap], .int .i64 (s : Int)] w fun e w' => e = .returned (.int .i64 (r : Int)) ∧ OwnQ w' B A n cap (mkQ s L) ∧ Writ S w w' := by
  have hb := (Below.refl w.heap.size w).alloc (Nat.le_refl _) (.cells #[.int .i64 nx, .slice A n cap] 31)
  have HO := Lib.hid (h.kept hb)
  have HG : Hid (Writ S w (w.alloc (.cells #[.int .i64 nx, .slice A n cap] 31))) := Lib.hid (Writ.one (gr_belowY (row := none) hb) (fun _ e => by cases e))
  clear h hb
  go_enter Try.func42, Try.ntmps42
  go_wp2_with fail
  refine (mark_items S s r A cap n B L _ HO.out hS hs hr hr2 hNs).mono ?_
  rintro e w2 ⟨rfl, ho, hg⟩
  go_wp2
  go_ret
  exact ⟨rfl, ho, HG.out.trans hg⟩
set_option maxHeartbeats 1000000 in
theorem held_queue (s r : Nat) (nx : Int) (A : Option Addr) (cap n B : Nat) (L : List QI) (w : World) (h : OwnQ w B A n cap (mkQ s L)) (hs : 0 < s) (hr : endQ s L = r) (hr2 : r ≤ 90000000) (hn9 : n ≤ 90000000) (hNs : ∀ g ∈ L, g.N ≤ 4000000) :
    Calls Try.prog 44 #[.agg #[.int .i64 nx, .slice A n cap], .int .i64 (s : Int)] w fun e w' => e = .returned (.int .i64 (r : Int)) ∧ Below w.heap.size w w' := by
  have HB := Lib.hid ((Below.refl w.heap.size w).alloc (Nat.le_refl _) (.cells #[.int .i64 nx, .slice A n cap] 31))
  have HO := Lib.hid (h.kept HB.out)
  have hr0 : ¬ (r : Int) < 0 := by omega
  clear h
  go_enter Try.func44, Try.ntmps44
  go_wp2_with fail
  refine (held_items s r A cap n B L _ HO.out hs hr hr2 hn9 hNs).mono ?_
  rintro e w2 ⟨rfl, hb⟩
  have HB2 := Lib.hid (HB.out.trans (hb.mono HB.out.size))
  clear hb
  go_wp2
  go_ret
  exact ⟨rfl, HB2.out⟩
theorem szT_tot : ∀ {L : List ByteArray} {z : Int}, 0 ≤ z → szT L z ≤ z
  | _, _, h => (szT_le h).1
theorem szL_tot {L : List ByteArray} {z : Int} (h : 0 ≤ z) (h2 : 0 ≤ szL L z) : szL L z + (L.length : Int) ≤ z := by
  unfold szL at h2 ⊢
  split at h2
  · omega
  · rename_i h3
    rw [if_neg h3]
    have := (szT_le (L := L) (z := z - (L.length : Int)) (by omega)).1
    omega
theorem szI_tot {us tx : ByteArray} {T : List ByteArray} {z : Int} (h : 0 ≤ z) (h2 : 0 ≤ szI us tx T z) : szI us tx T z + (T.length : Int) ≤ z := by
  unfold szI at h2 ⊢
  split at h2
  · omega
  · rename_i h3
    rw [if_neg h3]
    split at h2
    · omega
    · rename_i h4
      rw [if_neg h4]
      split at h2
      · omega
      · rename_i h5
        rw [if_neg h5]
        have := szL_tot (L := T) (z := z - (us.size : Int) - (tx.size : Int)) (by omega) (by omega)
        omega
theorem szJ_tot : ∀ {L : List QI} {z : Int}, 0 ≤ z → 0 ≤ szJ L z → (totK (L.map keyI) : Int) ≤ z + 3 * (L.length : Int)
  | [], z, h, _ => by show (0 : Int) ≤ _; simp; omega
  | m :: L, z, h, h2 => by
    rw [szJ] at h2
    split at h2
    · omega
    · have h3 := szI_tot (us := m.us) (tx := m.tx) (T := m.T) h (by omega)
      have h4 := szJ_tot (L := L) (z := szI m.us m.tx m.T z) (by omega) h2
      have e : totK ((m :: L).map keyI) = (3 + m.T.length) + totK (L.map keyI) := rfl
      rw [e]
      simp only [List.length_cons]
      omega
theorem szQ_tot {L : List QI} (h : 0 ≤ szQ L 1048576) : totK (L.map keyI) ≤ 4194304 := by
  unfold szQ at h
  split at h
  · omega
  · have := szJ_tot (L := L) (z := 1048576 - (L.length : Int)) (by omega) h
    omega
theorem totK_app (K M : List QK) : totK (K ++ M) = totK K + totK M := by
  unfold totK
  rw [List.map_append, List.sum_append]
theorem totK_tk (K : List QK) (id : Int) (u : ByteArray) : totK (tkK K id u) ≤ totK K := by
  induction K with
  | nil => exact Nat.le_refl _
  | cons k K ih =>
    have e : tkK (k :: K) id u = tkK [k] id u ++ tkK K id u := by unfold tkK; rw [← List.filter_append, ← List.map_append]; rfl
    rw [e, totK_app, show totK (k :: K) = (3 + k.2.2.2.length) + totK K from rfl]
    have h1 : totK (tkK [k] id u) ≤ 3 + k.2.2.2.length := by
      have h2 : (tk1 id u k).2.2.2.length ≤ k.2.2.2.length := by
        unfold tk1
        split
        · exact List.length_filter_le _ _
        · exact Nat.le_refl _
      unfold tkK
      rw [List.map_cons, List.map_nil, List.filter_cons]
      split
      · show (3 + (tk1 id u k).2.2.2.length) + 0 ≤ _; omega
      · show 0 ≤ _; omega
    omega
/-- What a bound says of a key. -/
def SmK (z : Int) (k : QK) : Prop := (k.2.1.size : Int) ≤ z ∧ (k.2.2.1.size : Int) ≤ z ∧ (k.2.2.2.length : Int) ≤ z ∧ ∀ x ∈ k.2.2.2, (x.size : Int) ≤ z
theorem smK_of {L : List QI} {z : Int} (h : ∀ k ∈ L.map keyI, SmK z k) : ∀ g ∈ L, SmI z g := fun g hg => h (keyI g) (List.mem_map.2 ⟨g, hg, rfl⟩)
theorem smK_to {L : List QI} {z : Int} (h : ∀ g ∈ L, SmI z g) : ∀ k ∈ L.map keyI, SmK z k := fun k hk => by
  obtain ⟨g, hg, rfl⟩ := List.mem_map.1 hk
  exact h g hg
theorem smK_tk {K : List QK} {z : Int} {id : Int} {u : ByteArray} (h : ∀ k ∈ K, SmK z k) : ∀ k ∈ tkK K id u, SmK z k := fun k hk => by
  obtain ⟨k0, h0, rfl⟩ := List.mem_map.1 (List.mem_filter.1 hk).1
  obtain ⟨h1, h2, h3, h4⟩ := h k0 h0
  unfold tk1
  split
  · have h5 : (k0.2.2.2.filter fun x => decide (x ≠ u)).length ≤ k0.2.2.2.length := List.length_filter_le _ _
    exact ⟨h1, h2, by show ((k0.2.2.2.filter fun x => decide (x ≠ u)).length : Int) ≤ z; omega, fun x hx => h4 x (List.mem_filter.1 hx).1⟩
  · exact ⟨h1, h2, h3, h4⟩
theorem tkK_len (K : List QK) (id : Int) (u : ByteArray) : (tkK K id u).length ≤ K.length := by
  unfold tkK
  have := List.length_filter_le neT (K.map (tk1 id u))
  rwa [List.length_map] at this
end Go.Proofs.Ytinbdibenbplnaa
