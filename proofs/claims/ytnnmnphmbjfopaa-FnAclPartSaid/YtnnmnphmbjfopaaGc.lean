/-
  How grants lie in memory; the contracts of the code's and the model's AclValid and of the laws' own helpers. Condition: the grants can be read, and are not too many.
-/
import Derived.Test.YtnnmnphmbjfopaaGg
import Derived.Test.YtnnmnphmbjfopaaRi
import Derived.Test.YtnnmnphmbjfopaaSpec
import Derived.Deep.RegionHeld3
namespace Go.Proofs.Ytnnmnphmbjfopaa
open Go.RowKit
set_option linter.unusedVariables false

def grR : RowT Gr where
  t := 40
  sz := 2
  enc := fun g => [.string g.1, .int .i64 g.2]
  len := fun _ => rfl
  one := fun x u hu => by
    simp at hu
    rcases hu with rfl | rfl <;> rfl
theorem Try.infoGrant : (Try.prog.info? 40).map (fun i => (i.zero, i.size, i.bytes)) = some (some (.agg #[.string ⟨#[]⟩, .int .i64 0]), 2, 24) := by kernel_rfl
theorem grant_at {w : World} {A : Option Addr} {L : List Gr} {k : Nat} {u : ByteArray} {r : Int} (h : RAt grR w A L) (hx : L[k]? = some (u, r)) : ∃ b o, A = some ⟨b, o, none⟩ ∧ b < w.heap.size ∧ w.cell? ⟨b, o + k * 2, none⟩ = some (.string u) ∧ w.cell? ⟨b, o + k * 2 + 1, none⟩ = some (.int .i64 r) := by
  obtain ⟨b, o, hA, hb, h1⟩ := h k _ hx
  exact ⟨b, o, hA, hb, h1 0 _ rfl, h1 1 _ rfl⟩
/-- A slice of grants that came in: what the walk asks of it. -/
def GIn (w : World) (A : Option Addr) (N cap : Nat) (L : List Gr) : Prop := L.length = N ∧ N ≤ 33554432 ∧ RAt grR w A L ∧ (A = none → cap = 0) ∧ (∀ q, A = some q → q.spot = none) ∧ (∀ g ∈ L, g.1.size ≤ 16777216)
theorem GIn.below {w w' : World} {A : Option Addr} {N cap B : Nat} {L : List Gr} (h : GIn w A N cap L) (hb : Below B w w') (hB : w.heap.size ≤ B) : GIn w' A N cap L := ⟨h.1, h.2.1, h.2.2.1.below hb hB, h.2.2.2⟩
theorem GIn.of {w : World} {B N cap : Nat} {A : Option Addr} {L : List Gr} (h : ROwn grR w B (.slice A N cap) L) (hl : N ≤ 33554432) (hs : ∀ g ∈ L, g.1.size ≤ 16777216) : GIn w A N cap L := ⟨h.len.1.symm, hl, h.at, h.nilcap, h.spot, hs⟩
theorem says_b {w w' : World} {o p : Bool} (h : o = p) (hb : Below w.heap.size w w') : SayB w o (.returned (.bool p)) w' := ⟨by rw [h], hb⟩
theorem okG_eq (u : ByteArray) (r : Int) : okG (u, r) = (nameB (kb u) && (isR r && (r != 0))) := by
  unfold okG isR
  congr 1
  by_cases h1 : 1 ≤ r
  · rw [decide_eq_true h1, decide_eq_true (p := 0 ≤ r) (by omega), show (r != 0) = true from bne_iff_ne.2 (by omega)]
    simp
  · rw [decide_eq_false h1]
    by_cases h0 : 0 ≤ r
    · have : r = 0 := by omega
      subst this
      rfl
    · rw [decide_eq_false h0]
      rfl

set_option maxRecDepth 20000 in
set_option maxHeartbeats 1000000 in
theorem impl_isgrant (u : ByteArray) (r : Int) (w : World) (hu : u.size ≤ 16777216) : Calls Try.prog 55 #[.agg #[.string u, .int .i64 r]] w (SayB w (okG (u, r))) := by
  have hW := Whole.made w 40 #[.string u, .int .i64 r]
  have c0 : (w.alloc (.cells #[.string u, .int .i64 r] 40)).cell? ⟨w.heap.size, 0, none⟩ = some (.string u) := hW.cell 0
  have HB := Lib.hid ((Below.refl w.heap.size w).alloc (Nat.le_refl _) (.cells #[.string u, .int .i64 r] 40))
  have HW := Lib.hid hW
  have HO := Lib.hid (okG_eq u r)
  clear hW
  cases h1 : nameB (kb u) with
  | false =>
    have H1 : Hid (nameB u.data.toList = false) := h1
    have HE : Hid (okG (u, r) = false) := Lib.hid (by rw [HO.out, h1]; rfl)
    clear h1
    go_enter Try.func55, Try.ntmps55
    go_wp2_with fail
    refine (impl_name u _ hu).mono ?_
    rintro e w2 ⟨rfl, hb⟩
    have HB2 := Lib.hid (HB.out.trans (hb.mono HB.out.size))
    clear hb
    rw [H1.out]
    go_wp2
    go_ret
    exact says_b HE.out HB2.out
  | true =>
    have H1 : Hid (nameB u.data.toList = true) := h1
    cases h2 : isR r with
    | false =>
      have H2 := Lib.hid h2
      have HE : Hid (okG (u, r) = false) := Lib.hid (by rw [HO.out, h1, h2]; rfl)
      clear h1 h2
      go_enter Try.func55, Try.ntmps55
      go_wp2_with fail
      refine (impl_name u _ hu).mono ?_
      rintro e w2 ⟨rfl, hb⟩
      have c1 := (HW.out.below hb HW.out.lt).cell 1
      have HB2 := Lib.hid (HB.out.trans (hb.mono HB.out.size))
      clear hb
      rw [H1.out]
      simp at c1
      go_wp2_with fail
      refine (impl_isr r _).mono ?_
      rintro e w3 ⟨rfl, hw3⟩
      subst w3
      rw [H2.out]
      go_wp2
      go_ret
      exact says_b HE.out HB2.out
    | true =>
      have H2 := Lib.hid h2
      by_cases h3 : r = 0
      · subst h3
        have HE : Hid (okG (u, 0) = false) := Lib.hid (by rw [HO.out, h1, h2]; rfl)
        clear h1 h2
        go_enter Try.func55, Try.ntmps55
        go_wp2_with fail
        refine (impl_name u _ hu).mono ?_
        rintro e w2 ⟨rfl, hb⟩
        have c1 := (HW.out.below hb HW.out.lt).cell 1
        have HB2 := Lib.hid (HB.out.trans (hb.mono HB.out.size))
        clear hb
        rw [H1.out]
        simp at c1
        go_wp2_with fail
        refine (impl_isr 0 _).mono ?_
        rintro e w3 ⟨rfl, hw3⟩
        subst w3
        rw [H2.out]
        go_wp2
        go_ret
        exact says_b HE.out HB2.out
      · have r1 : (r != 0) = true := bne_iff_ne.2 h3
        have r2 : (r == 0) = false := beq_eq_false_iff_ne.2 h3
        have HE : Hid (okG (u, r) = true) := Lib.hid (by rw [HO.out, h1, h2, r1]; rfl)
        clear h1 h2 h3
        go_enter Try.func55, Try.ntmps55
        go_wp2_with fail
        refine (impl_name u _ hu).mono ?_
        rintro e w2 ⟨rfl, hb⟩
        have c1 := (HW.out.below hb HW.out.lt).cell 1
        have HB2 := Lib.hid (HB.out.trans (hb.mono HB.out.size))
        clear hb
        rw [H1.out]
        simp at c1
        go_wp2_with fail
        refine (impl_isr r _).mono ?_
        rintro e w3 ⟨rfl, hw3⟩
        subst w3
        rw [H2.out]
        go_wp2
        go_ret
        exact says_b HE.out HB2.out

set_option maxRecDepth 20000 in
set_option maxHeartbeats 4000000 in
theorem same_grants {A A2 : Option Addr} {N N2 cap cap2 : Nat} {L M : List Gr} (w : World) (h : GIn w A N cap L) (h2 : GIn w A2 N2 cap2 M) :
    Calls Try.prog 33 #[.slice A N cap, .slice A2 N2 cap2] w (SayB w (decide (L = M))) := by
  have H := Lib.hid h
  have H2 := Lib.hid h2
  have hl := h.2.1
  have hl2 := h2.2.1
  clear h h2
  by_cases hlen : N = N2
  · subst hlen
    have hlb : ((N : Int) != (N : Int)) = false := by simp
    go_enter Try.func33, Try.ntmps33
    go_wp2
    go_loopw [5] (fun i wr => ∃ k : Nat, k ≤ N ∧ i = .int .i64 (k : Int) ∧ Hid (L.take k = M.take k) ∧ Hid (Below w.heap.size w wr)) (fun i _ => N - (intOf i).toNat)
    case atStart => exact ⟨0, Nat.zero_le _, by go_num, rfl, Below.refl _ _⟩
    case round =>
      obtain ⟨k, hk, rfl, HT, HB⟩ := hrel
      by_cases hlt : k < N
      · have h0 : (0 : Int) ≤ (k : Int) := by omega
        have h5 : (k : Int) < (N : Int) := by omega
        obtain ⟨⟨u, r⟩, hx⟩ : ∃ x, L[k]? = some x := ⟨_, List.getElem?_eq_getElem (by rw [H.out.1]; exact hlt)⟩
        obtain ⟨⟨u', r'⟩, hy⟩ : ∃ x, M[k]? = some x := ⟨_, List.getElem?_eq_getElem (by rw [H2.out.1]; exact hlt)⟩
        obtain ⟨b, o, rfl, hb, c0, c1⟩ := grant_at (H.out.2.2.1.below HB.out (Nat.le_refl _)) hx
        obtain ⟨b', o', rfl, hb', d0, d1⟩ := grant_at (H2.out.2.2.1.below HB.out (Nat.le_refl _)) hy
        have HX := Lib.hid hx
        have HY := Lib.hid hy
        clear hx hy
        by_cases e1 : u = u'
        · subst e1
          by_cases e2 : r = r'
          · subst e2
            go_wp2
            go_quiet (fail)
            go_wp2
            go_roundw
            case rel => exact ⟨k + 1, by omega, by go_num, Lib.hid (by rw [take_snoc HX.out, take_snoc HY.out, HT.out]), below_drewN' HB.out _⟩
            case measure => simp [intOf]; omega
          · have hne : (r == r') = false := beq_eq_false_iff_ne.2 e2
            have HNE : Hid (L ≠ M) := Lib.hid (fun e => by rw [e] at HX; have := HX.out.symm.trans HY.out; cases this; exact e2 rfl)
            clear e2
            go_wp2
            go_quiet (fail)
            go_wp2
            go_ret
            exact says_b (decide_eq_false HNE.out) (below_drewN' HB.out _)
        · have hne : (u.toList == u'.toList) = false := by rw [ByteArray.toList_eq, ByteArray.toList_eq]; exact ne_kb e1
          have hne' : ¬ u.toList = u'.toList := beq_eq_false_iff_ne.1 hne
          have HNE : Hid (L ≠ M) := Lib.hid (fun e => by rw [e] at HX; have := HX.out.symm.trans HY.out; cases this; exact e1 rfl)
          clear e1
          go_wp2
          go_quiet (fail)
          go_wp2
          go_ret
          exact says_b (decide_eq_false HNE.out) (below_drewN' HB.out _)
      · have h5 : ¬ (k : Int) < (N : Int) := by omega
        have HE : Hid (L = M) := by
          have h := HT.out
          rw [List.take_of_length_le (by rw [H.out.1]; omega), List.take_of_length_le (by rw [H2.out.1]; omega)] at h
          exact h
        go_wp2
        go_ret
        exact says_b (decide_eq_true HE.out) HB.out
  · have hlb : ((N : Int) != (N2 : Int)) = true := bne_iff_ne.2 (by omega)
    have HNE : Hid (L ≠ M) := Lib.hid (fun e => hlen (by rw [← H.out.1, ← H2.out.1, e]))
    clear hlen
    go_enter Try.func33, Try.ntmps33
    go_wp2
    go_ret
    exact says_b (decide_eq_false HNE.out) (Below.refl _ _)

theorem valG_skip {L : List Gr} {k : Nat} {g : Gr} {u : ByteArray} (hg : L[k]? = some g) (hne : g.1 ≠ u) : valG (L.drop k) u = valG (L.drop (k + 1)) u := by
  obtain ⟨hk, rfl⟩ := List.getElem?_eq_some_iff.1 hg
  rw [List.drop_eq_getElem_cons hk, valG, if_neg (fun e => hne (kb_inj e))]
theorem valG_here {L : List Gr} {k : Nat} {g : Gr} (hg : L[k]? = some g) : valG (L.drop k) g.1 = g.2 := by
  obtain ⟨hk, rfl⟩ := List.getElem?_eq_some_iff.1 hg
  rw [List.drop_eq_getElem_cons hk, valG, if_pos rfl]
theorem ret_i {a b : Int} (h : a = b) : Ending.returned (.int .i64 a) = .returned (.int .i64 b) := by rw [h]
set_option maxRecDepth 20000 in
set_option maxHeartbeats 4000000 in
theorem grant_of {A : Option Addr} {N cap : Nat} {L : List Gr} (u : ByteArray) (w : World) (h : GIn w A N cap L) :
    Calls Try.prog 34 #[.slice A N cap, .string u] w (SayI w (valG L u)) := by
  have H := Lib.hid h
  have hl := h.2.1
  clear h
  go_enter Try.func34, Try.ntmps34
  go_wp2
  go_loopw [5] (fun i wr => ∃ k : Nat, k ≤ N ∧ i = .int .i64 (k : Int) ∧ Hid (valG L u = valG (L.drop k) u) ∧ wr = w) (fun i _ => N - (intOf i).toNat)
  case atStart => exact ⟨0, Nat.zero_le _, by go_num, rfl, rfl⟩
  case round =>
    obtain ⟨k, hk, rfl, HT, rfl⟩ := hrel
    by_cases hlt : k < N
    · have h0 : (0 : Int) ≤ (k : Int) := by omega
      have h5 : (k : Int) < (N : Int) := by omega
      obtain ⟨⟨v, r⟩, hx⟩ : ∃ x, L[k]? = some x := ⟨_, List.getElem?_eq_getElem (by rw [H.out.1]; exact hlt)⟩
      obtain ⟨b, o, rfl, hb, c0, c1⟩ := grant_at H.out.2.2.1 hx
      have HX := Lib.hid hx
      clear hx
      by_cases e1 : v = u
      · subst e1
        go_wp2
        go_ret
        exact ⟨ret_i (by rw [HT.out]; exact (valG_here HX.out).symm), Below.refl _ _⟩
      · have hne : (v.toList == u.toList) = false := by rw [ByteArray.toList_eq, ByteArray.toList_eq]; exact ne_kb e1
        have hne' : ¬ v.toList = u.toList := beq_eq_false_iff_ne.1 hne
        have HE := Lib.hid (HT.out.trans (valG_skip HX.out e1))
        clear e1
        go_wp2
        go_roundw
        case rel => exact ⟨k + 1, by omega, by go_num, HE.out, trivial⟩
        case measure => simp [intOf]; omega
    · have h5 : ¬ (k : Int) < (N : Int) := by omega
      have HE : Hid (valG L u = 0) := Lib.hid (by rw [HT.out, List.drop_eq_nil_of_le (by rw [H.out.1]; omega)]; rfl)
      go_wp2
      go_ret
      exact ⟨ret_i HE.out.symm, Below.refl _ _⟩
end Go.Proofs.Ytnnmnphmbjfopaa
