/-
  The contract of the model's AclSet. Condition: the grants can be read, and are not too many.
-/
import Derived.Test.YtnnmnphmbjfopaaGr
namespace Go.Proofs.Ytnnmnphmbjfopaa
open Go.RowKit
set_option linter.unusedVariables false

/-- Has a grant been met that comes not ahead of the user's? -/
def stP (P : List Gr) (u : ByteArray) (r : Int) : Bool := (r == 0) || P.any fun g => !ltG g.1 u
/-- What is told of the first grants. -/
def stO (P : List Gr) (u : ByteArray) (r : Int) : List Gr := if r = 0 then delG P u else if (P.any fun g => !ltG g.1 u) then insG P u r else P
theorem delG_snoc (P : List Gr) (g : Gr) (u : ByteArray) : delG (P ++ [g]) u = if g.1 = u then delG P u else delG P u ++ [g] := by
  unfold delG
  rw [List.filter_append]
  by_cases h : g.1 = u
  · rw [if_pos h, List.filter_cons, h]
    simp
  · rw [if_neg h, List.filter_cons, ne_kb h]
    simp
theorem asc_all {P : List Gr} {g : Gr} (h : ascG (P ++ [g])) : ∀ x ∈ P, ltG x.1 g.1 = true := fun x hx => (List.pairwise_append.1 h).2.2 x hx g (by simp)
theorem stP_zero {P : List Gr} {u : ByteArray} : stP P u 0 = true := rfl
theorem ge_ne {a u : ByteArray} (h : ltG a u = false) (hne : a ≠ u) : ltG u a = true := ltG_total h hne
/-- The user's grant is set ahead of this one. -/
theorem st_here {P : List Gr} {g : Gr} {u : ByteArray} {r : Int} (ha : ascG (P ++ [g])) (hp : stP P u r = false) (hg : ltG g.1 u = false) :
    stP (P ++ [g]) u r = true ∧ stO P u r = P ∧ stO (P ++ [g]) u r = if g.1 = u then P ++ [(u, r)] else P ++ [(u, r)] ++ [g] := by
  unfold stP at hp
  rw [Bool.or_eq_false_iff] at hp
  have hr : r ≠ 0 := beq_eq_false_iff_ne.1 hp.1
  have hpl : ∀ x ∈ P, ltG x.1 u = true := fun x hx => by
    have := List.any_eq_false.1 hp.2 x hx
    simpa using this
  have hany : ((P ++ [g]).any fun g => !ltG g.1 u) = true := by rw [List.any_append]; simp [hg]
  refine ⟨by unfold stP; rw [hany]; simp, by unfold stO; rw [if_neg hr, hp.2]; rfl, ?_⟩
  unfold stO
  rw [if_neg hr, if_pos hany]
  unfold insG
  have f1 : (P ++ [g]).filter (fun g => ltG g.1 u) = P := by
    rw [List.filter_append, List.filter_eq_self.2 hpl, List.filter_cons, hg]
    simp
  have f2 : P.filter (fun g => ltG u g.1) = [] := List.filter_eq_nil_iff.2 fun x hx => by rw [ltG_asymm (hpl x hx)]; simp
  rw [f1, List.filter_append, f2, List.nil_append, List.filter_cons]
  by_cases h : g.1 = u
  · rw [if_pos h, h, ltG_irrefl]
    simp
  · rw [if_neg h, ge_ne hg h]
    simp
/-- The user's grant comes later. -/
theorem st_later {P : List Gr} {g : Gr} {u : ByteArray} {r : Int} (hp : stP P u r = false) (hg : ltG g.1 u = true) :
    stP (P ++ [g]) u r = false ∧ g.1 ≠ u ∧ stO (P ++ [g]) u r = stO P u r ++ [g] := by
  unfold stP at hp ⊢
  rw [Bool.or_eq_false_iff] at hp
  have hr : r ≠ 0 := beq_eq_false_iff_ne.1 hp.1
  have hany : ((P ++ [g]).any fun g => !ltG g.1 u) = false := by rw [List.any_append, hp.2]; simp [hg]
  refine ⟨by rw [hany, hp.1]; rfl, ltG_ne hg, ?_⟩
  unfold stO
  rw [if_neg hr, if_neg hr, hp.2, hany]
  simp
/-- The user's grant was set, or none is. -/
theorem st_past {P : List Gr} {g : Gr} {u : ByteArray} {r : Int} (ha : ascG (P ++ [g])) (hp : stP P u r = true) :
    stP (P ++ [g]) u r = true ∧ stO (P ++ [g]) u r = if g.1 = u then stO P u r else stO P u r ++ [g] := by
  by_cases hr : r = 0
  · subst hr
    refine ⟨rfl, ?_⟩
    unfold stO
    rw [if_pos rfl, if_pos rfl]
    exact delG_snoc P g u
  · unfold stP at hp ⊢
    have h0 : (r == 0) = false := beq_eq_false_iff_ne.2 hr
    rw [h0, Bool.false_or] at hp ⊢
    have hany : ((P ++ [g]).any fun g => !ltG g.1 u) = true := by rw [List.any_append, hp]; rfl
    refine ⟨hany, ?_⟩
    obtain ⟨x, hx, hxu⟩ := List.any_eq_true.1 hp
    have hxu : ltG x.1 u = false := by simpa using hxu
    have hgx := asc_all ha x hx
    have hug : ltG u g.1 = true := by
      by_cases h : x.1 = u
      · rw [← h]; exact hgx
      · exact ltG_trans (ge_ne hxu h) hgx
    have hgu : g.1 ≠ u := fun e => by rw [e, ltG_irrefl] at hug; cases hug
    rw [if_neg hgu]
    unfold stO
    rw [if_neg hr, if_neg hr, if_pos hany, if_pos hp]
    unfold insG
    rw [List.filter_append, List.filter_append, List.filter_cons, List.filter_cons, ltG_asymm hug, hug]
    simp
theorem st_end {L : List Gr} {u : ByteArray} {r : Int} (hp : stP L u r = true) : stO L u r = setG L u r := by
  unfold stO setG
  by_cases hr : r = 0
  · rw [if_pos hr, if_pos hr]
  · rw [if_neg hr, if_neg hr]
    unfold stP at hp
    rw [show (r == 0) = false from beq_eq_false_iff_ne.2 hr, Bool.false_or] at hp
    rw [if_pos hp]
theorem st_last {L : List Gr} {u : ByteArray} {r : Int} (hp : stP L u r = false) : stO L u r ++ [(u, r)] = setG L u r := by
  unfold stP at hp
  rw [Bool.or_eq_false_iff] at hp
  have hr : r ≠ 0 := beq_eq_false_iff_ne.1 hp.1
  have hpl : ∀ x ∈ L, ltG x.1 u = true := fun x hx => by
    have := List.any_eq_false.1 hp.2 x hx
    simpa using this
  unfold stO setG
  rw [if_neg hr, if_neg hr, hp.2]
  unfold insG
  rw [List.filter_eq_self.2 hpl, List.filter_eq_nil_iff.2 (fun x hx => by rw [ltG_asymm (hpl x hx)]; simp)]
  rfl
theorem stO_len (P : List Gr) (u : ByteArray) (r : Int) (ha : ascG P) : (stO P u r).length ≤ P.length + 1 := by
  unfold stO
  split
  · exact Nat.le_succ_of_le (List.length_filter_le _ _)
  · split
    · rw [insG_len ha]; split <;> omega
    · omega
theorem vG_set {L : List Gr} {u : ByteArray} {r : Int} (hv : vG L = true) (hn : nameB (kb u) = true) (hr : isR r = true) : vG (setG L u r) = decide ((setG L u r).length ≤ 4) := by
  obtain ⟨h4, hok, ha⟩ := vG_iff.1 hv
  by_cases hl : (setG L u r).length ≤ 4
  · rw [decide_eq_true hl]
    refine vG_iff.2 ⟨hl, ?_, setG_asc ha u r⟩
    unfold setG
    split
    · exact fun g hg => hok g (delG_mem.1 hg).1
    · rename_i h0
      refine insG_ok hok ?_
      rw [okG_eq, hn, hr, show (r != 0) = true from bne_iff_ne.2 h0]
      rfl
  · rw [vG_long hl, decide_eq_false hl]
theorem sright_at {r : Int} {z : Bool} (h : isR r = z) (w : World) : Calls Try.prog 49 #[.int .i64 r] w fun e w' => e = .returned (.bool z) ∧ w' = w := by
  subst h
  exact spec_isr r w
set_option maxRecDepth 20000 in
set_option maxHeartbeats 4000000 in
theorem spec_aclset_no {A : Option Addr} {N cap : Nat} {L : List Gr} (u : ByteArray) (r : Int) (w : World) (h : GIn w A N cap L) (hu : u.size ≤ 16777216) (hno : (vG L && (nameB (kb u) && isR r)) = false) :
    Calls Try.prog 32 #[.slice A N cap, .string u, .int .i64 r] w (GivesGB w [] false) := by
  have H := Lib.hid h
  clear h
  cases hv : vG L with
  | false =>
    have HV := Lib.hid hv
    clear hv hno
    go_enter Try.func32, Try.ntmps32
    go_wp2_with fail
    refine (aclsv_at HV.out _ H.out).mono ?_
    rintro e w1 ⟨rfl, hb⟩
    have HB1 := Lib.hid hb
    have HO : Hid (ROwn grR (w1.alloc (.cells #[] 40)) w.heap.size (.slice (some ⟨w1.heap.size, 0, none⟩) 0 0) []) := Lib.hid (ROwn.lit w1 _ hb.size rfl)
    have HBA := Lib.hid (HB1.out.alloc HB1.out.size (.cells #[] 40))
    clear hb
    go_wp2
    go_ret2
    exact ⟨_, 0, 0, rfl, HO.out, HBA.out⟩
  | true =>
    have HV := Lib.hid hv
    rw [hv, Bool.true_and] at hno
    cases hn : nameB (kb u) with
    | false =>
      have HN := Lib.hid hn
      clear hv hno hn
      go_enter Try.func32, Try.ntmps32
      go_wp2_with fail
      refine (aclsv_at HV.out _ H.out).mono ?_
      rintro e w1 ⟨rfl, hb⟩
      have HB1 := Lib.hid hb
      have HO : Hid (ROwn grR (w1.alloc (.cells #[] 40)) w.heap.size (.slice (some ⟨w1.heap.size, 0, none⟩) 0 0) []) := Lib.hid (ROwn.lit w1 _ hb.size rfl)
      have HBA := Lib.hid (HB1.out.alloc HB1.out.size (.cells #[] 40))
      clear hb
      go_wp2_with fail
      refine (sname_at HN.out hu _).mono ?_
      rintro e w2 ⟨rfl, hw2⟩
      subst hw2
      go_wp2
      go_ret2
      exact ⟨_, 0, 0, rfl, HO.out, HBA.out⟩
    | true =>
      have HN := Lib.hid hn
      have HR : Hid (isR r = false) := Lib.hid (by rw [hn, Bool.true_and] at hno; exact hno)
      clear hv hno hn
      go_enter Try.func32, Try.ntmps32
      go_wp2_with fail
      refine (aclsv_at HV.out _ H.out).mono ?_
      rintro e w1 ⟨rfl, hb⟩
      have HB1 := Lib.hid hb
      have HO : Hid (ROwn grR (w1.alloc (.cells #[] 40)) w.heap.size (.slice (some ⟨w1.heap.size, 0, none⟩) 0 0) []) := Lib.hid (ROwn.lit w1 _ hb.size rfl)
      have HBA := Lib.hid (HB1.out.alloc HB1.out.size (.cells #[] 40))
      clear hb
      go_wp2_with fail
      refine (sname_at HN.out hu _).mono ?_
      rintro e w2 ⟨rfl, hw2⟩
      subst hw2
      go_wp2_with fail
      refine (sright_at HR.out _).mono ?_
      rintro e w3 ⟨rfl, hw3⟩
      subst hw3
      go_wp2
      go_ret2
      exact ⟨_, 0, 0, rfl, HO.out, HBA.out⟩
-- GEN
set_option maxRecDepth 20000 in
set_option maxHeartbeats 8000000 in
theorem spec_aclset_yes {A : Option Addr} {N cap : Nat} {L M : List Gr} {zz : Bool} (u : ByteArray) (r : Int) (w : World) (h : GIn w A N cap L) (hu : u.size ≤ 16777216) (hv : vG L = true) (hn : nameB (kb u) = true) (hr : isR r = true)
    (hM : (if (setG L u r).length ≤ 4 then setG L u r else L) = M) (hz : decide ((setG L u r).length ≤ 4) = zz) :
    Calls Try.prog 32 #[.slice A N cap, .string u, .int .i64 r] w (GivesGB w M zz) := by
  have HME := Lib.hid hM
  have HZE := Lib.hid hz
  clear hM hz
  obtain ⟨h4, hok, ha⟩ := vG_iff.1 hv
  obtain ⟨i0, hi, hq0, hq1, hq2⟩ := info_parts Try.infoGrant
  have hN4 : N ≤ 4 := by rw [← h.1]; exact h4
  have H := Lib.hid h
  have HV := Lib.hid hv
  have HN := Lib.hid hn
  have HR := Lib.hid hr
  have HA := Lib.hid ha
  have HVS := Lib.hid (vG_set hv hn hr)
  have HSS := Lib.hid (setG_size (r := r) ha h.2.2.2.2.2 hu)
  have HP0 : Hid (stP (L.take 0) u r = (r == 0)) := Lib.hid (by rw [List.take_zero]; unfold stP; simp)
  have HO0 : Hid (stO (L.take 0) u r = []) := Lib.hid (by
    rw [List.take_zero]
    unfold stO
    split
    · rfl
    · rfl)
  clear h hv hn hr ha h4 hok
  go_enter Try.func32, Try.ntmps32
  go_wp2_with fail
  refine (aclsv_at HV.out _ H.out).mono ?_
  rintro e w1 ⟨rfl, hb⟩
  have HB1 := Lib.hid hb
  have HO1 : Hid (ROwn grR (w1.alloc (.cells #[] 40)) w.heap.size (.slice (some ⟨w1.heap.size, 0, none⟩) 0 0) (stO (L.take 0) u r)) := Lib.hid (by rw [HO0.out]; exact ROwn.lit w1 _ hb.size rfl)
  have HBA := Lib.hid (HB1.out.alloc HB1.out.size (.cells #[] 40))
  clear hb
  go_wp2_with fail
  refine (sname_at HN.out hu _).mono ?_
  rintro e w2 ⟨rfl, hw2⟩
  subst hw2
  go_wp2_with fail
  refine (sright_at HR.out _).mono ?_
  rintro e w3 ⟨rfl, hw3⟩
  subst hw3
  go_wp2
  go_loopw [8, 9, 10] (fun v p i wr => ∃ (k K : Nat) (A8 : Option Addr) (cap8 : Nat) (z : Bool), k ≤ N ∧ K ≤ 5 ∧ v = .slice A8 K cap8 ∧ p = .bool z ∧ i = .int .i64 (k : Int) ∧ Hid (stP (L.take k) u r = z) ∧ Hid (ROwn grR wr w.heap.size (.slice A8 K cap8) (stO (L.take k) u r)) ∧ Hid (Below w.heap.size w wr)) (fun _ _ i _ => N - (intOf i).toNat)
  case atStart => exact ⟨0, 0, _, _, _, Nat.zero_le _, by omega, rfl, rfl, by go_num, HP0, HO1.out, HBA.out⟩
  case round =>
    obtain ⟨k, K, A8, cap8, z, hk, hK, rfl, rfl, rfl, HZ, HO, HB⟩ := hrel
    have hKl : K ≤ k + 1 := by
      have h1 := HO.out.len.1
      have h2 := stO_len (L.take k) u r (List.Pairwise.sublist (List.take_sublist _ _) HA.out)
      rw [List.length_take] at h2
      omega
    by_cases hlt : k < N
    · have h0 : (0 : Int) ≤ (k : Int) := by omega
      have h5 : (k : Int) < (N : Int) := by omega
      obtain ⟨⟨v, x⟩, hx⟩ : ∃ x, L[k]? = some x := ⟨_, List.getElem?_eq_getElem (by rw [H.out.1]; exact hlt)⟩
      have hasc : ascG (L.take k ++ [(v, x)]) := by rw [← take_snoc hx]; exact List.Pairwise.sublist (List.take_sublist _ _) HA.out
      have HX := Lib.hid hx
      obtain ⟨b, o, rfl, hb, c0, c1⟩ := grant_at (H.out.2.2.1.below HB.out (Nat.le_refl _)) hx
      have HIN := Lib.hid H.out.2.2.1
      clear hx
      cases z with
      | true =>
        obtain ⟨s1, s2⟩ := st_past hasc HZ.out
        rw [← take_snoc HX.out] at s1 s2
        have HS1 := Lib.hid s1
        clear s1 hasc
        by_cases hvu : v = u
        · have HE : Hid (ROwn grR wr w.heap.size (.slice A8 K cap8) (stO (L.take (k + 1)) u r)) := Lib.hid (by rw [s2, if_pos hvu]; exact HO.out)
          subst hvu
          clear s2
          go_wp2
          go_roundw
          case rel => exact ⟨k + 1, K, A8, cap8, true, by omega, hK, rfl, rfl, by go_num, HS1, HE, HB.out⟩
          case measure => simp [intOf]; omega
        · rw [if_neg hvu] at s2
          have HS2 := Lib.hid s2
          have hne : (v.toList == u.toList) = false := by rw [ByteArray.toList_eq, ByteArray.toList_eq]; exact ne_kb hvu
          have hne' : ¬ v.toList = u.toList := beq_eq_false_iff_ne.1 hne
          clear s2 hvu
          have hml7 : K + 1 ≤ maxLen := by unfold maxLen; omega
          have hby7 : (K + 1) * 24 ≤ 140737488355328 := by omega
          have hown7 := HO.out.alloc (.cells #[.string v, .int .i64 x] 40)
          have hnew7 := RAt.made grR wr [(v, x)] wr.heap.size rfl
          have HALL7 := Lib.hid (HB.out.alloc HB.out.size (.cells #[.string v, .int .i64 x] 40))
          have HLN7 := Lib.hid HO.out.len.1.symm
          have hws7 : w.heap.size ≤ wr.heap.size := HB.out.size
          go_wp2_with (at_builtin; refine wpList_append_rows rfl (.tmp 58) (.tmp 63) 29 rfl grR w.heap.size i0 _ 24 Try.underlying29 hi hq0 hq1 hq2 rfl (by decide) _ _ [(v, x)] K HLN7.out rfl hown7 (some ⟨wr.heap.size, 0, none⟩) 1 1 rfl rfl hnew7 (fun e => by cases e) (fun q e => by cases e; rfl) hml7 hby7 (by simp; omega) ?_)
          intro v7 w7 ho7 hg7 _
          obtain ⟨A7, N7, cap7, rfl⟩ := ho7.val
          have HO7 := Lib.hid ho7
          have HB7 : Hid (Below w.heap.size w w7) := Lib.hid (HALL7.out.grown hg7 HALL7.out.size (fun j hj => (World.ownsRow.lt HO.out j hj).1))
          have hl7 : N7 = K + 1 := by have h1 := ho7.len.1; have h2 := HLN7.out; simp only [List.length_append, List.length_cons, List.length_nil] at h1 h2; omega
          subst hl7
          clear ho7 hg7 hown7 hnew7 hml7 hby7
          have HE : Hid (ROwn grR w7 w.heap.size (.slice A7 (K + 1) cap7) (stO (L.take (k + 1)) u r)) := Lib.hid (by rw [HS2.out]; exact HO7.out)
          go_wp2
          go_roundw
          case rel => exact ⟨k + 1, K + 1, A7, cap7, true, by omega, by omega, rfl, rfl, by go_num, HS1, HE, HB7⟩
          case measure => simp [intOf]; omega
      | false =>
        cases hlg : ltG v u with
        | true =>
          have HL := less_is hlg
          obtain ⟨s1, s3, s2⟩ := st_later (g := (v, x)) HZ.out hlg
          rw [← take_snoc HX.out] at s1 s2
          have HS1 := Lib.hid s1
          have HS2 := Lib.hid s2
          have hne : (v.toList == u.toList) = false := by rw [ByteArray.toList_eq, ByteArray.toList_eq]; exact ne_kb s3
          have hne' : ¬ v.toList = u.toList := beq_eq_false_iff_ne.1 hne
          clear s1 s2 s3 hasc hlg
          have hml7 : K + 1 ≤ maxLen := by unfold maxLen; omega
          have hby7 : (K + 1) * 24 ≤ 140737488355328 := by omega
          have hown7 := HO.out.alloc (.cells #[.string v, .int .i64 x] 40)
          have hnew7 := RAt.made grR wr [(v, x)] wr.heap.size rfl
          have HALL7 := Lib.hid (HB.out.alloc HB.out.size (.cells #[.string v, .int .i64 x] 40))
          have HLN7 := Lib.hid HO.out.len.1.symm
          have hws7 : w.heap.size ≤ wr.heap.size := HB.out.size
          go_wp2_with (at_builtin; refine wpList_append_rows rfl (.tmp 58) (.tmp 63) 29 rfl grR w.heap.size i0 _ 24 Try.underlying29 hi hq0 hq1 hq2 rfl (by decide) _ _ [(v, x)] K HLN7.out rfl hown7 (some ⟨wr.heap.size, 0, none⟩) 1 1 rfl rfl hnew7 (fun e => by cases e) (fun q e => by cases e; rfl) hml7 hby7 (by simp; omega) ?_)
          intro v7 w7 ho7 hg7 _
          obtain ⟨A7, N7, cap7, rfl⟩ := ho7.val
          have HO7 := Lib.hid ho7
          have HB7 : Hid (Below w.heap.size w w7) := Lib.hid (HALL7.out.grown hg7 HALL7.out.size (fun j hj => (World.ownsRow.lt HO.out j hj).1))
          have hl7 : N7 = K + 1 := by have h1 := ho7.len.1; have h2 := HLN7.out; simp only [List.length_append, List.length_cons, List.length_nil] at h1 h2; omega
          subst hl7
          clear ho7 hg7 hown7 hnew7 hml7 hby7
          have HE : Hid (ROwn grR w7 w.heap.size (.slice A7 (K + 1) cap7) (stO (L.take (k + 1)) u r)) := Lib.hid (by rw [HS2.out]; exact HO7.out)
          go_wp2
          go_roundw
          case rel => exact ⟨k + 1, K + 1, A7, cap7, false, by omega, by omega, rfl, rfl, by go_num, HS1, HE, HB7⟩
          case measure => simp [intOf]; omega
        | false =>
          have HL := less_is hlg
          obtain ⟨s1, s3, s2⟩ := st_here (r := r) hasc HZ.out hlg
          rw [← take_snoc HX.out] at s1 s2
          have HS1 := Lib.hid s1
          have HOP : Hid (ROwn grR wr w.heap.size (.slice A8 K cap8) (L.take k)) := Lib.hid (by have := HO.out; rw [s3] at this; exact this)
          clear s1 s3 hasc hlg
          have hKk : K ≤ 4 := by have := HOP.out.len.1; rw [List.length_take] at this; omega
          have hml7 : K + 1 ≤ maxLen := by unfold maxLen; omega
          have hby7 : (K + 1) * 24 ≤ 140737488355328 := by omega
          have hown7 := HOP.out.alloc (.cells #[.string u, .int .i64 r] 40)
          have hnew7 := RAt.made grR wr [(u, r)] wr.heap.size rfl
          have HALL7 := Lib.hid (HB.out.alloc HB.out.size (.cells #[.string u, .int .i64 r] 40))
          have HLN7 := Lib.hid HOP.out.len.1.symm
          have hws7 : w.heap.size ≤ wr.heap.size := HB.out.size
          go_wp2_with (at_builtin; refine wpList_append_rows rfl (.tmp 45) (.tmp 49) 29 rfl grR w.heap.size i0 _ 24 Try.underlying29 hi hq0 hq1 hq2 rfl (by decide) _ _ [(u, r)] K HLN7.out rfl hown7 (some ⟨wr.heap.size, 0, none⟩) 1 1 rfl rfl hnew7 (fun e => by cases e) (fun q e => by cases e; rfl) hml7 hby7 (by simp; omega) ?_)
          intro v7 w7 ho7 hg7 _
          obtain ⟨A7, N7, cap7, rfl⟩ := ho7.val
          have HO7 := Lib.hid ho7
          have HB7 : Hid (Below w.heap.size w w7) := Lib.hid (HALL7.out.grown hg7 HALL7.out.size (fun j hj => (World.ownsRow.lt HOP.out j hj).1))
          have hl7 : N7 = K + 1 := by have h1 := ho7.len.1; have h2 := HLN7.out; simp only [List.length_append, List.length_cons, List.length_nil] at h1 h2; omega
          subst hl7
          clear ho7 hg7 hown7 hnew7 hml7 hby7
          obtain ⟨e0, e1⟩ : w7.cell? ⟨b, o + k * 2, none⟩ = some (.string v) ∧ w7.cell? ⟨b, o + k * 2 + 1, none⟩ = some (.int .i64 x) := by
            obtain ⟨b', o', he, _, q0, q1⟩ := grant_at (HIN.out.below HB7.out (Nat.le_refl _)) HX.out
            cases he
            exact ⟨q0, q1⟩
          by_cases hvu : v = u
          · rw [if_pos hvu] at s2
            have HE : Hid (ROwn grR w7 w.heap.size (.slice A7 (K + 1) cap7) (stO (L.take (k + 1)) u r)) := Lib.hid (by rw [s2]; exact HO7.out)
            subst hvu
            clear s2
            go_wp2
            go_roundw
            case rel => exact ⟨k + 1, K + 1, A7, cap7, true, by omega, by omega, rfl, rfl, by go_num, HS1, HE, HB7⟩
            case measure => simp [intOf]; omega
          · rw [if_neg hvu] at s2
            have HS2 := Lib.hid s2
            have hne : (v.toList == u.toList) = false := by rw [ByteArray.toList_eq, ByteArray.toList_eq]; exact ne_kb hvu
            have hne' : ¬ v.toList = u.toList := beq_eq_false_iff_ne.1 hne
            have hK3 : K ≤ 3 := by
              have h1 := HOP.out.len.1
              rw [List.length_take] at h1
              omega
            clear s2 hvu
            have hml9 : (K + 1) + 1 ≤ maxLen := by unfold maxLen; omega
            have hby9 : ((K + 1) + 1) * 24 ≤ 140737488355328 := by omega
            have hown9 := HO7.out.alloc (.cells #[.string v, .int .i64 x] 40)
            have hnew9 := RAt.made grR w7 [(v, x)] w7.heap.size rfl
            have HALL9 := Lib.hid (HB7.out.alloc HB7.out.size (.cells #[.string v, .int .i64 x] 40))
            have HLN9 := Lib.hid HO7.out.len.1.symm
            have hws9 : w.heap.size ≤ w7.heap.size := HB7.out.size
            go_wp2_with (at_builtin; refine wpList_append_rows rfl (.tmp 58) (.tmp 63) 29 rfl grR w.heap.size i0 _ 24 Try.underlying29 hi hq0 hq1 hq2 rfl (by decide) _ _ [(v, x)] (K + 1) HLN9.out rfl hown9 (some ⟨w7.heap.size, 0, none⟩) 1 1 rfl rfl hnew9 (fun e => by cases e) (fun q e => by cases e; rfl) hml9 hby9 (by simp; omega) ?_)
            intro v9 w9 ho9 hg9 _
            obtain ⟨A9, N9, cap9, rfl⟩ := ho9.val
            have HO9 := Lib.hid ho9
            have HB9 : Hid (Below w.heap.size w w9) := Lib.hid (HALL9.out.grown hg9 HALL9.out.size (fun j hj => (World.ownsRow.lt HO7.out j hj).1))
            have hl9 : N9 = (K + 1) + 1 := by have h1 := ho9.len.1; have h2 := HLN9.out; simp only [List.length_append, List.length_cons, List.length_nil] at h1 h2; omega
            subst hl9
            clear ho9 hg9 hown9 hnew9 hml9 hby9
            have HE : Hid (ROwn grR w9 w.heap.size (.slice A9 (K + 1 + 1) cap9) (stO (L.take (k + 1)) u r)) := Lib.hid (by rw [HS2.out]; have := HO9.out; simpa [List.append_assoc] using this)
            go_wp2
            go_roundw
            case rel => exact ⟨k + 1, K + 1 + 1, A9, cap9, true, by omega, by omega, rfl, rfl, by go_num, HS1, HE, HB9⟩
            case measure => simp [intOf]; omega
    · have h5 : ¬ (k : Int) < (N : Int) := by omega
      have htk : L.take k = L := List.take_of_length_le (by rw [H.out.1]; omega)
      rw [htk] at HZ HO
      clear htk
      have HIN := Lib.hid H.out
      cases z with
      | true =>
        have HE : Hid (ROwn grR wr w.heap.size (.slice A8 K cap8) (setG L u r)) := Lib.hid (by rw [← st_end HZ.out]; exact HO.out)
        have HLK := Lib.hid HE.out.len.1
        by_cases hle : K ≤ 4
        · have hl : (setG L u r).length ≤ 4 := by rw [← HLK.out]; exact hle
          have HVT : Hid (vG (setG L u r) = true) := Lib.hid (by rw [HVS.out, decide_eq_true hl])
          have HMM : Hid (setG L u r = M) := Lib.hid (by rw [← HME.out, if_pos hl])
          have HZZ : Hid (true = zz) := Lib.hid (by rw [← HZE.out, decide_eq_true hl])
          have HG := Lib.hid (GIn.of HE.out (by omega) HSS.out)
          clear hl
          go_wp2_with fail
          refine (aclsv_at HVT.out _ HG.out).mono ?_
          rintro e wv ⟨rfl, hbv⟩
          have HBV := Lib.hid (HB.out.trans (hbv.mono HB.out.size))
          have HOV := Lib.hid (HE.out.kept hbv)
          clear hbv
          go_wp2
          go_ret2
          exact ⟨A8, K, cap8, by rw [← HZZ.out]; rfl, by rw [← HMM.out]; exact HOV.out, HBV.out⟩
        · have hl : ¬ (setG L u r).length ≤ 4 := by rw [← HLK.out]; exact hle
          have HVT : Hid (vG (setG L u r) = false) := Lib.hid (by rw [HVS.out, decide_eq_false hl])
          have HMM : Hid (L = M) := Lib.hid (by rw [← HME.out, if_neg hl])
          have HZZ : Hid (false = zz) := Lib.hid (by rw [← HZE.out, decide_eq_false hl])
          have HG := Lib.hid (GIn.of HE.out (by omega) HSS.out)
          clear hl
          go_wp2_with fail
          refine (aclsv_at HVT.out _ HG.out).mono ?_
          rintro e wv ⟨rfl, hbv⟩
          have HBV := Lib.hid (HB.out.trans (hbv.mono HB.out.size))
          have hwv : w.heap.size ≤ wv.heap.size := HBV.out.size
          clear hbv
          have hownz : ROwn grR (wv.alloc (.cells #[] 40)) w.heap.size (.slice (some ⟨wv.heap.size, 0, none⟩) 0 0) [] := ROwn.lit wv _ hwv rfl
          have HALZ := Lib.hid (HBV.out.alloc hwv (.cells #[] 40))
          have hatz := HIN.out.2.2.1.below HALZ.out (Nat.le_refl _)
          have HOZ := Lib.hid hownz
          have hmz : 0 + N ≤ maxLen := by unfold maxLen; omega
          have hbz : (0 + N) * 24 ≤ 140737488355328 := by omega
          go_wp2_with (at_builtin; refine wpList_append_rows rfl (.tmp 76) (.tmp 77) 29 rfl grR w.heap.size i0 _ 24 Try.underlying29 hi hq0 hq1 hq2 rfl (by decide) _ [] L 0 rfl rfl hownz A N cap rfl HIN.out.1 hatz HIN.out.2.2.2.1 HIN.out.2.2.2.2.1 hmz hbz (by simp; omega) ?_)
          intro vz wz hoz hgz _
          obtain ⟨Az, Nz, capz, rfl⟩ := hoz.val
          have HOW := Lib.hid hoz
          have HBW : Hid (Below w.heap.size w wz) := Lib.hid (HALZ.out.grown hgz HALZ.out.size (fun j hj => (World.ownsRow.lt HOZ.out j hj).1))
          clear hoz hgz hownz hatz
          go_wp2
          go_ret2
          exact ⟨Az, Nz, capz, by rw [← HZZ.out]; rfl, by rw [← HMM.out]; exact HOW.out, HBW.out⟩
      | false =>
        have HSL := Lib.hid (st_last HZ.out)
        have hml7 : K + 1 ≤ maxLen := by unfold maxLen; omega
        have hby7 : (K + 1) * 24 ≤ 140737488355328 := by omega
        have hown7 := HO.out.alloc (.cells #[.string u, .int .i64 r] 40)
        have hnew7 := RAt.made grR wr [(u, r)] wr.heap.size rfl
        have HALL7 := Lib.hid (HB.out.alloc HB.out.size (.cells #[.string u, .int .i64 r] 40))
        have HLN7 := Lib.hid HO.out.len.1.symm
        have hws7 : w.heap.size ≤ wr.heap.size := HB.out.size
        go_wp2_with (at_builtin; refine wpList_append_rows rfl (.tmp 67) (.tmp 71) 29 rfl grR w.heap.size i0 _ 24 Try.underlying29 hi hq0 hq1 hq2 rfl (by decide) _ _ [(u, r)] K HLN7.out rfl hown7 (some ⟨wr.heap.size, 0, none⟩) 1 1 rfl rfl hnew7 (fun e => by cases e) (fun q e => by cases e; rfl) hml7 hby7 (by simp; omega) ?_)
        intro v7 w7 ho7 hg7 _
        obtain ⟨A7, N7, cap7, rfl⟩ := ho7.val
        have HO7 := Lib.hid ho7
        have HB7 : Hid (Below w.heap.size w w7) := Lib.hid (HALL7.out.grown hg7 HALL7.out.size (fun j hj => (World.ownsRow.lt HO.out j hj).1))
        have hl7 : N7 = K + 1 := by have h1 := ho7.len.1; have h2 := HLN7.out; simp only [List.length_append, List.length_cons, List.length_nil] at h1 h2; omega
        subst hl7
        clear ho7 hg7 hown7 hnew7 hml7 hby7
        have HE : Hid (ROwn grR w7 w.heap.size (.slice A7 (K + 1) cap7) (setG L u r)) := Lib.hid (by rw [← HSL.out]; exact HO7.out)
        have HLK := Lib.hid HE.out.len.1
        by_cases hle : (K + 1) ≤ 4
        · have hl : (setG L u r).length ≤ 4 := by rw [← HLK.out]; exact hle
          have HVT : Hid (vG (setG L u r) = true) := Lib.hid (by rw [HVS.out, decide_eq_true hl])
          have HMM : Hid (setG L u r = M) := Lib.hid (by rw [← HME.out, if_pos hl])
          have HZZ : Hid (true = zz) := Lib.hid (by rw [← HZE.out, decide_eq_true hl])
          have HG := Lib.hid (GIn.of HE.out (by omega) HSS.out)
          clear hl
          go_wp2_with fail
          refine (aclsv_at HVT.out _ HG.out).mono ?_
          rintro e wv ⟨rfl, hbv⟩
          have HBV := Lib.hid (HB7.out.trans (hbv.mono HB7.out.size))
          have HOV := Lib.hid (HE.out.kept hbv)
          clear hbv
          go_wp2
          go_ret2
          exact ⟨A7, (K + 1), cap7, by rw [← HZZ.out]; rfl, by rw [← HMM.out]; exact HOV.out, HBV.out⟩
        · have hl : ¬ (setG L u r).length ≤ 4 := by rw [← HLK.out]; exact hle
          have HVT : Hid (vG (setG L u r) = false) := Lib.hid (by rw [HVS.out, decide_eq_false hl])
          have HMM : Hid (L = M) := Lib.hid (by rw [← HME.out, if_neg hl])
          have HZZ : Hid (false = zz) := Lib.hid (by rw [← HZE.out, decide_eq_false hl])
          have HG := Lib.hid (GIn.of HE.out (by omega) HSS.out)
          clear hl
          go_wp2_with fail
          refine (aclsv_at HVT.out _ HG.out).mono ?_
          rintro e wv ⟨rfl, hbv⟩
          have HBV := Lib.hid (HB7.out.trans (hbv.mono HB7.out.size))
          have hwv : w.heap.size ≤ wv.heap.size := HBV.out.size
          clear hbv
          have hownz : ROwn grR (wv.alloc (.cells #[] 40)) w.heap.size (.slice (some ⟨wv.heap.size, 0, none⟩) 0 0) [] := ROwn.lit wv _ hwv rfl
          have HALZ := Lib.hid (HBV.out.alloc hwv (.cells #[] 40))
          have hatz := HIN.out.2.2.1.below HALZ.out (Nat.le_refl _)
          have HOZ := Lib.hid hownz
          have hmz : 0 + N ≤ maxLen := by unfold maxLen; omega
          have hbz : (0 + N) * 24 ≤ 140737488355328 := by omega
          go_wp2_with (at_builtin; refine wpList_append_rows rfl (.tmp 76) (.tmp 77) 29 rfl grR w.heap.size i0 _ 24 Try.underlying29 hi hq0 hq1 hq2 rfl (by decide) _ [] L 0 rfl rfl hownz A N cap rfl HIN.out.1 hatz HIN.out.2.2.2.1 HIN.out.2.2.2.2.1 hmz hbz (by simp; omega) ?_)
          intro vz wz hoz hgz _
          obtain ⟨Az, Nz, capz, rfl⟩ := hoz.val
          have HOW := Lib.hid hoz
          have HBW : Hid (Below w.heap.size w wz) := Lib.hid (HALZ.out.grown hgz HALZ.out.size (fun j hj => (World.ownsRow.lt HOZ.out j hj).1))
          clear hoz hgz hownz hatz
          go_wp2
          go_ret2
          exact ⟨Az, Nz, capz, by rw [← HZZ.out]; rfl, by rw [← HMM.out]; exact HOW.out, HBW.out⟩
theorem spec_aclset {A : Option Addr} {N cap : Nat} {L M : List Gr} {z : Bool} {u : ByteArray} {r : Int} (he : aclG L u r = (M, z)) (w : World) (h : GIn w A N cap L) (hu : u.size ≤ 16777216) :
    Calls Try.prog 32 #[.slice A N cap, .string u, .int .i64 r] w (GivesGB w M z) := by
  cases hc : (vG L && (nameB (kb u) && isR r)) with
  | false =>
    rw [aclG_no hc] at he
    cases he
    exact spec_aclset_no u r w h hu hc
  | true =>
    simp only [Bool.and_eq_true] at hc
    rw [aclG_yes hc.1 hc.2.1 hc.2.2] at he
    refine spec_aclset_yes u r w h hu hc.1 hc.2.1 hc.2.2 ?_ ?_
    · split at he <;> cases he <;> simp [*]
    · split at he <;> cases he <;> simp [*]
end Go.Proofs.Ytnnmnphmbjfopaa
