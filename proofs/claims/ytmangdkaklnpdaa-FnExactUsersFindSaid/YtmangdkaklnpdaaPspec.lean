/-
  The contract of the model's PlainParse. Condition: a bound on the text's length.
-/
import Derived.Test.YtmangdkaklnpdaaPparse
import Derived.RegionTactic
namespace Go.Proofs.Ytmangdkaklnpdaa
open Go.RowKit
set_option linter.unusedVariables false

theorem three_of {α : Type} {l : List α} (d : α) (h : l.length = 3) : l = [l.getD 0 d, l.getD 1 d, l.getD 2 d] := by
  match l, h with
  | [a, b, c], _ => rfl
theorem isPP_cut {s x : ByteArray} (hd : IsD s true x) (h : ∀ u p, cut 0 x.data.toList = [[], u, p] → nameB u = true → nameB p = true → False) : IsPP s false ⟨#[]⟩ ⟨#[]⟩ := pp_no hd fun _ => h

set_option maxHeartbeats 4000000 in
theorem splain {s u p : ByteArray} {o : Bool} (h : IsPP s o u p) (w : World) (hs : s.size ≤ 16777216) : Calls Try.prog 48 #[.string s] w (Gives3 w u p o) := by
  have HP := Lib.hid h
  clear h
  obtain ⟨ok, x, hd⟩ := isD_any s
  have hx30 := isD_le hd
  have hx4 : x.size ≤ 16777216 := by omega
  have HDD := Lib.hid hd
  go_enter Try.func48, Try.ntmps48
  go_wp2_with fail
  refine (sdec HDD.out _ hs).mono ?_
  rintro e w1 ⟨rfl, hb⟩
  have HB := Lib.hid hb
  clear hb
  go_wp2_with fail
  refine (cut_any x 0 _ hx4).mono ?_
  rintro e w2 ⟨g, cap, rfl, hg, hgl, hc, hb⟩
  have HB2 := Lib.hid (HB.out.trans (hb.mono HB.out.size))
  have hcl := cut_len 0 x.data.toList
  have hle : ∀ y ∈ cut 0 x.data.toList, y.length ≤ 16777216 := fun y hy => by
    have := cut_le hy
    have hl : x.data.toList.length = x.size := by simp
    omega
  obtain ⟨ps, hps⟩ : ∃ ps, cut 0 x.data.toList = ps := ⟨_, rfl⟩
  rw [hps] at hc hcl hle ⊢
  have hpl : ps.length ≤ 31 := by
    have hl : x.data.toList.length = x.size := by simp
    omega
  have HPS := Lib.hid hps
  clear hb hps hcl
  cases ok with
  | false =>
    have HN := Lib.hid (isPP_off hd)
    clear hd hc hle
    go_wp2
    go_ret3
    exact gives3_mk HP.out HN.out HB2.out
  | true =>
    clear hd
    have HF : Hid ((∀ u p, ps = [[], u, p] → nameB u = true → nameB p = true → False) → IsPP s false ⟨#[]⟩ ⟨#[]⟩) := Lib.hid (fun h => isPP_cut HDD.out (by rw [HPS.out]; exact h))
    by_cases h3 : ps.length = 3
    · have hth := three_of [] h3
      have hc0 := hc 0 (by omega)
      have hc1 := hc 1 (by omega)
      have hc2 := hc 2 (by omega)
      have l1 : (ps.getD 1 []).length ≤ 16777216 := hle _ (part_mem [] (by omega) rfl)
      have l2 : (ps.getD 2 []).length ≤ 16777216 := hle _ (part_mem [] (by omega) rfl)
      obtain ⟨a0, ha0⟩ : ∃ a, ps.getD 0 [] = a := ⟨_, rfl⟩
      obtain ⟨a1, ha1⟩ : ∃ a, ps.getD 1 [] = a := ⟨_, rfl⟩
      obtain ⟨a2, ha2⟩ : ∃ a, ps.getD 2 [] = a := ⟨_, rfl⟩
      rw [ha0, ha1, ha2] at hth
      rw [ha0] at hc0
      rw [ha1] at hc1 l1
      rw [ha2] at hc2 l2
      obtain ⟨v0, hv0⟩ : ∃ v, bt a0 = v := ⟨_, rfl⟩
      obtain ⟨v1, hv1⟩ : ∃ v, bt a1 = v := ⟨_, rfl⟩
      obtain ⟨v2, hv2⟩ : ∃ v, bt a2 = v := ⟨_, rfl⟩
      have c0 : w2.cell? ⟨g, 0, none⟩ = some (.string v0) := by rw [hc0, ← hv0]; rfl
      have c1 : w2.cell? ⟨g, 1, none⟩ = some (.string v1) := by rw [hc1, ← hv1]; rfl
      have c2 : w2.cell? ⟨g, 2, none⟩ = some (.string v2) := by rw [hc2, ← hv2]; rfl
      have s1 : v1.size ≤ 16777216 := by rw [← hv1]; exact l1
      have s2 : v2.size ≤ 16777216 := by rw [← hv2]; exact l2
      have HTH := Lib.hid hth
      have e1 : v1.data.toList = a1 := by rw [← hv1]; rfl
      have e2 : v2.data.toList = a2 := by rw [← hv2]; rfl
      have HE1 := Lib.hid e1
      have HE2 := Lib.hid e2
      have hz0 : v0.size = a0.length := by rw [← hv0]; rfl
      clear hc hle hc0 hc1 hc2 ha0 ha1 ha2 hth hv0 hv1 hv2 e1 e2 l1 l2
      rw [h3]
      clear h3 hpl
      by_cases h0 : v0.size = 0
      · obtain ⟨q1, q2⟩ := isEmpty h0
        have HA0 : Hid (a0 = []) := Lib.hid (List.eq_nil_of_length_eq_zero (by omega))
        clear h0 hz0
        cases b1 : nameB a1 with
        | false =>
          have HN := Lib.hid (HF.out (fun u p h hu hp => by
            rw [HTH.out] at h
            simp only [List.cons.injEq, and_true] at h
            rw [← h.2.1, b1] at hu
            cases hu))
          have B1 := Lib.hid b1
          clear b1
          go_wp2_with fail
          refine (spec_name v1 _ s1).mono ?_
          rintro e w3 ⟨rfl, rfl⟩
          rw [HE1.out, B1.out]
          go_wp2
          go_ret3
          exact gives3_mk HP.out HN.out HB2.out
        | true =>
          have B1 := Lib.hid b1
          clear b1
          cases b2 : nameB a2 with
          | false =>
            have HN := Lib.hid (HF.out (fun u p h hu hp => by
              rw [HTH.out] at h
              simp only [List.cons.injEq, and_true] at h
              rw [← h.2.2, b2] at hp
              cases hp))
            have B2 := Lib.hid b2
            clear b2
            go_wp2_with fail
            refine (spec_name v1 _ s1).mono ?_
            rintro e w3 ⟨rfl, rfl⟩
            rw [HE1.out, B1.out]
            go_wp2_with fail
            refine (spec_name v2 _ s2).mono ?_
            rintro e w3 ⟨rfl, rfl⟩
            rw [HE2.out, B2.out]
            go_wp2
            go_ret3
            exact gives3_mk HP.out HN.out HB2.out
          | true =>
            have B2 := Lib.hid b2
            clear b2
            have HY : Hid (IsPP s true v1 v2) := Lib.hid (by
              unfold IsPP
              rw [HE1.out, HE2.out]
              exact pp_yes HDD.out (by rw [HPS.out, HTH.out, HA0.out]) B1.out B2.out)
            go_wp2_with fail
            refine (spec_name v1 _ s1).mono ?_
            rintro e w3 ⟨rfl, rfl⟩
            rw [HE1.out, B1.out]
            go_wp2_with fail
            refine (spec_name v2 _ s2).mono ?_
            rintro e w3 ⟨rfl, rfl⟩
            rw [HE2.out, B2.out]
            go_wp2
            go_quiet (fail)
            go_wp2
            go_ret3
            exact gives3_mk HP.out HY.out (below_drewN' HB2.out _)
      · obtain ⟨q1, q2⟩ := noEmpty h0
        have HN := Lib.hid (HF.out (fun u p h hu hp => by
          rw [HTH.out] at h
          simp only [List.cons.injEq, and_true] at h
          rw [h.1] at hz0
          exact h0 hz0))
        clear h0 hz0
        go_wp2
        go_ret3
        exact gives3_mk HP.out HN.out HB2.out
    · have h3' : ((ps.length : Int) != 3) = true := by simp; omega
      have HN := Lib.hid (HF.out (fun u p h hu hp => h3 (by rw [h]; rfl)))
      clear h3 hc hle
      go_wp2
      go_ret3
      exact gives3_mk HP.out HN.out HB2.out
end Go.Proofs.Ytmangdkaklnpdaa
