/-
  The contracts of PlainParse, of the code and of the model. Conditions: bounds on the texts' lengths.
-/
import Derived.Test.YtmangdkaklnpdaaPmake
namespace Go.Proofs.Ytmangdkaklnpdaa
open Go.RowKit
set_option linter.unusedVariables false

/-- What a reader of proofs tells. -/
def IsPP (s : ByteArray) (o : Bool) (u p : ByteArray) : Prop := PP s.data.toList o u.data.toList p.data.toList
theorem isPP_any (s : ByteArray) : ∃ o u p, IsPP s o u p := by
  obtain ⟨o, u, p, h⟩ := pp_any s.data.toList
  exact ⟨o, bt u, bt p, h⟩
theorem isPP_one {s u p v q : ByteArray} {o r : Bool} (h : IsPP s o u p) (k : IsPP s r v q) : o = r ∧ u = v ∧ p = q := by
  obtain ⟨h1, h2, h3⟩ := pp_one h k
  exact ⟨h1, by rw [← bt_of u, h2, bt_of], by rw [← bt_of p, h3, bt_of]⟩
def Gives3 (w : World) (u p : ByteArray) (o : Bool) (e : Ending) (w' : World) : Prop := e = .returned (.tuple #[.string u, .string p, .bool o]) ∧ Below w.heap.size w w'
theorem gives3_mk {w w' : World} {s u p v q : ByteArray} {o r : Bool} (h : IsPP s o u p) (k : IsPP s r v q) (hb : Below w.heap.size w w') : Gives3 w u p o (.returned (.tuple #[.string v, .string q, .bool r])) w' := by
  obtain ⟨h1, h2, h3⟩ := isPP_one h k
  subst h1
  subst h2
  subst h3
  exact ⟨rfl, hb⟩
theorem isPP_fail {s x : ByteArray} (hd : IsD s true x) (h : ¬ Reads x.data.toList) : IsPP s false ⟨#[]⟩ ⟨#[]⟩ := pp_fails hd h
theorem isPP_off {s x : ByteArray} (hd : IsD s false x) : IsPP s false ⟨#[]⟩ ⟨#[]⟩ := pp_off hd

theorem takz_at {b k : Nat} {x : ByteArray} {w : World} {r : Bool} (hn : nextIs x.data.toList k 0 = r) (h : Cur w b x k) (hs : x.size ≤ 16777216) (hk : k ≤ x.size) :
    Calls Try.prog 53 #[.pointer (some ⟨b, 0, none⟩), .int .u8 0] w (Took w b x (if r then k + 1 else k) r) := by
  have h1 := take_any b k x 0 w h hs hk
  rw [hn] at h1
  exact h1
set_option maxHeartbeats 4000000 in
theorem iplain {s u p : ByteArray} {o : Bool} (h : IsPP s o u p) (w : World) (hs : s.size ≤ 16777216) : Calls Try.prog 42 #[.string s] w (Gives3 w u p o) := by
  have HP := Lib.hid h
  clear h
  obtain ⟨ok, x, hd⟩ := isD_any s
  have hx30 := isD_le hd
  have hx4 : x.size ≤ 16777216 := by omega
  have HDD := Lib.hid hd
  cases ok with
  | false =>
    have HN := Lib.hid (isPP_off hd)
    clear hd
    go_enter Try.func42, Try.ntmps42
    go_wp2_with fail
    refine (idec_loop HDD.out _ hs).mono ?_
    rintro e w1 ⟨rfl, hb⟩
    have HB := Lib.hid hb
    clear hb
    go_wp2
    go_ret3
    exact gives3_mk HP.out HN.out (HB.out.alloc HB.out.size _)
  | true =>
    clear hd
    have hl : x.data.toList.length = x.size := by simp
    have HL := Lib.hid hl
    clear hl
    have HF : Hid (¬ Reads x.data.toList → IsPP s false ⟨#[]⟩ ⟨#[]⟩) := Lib.hid (isPP_fail HDD.out)
    cases b0 : nextIs x.data.toList 0 0 with
    | false =>
      have HN := Lib.hid (HF.out (fun h => by rw [h.1] at b0; cases b0))
      have B0 := Lib.hid b0
      clear b0
      go_enter Try.func42, Try.ntmps42
      go_wp2_with fail
      refine (idec_loop HDD.out _ hs).mono ?_
      rintro e w1 ⟨rfl, hb⟩
      have HB := Lib.hid hb
      clear hb
      go_wp2_with fail
      refine (takz_at B0.out (cur_new w1 x) hx4 (Nat.zero_le _)).mono ?_
      rintro e w2 ⟨rfl, hc, hg⟩
      have HB2 := Lib.hid (HB.out.trans ((new_below hg).mono HB.out.size))
      clear hc hg
      go_wp2
      go_ret3
      exact gives3_mk HP.out HN.out HB2.out
    | true =>
      have B0 := Lib.hid b0
      have hk1 : 1 ≤ x.size := by have := nextIs_lt b0; have := HL.out; omega
      clear b0
      cases o1 : okLen (nmLen x.data.toList 1) with
      | false =>
        have HN := Lib.hid (HF.out (fun h => by rw [h.2.1] at o1; cases o1))
        have O1 := Lib.hid o1
        clear o1
        go_enter Try.func42, Try.ntmps42
        go_wp2_with fail
        refine (idec_loop HDD.out _ hs).mono ?_
        rintro e w1 ⟨rfl, hb⟩
        have HB := Lib.hid hb
        clear hb
        go_wp2_with fail
        refine (takz_at B0.out (cur_new w1 x) hx4 (Nat.zero_le _)).mono ?_
        rintro e w2 ⟨rfl, hc, hg⟩
        have HB2 := Lib.hid (HB.out.trans ((new_below hg).mono HB.out.size))
        have HC2 := Lib.hid hc
        have hz := HB.out.size
        clear hc hg
        go_wp2_with fail
        refine (name_no w1.heap.size 1 x _ HC2.out hx4 hk1 O1.out).mono ?_
        rintro e w3 ⟨rfl, hc, hg⟩
        have HB3 := Lib.hid (below_gr HB2.out hg HB2.out.size hz)
        clear hc hg
        go_wp2
        go_ret3
        exact gives3_mk HP.out HN.out HB3.out
      | true =>
        have O1 := Lib.hid o1
        clear o1
        have hk2 : pk x.data.toList ≤ x.size := by have := nmLen_le x.data.toList 1 (by have := HL.out; omega); have := HL.out; unfold pk; omega
        cases b1 : nextIs x.data.toList (pk x.data.toList) 0 with
        | false =>
          have HN := Lib.hid (HF.out (fun h => by rw [h.2.2.1] at b1; cases b1))
          have B1 := Lib.hid b1
          clear b1
          go_enter Try.func42, Try.ntmps42
          go_wp2_with fail
          refine (idec_loop HDD.out _ hs).mono ?_
          rintro e w1 ⟨rfl, hb⟩
          have HB := Lib.hid hb
          clear hb
          go_wp2_with fail
          refine (takz_at B0.out (cur_new w1 x) hx4 (Nat.zero_le _)).mono ?_
          rintro e w2 ⟨rfl, hc, hg⟩
          have HB2 := Lib.hid (HB.out.trans ((new_below hg).mono HB.out.size))
          have HC2 := Lib.hid hc
          have hz := HB.out.size
          clear hc hg
          go_wp2_with fail
          refine (name_yes w1.heap.size 1 x _ HC2.out hx4 hk1 O1.out).mono ?_
          rintro e w3 ⟨v, rfl, hv, hc, hg⟩
          have HB3 := Lib.hid (below_gr HB2.out hg HB2.out.size hz)
          have HC3 := Lib.hid hc
          clear hv hc hg
          go_wp2_with fail
          refine (takz_at B1.out HC3.out hx4 hk2).mono ?_
          rintro e w4 ⟨rfl, hc, hg⟩
          have HB4 := Lib.hid (below_gr HB3.out hg HB3.out.size hz)
          clear hc hg
          go_wp2
          go_ret3
          exact gives3_mk HP.out HN.out HB4.out
        | true =>
          have B1 := Lib.hid b1
          have hk3 : pk x.data.toList + 1 ≤ x.size := by have := nextIs_lt b1; have := HL.out; omega
          clear b1
          cases o2 : okLen (nmLen x.data.toList (pk x.data.toList + 1)) with
          | false =>
            have HN := Lib.hid (HF.out (fun h => by rw [h.2.2.2.1] at o2; cases o2))
            have O2 := Lib.hid o2
            clear o2
            go_enter Try.func42, Try.ntmps42
            go_wp2_with fail
            refine (idec_loop HDD.out _ hs).mono ?_
            rintro e w1 ⟨rfl, hb⟩
            have HB := Lib.hid hb
            clear hb
            go_wp2_with fail
            refine (takz_at B0.out (cur_new w1 x) hx4 (Nat.zero_le _)).mono ?_
            rintro e w2 ⟨rfl, hc, hg⟩
            have HB2 := Lib.hid (HB.out.trans ((new_below hg).mono HB.out.size))
            have HC2 := Lib.hid hc
            have hz := HB.out.size
            clear hc hg
            go_wp2_with fail
            refine (name_yes w1.heap.size 1 x _ HC2.out hx4 hk1 O1.out).mono ?_
            rintro e w3 ⟨v, rfl, hv, hc, hg⟩
            have HB3 := Lib.hid (below_gr HB2.out hg HB2.out.size hz)
            have HC3 := Lib.hid hc
            clear hv hc hg
            go_wp2_with fail
            refine (takz_at B1.out HC3.out hx4 hk2).mono ?_
            rintro e w4 ⟨rfl, hc, hg⟩
            have HB4 := Lib.hid (below_gr HB3.out hg HB3.out.size hz)
            have HC4 := Lib.hid hc
            clear hc hg
            go_wp2_with fail
            refine (name_no w1.heap.size (pk x.data.toList + 1) x _ HC4.out hx4 hk3 O2.out).mono ?_
            rintro e w5 ⟨rfl, hc, hg⟩
            have HB5 := Lib.hid (below_gr HB4.out hg HB4.out.size hz)
            clear hc hg
            go_wp2
            go_ret3
            exact gives3_mk HP.out HN.out HB5.out
          | true =>
            have O2 := Lib.hid o2
            clear o2
            by_cases hd5 : pk x.data.toList + 1 + nmLen x.data.toList (pk x.data.toList + 1) = x.size
            · have HR : Hid (Reads x.data.toList) := Lib.hid ⟨B0.out, O1.out, B1.out, O2.out, by rw [HL.out]; exact hd5⟩
              have HD5 := Lib.hid hd5
              clear hd5
              go_enter Try.func42, Try.ntmps42
              go_wp2_with fail
              refine (idec_loop HDD.out _ hs).mono ?_
              rintro e w1 ⟨rfl, hb⟩
              have HB := Lib.hid hb
              clear hb
              go_wp2_with fail
              refine (takz_at B0.out (cur_new w1 x) hx4 (Nat.zero_le _)).mono ?_
              rintro e w2 ⟨rfl, hc, hg⟩
              have HB2 := Lib.hid (HB.out.trans ((new_below hg).mono HB.out.size))
              have HC2 := Lib.hid hc
              have hz := HB.out.size
              clear hc hg
              go_wp2_with fail
              refine (name_yes w1.heap.size 1 x _ HC2.out hx4 hk1 O1.out).mono ?_
              rintro e w3 ⟨v, rfl, hv, hc, hg⟩
              have HV := Lib.hid hv
              have HB3 := Lib.hid (below_gr HB2.out hg HB2.out.size hz)
              have HC3 := Lib.hid hc
              clear hv hc hg
              go_wp2_with fail
              refine (takz_at B1.out HC3.out hx4 hk2).mono ?_
              rintro e w4 ⟨rfl, hc, hg⟩
              have HB4 := Lib.hid (below_gr HB3.out hg HB3.out.size hz)
              have HC4 := Lib.hid hc
              clear hc hg
              go_wp2_with fail
              refine (name_yes w1.heap.size (pk x.data.toList + 1) x _ HC4.out hx4 hk3 O2.out).mono ?_
              rintro e w5 ⟨v2, rfl, hv, hc, hg⟩
              have HV2 := Lib.hid hv
              have HB5 := Lib.hid (below_gr HB4.out hg HB4.out.size hz)
              have HC5 := Lib.hid hc
              clear hv hc hg
              go_wp2_with fail
              refine (done_yes w1.heap.size _ x _ HC5.out HD5.out).mono ?_
              rintro e w6 ⟨rfl, n, rfl⟩
              go_wp2
              go_ret3
              exact gives3_mk HP.out (show IsPP s true v v2 from by
                have h := pp_reads HDD.out HR.out
                unfold IsPP
                rw [HV.out, HV2.out]
                exact h) (below_drewN' HB5.out _)
            · have HN := Lib.hid (HF.out (fun h => hd5 (by rw [← HL.out]; exact h.2.2.2.2)))
              have HD5 : Hid (pk x.data.toList + 1 + nmLen x.data.toList (pk x.data.toList + 1) < x.size) := Lib.hid (by
                have := nmLen_le x.data.toList (pk x.data.toList + 1) (by have := HL.out; omega)
                have := HL.out
                omega)
              clear hd5
              go_enter Try.func42, Try.ntmps42
              go_wp2_with fail
              refine (idec_loop HDD.out _ hs).mono ?_
              rintro e w1 ⟨rfl, hb⟩
              have HB := Lib.hid hb
              clear hb
              go_wp2_with fail
              refine (takz_at B0.out (cur_new w1 x) hx4 (Nat.zero_le _)).mono ?_
              rintro e w2 ⟨rfl, hc, hg⟩
              have HB2 := Lib.hid (HB.out.trans ((new_below hg).mono HB.out.size))
              have HC2 := Lib.hid hc
              have hz := HB.out.size
              clear hc hg
              go_wp2_with fail
              refine (name_yes w1.heap.size 1 x _ HC2.out hx4 hk1 O1.out).mono ?_
              rintro e w3 ⟨v, rfl, hv, hc, hg⟩
              have HB3 := Lib.hid (below_gr HB2.out hg HB2.out.size hz)
              have HC3 := Lib.hid hc
              clear hv hc hg
              go_wp2_with fail
              refine (takz_at B1.out HC3.out hx4 hk2).mono ?_
              rintro e w4 ⟨rfl, hc, hg⟩
              have HB4 := Lib.hid (below_gr HB3.out hg HB3.out.size hz)
              have HC4 := Lib.hid hc
              clear hc hg
              go_wp2_with fail
              refine (name_yes w1.heap.size (pk x.data.toList + 1) x _ HC4.out hx4 hk3 O2.out).mono ?_
              rintro e w5 ⟨v2, rfl, hv, hc, hg⟩
              have HB5 := Lib.hid (below_gr HB4.out hg HB4.out.size hz)
              have HC5 := Lib.hid hc
              clear hv hc hg
              go_wp2_with fail
              refine (done_no w1.heap.size _ x _ HC5.out HD5.out).mono ?_
              rintro e w6 ⟨rfl, n, rfl⟩
              go_wp2
              go_ret3
              exact gives3_mk HP.out HN.out (below_drewN' HB5.out _)
end Go.Proofs.Ytmangdkaklnpdaa
