/-
  The contracts of spec.DomainValid, l1Address, AddressParse, AddressText and PathParse. No condition beyond a bound on the text's length.
-/
import Derived.Test.YtclilcbllinbfaaCut
import Derived.Test.YtclilcbllinbfaaParse
import Derived.RegionTactic
import Derived.BigRegion
namespace Go.Proofs.Ytclilcbllinbfaa
open Go.RowKit
set_option linter.unusedVariables false

/-- A domain. -/
def domB (L : List UInt8) : Bool := (cut 46 L).all nameB && decide ((cut 46 L).length ≤ 3) && decide (L.length ≤ 20)
theorem part_mem {α : Type} {l : List α} {x : α} {j : Nat} (d : α) (h : j < l.length) (e : l.getD j d = x) : x ∈ l := by
  rw [List.getD_eq_getElem?_getD, List.getElem?_eq_getElem h] at e
  subst e
  exact List.getElem_mem h
theorem spec_name_str (l : List UInt8) (w : World) (hs : l.length ≤ 16777216) : Calls Try.prog 24 #[str l] w fun e w' => e = .returned (.bool (nameB l)) ∧ w = w' := by
  have := spec_name ⟨l.toArray⟩ w hs
  simpa [str] using this
theorem cutGo_le (c : UInt8) (l : List UInt8) : ∀ cur, ∀ x ∈ cutGo c cur l, x.length ≤ cur.length + l.length := by
  induction l with
  | nil => intro cur x hx; simp [cutGo] at hx; subst hx; simp
  | cons y t ih =>
    intro cur x hx
    unfold cutGo at hx
    split at hx
    · rcases List.mem_cons.1 hx with rfl | h
      · omega
      · have := ih [] x h; simp at this; simp; omega
    · have := ih _ x hx; simp at this; simp; omega
theorem cut_le {c : UInt8} {L x : List UInt8} (h : x ∈ cut c L) : x.length ≤ L.length := by have := cutGo_le c L [] x h; simpa using this
theorem all_tk {α : Type} (f : α → Bool) (L : List α) (k : Nat) (hk : k < L.length) (h : (L.take k).all f = true) (hf : f (L[k]) = true) : (L.take (k + 1)).all f = true := by
  rw [List.take_succ_eq_append_getElem hk, List.all_append, h]
  simp [hf]
theorem all_no {α : Type} (f : α → Bool) (L : List α) (k : Nat) (hk : k < L.length) (h : f L[k] = false) : L.all f = false := by
  rw [← Bool.not_eq_true]
  intro ha
  rw [List.all_eq_true] at ha
  have := ha L[k] (List.getElem_mem hk)
  rw [h] at this
  cases this

set_option maxHeartbeats 2000000 in
theorem spec_domain (s : ByteArray) (w : World) (hs : s.size ≤ 16777216) :
    Calls Try.prog 28 #[.string s] w fun e w' => e = .returned (.bool (domB s.data.toList)) ∧ Below w.heap.size w w' := by
  have hl : s.data.toList.length = s.size := by simp
  have HL := Lib.hid hl
  clear hl
  go_enter Try.func28, Try.ntmps28
  go_wp2_with fail
  refine (cut_any s 46 w hs).mono ?_
  rintro e w1 ⟨g, cap, rfl, hg, hgl, hc, hb⟩
  have hcl := cut_len 46 s.data.toList
  rw [HL.out] at hcl
  obtain ⟨ps, hps⟩ : ∃ ps, cut 46 s.data.toList = ps := ⟨_, rfl⟩
  rw [hps] at hc hcl ⊢
  obtain ⟨n, hn⟩ : ∃ n, ps.length = n := ⟨_, rfl⟩
  rw [hn] at hc hcl ⊢
  have HP := Lib.hid hps
  have HN := Lib.hid hn
  have HC := Lib.hid hc
  have HB := Lib.hid hb
  clear hps hn hc hb
  go_wp2
  go_loop [4] (fun i => ∃ k : Nat, k ≤ n ∧ i = .int .i64 (k : Int) ∧ Hid ((ps.take k).all nameB = true)) (fun i => n - (intOf i).toNat)
  case atStart => exact ⟨0, Nat.zero_le _, by go_num, rfl⟩
  case round =>
    obtain ⟨k, hk, rfl, HA⟩ := hrel
    by_cases hlt : k < n
    · have h0 : (0 : Int) ≤ (k : Int) := by omega
      have h5 : (k : Int) < (n : Int) := by omega
      have hcell := HC.out k hlt
      obtain ⟨x, hx⟩ : ∃ x, ps.getD k [] = x := ⟨_, rfl⟩
      have hxm : Hid (x ∈ cut 46 s.data.toList) := by rw [HP.out]; exact part_mem [] (by rw [HN.out]; exact hlt) hx
      have hxk : Hid (∃ h : k < ps.length, ps[k] = x) := by
        refine ⟨by rw [HN.out]; exact hlt, ?_⟩
        rw [← hx, List.getD_eq_getElem?_getD, List.getElem?_eq_getElem (by rw [HN.out]; exact hlt)]
        rfl
      have hxl : x.length ≤ 16777216 := by have := cut_le hxm.out; rw [HL.out] at this; omega
      rw [hx] at hcell
      unfold str at hcell
      clear hx
      by_cases hnm : nameB x = true
      · have HM := Lib.hid hnm
        clear hnm
        go_wp2_with fail
        refine (spec_name_str x _ hxl).mono ?_
        rintro e w2 ⟨rfl, rfl⟩
        have hnm := HM.out
        go_wp2
        go_round
        case rel =>
          obtain ⟨hk1, hk2⟩ := hxk.out
          exact ⟨k + 1, by omega, by go_num, all_tk nameB ps k hk1 HA.out (by rw [hk2]; exact hnm)⟩
        case measure => simp [intOf]; omega
      · have HM := Lib.hid (Bool.eq_false_iff.2 hnm)
        clear hnm
        go_wp2_with fail
        refine (spec_name_str x _ hxl).mono ?_
        rintro e w2 ⟨rfl, rfl⟩
        have hnm := HM.out
        go_wp2
        go_ret
        refine ⟨ret_bool ?_, HB.out⟩
        obtain ⟨hk1, hk2⟩ := hxk.out
        unfold domB
        rw [HP.out, all_no nameB ps k hk1 (by rw [hk2]; exact hnm)]
        rfl
    · have ha : Hid (ps.all nameB = true) := by
        have h1 := HA.out
        rw [List.take_of_length_le (by rw [HN.out]; omega)] at h1
        exact h1
      clear HA
      by_cases h3 : (n : Int) ≤ 3 <;> by_cases h4 : (s.size : Int) ≤ 20
      all_goals
        go_wp2
        go_ret
        refine ⟨ret_bool ?_, HB.out⟩
        unfold domB
        rw [HP.out, ha.out, HN.out, HL.out]
        first
          | (rw [decide_eq_true (p := n ≤ 3) (by omega), decide_eq_true (p := s.size ≤ 20) (by omega)]; rfl)
          | (rw [decide_eq_false (p := n ≤ 3) (by omega)]; simp)
          | (rw [decide_eq_false (p := s.size ≤ 20) (by omega)]; simp)

theorem str_back (l : List UInt8) : (⟨l.toArray⟩ : ByteArray).data.toList = l := rfl
set_option maxHeartbeats 1000000 in
theorem spec_valid (u d : ByteArray) (w : World) (hu : u.size ≤ 16777216) (hd : d.size ≤ 16777216) :
    Calls Try.prog 52 #[.agg #[.string u, .string d]] w fun e w' => e = .returned (.bool (nameB u.data.toList && domB d.data.toList)) ∧ Below w.heap.size w w' := by
  by_cases hn : nameB u.data.toList = true
  · have HN := Lib.hid hn
    clear hn
    go_enter Try.func52, Try.ntmps52
    go_wp2_with fail
    refine (spec_name u _ hu).mono ?_
    rintro e w1 ⟨rfl, rfl⟩
    rw [HN.out]
    go_wp2_with fail
    refine (spec_domain d _ hd).mono ?_
    rintro e w2 ⟨rfl, hb⟩
    have HB := Lib.hid hb
    clear hb
    go_wp2
    go_ret
    exact ⟨ret_bool (by rw [HN.out]; rfl), ((Below.refl w.heap.size w).alloc (Nat.le_refl _) _).trans (HB.out.mono (by simp))⟩
  · have HN := Lib.hid (Bool.eq_false_iff.2 hn)
    clear hn
    go_enter Try.func52, Try.ntmps52
    go_wp2_with fail
    refine (spec_name u _ hu).mono ?_
    rintro e w1 ⟨rfl, rfl⟩
    rw [HN.out]
    go_wp2
    go_ret
    exact ⟨ret_bool (by rw [HN.out]; rfl), (Below.refl w.heap.size w).alloc (Nat.le_refl _) _⟩

/-- The user and the domain of a text, if there are just two parts. -/
def two (L : List UInt8) : List (List UInt8) := cut 64 L
def spB (L : List UInt8) : Bool := decide ((two L).length = 2) && (nameB ((two L).getD 0 []) && domB ((two L).getD 1 []))
set_option maxHeartbeats 2000000 in
theorem spec_parse (s : ByteArray) (w : World) (hs : s.size ≤ 16777216) :
    Calls Try.prog 32 #[.string s] w (Parsed w (spB s.data.toList) ((two s.data.toList).getD 0 []) ((two s.data.toList).getD 1 [])) := by
  have hl : s.data.toList.length = s.size := by simp
  have HL := Lib.hid hl
  clear hl
  go_enter Try.func32, Try.ntmps32
  go_wp2_with fail
  refine (cut_any s 64 _ hs).mono ?_
  rintro e w1 ⟨g, cap, rfl, hg, hgl, hc, hb⟩
  have ez : (w.alloc (.cells #[.string ⟨#[]⟩, .string ⟨#[]⟩] 30)).heap.size = w.heap.size + 1 := by simp
  rw [ez] at hg hb
  have hcl := cut_len 64 s.data.toList
  rw [HL.out] at hcl
  have hle : ∀ x ∈ cut 64 s.data.toList, x.length ≤ 16777216 := fun x hx => by have := cut_le hx; rw [HL.out] at this; omega
  obtain ⟨ps, hps⟩ : ∃ ps, cut 64 s.data.toList = ps := ⟨_, rfl⟩
  have HP : Hid (two s.data.toList = ps) := hps
  rw [hps] at hc hcl hle ⊢
  have hW := (Whole.made w 30 #[.string ⟨#[]⟩, .string ⟨#[]⟩]).below hb (by omega)
  have hr0 : w1.cell? ⟨w.heap.size, 0, none⟩ = some (.string ⟨#[]⟩) := hW.cell 0
  have hr1 : w1.cell? ⟨w.heap.size, 1, none⟩ = some (.string ⟨#[]⟩) := hW.cell 1
  have hf0 := hW.free 0
  have hf1 := hW.free 1
  have hz1 := hW.lt
  have HW := Lib.hid hW
  have HB := Lib.hid (((Below.refl w.heap.size w).alloc (Nat.le_refl _) _).trans (hb.mono (Nat.le_succ _)))
  clear hW hb ez hps
  by_cases h2 : ps.length = 2
  · have hc0 := hc 0 (by omega)
    have hc1 := hc 1 (by omega)
    obtain ⟨u, hu⟩ : ∃ u, ps.getD 0 [] = u := ⟨_, rfl⟩
    obtain ⟨d, hd⟩ : ∃ d, ps.getD 1 [] = d := ⟨_, rfl⟩
    have hul : u.length ≤ 16777216 := hle u (part_mem [] (by omega) hu)
    have hdl : d.length ≤ 16777216 := hle d (part_mem [] (by omega) hd)
    rw [hu] at hc0
    rw [hd] at hc1
    unfold str at hc0 hc1
    have HU := Lib.hid hu
    have HD := Lib.hid hd
    have H2 := Lib.hid h2
    clear hu hd hle hc
    rw [h2]
    clear h2
    go_wp2
    go_region
    go_wp2_with fail
    refine (spec_valid ⟨u.toArray⟩ ⟨d.toArray⟩ _ hul hdl).mono ?_
    rintro e w2 ⟨rfl, hb⟩
    have ez : ((w1.alloc (.cells #[.string ⟨u.toArray⟩, .string ⟨d.toArray⟩] 30)).drew).heap.size = w1.heap.size + 1 := by simp
    rw [ez] at hb
    have hW2 := (HW.out.alloc (.cells #[.string ⟨u.toArray⟩, .string ⟨d.toArray⟩] 30)).drew.below hb (by omega)
    have hA := (Whole.made w1 30 #[.string ⟨u.toArray⟩, .string ⟨d.toArray⟩]).drew.below hb (by omega)
    clear hr0 hr1 hf0 hf1
    have hr0 : w2.cell? ⟨w.heap.size, 0, none⟩ = some (.string ⟨#[]⟩) := hW2.cell 0
    have hr1 : w2.cell? ⟨w.heap.size, 1, none⟩ = some (.string ⟨#[]⟩) := hW2.cell 1
    have hf0 := hW2.free 0
    have hf1 := hW2.free 1
    have hz2 := hW2.lt
    have ha0 : w2.cell? ⟨w1.heap.size, 0, none⟩ = some (.string ⟨u.toArray⟩) := hA.cell 0
    have ha1 : w2.cell? ⟨w1.heap.size, 1, none⟩ = some (.string ⟨d.toArray⟩) := hA.cell 1
    have HB2 := Lib.hid (((HB.out.alloc (by omega) _).drew).trans (hb.mono (by omega)))
    clear hb ez hW2 hA
    by_cases hv : (nameB u && domB d) = true
    · have HV := Lib.hid hv
      rw [str_back, str_back, hv]
      clear hv
      go_wp2
      refine bodyPost_ret (v := .tuple #[.agg #[.string ⟨u.toArray⟩, .string ⟨d.toArray⟩], .bool true]) (by simp [results, Try.results32, go_sem, hr0, hr1]) rfl ?_
      refine parsed_yes (by unfold spB; rw [HP.out, decide_eq_true H2.out, HU.out, HD.out, HV.out]; rfl) (by rw [HP.out, HU.out]) (by rw [HP.out, HD.out]) ?_
      exact (HB2.out.setCell (p := ⟨w.heap.size, 0, none⟩) (Nat.le_refl _) _).setCell (p := ⟨w.heap.size, 1, none⟩) (Nat.le_refl _) _
    · have HV := Lib.hid (Bool.eq_false_iff.2 hv)
      rw [str_back, str_back, Bool.eq_false_iff.2 hv]
      clear hv
      go_wp2
      refine bodyPost_ret (v := .tuple #[.agg #[.string ⟨#[]⟩, .string ⟨#[]⟩], .bool false]) (by simp [results, Try.results32, go_sem, hr0, hr1]) rfl ?_
      refine parsed_no (by unfold spB; rw [HP.out, HU.out, HD.out, HV.out]; simp) ?_
      exact (HB2.out.setCell (p := ⟨w.heap.size, 0, none⟩) (Nat.le_refl _) _).setCell (p := ⟨w.heap.size, 1, none⟩) (Nat.le_refl _) _
  · have h2' : ((ps.length : Int) != 2) = true := by simp; omega
    have H2 := Lib.hid h2
    clear h2 hle hc
    go_wp2
    refine bodyPost_ret (v := .tuple #[.agg #[.string ⟨#[]⟩, .string ⟨#[]⟩], .bool false]) (by simp [results, Try.results32, go_sem, hr0, hr1]) rfl ?_
    refine parsed_no (by unfold spB; rw [HP.out, decide_eq_false H2.out]; rfl) ?_
    exact (HB.out.setCell (p := ⟨w.heap.size, 0, none⟩) (Nat.le_refl _) _).setCell (p := ⟨w.heap.size, 1, none⟩) (Nat.le_refl _) _

/-- The text of an address. -/
def adText (u d : List UInt8) : List UInt8 := if (nameB u && domB d) = true then u ++ 64 :: d else []
theorem adText_yes {u d : List UInt8} (h : (nameB u && domB d) = true) : adText u d = u ++ 64 :: d := by unfold adText; rw [if_pos h]
theorem adText_no {u d : List UInt8} (h : (nameB u && domB d) = false) : adText u d = [] := by unfold adText; rw [h]; rfl
/-- What a writer of addresses leaves. -/
def Wrote (w : World) (L : List UInt8) (e : Ending) (w' : World) : Prop := ∃ v : ByteArray, v.data.toList = L ∧ e = .returned (.string v) ∧ Below w.heap.size w w'
theorem cat_data (u d : ByteArray) : (u ++ ⟨#[64]⟩ ++ d).data.toList = u.data.toList ++ 64 :: d.data.toList := by simp
set_option maxHeartbeats 1000000 in
theorem spec_text (u d : ByteArray) (w : World) (hu : u.size ≤ 16777216) (hd : d.size ≤ 16777216) :
    Calls Try.prog 35 #[.agg #[.string u, .string d]] w (Wrote w (adText u.data.toList d.data.toList)) := by
  go_enter Try.func35, Try.ntmps35
  go_wp2_with fail
  refine (spec_valid u d _ hu hd).mono ?_
  rintro e w2 ⟨rfl, hb⟩
  have ez : (w.alloc (.cells #[.string u, .string d] 30)).heap.size = w.heap.size + 1 := by simp
  rw [ez] at hb
  have hA := (Whole.made w 30 #[.string u, .string d]).below hb (by omega)
  have ha0 : w2.cell? ⟨w.heap.size, 0, none⟩ = some (.string u) := hA.cell 0
  have ha1 : w2.cell? ⟨w.heap.size, 1, none⟩ = some (.string d) := hA.cell 1
  have HB2 := Lib.hid (((Below.refl w.heap.size w).alloc (Nat.le_refl _) _).trans (hb.mono (by omega)))
  clear hb ez hA
  by_cases hv : (nameB u.data.toList && domB d.data.toList) = true
  · have HV := Lib.hid hv
    rw [hv]
    clear hv
    go_wp2
    go_ret
    exact ⟨_, by rw [adText_yes HV.out]; exact cat_data u d, rfl, HB2.out⟩
  · have HV := Lib.hid (Bool.eq_false_iff.2 hv)
    rw [Bool.eq_false_iff.2 hv]
    clear hv
    go_wp2
    go_ret
    exact ⟨_, by rw [adText_no HV.out], rfl, HB2.out⟩
end Go.Proofs.Ytclilcbllinbfaa
