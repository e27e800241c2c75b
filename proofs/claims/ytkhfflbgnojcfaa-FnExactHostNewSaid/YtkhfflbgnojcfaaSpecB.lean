/-
  The contracts of spec.DomainValid, l1Address, AddressParse, AddressText and PathParse. No condition beyond a bound on the text's length.
-/
import Derived.Test.YtkhfflbgnojcfaaCut
import Derived.Test.YtkhfflbgnojcfaaParse
import Derived.RegionTactic
import Derived.BigRegion
namespace Go.Proofs.Ytkhfflbgnojcfaa
open Go.RowKit
set_option linter.unusedVariables false

/-- A domain. -/
def domB (L : List UInt8) : Bool := (cut 46 L).all nameB && decide ((cut 46 L).length ≤ 3) && decide (L.length ≤ 20)
theorem part_mem {α : Type} {l : List α} {x : α} {j : Nat} (d : α) (h : j < l.length) (e : l.getD j d = x) : x ∈ l := by
  rw [List.getD_eq_getElem?_getD, List.getElem?_eq_getElem h] at e
  subst e
  exact List.getElem_mem h
theorem spec_name_str (l : List UInt8) (w : World) (hs : l.length ≤ 16777216) : Calls Try.prog 49 #[str l] w fun e w' => e = .returned (.bool (nameB l)) ∧ w = w' := by
  have := spec_name ⟨l.toArray⟩ w hs
  simpa [str] using this
theorem cutGo_le (c : UInt8) (l : List UInt8) : ∀ cur, ∀ x ∈ cutGo c cur l, x.length ≤ cur.length + l.length := by
  induction l with
  | nil => intro cur x hx; simp [cutGo] at hx; subst hx; simp
  | cons y t ih =>
    intro cur x hx
    unfold cutGo at hx
    split at hx
    · rcases List.mem_cons.1 hx with rfl | h
      · omega
      · have := ih [] x h; simp at this; simp; omega
    · have := ih _ x hx; simp at this; simp; omega
theorem cut_le {c : UInt8} {L x : List UInt8} (h : x ∈ cut c L) : x.length ≤ L.length := by have := cutGo_le c L [] x h; simpa using this
theorem all_tk {α : Type} (f : α → Bool) (L : List α) (k : Nat) (hk : k < L.length) (h : (L.take k).all f = true) (hf : f (L[k]) = true) : (L.take (k + 1)).all f = true := by
  rw [List.take_succ_eq_append_getElem hk, List.all_append, h]
  simp [hf]
theorem all_no {α : Type} (f : α → Bool) (L : List α) (k : Nat) (hk : k < L.length) (h : f L[k] = false) : L.all f = false := by
  rw [← Bool.not_eq_true]
  intro ha
  rw [List.all_eq_true] at ha
  have := ha L[k] (List.getElem_mem hk)
  rw [h] at this
  cases this

set_option maxHeartbeats 2000000 in
theorem spec_domain (s : ByteArray) (w : World) (hs : s.size ≤ 16777216) :
    Calls Try.prog 29 #[.string s] w fun e w' => e = .returned (.bool (domB s.data.toList)) ∧ Below w.heap.size w w' := by
  have hl : s.data.toList.length = s.size := by simp
  have HL := Lib.hid hl
  clear hl
  go_enter Try.func29, Try.ntmps29
  go_wp2_with fail
  refine (cut_any s 46 w hs).mono ?_
  rintro e w1 ⟨g, cap, rfl, hg, hgl, hc, hb⟩
  have hcl := cut_len 46 s.data.toList
  rw [HL.out] at hcl
  obtain ⟨ps, hps⟩ : ∃ ps, cut 46 s.data.toList = ps := ⟨_, rfl⟩
  rw [hps] at hc hcl ⊢
  obtain ⟨n, hn⟩ : ∃ n, ps.length = n := ⟨_, rfl⟩
  rw [hn] at hc hcl ⊢
  have HP := Lib.hid hps
  have HN := Lib.hid hn
  have HC := Lib.hid hc
  have HB := Lib.hid hb
  clear hps hn hc hb
  go_wp2
  go_loop [4] (fun i => ∃ k : Nat, k ≤ n ∧ i = .int .i64 (k : Int) ∧ Hid ((ps.take k).all nameB = true)) (fun i => n - (intOf i).toNat)
  case atStart => exact ⟨0, Nat.zero_le _, by go_num, rfl⟩
  case round =>
    obtain ⟨k, hk, rfl, HA⟩ := hrel
    by_cases hlt : k < n
    · have h0 : (0 : Int) ≤ (k : Int) := by omega
      have h5 : (k : Int) < (n : Int) := by omega
      have hcell := HC.out k hlt
      obtain ⟨x, hx⟩ : ∃ x, ps.getD k [] = x := ⟨_, rfl⟩
      have hxm : Hid (x ∈ cut 46 s.data.toList) := by rw [HP.out]; exact part_mem [] (by rw [HN.out]; exact hlt) hx
      have hxk : Hid (∃ h : k < ps.length, ps[k] = x) := by
        refine ⟨by rw [HN.out]; exact hlt, ?_⟩
        rw [← hx, List.getD_eq_getElem?_getD, List.getElem?_eq_getElem (by rw [HN.out]; exact hlt)]
        rfl
      have hxl : x.length ≤ 16777216 := by have := cut_le hxm.out; rw [HL.out] at this; omega
      rw [hx] at hcell
      unfold str at hcell
      clear hx
      by_cases hnm : nameB x = true
      · have HM := Lib.hid hnm
        clear hnm
        go_wp2_with fail
        refine (spec_name_str x _ hxl).mono ?_
        rintro e w2 ⟨rfl, rfl⟩
        have hnm := HM.out
        go_wp2
        go_round
        case rel =>
          obtain ⟨hk1, hk2⟩ := hxk.out
          exact ⟨k + 1, by omega, by go_num, all_tk nameB ps k hk1 HA.out (by rw [hk2]; exact hnm)⟩
        case measure => simp [intOf]; omega
      · have HM := Lib.hid (Bool.eq_false_iff.2 hnm)
        clear hnm
        go_wp2_with fail
        refine (spec_name_str x _ hxl).mono ?_
        rintro e w2 ⟨rfl, rfl⟩
        have hnm := HM.out
        go_wp2
        go_ret
        refine ⟨ret_bool ?_, HB.out⟩
        obtain ⟨hk1, hk2⟩ := hxk.out
        unfold domB
        rw [HP.out, all_no nameB ps k hk1 (by rw [hk2]; exact hnm)]
        rfl
    · have ha : Hid (ps.all nameB = true) := by
        have h1 := HA.out
        rw [List.take_of_length_le (by rw [HN.out]; omega)] at h1
        exact h1
      clear HA
      by_cases h3 : (n : Int) ≤ 3 <;> by_cases h4 : (s.size : Int) ≤ 20
      all_goals
        go_wp2
        go_ret
        refine ⟨ret_bool ?_, HB.out⟩
        unfold domB
        rw [HP.out, ha.out, HN.out, HL.out]
        first
          | (rw [decide_eq_true (p := n ≤ 3) (by omega), decide_eq_true (p := s.size ≤ 20) (by omega)]; rfl)
          | (rw [decide_eq_false (p := n ≤ 3) (by omega)]; simp)
          | (rw [decide_eq_false (p := s.size ≤ 20) (by omega)]; simp)

theorem str_back (l : List UInt8) : (⟨l.toArray⟩ : ByteArray).data.toList = l := rfl
/-- The user and the domain of a text, if there are just two parts. -/
def two (L : List UInt8) : List (List UInt8) := cut 64 L
def spB (L : List UInt8) : Bool := decide ((two L).length = 2) && (nameB ((two L).getD 0 []) && domB ((two L).getD 1 []))
/-- The text of an address. -/
def adText (u d : List UInt8) : List UInt8 := if (nameB u && domB d) = true then u ++ 64 :: d else []
theorem adText_yes {u d : List UInt8} (h : (nameB u && domB d) = true) : adText u d = u ++ 64 :: d := by unfold adText; rw [if_pos h]
theorem adText_no {u d : List UInt8} (h : (nameB u && domB d) = false) : adText u d = [] := by unfold adText; rw [h]; rfl
/-- What a writer of addresses leaves. -/
def Wrote (w : World) (L : List UInt8) (e : Ending) (w' : World) : Prop := ∃ v : ByteArray, v.data.toList = L ∧ e = .returned (.string v) ∧ Below w.heap.size w w'
theorem cat_data (u d : ByteArray) : (u ++ ⟨#[64]⟩ ++ d).data.toList = u.data.toList ++ 64 :: d.data.toList := by simp
end Go.Proofs.Ytkhfflbgnojcfaa
