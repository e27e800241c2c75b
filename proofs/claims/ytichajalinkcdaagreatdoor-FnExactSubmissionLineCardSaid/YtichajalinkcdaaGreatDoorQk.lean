/-
  My texts Wf, Wn in one, so that a claim holds fewer files. Conditions: each contract's own.
-/
import Derived.Test.YtichajalinkcdaaGreatDoorQj
import Derived.Deep.DeepCutAuto
namespace Go.Proofs.YtichajalinkcdaaGreatDoor
set_option linter.unusedVariables false

section
variable {s : Sb} {L : List Us} {d l : ByteArray}
theorem back_eq (hv : sbV s = true) : backF s = ⟨min s.st 2, s.us, [], eB⟩ := by
  obtain ⟨v1, v2, v3, v4, v5, v6, v7, v8, v9⟩ := sbV_has hv
  unfold backF
  by_cases h2 : 2 ≤ s.st
  · rw [if_pos h2, show min s.st 2 = 2 by omega]
  · rw [if_neg h2, show min s.st 2 = s.st by omega, v7 (by omega)]
theorem hz_v (hz : (sbV s && (vU L && domB (kb d))) = true) : sbV s = true ∧ vU L = true ∧ domB (kb d) = true := by simpa [Bool.and_eq_true] using hz
theorem li_6 (hz : (sbV s && (vU L && domB (kb d))) = true) (h6 : s.st = 6) : LineIs s L d l (s, 503) := lineIs_of hz fun u o _ => lineF_6 h6
theorem li_5 (hz : (sbV s && (vU L && domB (kb d))) = true) (h5 : s.st = 5) : LineIs s L d l (dataF s l) := lineIs_of hz fun u o _ => lineF_5 h5
theorem li_cmd (hz : (sbV s && (vU L && domB (kb d))) = true) (h5 : s.st ≠ 5) (h6 : s.st ≠ 6) {x : ByteArray} (hx : (wdsF l).getD 0 eB = x) (h1 : x ≠ wEHLO) (h2 : x ≠ wAUTH) (h3 : x ≠ wMAIL) (h4 : x ≠ wRCPT) : LineIs s L d l (cmdF s l) :=
  lineIs_of hz fun u o _ => lineF_c h6 h5 hx h1 h2 h3 h4
theorem li_hello (hz : (sbV s && (vU L && domB (kb d))) = true) (h5 : s.st ≠ 5) (h6 : s.st ≠ 6) (hx : (wdsF l).getD 0 eB = wEHLO) : LineIs s L d l (helloF s (wdsF l)) :=
  lineIs_of hz fun u o _ => by rw [lineF_w h6 h5 hx, if_pos rfl]
theorem li_mail (hz : (sbV s && (vU L && domB (kb d))) = true) (h5 : s.st ≠ 5) (h6 : s.st ≠ 6) (hx : (wdsF l).getD 0 eB = wMAIL) : LineIs s L d l (mailF s d l) :=
  lineIs_of hz fun u o _ => by rw [lineF_w h6 h5 hx, if_neg (by decide), if_neg (by decide), if_pos rfl]
theorem li_rcpt (hz : (sbV s && (vU L && domB (kb d))) = true) (h5 : s.st ≠ 5) (h6 : s.st ≠ 6) (hx : (wdsF l).getD 0 eB = wRCPT) : LineIs s L d l (rcptF s L d l) :=
  lineIs_of hz fun u o _ => by rw [lineF_w h6 h5 hx, if_neg (by decide), if_neg (by decide), if_neg (by decide), if_pos rfl]
theorem li_auth (hz : (sbV s && (vU L && domB (kb d))) = true) (h5 : s.st ≠ 5) (h6 : s.st ≠ 6) (hx : (wdsF l).getD 0 eB = wAUTH) {r : Sb × Int} (h : ∀ u o, IsUp L ((wdsF l).getD 2 eB) u o → authF s (wdsF l) u o = r) : LineIs s L d l r :=
  lineIs_of hz fun u o hu => by rw [lineF_w h6 h5 hx, if_neg (by decide), if_pos rfl]; exact h u o hu
/-- The first word of a text. -/
theorem first_word {p r : List UInt8} (hp : ∀ x ∈ p, x ≠ (32 : UInt8)) (h : kb l = p ++ 32 :: r) : (wdsF l).getD 0 eB = rB p := by
  unfold wdsF
  rw [h, cut_at 32 p r hp]
  rfl
theorem kb_cat (a b : ByteArray) : kb (a ++ b) = kb a ++ kb b := by unfold kb; rw [cat_list]

-- the lines without further words
theorem li_reset (hz : (sbV s && (vU L && domB (kb d))) = true) (h5 : s.st ≠ 5) (h6 : s.st ≠ 6) : LineIs s L d ⟨#[82, 83, 69, 84]⟩ (⟨min s.st 2, s.us, [], eB⟩, 250) := by
  have h := li_cmd (L := L) (d := d) (l := wRSET) hz h5 h6 (x := wRSET) rfl (by decide) (by decide) (by decide) (by decide)
  unfold cmdF at h
  rw [if_neg (by decide), if_pos rfl, back_eq (hz_v hz).1] at h
  exact h
theorem li_noop (hz : (sbV s && (vU L && domB (kb d))) = true) (h5 : s.st ≠ 5) (h6 : s.st ≠ 6) : LineIs s L d ⟨#[78, 79, 79, 80]⟩ (s, 250) := by
  have h := li_cmd (L := L) (d := d) (l := wNOOP) hz h5 h6 (x := wNOOP) rfl (by decide) (by decide) (by decide) (by decide)
  unfold cmdF at h
  rw [if_neg (by decide), if_neg (by decide), if_pos rfl] at h
  exact h
theorem li_quit (hz : (sbV s && (vU L && domB (kb d))) = true) (h5 : s.st ≠ 5) (h6 : s.st ≠ 6) : LineIs s L d ⟨#[81, 85, 73, 84]⟩ (⟨6, eB, [], eB⟩, 221) := by
  have h := li_cmd (L := L) (d := d) (l := wQUIT) hz h5 h6 (x := wQUIT) rfl (by decide) (by decide) (by decide) (by decide)
  unfold cmdF at h
  rw [if_neg (by decide), if_neg (by decide), if_neg (by decide), if_pos rfl] at h
  exact h
theorem li_data (hz : (sbV s && (vU L && domB (kb d))) = true) (h5 : s.st ≠ 5) (h6 : s.st ≠ 6) : LineIs s L d ⟨#[68, 65, 84, 65]⟩ (if s.st = 4 then (⟨5, s.us, s.to, s.tx⟩, 354) else (s, 503)) := by
  have h := li_cmd (L := L) (d := d) (l := wDATA) hz h5 h6 (x := wDATA) rfl (by decide) (by decide) (by decide) (by decide)
  unfold cmdF at h
  rw [if_pos rfl] at h
  exact h
theorem li_other (hz : (sbV s && (vU L && domB (kb d))) = true) (h5 : s.st ≠ 5) (h6 : s.st ≠ 6) {x : ByteArray} (hx : (wdsF l).getD 0 eB = x) (h1 : x ≠ wEHLO) (h2 : x ≠ wAUTH) (h3 : x ≠ wMAIL) (h4 : x ≠ wRCPT) (k1 : l ≠ wDATA) (k2 : l ≠ wRSET) (k3 : l ≠ wNOOP) (k4 : l ≠ wQUIT) : LineIs s L d l (s, 500) := by
  have h := li_cmd (L := L) (d := d) hz h5 h6 hx h1 h2 h3 h4
  unfold cmdF at h
  rw [if_neg k1, if_neg k2, if_neg k3, if_neg k4] at h
  exact h
theorem li_xyz (hz : (sbV s && (vU L && domB (kb d))) = true) (h5 : s.st ≠ 5) (h6 : s.st ≠ 6) : LineIs s L d ⟨#[88, 89, 90]⟩ (s, 500) := li_other hz h5 h6 (x := ⟨#[88, 89, 90]⟩) rfl (by decide) (by decide) (by decide) (by decide) (by decide) (by decide) (by decide) (by decide)
theorem li_small (hz : (sbV s && (vU L && domB (kb d))) = true) (h5 : s.st ≠ 5) (h6 : s.st ≠ 6) : LineIs s L d ⟨#[110, 111, 111, 112]⟩ (s, 500) := li_other hz h5 h6 (x := ⟨#[110, 111, 111, 112]⟩) rfl (by decide) (by decide) (by decide) (by decide) (by decide) (by decide) (by decide) (by decide)
theorem li_empty (hz : (sbV s && (vU L && domB (kb d))) = true) (h5 : s.st ≠ 5) (h6 : s.st ≠ 6) : LineIs s L d ⟨#[]⟩ (s, 500) := li_other hz h5 h6 (x := ⟨#[]⟩) rfl (by decide) (by decide) (by decide) (by decide) (by decide) (by decide) (by decide) (by decide)
-- EHLO
theorem li_host (hz : (sbV s && (vU L && domB (kb d))) = true) (h5 : s.st ≠ 5) (h6 : s.st ≠ 6) : LineIs s L d ⟨#[69, 72, 76, 79, 32, 104, 111, 115, 116]⟩ (⟨min (max s.st 1) 2, s.us, [], eB⟩, 250) := by
  have hv := (hz_v hz).1
  obtain ⟨r1, r2⟩ := sbV_range hv
  obtain ⟨v1, v2, v3, v4, v5, v6, v7, v8, v9⟩ := sbV_has hv
  have h := li_hello (L := L) (d := d) (l := ⟨#[69, 72, 76, 79, 32, 104, 111, 115, 116]⟩) hz h5 h6 rfl
  have e : helloF s (wdsF ⟨#[69, 72, 76, 79, 32, 104, 111, 115, 116]⟩) = (⟨min (max s.st 1) 2, s.us, [], eB⟩, 250) := by
    unfold helloF
    rw [if_pos ⟨rfl, by decide +kernel⟩]
    congr 1
    unfold backF
    simp only
    by_cases h2 : 2 ≤ s.st
    · rw [if_neg (show ¬ s.st = 0 by omega), if_pos h2, show min (max s.st 1) 2 = 2 by omega]
    · rw [show (if s.st = 0 then (1 : Int) else s.st) = 1 by split <;> omega, if_neg (by decide), show min (max s.st 1) 2 = 1 by omega, v7 (by omega)]
  rw [e] at h
  exact h
theorem li_h1 (hz : (sbV s && (vU L && domB (kb d))) = true) (h5 : s.st ≠ 5) (h6 : s.st ≠ 6) : LineIs s L d ⟨#[69, 72, 76, 79]⟩ (s, 501) := by
  have h := li_hello (L := L) (d := d) (l := ⟨#[69, 72, 76, 79]⟩) hz h5 h6 rfl
  unfold helloF at h
  rw [if_neg (fun e => absurd e.1 (by decide))] at h
  exact h
theorem li_h2 (hz : (sbV s && (vU L && domB (kb d))) = true) (h5 : s.st ≠ 5) (h6 : s.st ≠ 6) : LineIs s L d ⟨#[69, 72, 76, 79, 32, 46]⟩ (s, 501) := by
  have h := li_hello (L := L) (d := d) (l := ⟨#[69, 72, 76, 79, 32, 46]⟩) hz h5 h6 rfl
  unfold helloF at h
  rw [if_neg (fun e => absurd e.2 (by decide +kernel))] at h
  exact h
theorem li_h3 (hz : (sbV s && (vU L && domB (kb d))) = true) (h5 : s.st ≠ 5) (h6 : s.st ≠ 6) : LineIs s L d ⟨#[69, 72, 76, 79, 32, 97, 32, 98]⟩ (s, 501) := by
  have h := li_hello (L := L) (d := d) (l := ⟨#[69, 72, 76, 79, 32, 97, 32, 98]⟩) hz h5 h6 rfl
  unfold helloF at h
  rw [if_neg (fun e => absurd e.1 (by decide))] at h
  exact h
-- AUTH
theorem enc_no32 (t : List UInt8) : ∀ x ∈ enc t, x ≠ (32 : UInt8) := by
  intro x hx e
  subst e
  rcases enc_signs t 32 hx with h | ⟨n, hn, h⟩
  · exact absurd h (by decide)
  · exact sig_ne hn (by decide) h.symm
theorem mk_no32 (u p : List UInt8) : ∀ x ∈ mk u p, x ≠ (32 : UInt8) := by
  unfold mk
  split
  · exact enc_no32 _
  · intro x hx; cases hx
theorem cut_end (c : UInt8) (p : List UInt8) (hp : ∀ x ∈ p, x ≠ c) : cut c p = [p] := by
  have h := cutGo_skip c p [] hp []
  rw [List.append_nil] at h
  unfold cut
  rw [h]
  rfl
theorem wds_auth (n p : ByteArray) : wdsF (⟨#[65, 85, 84, 72, 32, 80, 76, 65, 73, 78, 32]⟩ ++ mkB n p) = [wAUTH, wPLAIN, mkB n p] := by
  unfold wdsF
  have e : kb (⟨#[65, 85, 84, 72, 32, 80, 76, 65, 73, 78, 32]⟩ ++ mkB n p) = [65, 85, 84, 72] ++ 32 :: ([80, 76, 65, 73, 78] ++ 32 :: kb (mkB n p)) := by rw [kb_cat]; rfl
  have hk : kb (mkB n p) = mk n.data.toList p.data.toList := by unfold mkB kb; exact bt_list _
  rw [e, cut_at 32 _ _ (by decide), cut_at 32 _ _ (by decide), cut_end 32 _ (by rw [hk]; exact mk_no32 _ _)]
  show [rB [65, 85, 84, 72], rB [80, 76, 65, 73, 78], rB (kb (mkB n p))] = _
  rw [show rB (kb (mkB n p)) = mkB n p from rB_of _]
  rfl
theorem li_plain (hz : (sbV s && (vU L && domB (kb d))) = true) (h5 : s.st ≠ 5) (h6 : s.st ≠ 6) (n p : ByteArray) :
    LineIs s L d (⟨#[65, 85, 84, 72, 32, 80, 76, 65, 73, 78, 32]⟩ ++ mkB n p) (if s.st ≠ 1 then (s, 503) else if prU L n p = true then (⟨2, n, [], eB⟩, 235) else (s, 535)) := by
  refine li_auth hz h5 h6 (by rw [wds_auth]; rfl) fun u o hu => ?_
  rw [wds_auth] at hu ⊢
  obtain ⟨ok, v, q, h1, h2⟩ := hu
  rw [up_made rfl h1] at h2
  unfold authF
  split
  · rfl
  rw [if_pos ⟨rfl, rfl⟩]
  cases hp : prU L n p with
  | true => rw [hp] at h2; cases h2; rfl
  | false => rw [hp] at h2; cases h2; rfl
theorem li_login (hz : (sbV s && (vU L && domB (kb d))) = true) (h1 : s.st = 1) : LineIs s L d ⟨#[65, 85, 84, 72, 32, 76, 79, 71, 73, 78, 32, 120]⟩ (s, 501) := by
  refine li_auth hz (by omega) (by omega) rfl fun u o hu => ?_
  unfold authF
  rw [if_neg (by simpa using h1), if_neg (fun e => absurd e.2 (by decide))]
theorem li_noproof (hz : (sbV s && (vU L && domB (kb d))) = true) (h1 : s.st = 1) : LineIs s L d ⟨#[65, 85, 84, 72, 32, 80, 76, 65, 73, 78]⟩ (s, 501) := by
  refine li_auth hz (by omega) (by omega) rfl fun u o hu => ?_
  unfold authF
  rw [if_neg (by simpa using h1), if_neg (fun e => absurd e.1 (by decide))]
-- paths
theorem first_byte {t : ByteArray} (h : 0 < t.size) : t.data.toList.head? = some (t[0]'h) := by
  rw [List.head?_eq_getElem?, Array.getElem?_toList, Array.getElem?_eq_getElem (show 0 < t.data.size from h)]
  rfl
theorem sz_app {a b : ByteArray} {n m k : Nat} (ha : a.size ≤ n) (hb : b.size ≤ m) (h : n + m ≤ k) : (a ++ b).size ≤ k := by rw [ByteArray.size_append]; omega
theorem ext_full {t : ByteArray} {n : Nat} (h : t.size ≤ n) : t.extract 0 n = t := by
  refine kb_inj ?_
  rw [ext_front, List.take_of_length_le (by unfold kb; simpa using h)]
/-- '<user@domain>' behind a beginning. -/
def pathT (b u d : ByteArray) : ByteArray := b ++ ⟨#[60]⟩ ++ u ++ ⟨#[64]⟩ ++ d ++ ⟨#[62]⟩
theorem kb_path (b u d : ByteArray) : kb (pathT b u d) = kb b ++ 60 :: ((kb u ++ 64 :: kb d) ++ [62]) := by
  unfold pathT
  rw [kb_cat, kb_cat, kb_cat, kb_cat, kb_cat]
  show kb b ++ [60] ++ kb u ++ [64] ++ kb d ++ [62] = _
  simp
theorem nm_sgn {u : List UInt8} (h : nameB u = true) : ∀ x ∈ u, sgn x = true := by
  unfold nameB at h
  simp only [Bool.and_eq_true] at h
  exact List.all_eq_true.1 h.1.1
theorem path_pt {b u d : ByteArray} (hu : nameB (kb u) = true) (hd : domB (kb d) = true) : ptO b (pathT b u d) = true ∧ ptU b (pathT b u d) = u ∧ ptD b (pathT b u d) = d := by
  have hu64 : ∀ x ∈ kb u, x ≠ (64 : UInt8) := fun x hx => sgn_ne (nm_sgn hu x hx) sgn64
  have hd64 := dom_no64 hd
  have hsp : spB (kb u ++ 64 :: kb d) = true := by rw [sp_of hu64 hd64, hu, hd]; rfl
  obtain ⟨p1, p2, p3⟩ := path_of hsp
  have htw : two (kb u ++ 64 :: kb d) = [kb u, kb d] := two_of hu64 hd64
  have hpU : pU (kb u ++ 64 :: kb d) = kb u := by unfold pU; rw [if_pos hsp, htw]; rfl
  have hpD : pD (kb u ++ 64 :: kb d) = kb d := by unfold pD; rw [if_pos hsp, htw]; rfl
  have hpre : preB b (pathT b u d) = true := by unfold preB; rw [kb_path]; simp
  have htl : tlB b (pathT b u d) = 60 :: ((kb u ++ 64 :: kb d) ++ [62]) := by unfold tlB; rw [kb_path]; simp
  have hune : kb u ≠ [] := by
    intro e
    rw [e] at hu
    exact absurd hu (by decide)
  unfold ptO ptU ptD
  rw [hpre, htl, p1, p2, p3, hpU, hpD]
  refine ⟨by simp [hune], ?_, ?_⟩
  · rw [if_pos rfl]; exact bs_of u
  · rw [if_pos rfl]; exact bs_of d
theorem bare_pt (b : ByteArray) : ptO b (b ++ ⟨#[60, 62]⟩) = false := ptO_bare (by unfold tlB; rw [kb_cat]; simp; rfl)
theorem word_mail {u d : ByteArray} : (wdsF (pathT bMAIL u d)).getD 0 eB = wMAIL := by
  rw [first_word (p := [77, 65, 73, 76]) (r := [70, 82, 79, 77, 58] ++ 60 :: ((kb u ++ 64 :: kb d) ++ [62])) (by decide) (by rw [kb_path]; rfl)]
  rfl
theorem word_rcpt {u d : ByteArray} : (wdsF (pathT bRCPT u d)).getD 0 eB = wRCPT := by
  rw [first_word (p := [82, 67, 80, 84]) (r := [84, 79, 58] ++ 60 :: ((kb u ++ 64 :: kb d) ++ [62])) (by decide) (by rw [kb_path]; rfl)]
  rfl
theorem li_from (hz : (sbV s && (vU L && domB (kb d))) = true) (h5 : s.st ≠ 5) (h6 : s.st ≠ 6) {u v : ByteArray} (hu : nameB (kb u) = true) (hv : domB (kb v) = true) :
    LineIs s L d (pathT bMAIL u v) (if s.st < 2 then (s, 530) else if s.st ≠ 2 then (s, 503) else if u = s.us ∧ v = d then (⟨3, s.us, s.to, s.tx⟩, 250) else (s, 550)) := by
  have h := li_mail (L := L) (d := d) hz h5 h6 (word_mail (u := u) (d := v))
  obtain ⟨p1, p2, p3⟩ := path_pt (b := bMAIL) hu hv
  unfold mailF at h
  rw [p1, p2, p3, if_neg (by simp : ¬ true = false)] at h
  exact h
theorem li_from0 (hz : (sbV s && (vU L && domB (kb d))) = true) (h2 : s.st = 2) : LineIs s L d ⟨#[77, 65, 73, 76, 32, 70, 82, 79, 77, 58, 60, 62]⟩ (s, 501) := by
  have h := li_mail (L := L) (d := d) (l := ⟨#[77, 65, 73, 76, 32, 70, 82, 79, 77, 58, 60, 62]⟩) hz (by omega) (by omega) rfl
  unfold mailF at h
  rw [if_neg (by omega), if_neg (by simpa using h2), if_pos (show ptO bMAIL ⟨#[77, 65, 73, 76, 32, 70, 82, 79, 77, 58, 60, 62]⟩ = false from by rw [show (⟨#[77, 65, 73, 76, 32, 70, 82, 79, 77, 58, 60, 62]⟩ : ByteArray) = bMAIL ++ ⟨#[60, 62]⟩ by decide]; exact bare_pt bMAIL)] at h
  exact h
theorem li_to (hz : (sbV s && (vU L && domB (kb d))) = true) (h5 : s.st ≠ 5) (h6 : s.st ≠ 6) {u v : ByteArray} (hu : nameB (kb u) = true) (hv : domB (kb v) = true) :
    LineIs s L d (pathT bRCPT u v) (if s.st ≠ 3 ∧ s.st ≠ 4 then (s, 503) else if v = d ∧ (fU L u).isSome = true then (if u ∈ s.to then (s, 250) else if 3 ≤ s.to.length then (s, 452) else (⟨4, s.us, s.to ++ [u], eB⟩, 250)) else (s, 550)) := by
  have h := li_rcpt (L := L) (d := d) hz h5 h6 (word_rcpt (u := u) (d := v))
  obtain ⟨p1, p2, p3⟩ := path_pt (b := bRCPT) hu hv
  unfold rcptF at h
  rw [p1, p2, p3, if_neg (by simp : ¬ true = false)] at h
  exact h
theorem li_to0 (hz : (sbV s && (vU L && domB (kb d))) = true) (h3 : s.st = 3 ∨ s.st = 4) : LineIs s L d ⟨#[82, 67, 80, 84, 32, 84, 79, 58, 60, 62]⟩ (s, 501) := by
  have h := li_rcpt (L := L) (d := d) (l := ⟨#[82, 67, 80, 84, 32, 84, 79, 58, 60, 62]⟩) hz (by omega) (by omega) rfl
  unfold rcptF at h
  rw [if_neg (by omega), if_pos (show ptO bRCPT ⟨#[82, 67, 80, 84, 32, 84, 79, 58, 60, 62]⟩ = false from by rw [show (⟨#[82, 67, 80, 84, 32, 84, 79, 58, 60, 62]⟩ : ByteArray) = bRCPT ++ ⟨#[60, 62]⟩ by decide]; exact bare_pt bRCPT)] at h
  exact h
/-- A text without brackets is no path. -/
theorem bare_text {b r : ByteArray} {x : UInt8} {t : List UInt8} (hr : kb r = x :: t) (hx : x ≠ 60) : ptO b (b ++ r) = false := by
  unfold ptO
  have htl : tlB b (b ++ r) = x :: t := by unfold tlB; rw [kb_cat, hr]; simp
  rw [htl]
  have hs : spP (x :: t) = false := by
    unfold spP
    have h1 : ¬ x :: t = bare := by
      intro e
      exact hx (List.cons.inj e).1
    have h2 : brB (x :: t) = false := by
      unfold brB nextIs
      simp [hx]
    rw [decide_eq_false h1, h2]
    rfl
  rw [hs]
  simp
theorem li_tobad (hz : (sbV s && (vU L && domB (kb d))) = true) (h3 : s.st = 3 ∨ s.st = 4) {u v : ByteArray} (hu : nameB (kb u) = true) : LineIs s L d (bRCPT ++ u ++ ⟨#[64]⟩ ++ v) (s, 501) := by
  obtain ⟨x, t, hk⟩ : ∃ x t, kb u = x :: t := by
    cases h : kb u with
    | nil => rw [h] at hu; exact absurd hu (by decide)
    | cons x t => exact ⟨x, t, rfl⟩
  have e : bRCPT ++ u ++ ⟨#[64]⟩ ++ v = bRCPT ++ (u ++ ⟨#[64]⟩ ++ v) := by
    refine kb_inj ?_
    simp only [kb_cat, List.append_assoc]
  have hw : (wdsF (bRCPT ++ u ++ ⟨#[64]⟩ ++ v)).getD 0 eB = wRCPT := by
    rw [first_word (p := [82, 67, 80, 84]) (r := [84, 79, 58] ++ kb u ++ [64] ++ kb v) (by decide) (by rw [kb_cat, kb_cat, kb_cat]; rfl)]
    rfl
  have h := li_rcpt (L := L) (d := d) hz (by omega) (by omega) hw
  unfold rcptF at h
  rw [if_neg (by omega), if_pos (by rw [e]; exact bare_text (t := t ++ [64] ++ kb v) (by rw [kb_cat, kb_cat, hk]; rfl) (by
    intro e2
    subst e2
    rw [hk] at hu
    have h60 := nm_sgn hu 60 (by simp)
    exact absurd h60 (by decide)))] at h
  exact h
end
end Go.Proofs.YtichajalinkcdaaGreatDoor
namespace Go.Proofs.YtichajalinkcdaaGreatDoor
open Go.RowKit
set_option linter.unusedVariables false

/-- A submission and a reply; the receivers lie in new memory. -/
def GiveQ (w : World) (r : Sb × Int) (e : Ending) (w' : World) : Prop :=
  ∃ A N cap, e = .returned (.tuple #[.agg #[.int .i64 r.1.st, .string r.1.us, .slice A N cap, .string r.1.tx], .int .i64 r.2]) ∧ (SIn w' A N cap r.1.to ∧ ∀ q, A = some q → w.heap.size ≤ q.block) ∧ Below w.heap.size w w'
theorem line_new {st : Int} {us tx d l : ByteArray} {T : List ByteArray} {L : List Us} {A AU : Option Addr} {N cap NU cU : Nat} {r : Sb × Int} (hr : LineIs ⟨st, us, T, tx⟩ L d l r) (w : World) (h : SIn w A N cap T) (hL : UIn w AU NU cU L) (hm : MxS w) (hu : us.size ≤ 30) (hd : d.size ≤ 30) (hl : l.size ≤ 2000) :
    Calls Tryz.prog 22 #[.agg #[.int .i64 st, .string us, .slice A N cap, .string tx], .slice AU NU cU, .string d, .string l] w (GiveQ w r) := by
  obtain ⟨u, o, hup⟩ := isUp_any L ((wdsF l).getD 2 eB)
  have h2 := impl_subline st us tx d l u o T L A AU N cap NU cU w h hL (by omega) (by omega) (by omega) hm (fun _ => hup)
  rw [hr u o hup] at h2
  refine h2.mono fun e w' hg => ?_
  obtain ⟨A', N', cap', rfl, ho, hb⟩ := hg
  obtain ⟨_, q2, q3, _⟩ := sbV_has hr.valid
  exact ⟨A', N', cap', rfl, ⟨SIn.made ho (by omega) (fun g hg => Nat.le_trans (q3 g hg) (by omega)), fun q e => (own_blk ho q e).1⟩, hb⟩
theorem user_cells {w : World} {b o N cap : Nat} {L : List Us} {k : Nat} {n p : ByteArray} {q : Int} (h : UIn w (some ⟨b, o, none⟩) N cap L) (hx : L[k]? = some (n, p, q)) :
    w.cell? ⟨b, o + k * 3, none⟩ = some (.string n) ∧ w.cell? ⟨b, o + k * 3 + 1, none⟩ = some (.string p) ∧ w.cell? ⟨b, o + k * 3 + 2, none⟩ = some (.int .i64 q) := by
  obtain ⟨b', o', hA, _, h1, h2, h3⟩ := user_at h.2.2.1 hx
  cases hA
  exact ⟨h1, h2, h3⟩
theorem user_cell0 {w : World} {b o N cap : Nat} {L : List Us} {n p : ByteArray} {q : Int} (h : UIn w (some ⟨b, o, none⟩) N cap L) (hx : L[0]? = some (n, p, q)) : w.cell? ⟨b, o, none⟩ = some (.string n) := by
  have h1 := (user_cells h hx).1
  simpa using h1
theorem user_some {w : World} {A : Option Addr} {N cap : Nat} {L : List Us} {k : Nat} {u : Us} (h : UIn w A N cap L) (hx : L[k]? = some u) : ∃ b o, A = some ⟨b, o, none⟩ := by
  obtain ⟨n, p, q⟩ := u
  obtain ⟨b, o, hA, _⟩ := user_at h.2.2.1 hx
  exact ⟨b, o, hA⟩
theorem user_mem {L : List Us} {k : Nat} {n p : ByteArray} {q : Int} (hv : vU L = true) (hx : L[k]? = some (n, p, q)) : nameB (kb n) = true ∧ nameB (kb p) = true ∧ (fU L n).isSome = true ∧ prU L n p = true ∧ n.size ≤ 8 ∧ p.size ≤ 8 ∧ ∀ p', p' ≠ p → prU L n p' = false := by
  obtain ⟨h1, h2, h3⟩ := vU_iff.1 hv
  have hm := List.mem_of_getElem? hx
  have hp := okU_parts (h2 _ hm)
  have hf := fU_mem h3 hm
  have hu : usF L n = ((n, p, q), true) := usF_yes hv hf
  refine ⟨hp.1, hp.2.2.1, by rw [hf]; rfl, by unfold prU; rw [hu]; simp, (nm_size hp.1).2, (nm_size hp.2.2.1).2, fun p' hne => ?_⟩
  unfold prU
  rw [hu]
  simp only [Bool.true_and]
  exact beq_eq_false_iff_ne.2 fun e => hne (kb_inj e).symm
theorem imk_at {u p t : ByteArray} (h : mkB u p = t) (w : World) (hu : u.size ≤ 16777216) (hp : p.size ≤ 16777216) : Calls Tryz.prog 26 #[.string u, .string p] w (Says w t) := by
  subst h
  exact imake u p w hu hp
theorem fU_zed {L : List Us} {n : ByteArray} (h : (L.any fun u => decide (u.1 = n)) = false) : (fU L n).isSome = false := by
  cases hf : fU L n with
  | none => rfl
  | some u =>
    obtain ⟨h1, h2⟩ := fU_some hf
    rw [List.any_eq_false] at h
    exact absurd (decide_eq_true h2) (h u h1)
theorem SV.below {w w' : World} {X : Nat} {s : Sb} {A : Option Addr} {N cap : Nat} (h : SV w X s A N cap) (hb : Below w.heap.size w w') : SV w' X s A N cap := ⟨h.1.below hb h.1.lt, h.2.below hb (Nat.le_refl _)⟩
theorem SV.keep {w : World} {X : Nat} {s : Sb} {A : Option Addr} {N cap : Nat} (h : SV w X s A N cap) : Kp w fun w2 => SV w2 X s A N cap := fun w2 h2 => h.below h2
theorem SV.new {w : World} {X : Nat} {s : Sb} {A : Option Addr} {N cap : Nat} (h : SIn w A N cap s.to) (hX : w.heap.size = X) : SV (w.alloc (.cells #[.int .i64 s.st, .string s.us, .slice A N cap, .string s.tx] 25)) X s A N cap := (SV.made h hX rfl).here
/-- A box that is made ahead of the call, and filled behind it. -/
theorem SV.put {w : World} {X : Nat} {s : Sb} {A : Option Addr} {N cap : Nat} {a0 a1 a2 a3 : Value} (h : SIn w A N cap s.to) (hW : Whole w X 25 #[a0, a1, a2, a3]) (hne : ∀ q, A = some q → q.block ≠ X) : SV ((((w.setCell ⟨X, 0, none⟩ (.int .i64 s.st)).setCell ⟨X, 1, none⟩ (.string s.us)).setCell ⟨X, 2, none⟩ (.slice A N cap)).setCell ⟨X, 3, none⟩ (.string s.tx)) X s A N cap :=
  ⟨put_sb hW _ _ _ _, h.set4 hne _ _ _ _⟩
/-- An append inside a region that draws its order, under a guard that is met. -/
theorem step_append_rows_g {α : Type} {w : World} {P : Program} {ops : Array Oper} {o : Oper} {a : Act} {K : Act → World → Prop} {Q : Exit → Act → World → Prop} {E : Prop} (hw : Region.wanted o (yielded ops a.tmps) = true) (s x : Operand) (t : TypeId)
    (ho : o.op = .call { callee := .builtin .append, args := #[s, x], argTypes := #[t, t] })
    (R : RowT α) (base : Nat) (i : TypeInfo) (z : Value) (bytes : Nat) (ht : P.underlying t = some (.slice R.t)) (hi : P.info? R.t = some i) (hz : i.zero = some z)
    (hsize : i.size = R.sz) (hby : i.bytes = bytes) (hzs : z.cells.size = R.sz) (hsz : 0 < R.sz)
    (v : Value) (L M : List α) (n : Nat) (hn : L.length = n) (hs : a.eval s = v) (hown : ROwn R w base v L)
    (A : Option Addr) (m c : Nat) (hx : a.eval x = .slice A m c) (hm : M.length = m) (hat : RAt R w A M) (hA : A = none → c = 0) (hsp : ∀ q, A = some q → q.spot = none)
    (h63 : n + m ≤ maxLen) (hbytes : (n + m) * bytes ≤ 140737488355328) (hbase : base ≤ w.heap.size)
    (h : ∀ v' w', ROwn R w' base v' (L ++ M) → w.grownBy w' v.ownBlock → (v.ownBlock ≠ none → v'.ownBlock ≠ none) → K (a.put o.dst v') w') :
    if Region.wanted o (yielded ops a.tmps) = true then Oper.wp P o a w K Q else E := by
  rw [if_pos hw]
  exact wp_append_rows s x t ho R base i z bytes ht hi hz hsize hby hzs hsz v L M n hn hs hown A m c hx hm hat hA hsp h63 hbytes hbase h
end Go.Proofs.YtichajalinkcdaaGreatDoor
