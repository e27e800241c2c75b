/-
  How users lie in memory; the contracts of the code's isUser and name. Condition: the users can be read, and are not too many; texts are not too long.
-/
import Derived.Test.YtkhfflbgnojcfaaUm
import Derived.Test.YtkhfflbgnojcfaaCm
import Derived.Test.YtkhfflbgnojcfaaLat
import Derived.Laws.Cover1
import Derived.Deep.RegionHeld3
namespace Go.Proofs.Ytkhfflbgnojcfaa
open Go.RowKit
set_option linter.unusedVariables false

def usR : RowT Us where
  t := 42
  sz := 3
  enc := fun g => [.string g.1, .string g.2.1, .int .i64 g.2.2]
  len := fun _ => rfl
  one := fun x u hu => by
    simp at hu
    rcases hu with rfl | rfl | rfl <;> rfl
/-- A user as a value. -/
def usV (u : Us) : Value := .agg #[.string u.1, .string u.2.1, .int .i64 u.2.2]
theorem Try.infoUser : (Try.prog.info? 42).map (fun i => (i.zero, i.size, i.bytes)) = some (some (.agg #[.string ⟨#[]⟩, .string ⟨#[]⟩, .int .i64 0]), 3, 40) := by kernel_rfl
theorem user_at {w : World} {A : Option Addr} {L : List Us} {k : Nat} {n p : ByteArray} {q : Int} (h : RAt usR w A L) (hx : L[k]? = some (n, p, q)) :
    ∃ b o, A = some ⟨b, o, none⟩ ∧ b < w.heap.size ∧ w.cell? ⟨b, o + k * 3, none⟩ = some (.string n) ∧ w.cell? ⟨b, o + k * 3 + 1, none⟩ = some (.string p) ∧ w.cell? ⟨b, o + k * 3 + 2, none⟩ = some (.int .i64 q) := by
  obtain ⟨b, o, hA, hb, h1⟩ := h k _ hx
  exact ⟨b, o, hA, hb, h1 0 _ rfl, h1 1 _ rfl, h1 2 _ rfl⟩
def smallU (L : List Us) : Prop := L.length ≤ 4194304 ∧ ∀ g ∈ L, g.1.size ≤ 16777216 ∧ g.2.1.size ≤ 16777216
/-- A slice of users that came in: what the walk asks of it. -/
def UIn (w : World) (A : Option Addr) (N cap : Nat) (L : List Us) : Prop := L.length = N ∧ N ≤ 4194304 ∧ RAt usR w A L ∧ (A = none → cap = 0) ∧ (∀ q, A = some q → q.spot = none) ∧ (∀ g ∈ L, g.1.size ≤ 16777216 ∧ g.2.1.size ≤ 16777216)
theorem UIn.below {w w' : World} {A : Option Addr} {N cap B : Nat} {L : List Us} (h : UIn w A N cap L) (hb : Below B w w') (hB : w.heap.size ≤ B) : UIn w' A N cap L := ⟨h.1, h.2.1, h.2.2.1.below hb hB, h.2.2.2⟩
theorem UIn.made {w : World} {B N cap : Nat} {A : Option Addr} {L : List Us} (h : ROwn usR w B (.slice A N cap) L) (hs : smallU L) : UIn w A N cap L := ⟨h.len.1.symm, h.len.1 ▸ hs.1, h.at, h.nilcap, h.spot, hs.2⟩
theorem UIn.small {w : World} {A : Option Addr} {N cap : Nat} {L : List Us} (h : UIn w A N cap L) : smallU L := ⟨h.1 ▸ h.2.1, h.2.2.2.2.2⟩
theorem ev_walk {u : ByteArray} (h : u ≠ evB) : (u.toList == [97, 110, 121, 111, 110, 101]) = false ∧ ¬ u.toList = [97, 110, 121, 111, 110, 101] ∧ (u.toList != [97, 110, 121, 111, 110, 101]) = true := by
  have h2 := ne_walk h
  have h3 : evB.toList = [97, 110, 121, 111, 110, 101] := by rw [ByteArray.toList_eq]; rfl
  rw [h3] at h2
  exact ⟨h2.1, h2.2, bne_iff_ne.2 h2.2⟩
theorem ev_walk' : evB.toList = [97, 110, 121, 111, 110, 101] := by rw [ByteArray.toList_eq]; rfl
theorem okU_e (u : Us) {x y z : Bool} (h1 : nameB (kb u.1) = x) (h3 : nameB (kb u.2.1) = y) (h4 : (decide (0 ≤ u.2.2) && decide (u.2.2 ≤ 200)) = z) : okU u = (x && (!(kb u.1 == kb evB) && (y && z))) := by
  unfold okU
  rw [h1, h3, h4]
end Go.Proofs.Ytkhfflbgnojcfaa
