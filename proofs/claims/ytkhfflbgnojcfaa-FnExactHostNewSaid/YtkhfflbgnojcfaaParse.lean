/-
  The contracts of impl.AddressParse, impl.PathParse and impl.AddressText. No condition beyond a bound on the text's length.
-/
import Derived.Test.YtkhfflbgnojcfaaImpl
namespace Go.Proofs.Ytkhfflbgnojcfaa
open Go.RowKit
set_option linter.unusedVariables false

/-- What a parser of addresses leaves: 'ok' says whether it succeeds, 'U' and 'D' are the user's and the domain's bytes. -/
def Parsed (w : World) (ok : Bool) (U D : List UInt8) (e : Ending) (w' : World) : Prop :=
  ∃ u d : ByteArray, e = .returned (.tuple #[.agg #[.string u, .string d], .bool ok]) ∧ (ok = true → u.data.toList = U ∧ d.data.toList = D) ∧ (ok = false → u = ⟨#[]⟩ ∧ d = ⟨#[]⟩) ∧ Below w.heap.size w w'

theorem parsed_no {w w' : World} {ok : Bool} {U D : List UInt8} (h : ok = false) (hb : Below w.heap.size w w') : Parsed w ok U D (.returned (.tuple #[.agg #[.string ⟨#[]⟩, .string ⟨#[]⟩], .bool false])) w' :=
  ⟨_, _, by rw [h], fun h' => by rw [h] at h'; (cases h'), fun _ => ⟨rfl, rfl⟩, hb⟩
theorem parsed_yes {w w' : World} {ok : Bool} {u d : ByteArray} {U D : List UInt8} (h : ok = true) (hu : u.data.toList = U) (hd : d.data.toList = D) (hb : Below w.heap.size w w') : Parsed w ok U D (.returned (.tuple #[.agg #[.string u, .string d], .bool true])) w' :=
  ⟨u, d, by rw [h], fun _ => ⟨hu, hd⟩, fun h' => by rw [h] at h'; (cases h'), hb⟩

theorem two_below {w w1 : World} {o p : Obj} (h : ((w.alloc o).alloc p).grownBy w1 (some (w.heap.size + 1))) : Below w.heap.size w w1 :=
  below_gr (((Below.refl _ _).alloc (Nat.le_refl _) o).alloc (by simp) p) h (by simp; omega) (by omega)

theorem cur_new2 (w : World) (s : ByteArray) (o : Obj) : Cur ((w.alloc o).alloc (.cells #[.string s, .int .i64 0] 70)) (w.heap.size + 1) s 0 := by
  have := Whole.made (w.alloc o) 70 #[.string s, .int .i64 0]
  show Whole _ _ _ _
  simpa using this

/-- The path without an address. -/
def bare : List UInt8 := [60, 62]
def ppA (L : List UInt8) : Bool := decide (L = bare) || ppB L
def pathU (L : List UInt8) : List UInt8 := if L = bare then [] else adUser L 1
def pathD (L : List UInt8) : List UInt8 := if L = bare then [] else adDom L 1
theorem path_no {L : List UInt8} (h : ¬ L = bare) (hp : ppB L = false) : ppA L = false := by unfold ppA; rw [hp, decide_eq_false h]; rfl
theorem path_yes {L : List UInt8} (hp : ppB L = true) : ppA L = true := by unfold ppA; rw [hp]; simp
end Go.Proofs.Ytkhfflbgnojcfaa
