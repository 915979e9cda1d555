/- The first list of which all clauses have one (CnfLeast), of the model and of the program. -/
import Derived.Test.YtbepnfcghjfngaaLeaA
import Derived.Test.YtbepnfcghjfngaaCnfD
namespace Go.Proofs.Ytbepnfcghjfngaa
open Go.ChangeShapes Go.WideShapes Go.ChangeAt Go.RowKit Go.Joins
set_option linter.unusedVariables false

/-- Which list is the first. -/
noncomputable def leastO (m : Int) (n : Nat) (L : Nat → Nat) (V : Nat → Nat → Int) : Option Nat :=
  @ite _ (CnfP m n L V ∧ m ≤ 10) (Classical.propDecidable _) (firstO (fun k => allB n L V m.toNat (vls m.toNat k)) (2 ^ m.toNat)) none
theorem leastO_yes {m : Int} {n : Nat} {L : Nat → Nat} {V : Nat → Nat → Int} (h : CnfP m n L V) (h' : m ≤ 10) : leastO m n L V = firstO (fun k => allB n L V m.toNat (vls m.toNat k)) (2 ^ m.toNat) := if_pos ⟨h, h'⟩
theorem leastO_no {m : Int} {n : Nat} {L : Nat → Nat} {V : Nat → Nat → Int} (h : ¬ (CnfP m n L V ∧ m ≤ 10)) : leastO m n L V = none := if_neg h
/-- What is handed back: that list, in memory of its own, or none. -/
def LPost (o : Option Nat) (N base : Nat) (e : Ending) (w' : World) : Prop :=
  (∃ k B, o = some k ∧ k < 2 ^ N ∧ base ≤ B ∧ e = .returned (.tuple #[.slice (some ⟨B, 0, none⟩) N N, .bool true]) ∧ Bls w' B 0 N (vls N k) ∧ Made w' B N) ∨ (o = none ∧ ∃ a cap, e = .returned (.tuple #[.slice a 0 cap, .bool false]))
theorem pow10 {N : Nat} (h : N ≤ 10) : 2 ^ N ≤ 1024 := by
  have := Nat.pow_le_pow_right (n := 2) (by omega) h
  simpa using this
theorem bls_made (w : World) (N : Nat) (t : TypeId) : Bls (w.alloc (.cells (madeCells #[.bool false] N) t)) w.heap.size 0 N (vls N 0) := by
  intro i hi
  rw [Nat.zero_add, World.cell?_alloc_new]
  have e : vls N 0 i = false := by simp [vls]
  rw [e]
  simp [madeCells, hi, Nat.mod_one]
theorem Bls.mov {w w' : World} {b off n R : Nat} {V : Nat → Bool} (h : Bls w b off n V) (hm : Mov R w w') (hb : b ≠ R) : Bls w' b off n V := fun i hi => hm.cell (h i hi) hb
theorem Box.mov {w w' : World} {b R : Nat} {m : Int} {a : Option Addr} {n cap : Nat} (h : Box w b m a n cap) (hm : Mov R w w') (hb : b ≠ R) : Box w' b m a n cap := ⟨hm.cell h.1 hb, hm.cell h.2 hb⟩
end Go.Proofs.Ytbepnfcghjfngaa
