/- Clauses: whether all have one that is as they want it, of the model and of the program. -/
import Derived.Test.YtbepnfcghjfngaaCnfB
namespace Go.Proofs.Ytbepnfcghjfngaa
open Go.ChangeShapes Go.WideShapes Go.ChangeAt Go.RowKit Go.Joins
set_option linter.unusedVariables false

/-- Each of so many clauses has one. -/
def AllP (n : Nat) (L : Nat → Nat) (V : Nat → Nat → Int) (l : Nat) (B : Nat → Bool) : Prop := ∀ i, i < n → HasP (L i) (V i) l B
noncomputable def allB (n : Nat) (L : Nat → Nat) (V : Nat → Nat → Int) (l : Nat) (B : Nat → Bool) : Bool := @decide (AllP n L V l B) (Classical.propDecidable _)
theorem allB_iff {n : Nat} {L : Nat → Nat} {V : Nat → Nat → Int} {l : Nat} {B : Nat → Bool} : allB n L V l B = true ↔ AllP n L V l B := by simp [allB]
theorem allB_yes {n : Nat} {L : Nat → Nat} {V : Nat → Nat → Int} {l : Nat} {B : Nat → Bool} (h : AllP n L V l B) : allB n L V l B = true := allB_iff.2 h
theorem allB_no {n : Nat} {L : Nat → Nat} {V : Nat → Nat → Int} {l : Nat} {B : Nat → Bool} (h : ¬ AllP n L V l B) : allB n L V l B = false := by simpa [allB] using h
noncomputable def chB (m : Int) (n : Nat) (L : Nat → Nat) (V : Nat → Nat → Int) (l : Nat) (B : Nat → Bool) : Bool := cnfB m n L V && decide ((l : Int) = m) && allB n L V l B
end Go.Proofs.Ytbepnfcghjfngaa
