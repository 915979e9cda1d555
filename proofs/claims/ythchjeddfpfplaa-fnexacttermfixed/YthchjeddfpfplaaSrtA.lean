/- The sorts of terms, of the model. -/
import Derived.Test.YthchjeddfpfplaaTrmC
namespace Go.Proofs.Ythchjeddfpfplaa
open Go.ChangeShapes Go.WideShapes Go.ChangeAt Go.RowKit Go.Joins
set_option linter.unusedVariables false

/-- How many terms a kind is of. -/
def arity (op : Int) : Int := if op = 20 ∨ op = 21 ∨ op = 24 then 0 else if op = 1 ∨ op = 2 ∨ op = 22 ∨ op = 25 then 1 else if op = 23 then 3 else if op = 26 ∨ op = 27 then 2 else if 3 ≤ op ∧ op ≤ 17 then 2 else -1
theorem arity_cases (op : Int) : (op = 20 ∨ op = 21 ∨ op = 24) ∧ arity op = 0 ∨ (op = 1 ∨ op = 2 ∨ op = 22 ∨ op = 25) ∧ arity op = 1 ∨ op = 23 ∧ arity op = 3 ∨ (op = 26 ∨ op = 27) ∧ arity op = 2 ∨ (3 ≤ op ∧ op ≤ 17) ∧ arity op = 2 ∨ (op < 1 ∨ 27 < op ∨ op = 18 ∨ op = 19) ∧ arity op = -1 := by
  unfold arity
  repeat' split
  all_goals first | omega | (simp only [and_true] at *; omega)
/-- A term has nothing that its kind has not. -/
def PlainP (op a b : Int) (s : ByteArray) (n : Nat) : Prop := (op ≠ 21 → s.toList = []) ∧ (op ≠ 20 → op ≠ 22 → a = 0 ∧ b = 0) ∧ (n : Int) = arity op
noncomputable def plainB (op a b : Int) (s : ByteArray) (n : Nat) : Bool := @decide (PlainP op a b s n) (Classical.propDecidable _)
theorem plainB_iff (op a b : Int) (s : ByteArray) (n : Nat) : plainB op a b s n = true ↔ PlainP op a b s n := by simp [plainB]
theorem plainB_yes {op a b : Int} {s : ByteArray} {n : Nat} (h : PlainP op a b s n) : plainB op a b s n = true := (plainB_iff _ _ _ _ _).2 h
theorem plainB_no {op a b : Int} {s : ByteArray} {n : Nat} (h : ¬ PlainP op a b s n) : plainB op a b s n = false := by simpa [plainB] using h
end Go.Proofs.Ythchjeddfpfplaa
