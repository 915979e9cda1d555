/- The sorts of terms of one and of two, and of all terms, of the model. -/
import Derived.Test.YthchjeddfpfplaaSrtA
namespace Go.Proofs.Ythchjeddfpfplaa
open Go.ChangeShapes Go.WideShapes Go.ChangeAt Go.RowKit Go.Joins
set_option linter.unusedVariables false

def oneS (op A B a : Int) : Int := if op = 25 then (if a = 0 then 0 else -1) else if a < 1 then -1 else if op = 22 then (if 0 ≤ B ∧ B ≤ A ∧ A < a then A - B + 1 else -1) else a
def bothS (op a b : Int) : Int := if op = 26 ∨ op = 27 then (if a = 0 ∧ b = 0 then 0 else -1) else if a < 1 ∨ b < 1 then -1 else if op = 14 then (if a + b ≤ 4 then a + b else -1) else if a ≠ b then -1 else if 15 ≤ op then 0 else a
end Go.Proofs.Ythchjeddfpfplaa
