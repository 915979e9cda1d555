/- Names that came in: what they lie in memory as. -/
import Derived.Test.YtmdelmpdnmhpmaaDecB
namespace Go.Proofs.Ytmdelmpdnmhpmaa
open Go.ChangeShapes Go.WideShapes Go.ChangeAt Go.RowKit Go.Joins
set_option linter.unusedVariables false

theorem laidOut : laidOutB Try.prog = true := by kernel_rfl
end Go.Proofs.Ytmdelmpdnmhpmaa
