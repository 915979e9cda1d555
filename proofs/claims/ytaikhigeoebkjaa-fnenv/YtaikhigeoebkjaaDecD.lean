/- Names that came in: what they lie in memory as. -/
import Derived.Test.YtaikhigeoebkjaaDecB
namespace Go.Proofs.Ytaikhigeoebkjaa
open Go.ChangeShapes Go.WideShapes Go.ChangeAt Go.RowKit Go.Joins
set_option linter.unusedVariables false

theorem laidOut : laidOutB Try.prog = true := by kernel_rfl
end Go.Proofs.Ytaikhigeoebkjaa
