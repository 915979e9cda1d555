/- What vecDone of the program returns at some of the operations of its rows. -/
import Derived.Test.YtbfechcncgoopabVecF
namespace Go.Proofs.Ytbfechcncgoopab
open Go.ChangeShapes Go.WideShapes Go.ChangeAt Go.RowKit Go.Joins
set_option linter.unusedVariables false
attribute [local go_sem ↓] Go.wp_at_zero Go.wp_at_succ

end Go.Proofs.Ytbfechcncgoopab
