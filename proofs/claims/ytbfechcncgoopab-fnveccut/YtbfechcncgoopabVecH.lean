/- What VecUn of the program returns: as the model's. -/
import Derived.Test.YtbfechcncgoopabVecG1
namespace Go.Proofs.Ytbfechcncgoopab
open Go.ChangeShapes Go.WideShapes Go.ChangeAt Go.RowKit Go.Joins
set_option linter.unusedVariables false
attribute [local go_sem ↓] Go.wp_at_zero Go.wp_at_succ

end Go.Proofs.Ytbfechcncgoopab
