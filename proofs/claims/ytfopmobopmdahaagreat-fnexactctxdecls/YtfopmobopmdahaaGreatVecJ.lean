/- What l1Bin and VecBin of the model return. -/
import Derived.Test.YtfopmobopmdahaaGreatVecI
namespace Go.Proofs.YtfopmobopmdahaaGreat
open Go.ChangeShapes Go.WideShapes Go.ChangeAt Go.RowKit Go.Joins
set_option linter.unusedVariables false
attribute [local go_sem ↓] Go.wp_at_zero Go.wp_at_succ

end Go.Proofs.YtfopmobopmdahaaGreat
