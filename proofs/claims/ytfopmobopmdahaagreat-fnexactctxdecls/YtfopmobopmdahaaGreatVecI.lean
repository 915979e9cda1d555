/- What the model's helpers of two numbers return: l1Min, l1Bits, l1Shift, l1Bin. -/
import Derived.Test.YtfopmobopmdahaaGreatVecE
namespace Go.Proofs.YtfopmobopmdahaaGreat
open Go.ChangeShapes Go.WideShapes Go.ChangeAt Go.RowKit Go.Joins
set_option linter.unusedVariables false
attribute [local go_sem ↓] Go.wp_at_zero Go.wp_at_succ

theorem ret_two {k : IntKind} {a b : Int} {p : Bool} (h : a = b) : Ending.returned (.tuple #[.int k a, .bool p]) = .returned (.tuple #[.int k b, .bool p]) := by rw [h]

end Go.Proofs.YtfopmobopmdahaaGreat
