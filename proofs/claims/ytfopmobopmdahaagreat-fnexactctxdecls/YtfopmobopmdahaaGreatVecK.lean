/- What VecBin of the model returns. -/
import Derived.Test.YtfopmobopmdahaaGreatVecJ
namespace Go.Proofs.YtfopmobopmdahaaGreat
open Go.ChangeShapes Go.WideShapes Go.ChangeAt Go.RowKit Go.Joins
set_option linter.unusedVariables false
attribute [local go_sem ↓] Go.wp_at_zero Go.wp_at_succ

/-- What is done to two numbers: the answer, and true; or nothing and false. -/
def binV (op a x b y : Int) : Value :=
  if okB a x = true ∧ okB b y = true then
    (if op = 14 then (if a + b ≤ 4 then yesV (a + b) (x * two b + y) else noV) else (if (3 ≤ op ∧ op ≤ 13) ∧ a = b then yesV a (binN op a x y) else noV))
  else noV
theorem binV_form (op a x b y : Int) : ∃ c d t, binV op a x b y = .tuple #[.agg #[.int .i64 c, .int .i64 d], .bool t] := by
  unfold binV
  split
  · split
    · split
      · exact yesV_form _ _
      · exact noV_form
    · split
      · exact yesV_form _ _
      · exact noV_form
  · exact noV_form
end Go.Proofs.YtfopmobopmdahaaGreat
