/- What VecUn of the model returns: the number turned or taken from 0, cut to size, and true; nothing and false where the number is not right or the operation is another one. -/
import Derived.Test.YtfopmobopmdahaaGreatVecC
namespace Go.Proofs.YtfopmobopmdahaaGreat
open Go.ChangeShapes Go.WideShapes Go.ChangeAt Go.RowKit Go.Joins
set_option linter.unusedVariables false
attribute [local go_sem ↓] Go.wp_at_zero Go.wp_at_succ

/-- A number and true, or nothing and false. -/
def yesV (a n : Int) : Value := .tuple #[.agg #[.int .i64 a, .int .i64 n], .bool true]
def noV : Value := .tuple #[.agg #[.int .i64 0, .int .i64 0], .bool false]
def unV (op a n : Int) : Value := if okB a n = true ∧ (op = 1 ∨ op = 2) then yesV a (unN op a n) else noV
theorem yesV_form (a n : Int) : ∃ c d t, yesV a n = .tuple #[.agg #[.int .i64 c, .int .i64 d], .bool t] := ⟨a, n, true, rfl⟩
theorem noV_form : ∃ c d t, noV = .tuple #[.agg #[.int .i64 c, .int .i64 d], .bool t] := ⟨0, 0, false, rfl⟩
theorem unV_form (op a n : Int) : ∃ c d t, unV op a n = .tuple #[.agg #[.int .i64 c, .int .i64 d], .bool t] := by
  unfold unV
  split
  · exact yesV_form _ _
  · exact noV_form
theorem wr (x : Int) (h : -1000000 ≤ x ∧ x ≤ 1000000) : IntKind.i64.wrap x = x := by rw [Go.IntWalk.i64_left, Go.IntWalk.wrap64_in _ (by omega)]

end Go.Proofs.YtfopmobopmdahaaGreat
