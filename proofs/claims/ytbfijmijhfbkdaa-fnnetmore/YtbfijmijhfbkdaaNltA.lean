/- Whether a mark is so, or turned, of the model and of the program. -/
import Derived.Test.YtbfijmijhfbkdaaClaA
namespace Go.Proofs.Ytbfijmijhfbkdaa
open Go.ChangeShapes Go.WideShapes Go.ChangeAt Go.RowKit Go.Joins
set_option linter.unusedVariables false

set_option maxHeartbeats 1000000 in
theorem sNetLit_any (m : Int) (c : Option Addr) (n cap' : Nat) (B : Nat → Bool) (w : World) (hm : W64 m) (he : BlsAt w c n B) (hn : n ≤ 1048576) :
    Calls Try.prog 54 #[.slice c n cap', .int .i64 m] w fun e w' => e = .returned (.bool (metB m n B)) ∧ w' = w := by
  unfold W64 at hm
  rcases met_ways n m with ⟨j, hj, rfl⟩ | ⟨j, hj, rfl⟩ | ho
  · obtain ⟨c, off', rfl, hc, he⟩ := he.ok hj
    have g0 := he j hj
    rw [met_pos hj]
    clear he
    go_enter Try.func54, Try.ntmps54
    go_wp2
    go_ret
    exact ⟨rfl, rfl⟩
  · obtain ⟨c, off', rfl, hc, he⟩ := he.ok hj
    have g0 := he j hj
    rw [met_neg hj]
    clear he
    go_enter Try.func54, Try.ntmps54
    go_wp2
    go_ret
    exact ⟨rfl, rfl⟩
  · rw [met_out ho]
    clear he
    rcases ho with rfl | ho | ho
    all_goals
      go_enter Try.func54, Try.ntmps54
      go_wp2
      go_ret
      exact ⟨rfl, rfl⟩
set_option maxHeartbeats 400000 in
theorem iNetLit_any (m : Int) (c : Option Addr) (n cap' : Nat) (B : Nat → Bool) (w : World) (hm : W64 m) (he : BlsAt w c n B) (hn : n ≤ 1048576) :
    Calls Try.prog 14 #[.slice c n cap', .int .i64 m] w fun e w' => e = .returned (.bool (metB m n B)) ∧ w' = w := by
  go_enter Try.func14, Try.ntmps14
  go_wp2_with fail
  refine (met_any _ _ _ _ _ _ hm he hn).mono ?_
  rintro e w1 ⟨rfl, rfl⟩
  go_wp2
  go_ret
  exact ⟨rfl, rfl⟩
end Go.Proofs.Ytbfijmijhfbkdaa
