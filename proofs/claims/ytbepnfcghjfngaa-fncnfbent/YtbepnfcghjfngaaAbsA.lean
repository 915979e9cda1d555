/- Numbers without their signs. -/
import Derived.Test.YtbepnfcghjfngaaClaA
namespace Go.Proofs.Ytbepnfcghjfngaa
open Go.ChangeShapes Go.WideShapes Go.ChangeAt Go.RowKit Go.Joins
set_option linter.unusedVariables false

def absI (m : Int) : Int := if m < 0 then -m else m
theorem absI_pos {m : Int} (h : 0 ≤ m) : absI m = m := by unfold absI; rw [if_neg (by omega)]
theorem absI_neg {m : Int} (h : m < 0) : absI m = -m := by unfold absI; rw [if_pos h]
theorem absI_bd (m N : Int) (h1 : -N ≤ m) (h2 : m ≤ N) : 0 ≤ absI m ∧ absI m ≤ N := by unfold absI; split <;> omega
set_option maxHeartbeats 400000 in
theorem l4Abs_any (m : Int) (w : World) (h1 : -1000 ≤ m) (h2 : m ≤ 1000) :
    Calls Try.prog 20 #[.int .i64 m] w fun e w' => e = .returned (.int .i64 (absI m)) ∧ w' = w := by
  by_cases h : m < 0
  · rw [absI_neg h]
    go_enter Try.func20, Try.ntmps20
    go_wp2
    go_ret
    exact ⟨rfl, rfl⟩
  · rw [absI_pos (by omega)]
    go_enter Try.func20, Try.ntmps20
    go_wp2
    go_ret
    exact ⟨rfl, rfl⟩
theorem bare_abs {m : Int} {N : Nat} (h1 : -(N : Int) ≤ m) (h2 : m ≤ N) (hN : N ≤ 1048576) : bareI m = absI m := by
  unfold bareI absI
  by_cases h : m < 0
  · rw [if_pos h, if_pos h, if_neg (by omega)]
  · rw [if_neg h, if_neg h]
theorem among_iff {m : Int} {N : Nat} (hm : W64 m) (hN : N ≤ 1048576) : amongB m N = true ↔ -(N : Int) ≤ m ∧ m ≤ N ∧ m ≠ 0 := by
  unfold amongB bareI
  unfold W64 at hm
  by_cases h : m < 0
  · rw [if_pos h]
    by_cases h' : m = -9223372036854775808
    · rw [if_pos h']; simp; omega
    · rw [if_neg h']; simp; omega
  · rw [if_neg h]; simp; omega
end Go.Proofs.Ytbepnfcghjfngaa
