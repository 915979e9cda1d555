/- Whether two terms are the same but for their Kids, of the program. -/
import Derived.Test.YtfopmobopmdahaaGreatDecB
namespace Go.Proofs.YtfopmobopmdahaaGreat
open Go.ChangeShapes Go.WideShapes Go.ChangeAt Go.RowKit Go.Joins
set_option linter.unusedVariables false

/-- Two terms are the same but for their Kids. -/
def hsB (op a b : Int) (s : ByteArray) (op' a' b' : Int) (s' : ByteArray) : Bool := (op == op') && (a == a') && (b == b') && (s.toList == s'.toList)
set_option maxRecDepth 100000 in
set_option maxHeartbeats 4000000 in
theorem headSame_any (op a b : Int) (s : ByteArray) (n : Nat) (ad : Option Addr) (cp : Nat) (op' a' b' : Int) (s' : ByteArray) (n' : Nat) (ad' : Option Addr) (cp' : Nat) (w : World) :
    Calls Tryz.prog 94 #[.agg #[.int .i64 op, .int .i64 a, .int .i64 b, .string s, .slice ad n cp], .agg #[.int .i64 op', .int .i64 a', .int .i64 b', .string s', .slice ad' n' cp']] w fun e w' => e = .returned (.bool (hsB op a b s op' a' b' s')) ∧ Below w.heap.size w w' := by
  unfold hsB
  cases h1 : (op == op')
  · go_enter Tryz.func94, Tryz.ntmps94
    go_wp2
    go_ret
    exact ⟨by first | rfl | simp, (by repeat (first | exact Below.refl _ _ | assumption | refine below_drewN ?_ _ | refine Below.drew ?_ | refine Below.alloc ?_ (by first | exact Nat.le_refl _ | exact Below.size (by assumption) | (simp; done) | (simp; omega)) _ | refine Below.setCell ?_ (by first | exact Nat.le_refl _ | exact Below.size (by assumption) | (simp; done) | (simp; omega)) _ | refine Below.trans ?_ (by assumption)))⟩
  · cases h2 : (a == a')
    · go_enter Tryz.func94, Tryz.ntmps94
      go_wp2
      go_ret
      exact ⟨by first | rfl | simp, (by repeat (first | exact Below.refl _ _ | assumption | refine below_drewN ?_ _ | refine Below.drew ?_ | refine Below.alloc ?_ (by first | exact Nat.le_refl _ | exact Below.size (by assumption) | (simp; done) | (simp; omega)) _ | refine Below.setCell ?_ (by first | exact Nat.le_refl _ | exact Below.size (by assumption) | (simp; done) | (simp; omega)) _ | refine Below.trans ?_ (by assumption)))⟩
    · cases h3 : (b == b')
      · go_enter Tryz.func94, Tryz.ntmps94
        go_wp2
        go_ret
        exact ⟨by first | rfl | simp, (by repeat (first | exact Below.refl _ _ | assumption | refine below_drewN ?_ _ | refine Below.drew ?_ | refine Below.alloc ?_ (by first | exact Nat.le_refl _ | exact Below.size (by assumption) | (simp; done) | (simp; omega)) _ | refine Below.setCell ?_ (by first | exact Nat.le_refl _ | exact Below.size (by assumption) | (simp; done) | (simp; omega)) _ | refine Below.trans ?_ (by assumption)))⟩
      · go_enter Tryz.func94, Tryz.ntmps94
        go_wp2
        go_ret
        exact ⟨by first | rfl | simp, (by repeat (first | exact Below.refl _ _ | assumption | refine below_drewN ?_ _ | refine Below.drew ?_ | refine Below.alloc ?_ (by first | exact Nat.le_refl _ | exact Below.size (by assumption) | (simp; done) | (simp; omega)) _ | refine Below.setCell ?_ (by first | exact Nat.le_refl _ | exact Below.size (by assumption) | (simp; done) | (simp; omega)) _ | refine Below.trans ?_ (by assumption)))⟩
theorem hsB_iff (op a b : Int) (s : ByteArray) (op' a' b' : Int) (s' : ByteArray) : hsB op a b s op' a' b' s' = true ↔ op = op' ∧ a = a' ∧ b = b' ∧ s.toList = s'.toList := by
  simp [hsB, and_assoc]
end Go.Proofs.YtfopmobopmdahaaGreat
