/- Whether a mark is so, or turned, of the model and of the program. -/
import Derived.Test.YtmpiiilkaadhfaaDoorClaA
namespace Go.Proofs.YtmpiiilkaadhfaaDoor
open Go.ChangeShapes Go.WideShapes Go.ChangeAt Go.RowKit Go.Joins
set_option linter.unusedVariables false
set_option maxRecDepth 100000

set_option maxRecDepth 100000 in
set_option maxHeartbeats 400000 in
theorem iNetLit_any (m : Int) (c : Option Addr) (n cap' : Nat) (B : Nat → Bool) (w : World) (hm : W64 m) (he : BlsAt w c n B) (hn : n ≤ 1048576) :
    Calls Tryd.prog 15 #[.slice c n cap', .int .i64 m] w fun e w' => e = .returned (.bool (metB m n B)) ∧ w' = w := by
  go_enter Tryd.func15, Tryd.ntmps15
  go_wp2_with fail
  refine (met_any _ _ _ _ _ _ hm he hn).mono ?_
  rintro e w1 ⟨rfl, rfl⟩
  go_wp2
  go_ret
  exact ⟨rfl, rfl⟩
end Go.Proofs.YtmpiiilkaadhfaaDoor
