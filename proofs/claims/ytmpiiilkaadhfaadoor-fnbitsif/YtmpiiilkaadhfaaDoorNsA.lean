/- Whether two nets are one, of the model and of the program. -/
import Derived.Test.YtmpiiilkaadhfaaDoorGtB
namespace Go.Proofs.YtmpiiilkaadhfaaDoor
open Go.ChangeShapes Go.WideShapes Go.ChangeAt Go.RowKit Go.Joins
set_option linter.unusedVariables false
set_option maxRecDepth 100000

/-- Two nets are one. -/
noncomputable def nsB (m m' : Int) (n n' : Nat) (G G' : Nat → Gt) : Bool := m == m' && geB n n' G G'
set_option maxRecDepth 100000 in
set_option maxHeartbeats 1000000 in
theorem iNetSame_any (m m' : Int) (a c : Option Addr) (n n' cap cap' : Nat) (G G' : Nat → Gt) (w : World) (hd : GtsAt w a n G) (hd' : GtsAt w c n' G') (hn : n ≤ 1048576) (hn' : n' ≤ 1048576) :
    Calls Tryd.prog 9 #[.agg #[.int .i64 m, .slice a n cap], .agg #[.int .i64 m', .slice c n' cap']] w fun e w' => e = .returned (.bool (nsB m m' n n' G G')) ∧ Below w.heap.size w w' := by
  have HD := hide hd
  have HE := hide hd'
  clear hd hd'
  unfold nsB
  by_cases hm : m = m'
  · subst hm
    have kb0 : (m == m) = true := by simp
    simp only [BEq.rfl, Bool.true_and]
    go_enter Tryd.func9, Tryd.ntmps9
    go_wp2_with fail
    obtain ⟨wz, hwz⟩ : ∃ wz, wz = (w.alloc (.cells #[.int .i64 m, .slice a n cap] 25)).alloc (.cells #[.int .i64 m, .slice c n' cap'] 25) := ⟨_, rfl⟩
    have BZ : Below w.heap.size w wz := by rw [hwz]; exact ((Below.refl _ _).alloc (Nat.le_refl _) _).alloc (by simp) _
    rw [← hwz]
    refine (gequal_any _ _ _ _ _ _ _ _ wz ((unhide HD).later BZ) ((unhide HE).later BZ) hn hn').mono ?_
    rintro e wq ⟨rfl, bq⟩
    go_wp2
    go_ret
    exact ⟨rfl, BZ.trans (bq.mono BZ.size)⟩
  · have kc : (m == m') = false := by simp [hm]
    rw [kc, Bool.false_and]
    go_enter Tryd.func9, Tryd.ntmps9
    go_wp2
    go_ret
    exact ⟨rfl, (by repeat (first | exact Below.refl _ _ | assumption | refine below_drewN ?_ _ | refine Below.drew ?_ | refine Below.alloc ?_ (by first | exact Nat.le_refl _ | exact Below.size (by assumption) | (simp; done) | (simp; omega)) _ | refine Below.setCell ?_ (by first | exact Nat.le_refl _ | exact Below.size (by assumption) | (simp; done) | (simp; omega)) _ | refine Below.trans ?_ (by assumption)))⟩
end Go.Proofs.YtmpiiilkaadhfaaDoor
