/- How many marks a net has, of the program. -/
import Derived.Test.YtmpiiilkaadhfaaDoorNokC
namespace Go.Proofs.YtmpiiilkaadhfaaDoor
open Go.ChangeShapes Go.WideShapes Go.ChangeAt Go.RowKit Go.Joins
set_option linter.unusedVariables false
set_option maxRecDepth 100000

set_option maxRecDepth 100000 in
set_option maxHeartbeats 1000000 in
theorem netMany_any (m : Int) (a : Option Addr) (n cap : Nat) (w : World) (hm0 : 0 ≤ m) (hm1 : m ≤ 8) (hn : n ≤ 1048576) :
    Calls Tryd.prog 45 #[.agg #[.int .i64 m, .slice a n cap]] w fun e w' => e = .returned (.int .i64 (1 + m + n)) ∧ Below w.heap.size w w' := by
  have BL : Below w.heap.size w (w.alloc (.cells #[.int .i64 m, .slice a n cap] 25)) := (Below.refl _ _).alloc (Nat.le_refl _) _
  obtain ⟨p0, p1⟩ := NBox.new w m a n cap 25
  generalize hwz : w.alloc (.cells #[.int .i64 m, .slice a n cap] 25) = wz at *
  have HZ := hide hwz
  clear hwz
  have e1 : IntKind.i64.wrap (2 + m - 1) = 1 + m := by rw [IntKind.wrap_i64]; omega
  have e2 : IntKind.i64.wrap (1 + m + n) = 1 + m + n := by rw [IntKind.wrap_i64]; omega
  go_enter Tryd.func45, Tryd.ntmps45
  go_wp2
  rw [unhide HZ]
  go_region_held3 (fun w' => w'.cell? ⟨w.heap.size, 0, none⟩ = some (.int .i64 m) ∧ w'.cell? ⟨w.heap.size, 1, none⟩ = some (.slice a n cap)) (first | go_keep | exact ⟨p0, p1⟩)
    (first | (go_at_call 44; refine (firstGate_any _ _ _ _ _ hm0 hm1).mono ?_; rintro e wq ⟨rfl, bq⟩; have BL := (by first | exact BL.trans (bq.mono BL.size) | exact BL.drew.trans (bq.mono BL.size)); have p0 := cell_later bq (by exact p0); have p1 := cell_later bq (by exact p1)))
  all_goals go_wp2
  all_goals go_ret
  all_goals refine ⟨ret_int ?_, (by first | exact BL | exact BL.drew)⟩
  all_goals first | rfl | (rw [e1, e2]; done) | (simp [IntKind.wrap_i64]; omega) | omega
end Go.Proofs.YtmpiiilkaadhfaaDoor
