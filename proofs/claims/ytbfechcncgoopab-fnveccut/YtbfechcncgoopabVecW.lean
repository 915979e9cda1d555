/- What wpUn and wpBin of the laws return: the first part of what VecUn and VecBin of the program return. -/
import Derived.Test.YtbfechcncgoopabVecH
import Derived.Test.YtbfechcncgoopabVecL
namespace Go.Proofs.Ytbfechcncgoopab
open Go.ChangeShapes Go.WideShapes Go.ChangeAt Go.RowKit Go.Joins
set_option linter.unusedVariables false

set_option maxHeartbeats 1000000 in
theorem wpBin_of {op a x b y c d : Int} {t : Bool} (hV : binV op a x b y = .tuple #[.agg #[.int .i64 c, .int .i64 d], .bool t]) (w : World) :
    Calls Try.prog 9 #[.int .i64 op, .agg #[.int .i64 a, .int .i64 x], .agg #[.int .i64 b, .int .i64 y]] w fun e w' => e = .returned (.agg #[.int .i64 c, .int .i64 d]) ∧ Below w.heap.size w w' := by
  have hc := fun w => iVecBin_any op a x b y w
  simp only [hV] at hc
  have HC := hide hc
  clear hV hc
  go_enter Try.func9, Try.ntmps9
  go_wp2_with fail
  refine (unhide HC _).mono ?_
  rintro e w1 ⟨rfl, b1⟩
  have r0 : w1.cell? ⟨w.heap.size + 2, 0, none⟩ = some (.int .i64 0) := cell_later b1 (by simp [go_sem])
  have r1 : w1.cell? ⟨w.heap.size + 2, 1, none⟩ = some (.int .i64 0) := cell_later b1 (by simp [go_sem])
  have f0 : w1.frozen? ⟨w.heap.size + 2, 0, none⟩ = false := by rw [b1.frozen (by simp)]; simp [go_sem]
  have f1 : w1.frozen? ⟨w.heap.size + 2, 1, none⟩ = false := by rw [b1.frozen (by simp)]; simp [go_sem]
  simp only [World.size_alloc] at b1
  have z1 := b1.size
  simp only [World.size_alloc] at z1
  have y0 : w.heap.size + 2 < w1.heap.size := by omega
  have n0 : w1.heap.size ≠ w.heap.size + 2 := by omega
  have e1 := ((((Below.refl w.heap.size w).alloc (by simp <;> omega) (.cells #[.int .i64 a, .int .i64 x] 24)).alloc (by simp <;> omega) (.cells #[.int .i64 b, .int .i64 y] 24)).alloc (by simp <;> omega) (.cells #[.int .i64 0, .int .i64 0] 24)).trans (b1.mono (by omega))
  clear b1
  go_wp2
  exact bodyPost_ret (v := .agg #[.int .i64 c, .int .i64 d]) (by simp [results, Try.results9, go_sem, r0, r1, y0]) rfl ⟨rfl, by repeat (first | exact e1 | refine Below.setCell ?_ (by simp <;> omega) _ | refine Below.alloc ?_ (by simp [World.setCell] <;> omega) _)⟩
theorem binV_yes {op a x y : Int} (hx : okB a x = true) (hy : okB a y = true) (h3 : 3 ≤ op) (h13 : op ≤ 13) : binV op a x a y = .tuple #[.agg #[.int .i64 a, .int .i64 (binN op a x y)], .bool true] := by
  unfold binV
  rw [if_pos ⟨hx, hy⟩, if_neg (by omega), if_pos ⟨⟨h3, h13⟩, rfl⟩]
  rfl
theorem wpBin_ok {op a x y : Int} (hx : okB a x = true) (hy : okB a y = true) (h3 : 3 ≤ op) (h13 : op ≤ 13) (w : World) :
    Calls Try.prog 9 #[.int .i64 op, .agg #[.int .i64 a, .int .i64 x], .agg #[.int .i64 a, .int .i64 y]] w fun e w' => e = .returned (.agg #[.int .i64 a, .int .i64 (binN op a x y)]) ∧ Below w.heap.size w w' := wpBin_of (binV_yes hx hy h3 h13) w
end Go.Proofs.Ytbfechcncgoopab
