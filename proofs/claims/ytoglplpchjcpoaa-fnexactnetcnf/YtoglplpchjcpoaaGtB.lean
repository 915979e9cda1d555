/- Gates, compared. -/
import Derived.Test.YtoglplpchjcpoaaGtA
import Derived.Laws.StructEq
namespace Go.Proofs.Ytoglplpchjcpoaa
open Go.ChangeShapes Go.WideShapes Go.ChangeAt Go.RowKit Go.Joins
set_option linter.unusedVariables false

/-- Two gates are the same. -/
def geq (g h : Gt) : Bool := g.x == h.x && (g.a == h.a && g.b == h.b)
theorem geq_iff {g h : Gt} : geq g h = true ↔ g = h := by rw [Gt.ext_iff']; simp [geq]
theorem geq_no {g h : Gt} : geq g h = false ↔ g ≠ h := by
  cases e : geq g h
  · simp only [true_iff]; intro k; rw [geq_iff.2 k] at e; cases e
  · simp only [Bool.true_eq_false, false_iff]; exact fun k => k (geq_iff.1 e)
theorem eqIn (g h : Gt) (w : World) : (Op.equalIn 10000 45 (gv g) (gv h)).run Try.prog w = .ok (geq g h) w := by
  unfold gv
  show (Op.equalIn (9999 + 1) _ _ _).run _ w = _
  rw [run_equalIn_struct w 9999 _ _ _ (by kernel_rfl) (by kernel_rfl)]
  simp [go_sem]
  by_cases h1 : g.x = h.x
  · by_cases h2 : g.a = h.a
    · by_cases h3 : g.b = h.b
      · simp [geq, h1, h2, h3]
      · simp [geq, h1, h2, h3]
    · simp [geq, h1, h2]
  · simp [geq, h1]
theorem eqGate_eql (g h : Gt) (w : World) : (binOp .eql 45 (.agg #[.bool g.x, .int .i64 g.a, .int .i64 g.b]) (.agg #[.bool h.x, .int .i64 h.a, .int .i64 h.b])).run Try.prog w = .ok (.bool (geq g h)) w := by
  rw [run_eql_struct]
  have := eqIn g h w
  unfold gv at this
  rw [this]; rfl
theorem eqGate_neq (g h : Gt) (w : World) : (binOp .neq 45 (.agg #[.bool g.x, .int .i64 g.a, .int .i64 g.b]) (.agg #[.bool h.x, .int .i64 h.a, .int .i64 h.b])).run Try.prog w = .ok (.bool (!geq g h)) w := by
  rw [run_neq_struct]
  have := eqIn g h w
  unfold gv at this
  rw [this]; rfl
/-- Two lists of gates are one. -/
def GeP (l l' : Nat) (G G' : Nat → Gt) : Prop := l = l' ∧ ∀ k, k < l → G k = G' k
noncomputable def geB (l l' : Nat) (G G' : Nat → Gt) : Bool := @decide (GeP l l' G G') (Classical.propDecidable _)
theorem geB_iff {l l' : Nat} {G G' : Nat → Gt} : geB l l' G G' = true ↔ GeP l l' G G' := by simp [geB]
theorem geB_yes {l l' : Nat} {G G' : Nat → Gt} (h : GeP l l' G G') : geB l l' G G' = true := geB_iff.2 h
theorem geB_no {l l' : Nat} {G G' : Nat → Gt} (h : ¬ GeP l l' G G') : geB l l' G G' = false := by simpa [geB] using h
end Go.Proofs.Ytoglplpchjcpoaa
