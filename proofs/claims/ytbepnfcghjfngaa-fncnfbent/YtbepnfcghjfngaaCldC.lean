/- What the model's draw of clauses for CnfLeast returns; and whether two lists of what is so are one. -/
import Derived.Test.YtbepnfcghjfngaaCldB
namespace Go.Proofs.Ytbepnfcghjfngaa
open Go.ChangeShapes Go.WideShapes Go.ChangeAt Go.RowKit Go.Joins
set_option linter.unusedVariables false

theorem byts_later {w w' : World} {R R' : Nat} {a : Option Addr} {l : Nat} (h : Byts w R a l) (hb : Below w.heap.size w w') (hR : R ≤ R') : Byts w' R' a l := by
  rcases h with h | ⟨B, o, ha, hB, hc⟩
  · exact Or.inl h
  · exact Or.inr ⟨B, o, ha, by omega, fun i hi => by obtain ⟨x, x0, x1, hx⟩ := hc i hi; exact ⟨x, x0, x1, cell_later hb hx⟩⟩
/-- Clauses that a law has drawn. -/
def LawC (w w' : World) (e : Ending) : Prop := ∃ (m : Int) (v : Value) (Ls : List Clz) (R : Nat), e = .returned (.agg #[.int .i64 m, v]) ∧ W64 m ∧ Ls.length ≤ 40 ∧ ClzAt w' R v Ls ∧ Below w.heap.size w w'
/-- Two lists of what is so are one. -/
def beP (l l' : Nat) (V V' : Nat → Bool) : Prop := l = l' ∧ ∀ k, k < l → V k = V' k
noncomputable def beB (l l' : Nat) (V V' : Nat → Bool) : Bool := @decide (beP l l' V V') (Classical.propDecidable _)
theorem beB_iff {l l' : Nat} {V V' : Nat → Bool} : beB l l' V V' = true ↔ beP l l' V V' := by simp [beB]
theorem beB_yes {l l' : Nat} {V V' : Nat → Bool} (h : beP l l' V V') : beB l l' V V' = true := beB_iff.2 h
theorem beB_no {l l' : Nat} {V V' : Nat → Bool} (h : ¬ beP l l' V V') : beB l l' V V' = false := by simpa [beB] using h
end Go.Proofs.Ytbepnfcghjfngaa
