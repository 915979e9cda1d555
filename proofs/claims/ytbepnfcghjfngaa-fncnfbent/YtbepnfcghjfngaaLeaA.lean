/- The list that comes behind k others, made by the model; the next list, made by the program. -/
import Derived.Test.YtbepnfcghjfngaaLeaM
import Derived.Test.YtbepnfcghjfngaaBolA
import Derived.Test.YtbepnfcghjfngaaRd
namespace Go.Proofs.Ytbepnfcghjfngaa
open Go.ChangeShapes Go.WideShapes Go.ChangeAt Go.RowKit Go.Joins
set_option linter.unusedVariables false

theorem infoBool' : (Try.prog.info? 4).map (fun i => (i.zero, i.size, i.bytes)) = some (some (.bool false), 1, 1) := by kernel_rfl
/-- Places from r' on are as V says. -/
def BlsFrom (w : World) (b r' N : Nat) (V : Nat → Bool) : Prop := ∀ i, r' ≤ i → i < N → w.cell? ⟨b, i, none⟩ = some (.bool (V i))
theorem BlsFrom.put {w : World} {B p N : Nat} {V : Nat → Bool} {u0 : Value} (h : BlsFrom w B (p + 1) N V) (q0 : w.cell? ⟨B, p, none⟩ = some u0) : BlsFrom (w.setCell ⟨B, p, none⟩ (.bool (V p))) B p N V := by
  intro i h1 h2
  by_cases e : i = p
  · subst e; exact World.cell?_setCell_same _ _ _ q0
  · rw [World.cell?_setCell_other _ _ _ _ (by simp <;> omega)]; exact h i (by omega) h2
end Go.Proofs.Ytbepnfcghjfngaa
