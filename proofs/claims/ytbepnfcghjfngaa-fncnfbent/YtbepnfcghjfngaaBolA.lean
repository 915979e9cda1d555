/- Lists of what is so and what is not: how they lie in memory, their copies and comparisons. -/
import Derived.Test.YtbepnfcghjfngaaIntA
import Derived.Deep.Grids
namespace Go.Proofs.Ytbepnfcghjfngaa
open Go.ChangeShapes Go.WideShapes Go.ChangeAt Go.RowKit Go.Joins
set_option linter.unusedVariables false

def Bls (w : World) (b off n : Nat) (V : Nat → Bool) : Prop := ∀ i, i < n → w.cell? ⟨b, off + i, none⟩ = some (.bool (V i))
theorem Bls.later {w w' : World} {b off n : Nat} {V : Nat → Bool} (h : Bls w b off n V) (hb : Below w.heap.size w w') : Bls w' b off n V := fun i hi => cell_later hb (h i hi)
theorem Bls.cong {w : World} {b off n : Nat} {V V' : Nat → Bool} (h : Bls w b off n V) (e : ∀ i, i < n → V i = V' i) : Bls w b off n V' := fun i hi => by rw [← e i hi]; exact h i hi
def BlsAt (w : World) (a : Option Addr) (n : Nat) (V : Nat → Bool) : Prop := n = 0 ∨ ∃ b off, a = some ⟨b, off, none⟩ ∧ b < w.heap.size ∧ Bls w b off n V
theorem BlsAt.later {w w' : World} {a : Option Addr} {n : Nat} {V : Nat → Bool} (h : BlsAt w a n V) (hb : Below w.heap.size w w') : BlsAt w' a n V := by
  rcases h with h | ⟨b, off, h1, h2, h3⟩
  · exact Or.inl h
  · exact Or.inr ⟨b, off, h1, Nat.lt_of_lt_of_le h2 hb.size, h3.later hb⟩
theorem BlsAt.ok {w : World} {a : Option Addr} {n k : Nat} {V : Nat → Bool} (h : BlsAt w a n V) (hk : k < n) : ∃ b off, a = some ⟨b, off, none⟩ ∧ b < w.heap.size ∧ Bls w b off n V := h.resolve_left (by omega)
theorem Bls.at {w : World} {b off n : Nat} {V : Nat → Bool} (h : Bls w b off n V) (hb : b < w.heap.size) : BlsAt w (some ⟨b, off, none⟩) n V := Or.inr ⟨b, off, rfl, hb, h⟩
theorem IntsAt.ok {w : World} {a : Option Addr} {n k : Nat} {V : Nat → Int} (h : IntsAt w a n V) (hk : k < n) : ∃ b off, a = some ⟨b, off, none⟩ ∧ b < w.heap.size ∧ Ints w b off n V := h.resolve_left (by omega)
theorem Ints.at {w : World} {b off n : Nat} {V : Nat → Int} (h : Ints w b off n V) (hb : b < w.heap.size) : IntsAt w (some ⟨b, off, none⟩) n V := Or.inr ⟨b, off, rfl, hb, h⟩
theorem Bls.put {w : World} {B k : Nat} {V : Nat → Bool} {u0 : Value} (h : Bls w B 0 k V) (q0 : w.cell? ⟨B, k, none⟩ = some u0) : Bls (w.setCell ⟨B, k, none⟩ (.bool (V k))) B 0 (k + 1) V := by
  intro i hi
  simp only [Nat.zero_add]
  by_cases e : i = k
  · subst e; exact World.cell?_setCell_same _ _ _ q0
  · have hh := h i (by omega)
    simp only [Nat.zero_add] at hh
    rw [World.cell?_setCell_other _ _ _ _ (by simp <;> omega)]; exact hh
end Go.Proofs.Ytbepnfcghjfngaa
