/- Names with their bits: what the laws' copies, counts and comparisons of them return. -/
import Derived.Test.YtaikhigeoebkjaaMkA
import Derived.Deep.SlicePairs
import Derived.Deep.OwnRows
import Derived.Deep.RegionHeld3
namespace Go.Proofs.Ytaikhigeoebkjaa
open Go.ChangeShapes Go.WideShapes Go.ChangeAt Go.RowKit Go.Joins
set_option linter.unusedVariables false

/-- Names in a row: a text and a number each, from an address on. -/
def Decs (w : World) (b off n : Nat) (S : Nat → ByteArray) (V : Nat → Int) : Prop :=
  ∀ i, i < n → w.cell? ⟨b, off + i * 2, none⟩ = some (.string (S i)) ∧ w.cell? ⟨b, off + i * 2 + 1, none⟩ = some (.int .i64 (V i))
theorem Decs.later {w w' : World} {b off n : Nat} {S : Nat → ByteArray} {V : Nat → Int} (h : Decs w b off n S V) (hb : Below w.heap.size w w') : Decs w' b off n S V :=
  fun i hi => ⟨cell_later hb (h i hi).1, cell_later hb (h i hi).2⟩
theorem Decs.mono {w : World} {b off n m : Nat} {S : Nat → ByteArray} {V : Nat → Int} (h : Decs w b off n S V) (hm : m ≤ n) : Decs w b off m S V := fun i hi => h i (by omega)
theorem Decs.alloc {w : World} {b off n : Nat} {S : Nat → ByteArray} {V : Nat → Int} (h : Decs w b off n S V) (o : Obj) : Decs (w.alloc o) b off n S V := h.later ((Below.refl _ _).alloc (Nat.le_refl _) _)
/-- The same, with an address that may be none where there are no names. -/
def DecsAt (w : World) (a : Option Addr) (n : Nat) (S : Nat → ByteArray) (V : Nat → Int) : Prop := n = 0 ∨ ∃ b off, a = some ⟨b, off, none⟩ ∧ b < w.heap.size ∧ Decs w b off n S V
theorem DecsAt.later {w w' : World} {a : Option Addr} {n : Nat} {S : Nat → ByteArray} {V : Nat → Int} (h : DecsAt w a n S V) (hb : Below w.heap.size w w') : DecsAt w' a n S V := by
  rcases h with h | ⟨b, off, h1, h2, h3⟩
  · exact Or.inl h
  · exact Or.inr ⟨b, off, h1, Nat.lt_of_lt_of_le h2 hb.size, h3.later hb⟩
theorem DecsAt.alloc {w : World} {a : Option Addr} {n : Nat} {S : Nat → ByteArray} {V : Nat → Int} (h : DecsAt w a n S V) (o : Obj) : DecsAt (w.alloc o) a n S V := h.later ((Below.refl _ _).alloc (Nat.le_refl _) _)

theorem Decs.put {w : World} {B k : Nat} {S : Nat → ByteArray} {V : Nat → Int} {u0 u1 : Value} (h : Decs w B 0 k S V) (q0 : w.cell? ⟨B, k * 2, none⟩ = some u0) (q1 : w.cell? ⟨B, k * 2 + 1, none⟩ = some u1) :
    Decs ((w.setCell ⟨B, k * 2, none⟩ (.string (S k))).setCell ⟨B, k * 2 + 1, none⟩ (.int .i64 (V k))) B 0 (k + 1) S V := by
  have q1' : (w.setCell ⟨B, k * 2, none⟩ (.string (S k))).cell? ⟨B, k * 2 + 1, none⟩ = some u1 := by rw [World.cell?_setCell_other _ _ _ _ (by simp)]; exact q1
  intro i hi
  simp only [Nat.zero_add]
  by_cases e : i = k
  · subst e
    exact ⟨by rw [World.cell?_setCell_other _ _ _ _ (by simp)]; exact World.cell?_setCell_same _ _ _ q0, World.cell?_setCell_same _ _ _ q1'⟩
  · have hh := h i (by omega)
    simp only [Nat.zero_add] at hh
    refine ⟨?_, ?_⟩
    · rw [World.cell?_setCell_other _ _ _ _ (by simp <;> omega), World.cell?_setCell_other _ _ _ _ (by simp <;> omega)]; exact hh.1
    · rw [World.cell?_setCell_other _ _ _ _ (by simp <;> omega), World.cell?_setCell_other _ _ _ _ (by simp <;> omega)]; exact hh.2
end Go.Proofs.Ytaikhigeoebkjaa
