/- What the laws write into nets to see whose memory they are. -/
import Derived.Test.YtbfijmijhfbkdaaGtA
import Derived.Test.YtbfijmijhfbkdaaRngA
namespace Go.Proofs.Ytbfijmijhfbkdaa
open Go.ChangeShapes Go.WideShapes Go.ChangeAt Go.RowKit Go.Joins
set_option linter.unusedVariables false

def mkG (k0 i : Nat) : Gt := ⟨(k0 : Int) % 3 == 0, (k0 : Int) + 3 * (i : Int) + 1, (k0 : Int) + 3 * (i : Int) + 1 + 1⟩
/-- Gates in memory of one's own. -/
def OwnG (w : World) (base : Nat) (a : Option Addr) (n : Nat) : Prop := n = 0 ∨ ∃ B, a = some ⟨B, 0, none⟩ ∧ base ≤ B ∧ Made w B (n * 3)
theorem OwnG.later {w w' : World} {base n : Nat} {a : Option Addr} (h : OwnG w base a n) (hb : Below w.heap.size w w') : OwnG w' base a n := by
  rcases h with h | ⟨B, e, hB, hm⟩
  · exact Or.inl h
  · exact Or.inr ⟨B, e, hB, hm.later hb⟩
theorem OwnG.drew {w : World} {base n : Nat} {a : Option Addr} (h : OwnG w base a n) : OwnG w.drew base a n := h
theorem OwnG.high {w w' : World} {base n lo hi : Nat} {a : Option Addr} (h : OwnG w base a n) (hr : Rng lo hi w w') (hh : hi ≤ base) : OwnG w' base a n := by
  rcases h with h | ⟨B, e, hB, hm⟩
  · exact Or.inl h
  · exact Or.inr ⟨B, e, hB, hm.rng hr (Or.inr (by omega))⟩
theorem GtsAt.high {w w' : World} {a : Option Addr} {n lo hi base : Nat} {G : Nat → Gt} (h : GtsAt w a n G) (ho : OwnG w base a n) (hr : Rng lo hi w w') (hh : hi ≤ base) : GtsAt w' a n G := by
  rcases h with h | ⟨b, off, rfl, h2, h3⟩
  · exact Or.inl h
  · rcases ho with ho | ⟨B, e, hB, _⟩
    · exact Or.inl ho
    · cases e
      exact Or.inr ⟨b, 0, rfl, Nat.lt_of_lt_of_le h2 hr.size, fun i hi => ⟨hr.cell (h3 i hi).1 (Or.inr (by simp only; omega)), hr.cell (h3 i hi).2.1 (Or.inr (by simp only; omega)), hr.cell (h3 i hi).2.2 (Or.inr (by simp only; omega))⟩⟩
theorem GtsAt.up {w : World} {a : Option Addr} {n : Nat} {G : Nat → Gt} (h : GtsAt w a n G) : Up w.heap.size a n := by
  rcases h with h | ⟨b, off, rfl, h2, _⟩
  · exact Or.inl h
  · exact Or.inr ⟨b, off, rfl, h2⟩
theorem GtsAt.low {w w' : World} {a : Option Addr} {n lo hi : Nat} {G : Nat → Gt} (h : GtsAt w a n G) (hu : Up lo a n) (hr : Rng lo hi w w') : GtsAt w' a n G := by
  rcases h with h | ⟨b, off, rfl, h2, h3⟩
  · exact Or.inl h
  · rcases hu with hu | ⟨B, o, e, hB⟩
    · exact Or.inl hu
    · cases e
      exact Or.inr ⟨b, off, rfl, Nat.lt_of_lt_of_le h2 hr.size, fun i hi => ⟨hr.cell (h3 i hi).1 (Or.inl (by simp only; omega)), hr.cell (h3 i hi).2.1 (Or.inl (by simp only; omega)), hr.cell (h3 i hi).2.2 (Or.inl (by simp only; omega))⟩⟩
theorem NBox.rng {w w' : World} {b lo hi : Nat} {m : Int} {a : Option Addr} {n cap : Nat} (h : NBox w b m a n cap) (hm : Rng lo hi w w') (hb : b < lo ∨ hi ≤ b) : NBox w' b m a n cap := ⟨hm.cell h.1 hb, hm.cell h.2 hb⟩
end Go.Proofs.Ytbfijmijhfbkdaa
