/- Nets: how gates lie in memory, their copies, counts and comparisons. -/
import Derived.Test.YtbfijmijhfbkdaaClaA
namespace Go.Proofs.Ytbfijmijhfbkdaa
open Go.ChangeShapes Go.WideShapes Go.ChangeAt Go.RowKit Go.Joins
set_option linter.unusedVariables false

/-- A gate: whether it is an Xor, and the two marks that it is of. -/
structure Gt where
  x : Bool
  a : Int
  b : Int
theorem Gt.ext_iff' {g h : Gt} : g = h ↔ g.x = h.x ∧ g.a = h.a ∧ g.b = h.b := by
  cases g; cases h; simp
/-- Gates in a row: three cells each, from an address on. -/
def Gts (w : World) (b off n : Nat) (G : Nat → Gt) : Prop :=
  ∀ i, i < n → w.cell? ⟨b, off + i * 3, none⟩ = some (.bool (G i).x) ∧ w.cell? ⟨b, off + i * 3 + 1, none⟩ = some (.int .i64 (G i).a) ∧ w.cell? ⟨b, off + i * 3 + 2, none⟩ = some (.int .i64 (G i).b)
theorem Gts.later {w w' : World} {b off n : Nat} {G : Nat → Gt} (h : Gts w b off n G) (hb : Below w.heap.size w w') : Gts w' b off n G :=
  fun i hi => ⟨cell_later hb (h i hi).1, cell_later hb (h i hi).2.1, cell_later hb (h i hi).2.2⟩
theorem Gts.mono {w : World} {b off n m : Nat} {G : Nat → Gt} (h : Gts w b off n G) (hm : m ≤ n) : Gts w b off m G := fun i hi => h i (by omega)
theorem Gts.cong {w : World} {b off n : Nat} {G G' : Nat → Gt} (h : Gts w b off n G) (e : ∀ i, i < n → G i = G' i) : Gts w b off n G' := fun i hi => by rw [← e i hi]; exact h i hi
/-- The same, with an address that may be none where there are no gates. -/
def GtsAt (w : World) (a : Option Addr) (n : Nat) (G : Nat → Gt) : Prop := n = 0 ∨ ∃ b off, a = some ⟨b, off, none⟩ ∧ b < w.heap.size ∧ Gts w b off n G
theorem GtsAt.later {w w' : World} {a : Option Addr} {n : Nat} {G : Nat → Gt} (h : GtsAt w a n G) (hb : Below w.heap.size w w') : GtsAt w' a n G := by
  rcases h with h | ⟨b, off, h1, h2, h3⟩
  · exact Or.inl h
  · exact Or.inr ⟨b, off, h1, Nat.lt_of_lt_of_le h2 hb.size, h3.later hb⟩
theorem GtsAt.ok {w : World} {a : Option Addr} {n k : Nat} {G : Nat → Gt} (h : GtsAt w a n G) (hk : k < n) : ∃ b off, a = some ⟨b, off, none⟩ ∧ b < w.heap.size ∧ Gts w b off n G := h.resolve_left (by omega)
theorem Gts.at {w : World} {b off n : Nat} {G : Nat → Gt} (h : Gts w b off n G) (hb : b < w.heap.size) : GtsAt w (some ⟨b, off, none⟩) n G := Or.inr ⟨b, off, rfl, hb, h⟩
theorem Gts.put {w : World} {B k : Nat} {G : Nat → Gt} {u0 u1 u2 : Value} (h : Gts w B 0 k G) (q0 : w.cell? ⟨B, k * 3, none⟩ = some u0) (q1 : w.cell? ⟨B, k * 3 + 1, none⟩ = some u1) (q2 : w.cell? ⟨B, k * 3 + 2, none⟩ = some u2) :
    Gts (((w.setCell ⟨B, k * 3, none⟩ (.bool (G k).x)).setCell ⟨B, k * 3 + 1, none⟩ (.int .i64 (G k).a)).setCell ⟨B, k * 3 + 2, none⟩ (.int .i64 (G k).b)) B 0 (k + 1) G := by
  have q1' : (w.setCell ⟨B, k * 3, none⟩ (.bool (G k).x)).cell? ⟨B, k * 3 + 1, none⟩ = some u1 := by rw [World.cell?_setCell_other _ _ _ _ (by simp)]; exact q1
  have q2' : ((w.setCell ⟨B, k * 3, none⟩ (.bool (G k).x)).setCell ⟨B, k * 3 + 1, none⟩ (.int .i64 (G k).a)).cell? ⟨B, k * 3 + 2, none⟩ = some u2 := by
    rw [World.cell?_setCell_other _ _ _ _ (by simp), World.cell?_setCell_other _ _ _ _ (by simp)]; exact q2
  intro i hi
  simp only [Nat.zero_add]
  by_cases e : i = k
  · subst e
    exact ⟨by rw [World.cell?_setCell_other _ _ _ _ (by simp), World.cell?_setCell_other _ _ _ _ (by simp)]; exact World.cell?_setCell_same _ _ _ q0, by rw [World.cell?_setCell_other _ _ _ _ (by simp)]; exact World.cell?_setCell_same _ _ _ q1', World.cell?_setCell_same _ _ _ q2'⟩
  · have hh := h i (by omega)
    simp only [Nat.zero_add] at hh
    refine ⟨?_, ?_, ?_⟩
    · rw [World.cell?_setCell_other _ _ _ _ (by simp <;> omega), World.cell?_setCell_other _ _ _ _ (by simp <;> omega), World.cell?_setCell_other _ _ _ _ (by simp <;> omega)]; exact hh.1
    · rw [World.cell?_setCell_other _ _ _ _ (by simp <;> omega), World.cell?_setCell_other _ _ _ _ (by simp <;> omega), World.cell?_setCell_other _ _ _ _ (by simp <;> omega)]; exact hh.2.1
    · rw [World.cell?_setCell_other _ _ _ _ (by simp <;> omega), World.cell?_setCell_other _ _ _ _ (by simp <;> omega), World.cell?_setCell_other _ _ _ _ (by simp <;> omega)]; exact hh.2.2
/-- A net in a box. -/
def NBox (w : World) (b : Nat) (m : Int) (a : Option Addr) (n cap : Nat) : Prop := w.cell? ⟨b, 0, none⟩ = some (.int .i64 m) ∧ w.cell? ⟨b, 1, none⟩ = some (.slice a n cap)
theorem NBox.later {w w' : World} {b : Nat} {m : Int} {a : Option Addr} {n cap : Nat} (h : NBox w b m a n cap) (hb : Below w.heap.size w w') : NBox w' b m a n cap := ⟨cell_later hb h.1, cell_later hb h.2⟩
theorem NBox.new (w : World) (m : Int) (a : Option Addr) (n cap : Nat) (T : TypeId) : NBox (w.alloc (.cells #[.int .i64 m, .slice a n cap] T)) w.heap.size m a n cap := ⟨by simp [go_sem], by simp [go_sem]⟩
/-- A gate, as a value. -/
def gv (g : Gt) : Value := .agg #[.bool g.x, .int .i64 g.a, .int .i64 g.b]
def WG (n : Nat) (G : Nat → Gt) : Prop := ∀ i, i < n → W64 (G i).a ∧ W64 (G i).b
end Go.Proofs.Ytbfijmijhfbkdaa
