/- Lists of numbers: how they lie in memory, their copies and comparisons. -/
import Derived.Test.YtfopmobopmdahaaGreatMkA
namespace Go.Proofs.YtfopmobopmdahaaGreat
open Go.ChangeShapes Go.WideShapes Go.ChangeAt Go.RowKit Go.Joins
set_option linter.unusedVariables false

/-- Numbers in a row. -/
def Ints (w : World) (b off n : Nat) (V : Nat → Int) : Prop := ∀ i, i < n → w.cell? ⟨b, off + i, none⟩ = some (.int .i64 (V i))
theorem Ints.later {w w' : World} {b off n : Nat} {V : Nat → Int} (h : Ints w b off n V) (hb : Below w.heap.size w w') : Ints w' b off n V := fun i hi => cell_later hb (h i hi)
def IntsAt (w : World) (a : Option Addr) (n : Nat) (V : Nat → Int) : Prop := n = 0 ∨ ∃ b off, a = some ⟨b, off, none⟩ ∧ b < w.heap.size ∧ Ints w b off n V
theorem IntsAt.later {w w' : World} {a : Option Addr} {n : Nat} {V : Nat → Int} (h : IntsAt w a n V) (hb : Below w.heap.size w w') : IntsAt w' a n V := by
  rcases h with h | ⟨b, off, h1, h2, h3⟩
  · exact Or.inl h
  · exact Or.inr ⟨b, off, h1, Nat.lt_of_lt_of_le h2 hb.size, h3.later hb⟩
theorem ints_in {H : Type} {enc : TypeId × Value → H} {w : World} {a : Option Addr} {len cap : Nat} {d : DataW H} {p : List MemPlace} {sp : Nat → Bool} {held : Bool}
    (h : DataW.Trod enc Tryz.prog w 0 sp held 97 (.slice a len cap) d p) : len ≤ cap ∧ len ≤ maxLen ∧ ∃ V, IntsAt w a len V := by
  obtain ⟨fuel, hf⟩ := h
  rcases open_ints Tryz.underlying97 Tryz.underlying3 (by kernel_rfl) hf with ⟨hcs, _⟩ | ⟨x, l, c, zs, hcs, _, hl, hm, hz, _, hcell, hwz⟩
  · simp [Value.cells] at hcs
    obtain ⟨rfl, rfl, rfl⟩ := hcs
    exact ⟨Nat.le_refl _, by unfold maxLen; omega, fun _ => 0, Or.inl rfl⟩
  · simp [Value.cells] at hcs
    obtain ⟨rfl, rfl, rfl⟩ := hcs
    refine ⟨hl, by omega, fun i => zs.getD i 0, ?_⟩
    by_cases h0 : len = 0
    · exact Or.inl h0
    · have hlz : len ≤ zs.length := by rw [hz]; split <;> omega
      obtain ⟨b, off, rfl, hc⟩ := ints_at hcell (by omega)
      exact Or.inr ⟨b, off, rfl, World.block_lt_of_cell? _ _ (hc 0 (by omega)), fun i hi => hc i (by omega)⟩
theorem Ints.put {w : World} {B k : Nat} {V : Nat → Int} {u0 : Value} (h : Ints w B 0 k V) (q0 : w.cell? ⟨B, k, none⟩ = some u0) : Ints (w.setCell ⟨B, k, none⟩ (.int .i64 (V k))) B 0 (k + 1) V := by
  intro i hi
  simp only [Nat.zero_add]
  by_cases e : i = k
  · subst e; exact World.cell?_setCell_same _ _ _ q0
  · have hh := h i (by omega)
    simp only [Nat.zero_add] at hh
    rw [World.cell?_setCell_other _ _ _ _ (by simp <;> omega)]; exact hh
theorem infoInt : (Tryz.prog.info? 3).map (fun i => (i.zero, i.size, i.bytes)) = some (some (.int .i64 0), 1, 8) := by kernel_rfl
end Go.Proofs.YtfopmobopmdahaaGreat
