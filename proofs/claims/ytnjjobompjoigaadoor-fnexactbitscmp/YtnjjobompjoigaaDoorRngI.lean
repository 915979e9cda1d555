/- Lists of numbers and nets apart: what the laws' marks leave alone. -/
import Derived.Test.YtnjjobompjoigaaDoorRngK
import Derived.Test.YtnjjobompjoigaaDoorMrkN
import Derived.Test.YtnjjobompjoigaaDoorNrA
namespace Go.Proofs.YtnjjobompjoigaaDoor
open Go.ChangeShapes Go.WideShapes Go.ChangeAt Go.RowKit Go.Joins
set_option linter.unusedVariables false
set_option maxRecDepth 100000

/-- Two rows, each alone in its block. -/
def Sep (a : Option Addr) (n : Nat) (g : Option Addr) (l : Nat) : Prop := n = 0 ∨ l = 0 ∨ ∀ x y, a = some x → g = some y → x.block ≠ y.block
theorem list_keep {w w' : World} {base n l : Nat} {a g : Option Addr} (hs : Sep a n g l) (hg : OwnB w base g l) (ha : OwnG w base a n) (hv : ∀ B, a = some ⟨B, 0, none⟩ → Mov B w w') (hu : ∀ hi, Up hi a n → Rng base hi w w') : OwnB w' base g l := by
  by_cases hn : n = 0
  · have hr := hu 0 (Or.inl hn)
    rcases hg with h | ⟨B, h1, h2, h3⟩
    · exact Or.inl h
    · exact Or.inr ⟨B, h1, h2, h3.rng hr (Or.inr (Nat.zero_le _))⟩
  · rcases ha with h | ⟨B, h1, _, _⟩
    · exact absurd h hn
    · by_cases hl : l = 0
      · exact Or.inl hl
      · refine hg.mov (hv B h1) (fun B' e => ?_)
        rcases hs with h | h | h
        · exact absurd h hn
        · exact absurd h hl
        · exact (h _ _ h1 e).symm
theorem gts_keep {w w' : World} {base n l : Nat} {a g : Option Addr} {G : Nat → Gt} (hs : Sep a n g l) (hK : GtsAt w a n G) (hg : OwnB w base g l) (hv : ∀ B, g = some ⟨B, 0, none⟩ → Mov B w w') (hu : ∀ hi, Up hi g l → Rng base hi w w') (ha : OwnG w base a n) : GtsAt w' a n G := by
  by_cases hn : n = 0
  · exact Or.inl hn
  · by_cases hl : l = 0
    · have hr := hu 0 (Or.inl hl)
      rcases hK with h | ⟨b, off, h1, h2, h3⟩
      · exact Or.inl h
      · exact Or.inr ⟨b, off, h1, Nat.lt_of_lt_of_le h2 hr.size, fun i hi => ⟨hr.cell (h3 i hi).1 (Or.inr (Nat.zero_le _)), hr.cell (h3 i hi).2.1 (Or.inr (Nat.zero_le _)), hr.cell (h3 i hi).2.2 (Or.inr (Nat.zero_le _))⟩⟩
    · rcases hg with h | ⟨B, h1, _, _⟩
      · exact absurd h hl
      · refine hK.apart (Or.inr (fun b off e => ?_)) (hv B h1)
        rcases hs with h | h | h
        · exact absurd h hn
        · exact absurd h hl
        · exact h _ _ e h1
end Go.Proofs.YtnjjobompjoigaaDoor
