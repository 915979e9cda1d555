/- Which marks are so, of the model. -/
import Derived.Test.YtmpiiilkaadhfaaDoorNokA
import Derived.Test.YtmpiiilkaadhfaaDoorNltA
import Derived.Test.YtmpiiilkaadhfaaDoorBapA
namespace Go.Proofs.YtmpiiilkaadhfaaDoor
open Go.ChangeShapes Go.WideShapes Go.ChangeAt Go.RowKit Go.Joins
set_option linter.unusedVariables false
set_option maxRecDepth 100000

/-- What a gate says, by what is so ahead of it. -/
def gval (g : Gt) (L : List Bool) : Bool := if g.x then metB g.a L.length (atB L) != metB g.b L.length (atB L) else metB g.a L.length (atB L) && metB g.b L.length (atB L)
/-- What is so, up to a gate. -/
def outL (I : List Bool) (G : Nat → Gt) : Nat → List Bool
  | 0 => true :: I
  | j + 1 => outL I G j ++ [gval (G j) (outL I G j)]
theorem outL_len (I : List Bool) (G : Nat → Gt) : ∀ j, (outL I G j).length = 1 + I.length + j
  | 0 => by simp [outL]; omega
  | j + 1 => by simp [outL, outL_len I G j]; omega
/-- What is so, of a net and of what comes in. -/
noncomputable def nvL (m : Int) (n : Nat) (G : Nat → Gt) (I : List Bool) : List Bool := if netB m n G = true ∧ (I.length : Int) = m then outL I G n else []
theorem own_lone (w : World) (u : Value) (e : TypeId) (h : u.oneCell' = true) : (w.alloc (.cells #[u] e)).ownsRow w.heap.size e 1 (.slice (some ⟨w.heap.size, 0, none⟩) 1 1) 1 [u] :=
  ⟨by simp, .inr ⟨w.heap.size, 1, #[u], rfl, Nat.le_refl _, heap_alloc_new w _, Nat.le_refl _, by unfold maxLen; omega, by simp, by simp⟩⟩
/-- What is always so, and what comes in behind it. -/
theorem bol_start (w : World) (I : List Bool) (b off l cap : Nat) (hb : b < w.heap.size) (hI : I.length = l) (hi : Bls w b off l (atB I)) (h63 : l ≤ 100000) :
    ∃ g' cap' w', (Builtin.append_ #[32, 32] 32 #[.slice (some ⟨w.heap.size, 0, none⟩) 1 1, .slice (some ⟨b, off, none⟩) l cap]).run Tryd.prog (w.alloc (.cells #[.bool true] 4)) = .ok (.slice (some ⟨g', 0, none⟩) (1 + l) cap') w' ∧ w'.ownsRow w.heap.size 4 1 (.slice (some ⟨g', 0, none⟩) (1 + l) cap') (1 + l) (bcells (true :: I)) ∧ Below w.heap.size w w' := by
  obtain ⟨i0, hi0, hzz⟩ := Option.map_eq_some_iff.1 infoBoo
  simp only [Prod.mk.injEq] at hzz
  obtain ⟨hz0, hz1, hz2⟩ := hzz
  have b4 : Below w.heap.size w (w.alloc (.cells #[.bool true] 4)) := (Below.refl _ _).alloc (Nat.le_refl _) _
  obtain ⟨g', cap', w', h1, h2, h3, _⟩ := append_where (P := Tryd.prog) (w.alloc (.cells #[.bool true] 4)) w.heap.size 32 32 4 i0 _ 1 1 Tryd.underlying32 hi0 hz0 hz1 hz2 rfl (by omega) w.heap.size 1 1 [.bool true] (own_lone w (.bool true) 4 rfl) ⟨b, off, none⟩ l cap (bcells I) (by simp [bcells, hI]) (by
    intro j u hj
    have hj' : j < I.length := by
      have := (List.getElem?_eq_some_iff.1 hj).1
      simpa [bcells] using this
    have := cell_later b4 (hi j (by omega))
    rw [Go.WideShapes.add_plain, this]
    simp [bcells, hj'] at hj
    rw [← hj]
    simp [atB, List.getD, hj']) (by
    intro u hu
    simp [bcells] at hu
    rcases hu with ⟨_, rfl⟩ | ⟨_, rfl⟩ <;> rfl) (by unfold maxLen; omega) (by omega) (by simp)
  exact ⟨g', cap', w', h1, h2, b4.trans ((mov_of_grown h3).below (Nat.le_refl _) b4.size)⟩
end Go.Proofs.YtmpiiilkaadhfaaDoor
