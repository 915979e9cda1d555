/- Gates found again or made, of the model. -/
import Derived.Test.YtoglplpchjcpoaaNokA
import Derived.Test.YtoglplpchjcpoaaGapA
import Derived.Test.YtoglplpchjcpoaaLeaM
namespace Go.Proofs.Ytoglplpchjcpoaa
open Go.ChangeShapes Go.WideShapes Go.ChangeAt Go.RowKit Go.Joins
set_option linter.unusedVariables false
set_option linter.unusedSimpArgs false

/-- A net, and a mark. -/
structure NR where
  m : Int
  n : Nat
  G : Nat → Gt
  k : Int
/-- The gate of two, found again or made. -/
def putR (m : Int) (n : Nat) (G : Nat → Gt) (g : Gt) : NR :=
  match firstO (fun i => geq (G i) g) n with
  | some i => ⟨m, n, G, 2 + m + i⟩
  | none => if 600 ≤ n then ⟨0, 0, G, 0⟩ else ⟨m, n + 1, snocG G n g, 2 + m + n⟩
theorem putR_at {m : Int} {n : Nat} {G : Nat → Gt} {g : Gt} {i : Nat} (hi : i < n) (hg : G i = g) (h : ∀ j, j < i → G j ≠ g) : putR m n G g = ⟨m, n, G, 2 + m + i⟩ := by
  unfold putR
  rw [firstO_at (fun j hj => geq_no.2 (h j hj)) (geq_iff.2 hg) n hi]
theorem putR_full {m : Int} {n : Nat} {G : Nat → Gt} {g : Gt} (h : ∀ j, j < n → G j ≠ g) (hn : 600 ≤ n) : putR m n G g = ⟨0, 0, G, 0⟩ := by
  unfold putR
  rw [firstO_none (fun j hj => geq_no.2 (h j hj))]
  simp [hn]
theorem putR_new {m : Int} {n : Nat} {G : Nat → Gt} {g : Gt} (h : ∀ j, j < n → G j ≠ g) (hn : n < 600) : putR m n G g = ⟨m, n + 1, snocG G n g, 2 + m + n⟩ := by
  unfold putR
  rw [firstO_none (fun j hj => geq_no.2 (h j hj))]
  simp [Nat.not_le.2 hn]
/-- A net and a mark, as they are handed back. -/
def NPost (r : NR) (ad : Option Addr) (base : Nat) (e : Ending) (w' : World) : Prop := ∃ a cap, e = .returned (.tuple #[.agg #[.int .i64 r.m, .slice a r.n cap], .int .i64 r.k]) ∧ GtsAt w' a r.n r.G ∧ (a = none → r.n = 0 ∧ cap = 0) ∧ (∀ p, a = some p → p.spot = none) ∧ (a = none ∨ a = ad ∨ ∃ b, a = some ⟨b, 0, none⟩ ∧ base ≤ b ∧ b < w'.heap.size)
theorem setBox {w : World} {b : Nat} {m m' : Int} {v v' : Value} (h0 : w.cell? ⟨b, 0, none⟩ = some (.int .i64 m)) (h1 : w.cell? ⟨b, 1, none⟩ = some v) :
    ((w.setCell ⟨b, 0, none⟩ (.int .i64 m')).setCell ⟨b, 1, none⟩ v').cell? ⟨b, 0, none⟩ = some (.int .i64 m') ∧ ((w.setCell ⟨b, 0, none⟩ (.int .i64 m')).setCell ⟨b, 1, none⟩ v').cell? ⟨b, 1, none⟩ = some v' := by
  have e1 : (w.setCell ⟨b, 0, none⟩ (.int .i64 m')).cell? ⟨b, 1, none⟩ = some v := by rw [World.cell?_setCell_other _ _ _ _ (by simp)]; exact h1
  exact ⟨by rw [World.cell?_setCell_other _ _ _ _ (by simp)]; exact World.cell?_setCell_same _ _ _ h0, World.cell?_setCell_same _ _ _ e1⟩
theorem alloc_at {w : World} {o : Obj} {k : Nat} (h : k = w.heap.size) : (w.alloc o).heap[k]? = some o := by subst h; exact heap_alloc_new w o
theorem alloc_past {w : World} {o x : Obj} {k : Nat} (h2 : w.heap[k]? = some x) : (w.alloc o).heap[k]? = some x := by
  have hk := (Array.getElem?_eq_some_iff.1 h2).1
  rw [← h2]
  exact heap_alloc_old w o hk
theorem Gts.grown {w w' : World} {b off n X : Nat} {G : Nat → Gt} (h : Gts w b off n G) (hg : w.grownBy w' (some X)) (hX : b ≠ X) : Gts w' b off n G :=
  fun i hi => ⟨grown_cell hg (h i hi).1 (by simp; omega), grown_cell hg (h i hi).2.1 (by simp; omega), grown_cell hg (h i hi).2.2 (by simp; omega)⟩
theorem GtsAt.mov2 {w w' : World} {b off n B : Nat} {G : Nat → Gt} (h : GtsAt w (some ⟨b, off, none⟩) n G) (hB : b ≠ B) (hm : Mov B w w') : GtsAt w' (some ⟨b, off, none⟩) n G := by
  rcases h with h | ⟨b', off', e, h2, h3⟩
  · exact Or.inl h
  · cases e
    exact Or.inr ⟨b, off, rfl, Nat.lt_of_lt_of_le h2 hm.size, fun i hi => ⟨hm.cell (h3 i hi).1 (by simp only; omega), hm.cell (h3 i hi).2.1 (by simp only; omega), hm.cell (h3 i hi).2.2 (by simp only; omega)⟩⟩
theorem GtsAt.apart {w w' : World} {a : Option Addr} {n B : Nat} {G : Nat → Gt} (h : GtsAt w a n G) (hB : n = 0 ∨ ∀ b off, a = some ⟨b, off, none⟩ → b ≠ B) (hm : Mov B w w') : GtsAt w' a n G := by
  rcases h with h | ⟨b, off, rfl, h2, h3⟩
  · exact Or.inl h
  · rcases hB with hB | hB
    · exact Or.inl hB
    · exact GtsAt.mov2 (Or.inr ⟨b, off, rfl, h2, h3⟩) (hB b off rfl) hm
set_option maxHeartbeats 400000 in
theorem l6Many_any (m : Int) (a : Option Addr) (n cap : Nat) (w : World) (hm0 : 0 ≤ m) (hm1 : m ≤ 8) (hn : n ≤ 1048576) :
    Calls Try.prog 27 #[.agg #[.int .i64 m, .slice a n cap]] w fun e w' => e = .returned (.int .i64 (1 + m + n)) ∧ Below w.heap.size w w' := by
  go_enter Try.func27, Try.ntmps27
  go_wp2
  go_ret
  exact ⟨rfl, (by repeat (first | exact Below.refl _ _ | assumption | refine below_drewN ?_ _ | refine Below.drew ?_ | refine Below.alloc ?_ (by first | exact Nat.le_refl _ | exact Below.size (by assumption) | (simp; done) | (simp; omega)) _ | refine Below.setCell ?_ (by first | exact Nat.le_refl _ | exact Below.size (by assumption) | (simp; done) | (simp; omega)) _ | refine Below.trans ?_ (by assumption)))⟩
end Go.Proofs.Ytoglplpchjcpoaa
