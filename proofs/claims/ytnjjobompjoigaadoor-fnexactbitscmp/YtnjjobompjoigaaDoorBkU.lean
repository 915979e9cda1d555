/- Bit by bit: one number's marks or the other's, of the model. -/
import Derived.Test.YtnjjobompjoigaaDoorBkT
namespace Go.Proofs.YtnjjobompjoigaaDoor
open Go.ChangeShapes Go.WideShapes Go.ChangeAt Go.RowKit Go.Joins
set_option linter.unusedVariables false
set_option maxRecDepth 100000
set_option linter.unusedSimpArgs false

/-- A net in the making and a row of marks, as they are handed back. -/
def LPost (p : KS × List Int) (ad : Option Addr) (base : Nat) (e : Ending) (w' : World) : Prop := ∃ a cap g cp, e = .returned (.tuple #[.agg #[.int .i64 p.1.m, .slice a p.1.n cap, .bool p.1.ok], .slice (some ⟨g, 0, none⟩) p.2.length cp]) ∧ KIn w' p.1 a cap ∧ Pl ad a base ∧ w'.ownsRow base 3 1 (.slice (some ⟨g, 0, none⟩) p.2.length cp) p.2.length (icells p.2) ∧ ∀ q, a = some q → q.block ≠ g
/-- What holds at each round: the box, the results' box, the gates, the row so far. -/
structure RowI (w wr : World) (s : KS) (R : List Int) (n : Nat) (ad ga : Option Addr) (gc g cp : Nat) : Prop where
  k : KBox wr w.heap.size s ga gc
  kf : ∀ o, wr.frozen? ⟨w.heap.size, o, none⟩ = false
  i : KIn wr s ga gc
  pl : Pl ad ga (w.heap.size + 2)
  ap : ∀ q, ga = some q → q.block ≠ g
  row : wr.ownsRow (w.heap.size + 2) 3 1 (.slice (some ⟨g, 0, none⟩) n cp) n (icells R)
  s0 : wr.cell? ⟨w.heap.size + 1, 0, none⟩ = some (.int .i64 0)
  s1 : wr.cell? ⟨w.heap.size + 1, 1, none⟩ = some (.slice none 0 0)
  s2 : wr.cell? ⟨w.heap.size + 1, 2, none⟩ = some (.bool false)
  sf : ∀ o, wr.frozen? ⟨w.heap.size + 1, o, none⟩ = false
  lo : w.heap.size + 2 ≤ wr.heap.size
  be : Below w.heap.size w wr
theorem RowI.drew {w wr : World} {s : KS} {R : List Int} {n : Nat} {ad ga : Option Addr} {gc g cp : Nat} (h : RowI w wr s R n ad ga gc g cp) : RowI w wr.drew s R n ad ga gc g cp := ⟨h.k, h.kf, h.i, h.pl, h.ap, h.row, h.s0, h.s1, h.s2, h.sf, h.lo, h.be.drew⟩
/-- Behind a call that hands back a net in the making: the box is still the elder one. -/
theorem RowI.call {w wr w1 : World} {s t : KS} {R : List Int} {n : Nat} {ad ga ga' : Option Addr} {gc gc' g cp : Nat} (h : RowI w wr s R n ad ga gc g cp) (hb : Below wr.heap.size wr w1) (hi : KIn w1 t ga' gc') (hp : Pl ga ga' wr.heap.size) (hw : ∀ q, ad = some q → q.block < w.heap.size) :
    (KBox w1 w.heap.size s ga gc ∧ (∀ o, w1.frozen? ⟨w.heap.size, o, none⟩ = false)) ∧
    ∀ v, v = ((w1.setCell ⟨w.heap.size, 0, none⟩ (.int .i64 t.m)).setCell ⟨w.heap.size, 1, none⟩ (.slice ga' t.n gc')).setCell ⟨w.heap.size, 2, none⟩ (.bool t.ok) → RowI w v t R n ad ga' gc' g cp := by
  have hk := h.k.later hb
  have hlt := h.k.lt
  have hkf : ∀ o, w1.frozen? ⟨w.heap.size, o, none⟩ = false := fun o => (hb.frozen (p := ⟨w.heap.size, o, none⟩) hlt).trans (h.kf o)
  refine ⟨⟨hk, hkf⟩, fun v hv => ?_⟩
  have mv : Mov w.heap.size w1 v := by rw [hv]; exact mov3 _ _ _ _ _
  have lg := (own_cap h.row).2
  have bg := own_base h.row
  have hpl : Pl ad ga' (w.heap.size + 2) := h.pl.trans hp h.lo
  have s0' := cell_later hb h.s0
  refine ⟨by rw [hv]; exact KBox.put hk, fun o => by rw [hv]; simp [go_sem]; exact hkf o, hi.mov (hpl.apart hw (Nat.le_refl _) (by omega)) mv, hpl, fun q hq => ?_, (h.row.kept (grown_below hb) (Or.inr (by simp [Value.ownBlock]))).kept (grown_mov mv) (Or.inr (by simp [Value.ownBlock]; omega)), mv.cell s0' (by simp only; omega), mv.cell (cell_later hb h.s1) (by simp only; omega), mv.cell (cell_later hb h.s2) (by simp only; omega), fun o => ?_, Nat.le_trans h.lo (Nat.le_trans hb.size mv.size), (h.be.trans (hb.mono h.be.size)).trans (mv.below (Nat.le_refl _) (Nat.le_trans h.be.size hb.size))⟩
  · rcases hp q hq with h1 | h1
    · exact h.ap q h1
    · omega
  · have lt := World.block_lt_of_cell? _ _ h.s0
    have e1 := (hb.frozen (p := ⟨w.heap.size + 1, o, none⟩) lt).trans (h.sf o)
    exact (World.frozen?_of_block (mv.2.2.2.2 (w.heap.size + 1) (World.block_lt_of_cell? _ _ s0') (by omega))).trans e1
/-- Behind an append of one mark onto the row. -/
theorem RowI.more {w wr w1 : World} {s : KS} {R : List Int} {n : Nat} {ad ga : Option Addr} {gc g cp g' cp' : Nat} {x : Int} (h : RowI w wr s R n ad ga gc g cp) (hr : w1.ownsRow (w.heap.size + 2) 3 1 (.slice (some ⟨g', 0, none⟩) (n + 1) cp') (n + 1) (icells (R ++ [x]))) (hg : wr.grownBy w1 (some g)) (hgg : g = g' ∨ wr.heap.size ≤ g') : RowI w w1 s (R ++ [x]) (n + 1) ad ga gc g' cp' := by
  have mg := mov_of_grown hg
  have bg := own_base h.row
  have lg := (own_cap h.row).2
  have fz : ∀ b o, b < wr.heap.size → b ≠ g → wr.frozen? ⟨b, o, none⟩ = false → w1.frozen? ⟨b, o, none⟩ = false := fun b o h1 h2 h3 => (World.frozen?_of_block (mg.2.2.2.2 b h1 h2)).trans h3
  have kl := h.k.lt
  have sl := World.block_lt_of_cell? _ _ h.s0
  simp only at sl
  refine ⟨⟨mg.cell h.k.1 (by simp only; omega), mg.cell h.k.2.1 (by simp only; omega), mg.cell h.k.2.2 (by simp only; omega)⟩, fun o => fz _ o kl (by omega) (h.kf o), h.i.mov h.ap mg, h.pl, fun q hq => ?_, hr, mg.cell h.s0 (by simp only; omega), mg.cell h.s1 (by simp only; omega), mg.cell h.s2 (by simp only; omega), fun o => fz _ o sl (by omega) (h.sf o), Nat.le_trans h.lo mg.size, h.be.trans (mg.below (by omega) h.be.size)⟩
  rcases hgg with e | e
  · rw [← e]; exact h.ap q hq
  · have := h.i.2.2.2 q hq; omega
theorem at0_in {w : World} {a : Option Addr} {n j : Nat} {L : List Int} (h : IntsAt w a n (at0 L)) (hj : j < n) : ∃ b off, a = some ⟨b, off, none⟩ ∧ b < w.heap.size ∧ w.cell? ⟨b, off + j, none⟩ = some (.int .i64 (at0 L j)) := by
  rcases h with h | ⟨b, off, h1, h2, h3⟩
  · omega
  · exact ⟨b, off, h1, h2, h3 j hj⟩
end Go.Proofs.YtnjjobompjoigaaDoor
