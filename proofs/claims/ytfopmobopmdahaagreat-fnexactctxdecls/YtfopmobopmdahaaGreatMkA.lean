/- Rows of cells that a call makes: what making one returns, and that its cells are there to be written. -/
import Derived.Test.YtfopmobopmdahaaGreatVecA
import Derived.Deep.SlicePairs
import Derived.Deep.OwnRows
import Derived.Deep.RegionHeld3
namespace Go.Proofs.YtfopmobopmdahaaGreat
open Go.ChangeShapes Go.WideShapes Go.ChangeAt Go.RowKit Go.Joins
set_option linter.unusedVariables false

theorem run_make_wide {P : Program} (t e : TypeId) (z : Value) (size bytes : Nat) (ht : P.underlying t = some (.slice e)) (hinfo : (P.info? e).map (fun i => (i.zero, i.size, i.bytes)) = some (some z, size, bytes))
    (kl kc : IntKind) (n : Nat) (hbytes : bytes * n ≤ 281474976710656) (h63 : n ≤ 9223372036854775807) (w : World) :
    (Instr.makeSlice t (.int kl (n : Int)) (.int kc (n : Int))).run P w = .ok (.slice (some ⟨w.heap.size, 0, none⟩) n n) (w.alloc (.cells (madeCells z.cells (n * size)) e)) := by
  obtain ⟨i, hi, hzz⟩ := Option.map_eq_some_iff.1 hinfo
  simp only [Prod.mk.injEq] at hzz
  obtain ⟨hz, rfl, rfl⟩ := hzz
  have hb' : (i.bytes : Int) * (n : Int) ≤ 281474976710656 := by
    have h : ((i.bytes * n : Nat) : Int) ≤ 281474976710656 := by omega
    rwa [Int.natCast_mul] at h
  have hr := run_make (P := P) w t e i z ht hi hz kl kc n n (by omega) (Int.le_refl _) hb' (by omega)
  simp only [Int.toNat_natCast] at hr
  exact hr
/-- A row of cells that the call has made: each is there, and may be written. -/
def Made (w : World) (B m : Nat) : Prop := B < w.heap.size ∧ ∀ j, j < m → (∃ v, w.cell? ⟨B, j, none⟩ = some v) ∧ w.frozen? ⟨B, j, none⟩ = false
theorem Made.new (w : World) (z : Array Value) (m : Nat) (e : TypeId) : Made (w.alloc (.cells (madeCells z m) e)) w.heap.size m := by
  refine ⟨by simp, fun j hj => ⟨?_, by simp [go_sem]⟩⟩
  rw [World.cell?_alloc_new]
  have : j < (madeCells z m).size := by rw [size_madeCells]; exact hj
  exact ⟨_, Array.getElem?_eq_getElem this⟩
theorem Made.later {w w' : World} {B m : Nat} (h : Made w B m) (hb : Below w.heap.size w w') : Made w' B m :=
  ⟨Nat.lt_of_lt_of_le h.1 hb.size, fun j hj => ⟨(h.2 j hj).1.imp fun v hv => cell_later hb hv, by rw [hb.frozen h.1]; exact (h.2 j hj).2⟩⟩
theorem Made.set {w : World} {B m : Nat} (h : Made w B m) (p : Addr) (v : Value) : Made (w.setCell p v) B m := by
  refine ⟨by simpa using h.1, fun j hj => ⟨?_, by simp [go_sem, (h.2 j hj).2]⟩⟩
  obtain ⟨u, hu⟩ := (h.2 j hj).1
  by_cases e : p = ⟨B, j, none⟩
  · subst e; exact ⟨v, World.cell?_setCell_same _ _ _ hu⟩
  · exact ⟨u, by rw [World.cell?_setCell_other _ _ _ _ (by first | exact e | exact fun h => e h.symm)]; exact hu⟩
end Go.Proofs.YtfopmobopmdahaaGreat
