/- Names with their bits: what the laws' copies, counts and comparisons of them return. -/
import Derived.Test.YtmdelmpdnmhpmaaVecA
import Derived.Deep.SlicePairs
import Derived.Deep.OwnRows
import Derived.Deep.RegionHeld3
namespace Go.Proofs.Ytmdelmpdnmhpmaa
open Go.ChangeShapes Go.WideShapes Go.ChangeAt Go.RowKit Go.Joins
set_option linter.unusedVariables false

/-- Names in a row: a text and a number each, from an address on. -/
def Decs (w : World) (b off n : Nat) (S : Nat → ByteArray) (V : Nat → Int) : Prop :=
  ∀ i, i < n → w.cell? ⟨b, off + i * 2, none⟩ = some (.string (S i)) ∧ w.cell? ⟨b, off + i * 2 + 1, none⟩ = some (.int .i64 (V i))
theorem Decs.later {w w' : World} {b off n : Nat} {S : Nat → ByteArray} {V : Nat → Int} (h : Decs w b off n S V) (hb : Below w.heap.size w w') : Decs w' b off n S V :=
  fun i hi => ⟨cell_later hb (h i hi).1, cell_later hb (h i hi).2⟩
theorem Decs.mono {w : World} {b off n m : Nat} {S : Nat → ByteArray} {V : Nat → Int} (h : Decs w b off n S V) (hm : m ≤ n) : Decs w b off m S V := fun i hi => h i (by omega)
theorem Decs.alloc {w : World} {b off n : Nat} {S : Nat → ByteArray} {V : Nat → Int} (h : Decs w b off n S V) (o : Obj) : Decs (w.alloc o) b off n S V := h.later ((Below.refl _ _).alloc (Nat.le_refl _) _)
/-- The same, with an address that may be none where there are no names. -/
def DecsAt (w : World) (a : Option Addr) (n : Nat) (S : Nat → ByteArray) (V : Nat → Int) : Prop := n = 0 ∨ ∃ b off, a = some ⟨b, off, none⟩ ∧ b < w.heap.size ∧ Decs w b off n S V
theorem DecsAt.later {w w' : World} {a : Option Addr} {n : Nat} {S : Nat → ByteArray} {V : Nat → Int} (h : DecsAt w a n S V) (hb : Below w.heap.size w w') : DecsAt w' a n S V := by
  rcases h with h | ⟨b, off, h1, h2, h3⟩
  · exact Or.inl h
  · exact Or.inr ⟨b, off, h1, Nat.lt_of_lt_of_le h2 hb.size, h3.later hb⟩
theorem DecsAt.alloc {w : World} {a : Option Addr} {n : Nat} {S : Nat → ByteArray} {V : Nat → Int} (h : DecsAt w a n S V) (o : Obj) : DecsAt (w.alloc o) a n S V := h.later ((Below.refl _ _).alloc (Nat.le_refl _) _)

theorem run_make_wide {P : Program} (t e : TypeId) (z : Value) (size bytes : Nat) (ht : P.underlying t = some (.slice e)) (hinfo : (P.info? e).map (fun i => (i.zero, i.size, i.bytes)) = some (some z, size, bytes))
    (kl kc : IntKind) (n : Nat) (hbytes : bytes * n ≤ 281474976710656) (h63 : n ≤ 9223372036854775807) (w : World) :
    (Instr.makeSlice t (.int kl (n : Int)) (.int kc (n : Int))).run P w = .ok (.slice (some ⟨w.heap.size, 0, none⟩) n n) (w.alloc (.cells (madeCells z.cells (n * size)) e)) := by
  obtain ⟨i, hi, hzz⟩ := Option.map_eq_some_iff.1 hinfo
  simp only [Prod.mk.injEq] at hzz
  obtain ⟨hz, rfl, rfl⟩ := hzz
  have hb' : (i.bytes : Int) * (n : Int) ≤ 281474976710656 := by
    have h : ((i.bytes * n : Nat) : Int) ≤ 281474976710656 := by omega
    rwa [Int.natCast_mul] at h
  have hr := run_make (P := P) w t e i z ht hi hz kl kc n n (by omega) (Int.le_refl _) hb' (by omega)
  simp only [Int.toNat_natCast] at hr
  exact hr
/-- A row of cells that the call has made: each is there, and may be written. -/
def Made (w : World) (B m : Nat) : Prop := B < w.heap.size ∧ ∀ j, j < m → (∃ v, w.cell? ⟨B, j, none⟩ = some v) ∧ w.frozen? ⟨B, j, none⟩ = false
theorem Made.new (w : World) (z : Array Value) (m : Nat) (e : TypeId) : Made (w.alloc (.cells (madeCells z m) e)) w.heap.size m := by
  refine ⟨by simp, fun j hj => ⟨?_, by simp [go_sem]⟩⟩
  rw [World.cell?_alloc_new]
  have : j < (madeCells z m).size := by rw [size_madeCells]; exact hj
  exact ⟨_, Array.getElem?_eq_getElem this⟩
theorem Made.later {w w' : World} {B m : Nat} (h : Made w B m) (hb : Below w.heap.size w w') : Made w' B m :=
  ⟨Nat.lt_of_lt_of_le h.1 hb.size, fun j hj => ⟨(h.2 j hj).1.imp fun v hv => cell_later hb hv, by rw [hb.frozen h.1]; exact (h.2 j hj).2⟩⟩
theorem Made.set {w : World} {B m : Nat} (h : Made w B m) (p : Addr) (v : Value) : Made (w.setCell p v) B m := by
  refine ⟨by simpa using h.1, fun j hj => ⟨?_, by simp [go_sem, (h.2 j hj).2]⟩⟩
  obtain ⟨u, hu⟩ := (h.2 j hj).1
  by_cases e : p = ⟨B, j, none⟩
  · subst e; exact ⟨v, World.cell?_setCell_same _ _ _ hu⟩
  · exact ⟨u, by rw [World.cell?_setCell_other _ _ _ _ (by first | exact e | exact fun h => e h.symm)]; exact hu⟩
theorem Decs.put {w : World} {B k : Nat} {S : Nat → ByteArray} {V : Nat → Int} {u0 u1 : Value} (h : Decs w B 0 k S V) (q0 : w.cell? ⟨B, k * 2, none⟩ = some u0) (q1 : w.cell? ⟨B, k * 2 + 1, none⟩ = some u1) :
    Decs ((w.setCell ⟨B, k * 2, none⟩ (.string (S k))).setCell ⟨B, k * 2 + 1, none⟩ (.int .i64 (V k))) B 0 (k + 1) S V := by
  have q1' : (w.setCell ⟨B, k * 2, none⟩ (.string (S k))).cell? ⟨B, k * 2 + 1, none⟩ = some u1 := by rw [World.cell?_setCell_other _ _ _ _ (by simp)]; exact q1
  intro i hi
  simp only [Nat.zero_add]
  by_cases e : i = k
  · subst e
    exact ⟨by rw [World.cell?_setCell_other _ _ _ _ (by simp)]; exact World.cell?_setCell_same _ _ _ q0, World.cell?_setCell_same _ _ _ q1'⟩
  · have hh := h i (by omega)
    simp only [Nat.zero_add] at hh
    refine ⟨?_, ?_⟩
    · rw [World.cell?_setCell_other _ _ _ _ (by simp <;> omega), World.cell?_setCell_other _ _ _ _ (by simp <;> omega)]; exact hh.1
    · rw [World.cell?_setCell_other _ _ _ _ (by simp <;> omega), World.cell?_setCell_other _ _ _ _ (by simp <;> omega)]; exact hh.2
end Go.Proofs.Ytmdelmpdnmhpmaa
