/- What the laws write into lists of truth values to see whose memory they are: nothing else turns. -/
import Derived.Test.YtmpiiilkaadhfaaDoorBolA
import Derived.Test.YtmpiiilkaadhfaaDoorRd
import Derived.Test.YtmpiiilkaadhfaaDoorGrwA
namespace Go.Proofs.YtmpiiilkaadhfaaDoor
open Go.ChangeShapes Go.WideShapes Go.ChangeAt Go.RowKit Go.Joins
set_option linter.unusedVariables false
set_option maxRecDepth 100000

/-- Nothing that was there has turned but blocks from lo on and below hi. -/
def Rng (lo hi : Nat) (w w' : World) : Prop := w'.os = w.os ∧ w'.tape = w.tape ∧ w'.output = w.output ∧ w.heap.size ≤ w'.heap.size ∧ ∀ k, k < w.heap.size → (k < lo ∨ hi ≤ k) → w'.heap[k]? = w.heap[k]?
theorem Rng.refl (lo hi : Nat) (w : World) : Rng lo hi w w := ⟨rfl, rfl, rfl, Nat.le_refl _, fun _ _ _ => rfl⟩
theorem Rng.trans {lo hi : Nat} {a b c : World} (h : Rng lo hi a b) (k : Rng lo hi b c) : Rng lo hi a c :=
  ⟨k.1.trans h.1, k.2.1.trans h.2.1, k.2.2.1.trans h.2.2.1, Nat.le_trans h.2.2.2.1 k.2.2.2.1, fun i hi' hR => (k.2.2.2.2 i (Nat.lt_of_lt_of_le hi' h.2.2.2.1) hR).trans (h.2.2.2.2 i hi' hR)⟩
theorem Rng.of {lo hi : Nat} {w w' : World} (h : Below w.heap.size w w') : Rng lo hi w w' := ⟨h.os, h.tape, h.output, h.size, fun i hi _ => h.block i hi⟩
theorem Rng.mov {lo hi R : Nat} {w w' : World} (h : Mov R w w') (h1 : lo ≤ R) (h2 : R < hi) : Rng lo hi w w' := ⟨h.1, h.2.1, h.2.2.1, h.2.2.2.1, fun i hi' hR => h.2.2.2.2 i hi' (by omega)⟩
theorem Rng.below {lo hi B : Nat} {w w' : World} (h : Rng lo hi w w') (hB : B ≤ lo) (hs : B ≤ w.heap.size) : Below B w w' := ⟨h.1, h.2.1, h.2.2.1, h.2.2.2.1, fun i hi' => h.2.2.2.2 i (by omega) (Or.inl (by omega))⟩
theorem Rng.size {lo hi : Nat} {w w' : World} (h : Rng lo hi w w') : w.heap.size ≤ w'.heap.size := h.2.2.2.1
theorem Rng.cell {lo hi : Nat} {w w' : World} (h : Rng lo hi w w') {p : Addr} {v : Value} (hc : w.cell? p = some v) (hR : p.block < lo ∨ hi ≤ p.block) : w'.cell? p = some v :=
  (World.cell?_of_block (w := w) (h.2.2.2.2 p.block (World.block_lt_of_cell? _ _ hc) hR)).trans hc
theorem Rng.frozen {lo hi : Nat} {w w' : World} (h : Rng lo hi w w') {p : Addr} {v : Value} (hc : w.cell? p = some v) (hR : p.block < lo ∨ hi ≤ p.block) (hf : w.frozen? p = false) : w'.frozen? p = false :=
  (World.frozen?_of_block (w := w) (h.2.2.2.2 p.block (World.block_lt_of_cell? _ _ hc) hR)).trans hf
/-- A list lies below a place. -/
def Up (hi : Nat) (a : Option Addr) (l : Nat) : Prop := l = 0 ∨ ∃ B off, a = some ⟨B, off, none⟩ ∧ B < hi
theorem BlsAt.up {w : World} {a : Option Addr} {l : Nat} {V : Nat → Bool} (h : BlsAt w a l V) : Up w.heap.size a l := by
  rcases h with h | ⟨b, off, h1, h2, _⟩
  · exact Or.inl h
  · exact Or.inr ⟨b, off, h1, h2⟩
theorem Up.mono {hi hi' : Nat} {a : Option Addr} {l : Nat} (h : Up hi a l) (hh : hi ≤ hi') : Up hi' a l := by
  rcases h with h | ⟨b, off, h1, h2⟩
  · exact Or.inl h
  · exact Or.inr ⟨b, off, h1, by omega⟩
theorem BlsAt.low {w w' : World} {a : Option Addr} {l lo hi : Nat} {V : Nat → Bool} (h : BlsAt w a l V) (hu : Up lo a l) (hr : Rng lo hi w w') : BlsAt w' a l V := by
  rcases h with h | ⟨b, off, rfl, h2, h3⟩
  · exact Or.inl h
  · rcases hu with hu | ⟨B, o, e, hB⟩
    · exact Or.inl hu
    · cases e
      exact Or.inr ⟨b, off, rfl, Nat.lt_of_lt_of_le h2 hr.size, fun i hi => hr.cell (h3 i hi) (Or.inl hB)⟩
/-- A list that lies alone in a block from base on, and may be written. -/
def OwnB (w : World) (base : Nat) (a : Option Addr) (l : Nat) : Prop := l = 0 ∨ ∃ B, a = some ⟨B, 0, none⟩ ∧ base ≤ B ∧ Made w B l
theorem OwnB.later {w w' : World} {base l : Nat} {a : Option Addr} (h : OwnB w base a l) (hb : Below w.heap.size w w') : OwnB w' base a l := by
  rcases h with h | ⟨B, h1, h2, h3⟩
  · exact Or.inl h
  · exact Or.inr ⟨B, h1, h2, h3.later hb⟩
theorem OwnB.drew {w : World} {base l : Nat} {a : Option Addr} (h : OwnB w base a l) : OwnB w.drew base a l := h
theorem Made.rng {w w' : World} {B m lo hi : Nat} (h : Made w B m) (hr : Rng lo hi w w') (hB : B < lo ∨ hi ≤ B) : Made w' B m :=
  ⟨Nat.lt_of_lt_of_le h.1 hr.size, fun j hj => by obtain ⟨⟨v, hv⟩, hf⟩ := h.2 j hj; exact ⟨⟨v, hr.cell hv hB⟩, hr.frozen hv hB hf⟩⟩
theorem OwnB.high {w w' : World} {base l lo hi : Nat} {a : Option Addr} (h : OwnB w base a l) (hr : Rng lo hi w w') (hh : hi ≤ base) : OwnB w' base a l := by
  rcases h with h | ⟨B, h1, h2, h3⟩
  · exact Or.inl h
  · exact Or.inr ⟨B, h1, h2, h3.rng hr (Or.inr (by omega))⟩
theorem BlsAt.high {w w' : World} {a : Option Addr} {l lo hi base : Nat} {V : Nat → Bool} (h : BlsAt w a l V) (ho : OwnB w base a l) (hr : Rng lo hi w w') (hh : hi ≤ base) : BlsAt w' a l V := by
  rcases h with h | ⟨b, off, rfl, h2, h3⟩
  · exact Or.inl h
  · rcases ho with ho | ⟨B, e, hB, _⟩
    · exact Or.inl ho
    · cases e
      exact Or.inr ⟨b, 0, rfl, Nat.lt_of_lt_of_le h2 hr.size, fun i hi => hr.cell (h3 i hi) (Or.inr (by simp only; omega))⟩
def mkB (k0 i : Nat) : Bool := decide ((k0 + i) % 3 = 0)
end Go.Proofs.YtmpiiilkaadhfaaDoor
