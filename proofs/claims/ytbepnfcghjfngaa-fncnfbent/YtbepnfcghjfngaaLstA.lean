/- Lists of lists of numbers: how they lie in memory, their copies, counts and comparisons, and those of clauses. -/
import Derived.Test.YtbepnfcghjfngaaClaA
import Derived.Deep.Matrix
namespace Go.Proofs.Ytbepnfcghjfngaa
open Go.ChangeShapes Go.WideShapes Go.ChangeAt Go.RowKit Go.Joins
set_option linter.unusedVariables false

/-- Lists in a row, each with its numbers. -/
def Rws (w : World) (b off n : Nat) (A : Nat → Option Addr) (L C : Nat → Nat) (V : Nat → Nat → Int) : Prop :=
  ∀ i, i < n → w.cell? ⟨b, off + i, none⟩ = some (.slice (A i) (L i) (C i)) ∧ IntsAt w (A i) (L i) (V i)
theorem Rws.later {w w' : World} {b off n : Nat} {A : Nat → Option Addr} {L C : Nat → Nat} {V : Nat → Nat → Int} (h : Rws w b off n A L C V) (hb : Below w.heap.size w w') : Rws w' b off n A L C V :=
  fun i hi => ⟨cell_later hb (h i hi).1, (h i hi).2.later hb⟩
def RwsAt (w : World) (a : Option Addr) (n : Nat) (A : Nat → Option Addr) (L C : Nat → Nat) (V : Nat → Nat → Int) : Prop :=
  n = 0 ∨ ∃ b off, a = some ⟨b, off, none⟩ ∧ b < w.heap.size ∧ Rws w b off n A L C V
theorem RwsAt.later {w w' : World} {a : Option Addr} {n : Nat} {A : Nat → Option Addr} {L C : Nat → Nat} {V : Nat → Nat → Int} (h : RwsAt w a n A L C V) (hb : Below w.heap.size w w') : RwsAt w' a n A L C V := by
  rcases h with h | ⟨b, off, h1, h2, h3⟩
  · exact Or.inl h
  · exact Or.inr ⟨b, off, h1, Nat.lt_of_lt_of_le h2 hb.size, h3.later hb⟩
theorem RwsAt.ok {w : World} {a : Option Addr} {n k : Nat} {A : Nat → Option Addr} {L C : Nat → Nat} {V : Nat → Nat → Int} (h : RwsAt w a n A L C V) (hk : k < n) : ∃ b off, a = some ⟨b, off, none⟩ ∧ b < w.heap.size ∧ Rws w b off n A L C V := h.resolve_left (by omega)
theorem Rws.at {w : World} {b off n : Nat} {A : Nat → Option Addr} {L C : Nat → Nat} {V : Nat → Nat → Int} (h : Rws w b off n A L C V) (hb : b < w.heap.size) : RwsAt w (some ⟨b, off, none⟩) n A L C V := Or.inr ⟨b, off, rfl, hb, h⟩
/-- A copy that a call has made: each list lies in a block of its own, that may be written. -/
def Cop (w : World) (lo B n : Nat) (bs : Nat → Nat) (L : Nat → Nat) (V : Nat → Nat → Int) : Prop :=
  ∀ i, i < n → w.cell? ⟨B, i, none⟩ = some (.slice (some ⟨bs i, 0, none⟩) (L i) (L i)) ∧ lo ≤ bs i ∧ Made w (bs i) (L i) ∧ Ints w (bs i) 0 (L i) (V i)
theorem Cop.later {w w' : World} {lo B n : Nat} {bs L : Nat → Nat} {V : Nat → Nat → Int} (h : Cop w lo B n bs L V) (hb : Below w.heap.size w w') : Cop w' lo B n bs L V :=
  fun i hi => ⟨cell_later hb (h i hi).1, (h i hi).2.1, (h i hi).2.2.1.later hb, (h i hi).2.2.2.later hb⟩
theorem Cop.mono {w : World} {lo lo' B n : Nat} {bs L : Nat → Nat} {V : Nat → Nat → Int} (h : Cop w lo B n bs L V) (hl : lo' ≤ lo) : Cop w lo' B n bs L V :=
  fun i hi => ⟨(h i hi).1, Nat.le_trans hl (h i hi).2.1, (h i hi).2.2⟩
theorem Cop.rws {w : World} {lo B n : Nat} {bs L : Nat → Nat} {V : Nat → Nat → Int} (h : Cop w lo B n bs L V) : Rws w B 0 n (fun i => some ⟨bs i, 0, none⟩) L L V :=
  fun i hi => ⟨by rw [Nat.zero_add]; exact (h i hi).1, (h i hi).2.2.2.at (h i hi).2.2.1.1⟩
theorem Made.ints {w : World} {B m n : Nat} {V : Nat → Int} {b off : Nat} (h : Ints w b off n V) (p : Addr) (v : Value) (hp : p.block ≠ b) : Ints (w.setCell p v) b off n V := fun i hi => by
  rw [World.cell?_setCell_other _ _ _ _ (by intro e; apply hp; rw [e])]; exact h i hi
theorem Cop.put {w : World} {lo B k q : Nat} {bs L : Nat → Nat} {V : Nat → Nat → Int} {u0 : Value} (h : Cop w lo B k bs L V) (hB : B < lo) (q0 : w.cell? ⟨B, k, none⟩ = some u0) (hq : lo ≤ q) (hm : Made w q (L k)) (hi : Ints w q 0 (L k) (V k)) :
    Cop (w.setCell ⟨B, k, none⟩ (.slice (some ⟨q, 0, none⟩) (L k) (L k))) lo B (k + 1) (fun i => if i = k then q else bs i) L V := by
  intro i hi'
  by_cases e : i = k
  · subst e
    simp only [if_true]
    exact ⟨World.cell?_setCell_same _ _ _ q0, hq, hm.set _ _, Made.ints (B := 0) (m := 0) hi _ _ (by simp only; omega)⟩
  · simp only [if_neg e]
    obtain ⟨h1, h2, h3, h4⟩ := h i (by omega)
    exact ⟨by rw [World.cell?_setCell_other _ _ _ _ (by simp <;> omega)]; exact h1, h2, h3.set _ _, Made.ints (B := 0) (m := 0) h4 _ _ (by simp only; omega)⟩
theorem Cop.set {w : World} {lo B n : Nat} {bs L : Nat → Nat} {V : Nat → Nat → Int} (h : Cop w lo B n bs L V) {p : Addr} (v : Value) (hp : p.block < B) (hB : B < lo) : Cop (w.setCell p v) lo B n bs L V := by
  intro i hi
  obtain ⟨h1, h2, h3, h4⟩ := h i hi
  exact ⟨by rw [World.cell?_setCell_other _ _ _ _ (by intro e; rw [e] at hp; simp at hp)]; exact h1, h2, h3.set _ _, Made.ints (B := 0) (m := 0) h4 _ _ (by omega)⟩
theorem Rws.drew {w : World} {b off n : Nat} {A : Nat → Option Addr} {L C : Nat → Nat} {V : Nat → Nat → Int} (h : Rws w b off n A L C V) : Rws w.drew b off n A L C V := h
theorem RwsAt.drew {w : World} {a : Option Addr} {n : Nat} {A : Nat → Option Addr} {L C : Nat → Nat} {V : Nat → Nat → Int} (h : RwsAt w a n A L C V) : RwsAt w.drew a n A L C V := h
theorem Cop.drew {w : World} {lo B n : Nat} {bs L : Nat → Nat} {V : Nat → Nat → Int} (h : Cop w lo B n bs L V) : Cop w.drew lo B n bs L V := h
theorem Bls.drew {w : World} {b off n : Nat} {V : Nat → Bool} (h : Bls w b off n V) : Bls w.drew b off n V := h
theorem BlsAt.drew {w : World} {a : Option Addr} {n : Nat} {V : Nat → Bool} (h : BlsAt w a n V) : BlsAt w.drew a n V := h
theorem Ints.drew {w : World} {b off n : Nat} {V : Nat → Int} (h : Ints w b off n V) : Ints w.drew b off n V := h
theorem IntsAt.drew {w : World} {a : Option Addr} {n : Nat} {V : Nat → Int} (h : IntsAt w a n V) : IntsAt w.drew a n V := h
theorem Made.drew {w : World} {B m : Nat} (h : Made w B m) : Made w.drew B m := h
/-- A struct of clauses in a block of its own. -/
def Box (w : World) (b : Nat) (m : Int) (a : Option Addr) (n cap : Nat) : Prop := w.cell? ⟨b, 0, none⟩ = some (.int .i64 m) ∧ w.cell? ⟨b, 1, none⟩ = some (.slice a n cap)
theorem Box.later {w w' : World} {b : Nat} {m : Int} {a : Option Addr} {n cap : Nat} (h : Box w b m a n cap) (hb : Below w.heap.size w w') : Box w' b m a n cap := ⟨cell_later hb h.1, cell_later hb h.2⟩
theorem Box.drew {w : World} {b : Nat} {m : Int} {a : Option Addr} {n cap : Nat} (h : Box w b m a n cap) : Box w.drew b m a n cap := h
theorem Box.new (w : World) (m : Int) (a : Option Addr) (n cap : Nat) (t : TypeId) : Box (w.alloc (.cells #[.int .i64 m, .slice a n cap] t)) w.heap.size m a n cap := ⟨by simp [go_sem], by simp [go_sem]⟩
theorem IntsAt.in {w w' : World} {a : Option Addr} {n : Nat} {V : Nat → Int} {s : Nat} (h : IntsAt w a n V) (hb : Below s w w') (hs : w.heap.size ≤ s) : IntsAt w' a n V := h.later (hb.mono hs)
end Go.Proofs.Ytbepnfcghjfngaa
