/- The reader of a code of bytes: what it is in memory, and what its function pick returns: a number from 0 on and below the one that is asked; it moves on by one place and turns nothing else. -/
import Derived.Test.YtfopmobopmdahaaGreatVecA
import Derived.Deep.RegionHeld3
import Derived.Deep.DrawnRows
namespace Go.Proofs.YtfopmobopmdahaaGreat
open Go.ChangeShapes Go.WideShapes Go.ChangeAt Go.RowKit Go.Joins
set_option linter.unusedVariables false

/-- Nothing that was there has turned but block R. -/
def Mov (R : Nat) (w w' : World) : Prop := w'.os = w.os ∧ w'.tape = w.tape ∧ w'.output = w.output ∧ w.heap.size ≤ w'.heap.size ∧ ∀ k, k < w.heap.size → k ≠ R → w'.heap[k]? = w.heap[k]?
theorem Mov.refl (R : Nat) (w : World) : Mov R w w := ⟨rfl, rfl, rfl, Nat.le_refl _, fun _ _ _ => rfl⟩
theorem Mov.trans {R : Nat} {a b c : World} (h : Mov R a b) (k : Mov R b c) : Mov R a c :=
  ⟨k.1.trans h.1, k.2.1.trans h.2.1, k.2.2.1.trans h.2.2.1, Nat.le_trans h.2.2.2.1 k.2.2.2.1, fun i hi hR => (k.2.2.2.2 i (Nat.lt_of_lt_of_le hi h.2.2.2.1) hR).trans (h.2.2.2.2 i hi hR)⟩
theorem Mov.of {R : Nat} {w w' : World} (h : Below w.heap.size w w') : Mov R w w' := ⟨h.os, h.tape, h.output, h.size, fun i hi _ => h.block i hi⟩
theorem Mov.below {R B : Nat} {w w' : World} (h : Mov R w w') (hB : B ≤ R) (hs : B ≤ w.heap.size) : Below B w w' :=
  ⟨h.1, h.2.1, h.2.2.1, h.2.2.2.1, fun i hi => h.2.2.2.2 i (by omega) (by omega)⟩
theorem Mov.size {R : Nat} {w w' : World} (h : Mov R w w') : w.heap.size ≤ w'.heap.size := h.2.2.2.1
theorem Mov.cell {R : Nat} {w w' : World} (h : Mov R w w') {p : Addr} {v : Value} (hc : w.cell? p = some v) (hR : p.block ≠ R) : w'.cell? p = some v :=
  (World.cell?_of_block (w := w) (h.2.2.2.2 p.block (World.block_lt_of_cell? _ _ hc) hR)).trans hc
theorem Mov.frozen {R : Nat} {w w' : World} (h : Mov R w w') {p : Addr} {v : Value} (hc : w.cell? p = some v) (hR : p.block ≠ R) (hf : w.frozen? p = false) : w'.frozen? p = false :=
  (World.frozen?_of_block (w := w) (h.2.2.2.2 p.block (World.block_lt_of_cell? _ _ hc) hR)).trans hf
theorem Mov.set {R : Nat} (w : World) (o : Nat) (v : Value) : Mov R w (w.setCell ⟨R, o, none⟩ v) :=
  ⟨rfl, rfl, rfl, by simp [World.setCell], fun i hi hR => Below.heap_setCell _ _ _ _ (by simpa using hR)⟩
theorem Mov.drew {R : Nat} {w w' : World} (h : Mov R w w') : Mov R w w'.drew := h
theorem Mov.drewN {R : Nat} {w w' : World} (h : Mov R w w') (n : Nat) : Mov R w (w'.drewN n) := h

/-- Bytes that are there. -/
def Byts (w : World) (R : Nat) (a : Option Addr) (l : Nat) : Prop :=
  l = 0 ∨ ∃ B o, a = some ⟨B, o, none⟩ ∧ B < R ∧ ∀ i, i < l → ∃ x : Int, 0 ≤ x ∧ x ≤ 255 ∧ w.cell? ⟨B, o + i, none⟩ = some (.int .u8 x)
/-- A reader: a slice of at most 2000 bytes, and a place of at most N. -/
def Rd (w : World) (R N : Nat) : Prop := ∃ (a : Option Addr) (l c p : Nat), w.cell? ⟨R, 0, none⟩ = some (.slice a l c) ∧ w.cell? ⟨R, 1, none⟩ = some (.int .i64 (p : Int)) ∧ w.frozen? ⟨R, 1, none⟩ = false ∧ p ≤ N ∧ l ≤ 2000 ∧ Byts w R a l
theorem Byts.mov {w w' : World} {R : Nat} {a : Option Addr} {l : Nat} (h : Byts w R a l) (hm : Mov R w w') : Byts w' R a l := by
  rcases h with h | ⟨B, o, ha, hB, hc⟩
  · exact Or.inl h
  · exact Or.inr ⟨B, o, ha, hB, fun i hi => by obtain ⟨x, x0, x1, hx⟩ := hc i hi; exact ⟨x, x0, x1, hm.cell hx (Nat.ne_of_lt hB)⟩⟩
theorem Byts.other {w w' : World} {R b : Nat} {a : Option Addr} {l : Nat} (h : Byts w R a l) (hm : Mov b w w') (hb : R < b) : Byts w' R a l := by
  rcases h with h | ⟨B, o, ha, hB, hc⟩
  · exact Or.inl h
  · exact Or.inr ⟨B, o, ha, hB, fun i hi => by obtain ⟨x, x0, x1, hx⟩ := hc i hi; exact ⟨x, x0, x1, hm.cell hx (Nat.ne_of_lt (Nat.lt_trans hB hb))⟩⟩
theorem Rd.lt {w : World} {R N : Nat} (h : Rd w R N) : R < w.heap.size := by obtain ⟨a, l, c, p, h0, _⟩ := h; exact World.block_lt_of_cell? _ _ h0
theorem Rd.below {w w' : World} {R N : Nat} (h : Rd w R N) (hb : Below w.heap.size w w') : Rd w' R N := by
  obtain ⟨a, l, c, p, h0, h1, hf, hp, hl, hby⟩ := h
  exact ⟨a, l, c, p, cell_later hb h0, cell_later hb h1, by rw [hb.frozen (World.block_lt_of_cell? _ _ h1)]; exact hf, hp, hl, hby.mov (Mov.of hb)⟩
theorem Rd.other {w w' : World} {R N b : Nat} (h : Rd w R N) (hm : Mov b w w') (hb : R < b) : Rd w' R N := by
  obtain ⟨a, l, c, p, h0, h1, hf, hp, hl, hby⟩ := h
  exact ⟨a, l, c, p, hm.cell h0 (Nat.ne_of_lt hb), hm.cell h1 (Nat.ne_of_lt hb), hm.frozen h1 (Nat.ne_of_lt hb) hf, hp, hl, hby.other hm hb⟩
theorem Rd.set {w : World} {R N b : Nat} (h : Rd w R N) (hb : R < b) (o : Nat) (v : Value) : Rd (w.setCell ⟨b, o, none⟩ v) R N := h.other (Mov.set w o v) hb
theorem Rd.alloc {w : World} {R N : Nat} (h : Rd w R N) (o : Obj) : Rd (w.alloc o) R N := h.below ((Below.refl _ _).alloc (Nat.le_refl _) _)
theorem Mov.alloc {R : Nat} {w w' : World} (h : Mov R w w') (o : Obj) : Mov R w (w'.alloc o) := h.trans (Mov.of ((Below.refl _ _).alloc (Nat.le_refl _) _))
theorem Mov.setNew {R b : Nat} {w w' : World} (h : Mov R w w') (hb : w.heap.size ≤ b) (o : Nat) (v : Value) : Mov R w (w'.setCell ⟨b, o, none⟩ v) :=
  ⟨h.1, h.2.1, h.2.2.1, by simpa [World.setCell] using h.2.2.2.1, fun i hi hR => (Below.heap_setCell _ _ _ _ (by simp; omega)).trans (h.2.2.2.2 i hi hR)⟩
theorem Mov.from {R : Nat} {w v w' : World} (h : Mov R w v) (hb : Below v.heap.size v w') : Mov R w w' := h.trans (Mov.of hb)
theorem Rd.mono {w : World} {R N M : Nat} (h : Rd w R N) (hN : N ≤ M) : Rd w R M := by
  obtain ⟨a, l, c, p, h0, h1, hf, hp, hl, hby⟩ := h
  exact ⟨a, l, c, p, h0, h1, hf, by omega, hl, hby⟩
/-- Behind a step: the place is one more, nothing else of it has turned. -/
theorem Rd.step {w : World} {R N : Nat} {a : Option Addr} {l c p : Nat} (h0 : w.cell? ⟨R, 0, none⟩ = some (.slice a l c)) (h1 : w.cell? ⟨R, 1, none⟩ = some (.int .i64 (p : Int))) (hf : w.frozen? ⟨R, 1, none⟩ = false) (hp : p ≤ N) (hl : l ≤ 2000) (hby : Byts w R a l) :
    Rd (w.setCell ⟨R, 1, none⟩ (.int .i64 ((p : Int) + 1))) R (N + 1) := by
  refine ⟨a, l, c, p + 1, ?_, ?_, ?_, by omega, hl, hby.mov (Mov.set w 1 _)⟩
  · rw [World.cell?_setCell_other _ _ _ _ (by simp)]; exact h0
  · rw [World.cell?_setCell_same _ _ _ h1]; simp
  · simp [go_sem, hf]
theorem Rd.drew {w : World} {R N : Nat} (h : Rd w R N) : Rd w.drew R N := h
theorem Rd.drewN {w : World} {R N : Nat} (h : Rd w R N) (n : Nat) : Rd (w.drewN n) R N := h
theorem xor_nat (a b : Nat) (ha : a < 4611686018427387904) (hb : b < 4611686018427387904) : ∃ c : Nat, bits .xor .i64 (a : Int) (b : Int) = (c : Int) ∧ c < 4611686018427387904 := by
  refine ⟨a ^^^ b, ?_, Nat.xor_lt_two_pow (n := 62) ha hb⟩
  have hx := Nat.xor_lt_two_pow (n := 62) ha hb
  show IntKind.i64.wrap ((BitVec.ofInt 64 (a : Int) ^^^ BitVec.ofInt 64 (b : Int)).toNat : Int) = _
  have e1 : (BitVec.ofInt 64 (a : Int)).toNat = a := by simp; omega
  have e2 : (BitVec.ofInt 64 (b : Int)).toNat = b := by simp; omega
  rw [BitVec.toNat_xor, e1, e2, Go.IntWalk.i64_left, Go.IntWalk.wrap64_in _ (by omega)]

theorem xor_mod (X n : Int) (h0 : 0 ≤ X) (h1 : X ≤ 1000000000) (n1 : 1 ≤ n) : 0 ≤ (bits .xor .i64 X (X / 64)).tmod n ∧ (bits .xor .i64 X (X / 64)).tmod n < n := by
  obtain ⟨a, rfl⟩ := Int.eq_ofNat_of_zero_le h0
  obtain ⟨c, hc, _⟩ := xor_nat a (a / 64) (by omega) (by omega)
  have e : ((a : Int) / 64) = ((a / 64 : Nat) : Int) := by omega
  rw [e, hc, Int.tmod_eq_emod_of_nonneg (by omega)]
  exact ⟨Int.emod_nonneg _ (by omega), Int.emod_lt_of_pos _ (by omega)⟩
end Go.Proofs.YtfopmobopmdahaaGreat
