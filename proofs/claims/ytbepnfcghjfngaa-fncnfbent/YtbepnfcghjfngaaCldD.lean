/- What the model's draw of clauses and of what is so returns. -/
import Derived.Test.YtbepnfcghjfngaaCldC
import Derived.Test.YtbepnfcghjfngaaLeaB
namespace Go.Proofs.Ytbepnfcghjfngaa
open Go.ChangeShapes Go.WideShapes Go.ChangeAt Go.RowKit Go.Joins
set_option linter.unusedVariables false
set_option linter.unusedSimpArgs false

theorem rws_len {w : World} {R n c : Nat} {a : Option Addr} {Ls : List Clz} (h : ClzAt w R (.slice a n c) Ls) : RwsAt w a Ls.length (cA Ls) (cL Ls) (cC Ls) (cV Ls) := by
  obtain ⟨a', c', e, h'⟩ := h.slice
  cases e; exact h'
/-- Clauses and what is so, that a law has drawn. -/
def LawH (w w' : World) (e : Ending) : Prop := ∃ (m : Int) (v : Value) (Ls : List Clz) (R : Nat) (b : Option Addr) (l cb : Nat) (B : Nat → Bool), e = .returned (.tuple #[.agg #[.int .i64 m, v], .slice b l cb]) ∧ W64 m ∧ Ls.length ≤ 40 ∧ ClzAt w' R v Ls ∧ BlsAt w' b l B ∧ l ≤ 20 ∧ Below w.heap.size w w'
theorem BlsAt.movR {w w' : World} {R : Nat} {a : Option Addr} {l : Nat} {V : Nat → Bool} (h : BlsAt w a l V) (hm : Mov R w w') (hn : l = 0 ∨ ∀ b off, a = some ⟨b, off, none⟩ → b ≠ R) : BlsAt w' a l V := by
  rcases h with h | ⟨b, off, rfl, h2, h3⟩
  · exact Or.inl h
  · rcases hn with h | h
    · exact Or.inl h
    · exact Or.inr ⟨b, off, rfl, Nat.lt_of_lt_of_le h2 hm.size, fun i hi => hm.cell (h3 i hi) (h b off rfl)⟩
/-- Behind all draws but that of what is so: the box, the reader. -/
structure HB (w wr : World) (R N Bx : Nat) (m : Int) (va : Option Addr) (vc : Nat) (Ls : List Clz) (vb : Option Addr) (l : Nat) (B : Nat → Bool) : Prop where
  p : Box wr Bx m va Ls.length vc
  s : Made wr w.heap.size 2
  c : ClzAt wr R (.slice va Ls.length vc) Ls
  rd : Rd wr R N
  be : Below w.heap.size w wr
  bl : BlsAt wr vb l B
  bn : l = 0 ∨ ∀ b off, vb = some ⟨b, off, none⟩ → b ≠ R ∧ b ≠ w.heap.size
  ne : Bx ≠ R ∧ w.heap.size < R ∧ w.heap.size < Bx
theorem HB.mov {w wr w' : World} {R N N' Bx : Nat} {m : Int} {va : Option Addr} {vc : Nat} {Ls : List Clz} {vb : Option Addr} {l : Nat} {B : Nat → Bool} (h : HB w wr R N Bx m va vc Ls vb l B) (hm : Mov R wr w') (hR : Rd w' R N') : HB w w' R N' Bx m va vc Ls vb l B :=
  ⟨⟨hm.cell h.p.1 h.ne.1, hm.cell h.p.2 h.ne.1⟩, h.s.mov hm (by have := h.ne.2.1; omega), h.c.mov hm, hR, h.be.trans (hm.below (by have := h.ne.2.1; omega) h.be.size), h.bl.movR hm (h.bn.imp id (fun k b off e => (k b off e).1)), h.bn, h.ne⟩
theorem HB.later {w wr w' : World} {R N Bx : Nat} {m : Int} {va : Option Addr} {vc : Nat} {Ls : List Clz} {vb : Option Addr} {l : Nat} {B : Nat → Bool} (h : HB w wr R N Bx m va vc Ls vb l B) (hb : Below wr.heap.size wr w') : HB w w' R N Bx m va vc Ls vb l B := h.mov (Mov.of hb) (h.rd.below hb)
end Go.Proofs.Ytbepnfcghjfngaa
