/- Lists of clauses that were drawn: how they lie in memory, and one clause more. -/
import Derived.Test.YtbepnfcghjfngaaCdrB
import Derived.Test.YtbepnfcghjfngaaLstA
import Derived.Test.YtbepnfcghjfngaaCnfA
import Derived.Laws.OwnMore
namespace Go.Proofs.Ytbepnfcghjfngaa
open Go.ChangeShapes Go.WideShapes Go.ChangeAt Go.RowKit Go.Joins
set_option linter.unusedVariables false

/-- A clause in memory: its block, its room, its numbers. -/
structure Clz where
  g : Nat
  cap : Nat
  L : List Int
/-- A clause lies behind block R, is short, and its numbers are of 64 bits. -/
def Clz.Ok (q : Clz) (w : World) (R : Nat) : Prop := R < q.g ∧ q.g < w.heap.size ∧ Ints w q.g 0 q.L.length (at0 q.L) ∧ q.L.length ≤ 100 ∧ ∀ x, x ∈ q.L → W64 x
theorem Clz.Ok.later {q : Clz} {w w' : World} {R : Nat} (h : q.Ok w R) (hb : Below w.heap.size w w') : q.Ok w' R := ⟨h.1, Nat.lt_of_lt_of_le h.2.1 hb.size, h.2.2.1.later hb, h.2.2.2⟩
theorem Clz.Ok.grown {q : Clz} {w w' : World} {R : Nat} {row : Option Nat} (h : q.Ok w R) (hg : w.grownBy w' row) (hne : row ≠ some q.g) : q.Ok w' R :=
  ⟨h.1, Nat.lt_of_lt_of_le h.2.1 hg.size, fun i hi => grown_cell hg (h.2.2.1 i hi) hne, h.2.2.2⟩
theorem Clz.Ok.mov {q : Clz} {w w' : World} {R : Nat} (h : q.Ok w R) (hm : Mov R w w') : q.Ok w' R := h.grown (grown_mov hm) (by simp; exact Nat.ne_of_lt h.1)
def Clz.cell (q : Clz) : Value := .slice (some ⟨q.g, 0, none⟩) q.L.length q.cap
def scells (Ls : List Clz) : List Value := Ls.map Clz.cell
theorem scells_snoc (Ls : List Clz) (q : Clz) : scells (Ls ++ [q]) = scells Ls ++ [q.cell] := by simp [scells]
theorem scells_app (Ls Ms : List Clz) : scells (Ls ++ Ms) = scells Ls ++ scells Ms := by simp [scells]
def atC (Ls : List Clz) (i : Nat) : Clz := Ls.getD i ⟨0, 0, []⟩
def cA (Ls : List Clz) (i : Nat) : Option Addr := some ⟨(atC Ls i).g, 0, none⟩
def cL (Ls : List Clz) (i : Nat) : Nat := (atC Ls i).L.length
def cC (Ls : List Clz) (i : Nat) : Nat := (atC Ls i).cap
def cV (Ls : List Clz) (i j : Nat) : Int := at0 (atC Ls i).L j
theorem atC_mem {Ls : List Clz} {i : Nat} (h : i < Ls.length) : atC Ls i ∈ Ls := by
  unfold atC
  rw [List.getD_eq_getElem?_getD, List.getElem?_eq_getElem h]
  exact List.getElem_mem _
theorem scells_at {Ls : List Clz} {i : Nat} (h : i < Ls.length) : (scells Ls)[i]? = some (atC Ls i).cell := by
  simp [scells, atC, List.getD, h]
/-- A value is a list of these clauses. -/
def ClzAt (w : World) (R : Nat) (v : Value) (Ls : List Clz) : Prop :=
  (∀ q, q ∈ Ls → q.Ok w R) ∧ ((v = .slice none 0 0 ∧ Ls = []) ∨ ∃ b cap, v = .slice (some ⟨b, 0, none⟩) Ls.length cap ∧ Ls.length ≤ cap ∧ R < b ∧ b < w.heap.size ∧ ∀ i, i < Ls.length → w.cell? ⟨b, i, none⟩ = some (atC Ls i).cell)
theorem ClzAt.later {w w' : World} {R : Nat} {v : Value} {Ls : List Clz} (h : ClzAt w R v Ls) (hb : Below w.heap.size w w') : ClzAt w' R v Ls := by
  refine ⟨fun q hq => (h.1 q hq).later hb, ?_⟩
  rcases h.2 with h' | ⟨b, cap, h1, h0, h2, h3, h4⟩
  · exact Or.inl h'
  · exact Or.inr ⟨b, cap, h1, h0, h2, Nat.lt_of_lt_of_le h3 hb.size, fun i hi => cell_later hb (h4 i hi)⟩
theorem ClzAt.mov {w w' : World} {R : Nat} {v : Value} {Ls : List Clz} (h : ClzAt w R v Ls) (hm : Mov R w w') : ClzAt w' R v Ls := by
  refine ⟨fun q hq => (h.1 q hq).mov hm, ?_⟩
  rcases h.2 with h' | ⟨b, cap, h1, h0, h2, h3, h4⟩
  · exact Or.inl h'
  · exact Or.inr ⟨b, cap, h1, h0, h2, Nat.lt_of_lt_of_le h3 hm.size, fun i hi => hm.cell (h4 i hi) (by simp only; omega)⟩
theorem ClzAt.slice {w : World} {R : Nat} {v : Value} {Ls : List Clz} (h : ClzAt w R v Ls) : ∃ a cap, v = .slice a Ls.length cap ∧ RwsAt w a Ls.length (cA Ls) (cL Ls) (cC Ls) (cV Ls) := by
  rcases h.2 with ⟨rfl, rfl⟩ | ⟨b, cap, rfl, h0, h2, h3, h4⟩
  · exact ⟨none, 0, rfl, Or.inl rfl⟩
  · refine ⟨_, _, rfl, Or.inr ⟨b, 0, rfl, h3, fun i hi => ⟨by rw [Nat.zero_add]; exact h4 i hi, ?_⟩⟩⟩
    have := h.1 _ (atC_mem hi)
    exact this.2.2.1.at this.2.1
theorem ClzAt.fits {w : World} {R : Nat} {v : Value} {Ls : List Clz} (h : ClzAt w R v Ls) (hn : Ls.length ≤ 1048576) : Fits Ls.length (cL Ls) (cV Ls) := by
  refine ⟨hn, fun i hi => ?_⟩
  have hq := h.1 _ (atC_mem hi)
  refine ⟨?_, fun j hj => hq.2.2.2.2 _ (at0_mem hj)⟩
  have := hq.2.2.2.1
  unfold cL
  omega
theorem own_clz {w : World} {base R g cap n : Nat} {Ls : List Clz} (h : w.ownsRow base 30 1 (.slice (some ⟨g, 0, none⟩) n cap) n (scells Ls)) (hR : R < g) (hq : ∀ q, q ∈ Ls → q.Ok w R) : ClzAt w R (.slice (some ⟨g, 0, none⟩) n cap) Ls := by
  have hl : Ls.length = n := by have := h.1; simpa [scells] using this
  refine ⟨hq, Or.inr ⟨g, cap, by rw [hl], by rw [hl]; exact (own_cap h).1, hR, (own_cap h).2, fun i hi => ?_⟩⟩
  have := h.cells (g := g) rfl i _ (scells_at hi)
  rwa [Go.WideShapes.add_plain, Nat.zero_add] at this
theorem own_clzs {w : World} {base R n : Nat} {v : Value} {Ls : List Clz} (h : w.ownsRow base 30 1 v n (scells Ls)) (hR : R < base) (hq : ∀ q, q ∈ Ls → q.Ok w R) : ClzAt w R v Ls := by
  rcases h.2 with ⟨rfl, rfl⟩ | ⟨g, cap, cur, rfl, hb, _⟩
  · have : Ls = [] := by have := h.1; simpa [scells] using this
    subst this
    exact ⟨by simp, Or.inl ⟨rfl, rfl⟩⟩
  · exact own_clz h (by omega) hq
theorem infoIntS : (Try.prog.info? 30).map (fun i => (i.zero, i.size, i.bytes)) = some (some (.slice none 0 0), 1, 24) := by kernel_rfl
/-- One clause more. -/
theorem clz_one (w : World) (base : Nat) (v : Value) (n : Nat) (Ls : List Clz) (q : Clz) (hown : w.ownsRow base 30 1 v n (scells Ls)) (h63 : n + 1 ≤ 1000000) (hbase : base ≤ w.heap.size) :
    ∃ g' cap' w', (Builtin.append_ #[23, 23] 23 #[v, .slice (some ⟨w.heap.size, 0, none⟩) 1 1]).run Try.prog (w.alloc (.cells #[.slice (some ⟨q.g, 0, none⟩) q.L.length q.cap] 30)) = .ok (.slice (some ⟨g', 0, none⟩) (n + 1) cap') w' ∧ w'.ownsRow base 30 1 (.slice (some ⟨g', 0, none⟩) (n + 1) cap') (n + 1) (scells (Ls ++ [q])) ∧ w.grownBy w' v.ownBlock ∧ (v.ownBlock = some g' ∨ w.heap.size ≤ g') := by
  obtain ⟨i0, hi0, hzz⟩ := Option.map_eq_some_iff.1 infoIntS
  simp only [Prod.mk.injEq] at hzz
  obtain ⟨hz0, hz1, hz2⟩ := hzz
  rw [scells_snoc]
  exact append_one (P := Try.prog) w base 23 23 30 i0 _ 24 Try.underlying23 hi0 hz0 hz1 hz2 rfl v n (scells Ls) hown q.cell rfl h63 (by omega) hbase
/-- A copy of a list of clauses. -/
theorem clz_copy (w : World) (R : Nat) (v : Value) (Ls : List Clz) (h : ClzAt w R v Ls) (h63 : Ls.length ≤ 1000000) :
    ∃ g' cap' w', (Builtin.append_ #[23, 23] 23 #[.slice (some ⟨w.heap.size, 0, none⟩) 0 0, v]).run Try.prog (w.alloc (.cells #[] 30)) = .ok (.slice (some ⟨g', 0, none⟩) Ls.length cap') w' ∧ w'.ownsRow w.heap.size 30 1 (.slice (some ⟨g', 0, none⟩) Ls.length cap') Ls.length (scells Ls) ∧ Below w.heap.size w w' := by
  obtain ⟨i0, hi0, hzz⟩ := Option.map_eq_some_iff.1 infoIntS
  simp only [Prod.mk.injEq] at hzz
  obtain ⟨hz0, hz1, hz2⟩ := hzz
  have b4 : Below w.heap.size w (w.alloc (.cells #[] 30)) := (Below.refl _ _).alloc (Nat.le_refl _) _
  have o4 := own_new w 30 1
  rcases (h.later b4).2 with ⟨rfl, rfl⟩ | ⟨b, cap, rfl, hcp, hR, hb, hc⟩
  · exact ⟨w.heap.size, 0, _, run_append_owned_none _ w.heap.size 23 23 30 i0 1 Try.underlying23 hi0 _ 0 [] o4, o4, b4⟩
  · obtain ⟨g', cap', w', h1, h2, h3, _⟩ := append_where (P := Try.prog) (w.alloc (.cells #[] 30)) w.heap.size 23 23 30 i0 _ 1 24 Try.underlying23 hi0 hz0 hz1 hz2 rfl (by omega) w.heap.size 0 0 [] o4 ⟨b, 0, none⟩ Ls.length cap (scells Ls) (by simp [scells]) (by
      intro j u hj
      have hj' : j < Ls.length := by
        have := (List.getElem?_eq_some_iff.1 hj).1
        simpa [scells] using this
      rw [scells_at hj'] at hj
      rw [Go.WideShapes.add_plain, Nat.zero_add, hc j hj']
      exact hj) (by
      intro u hu
      simp [scells] at hu
      obtain ⟨x, _, rfl⟩ := hu
      rfl) (by unfold maxLen; omega) (by omega) b4.size
    simp only [Nat.zero_add, List.nil_append] at h1 h2
    exact ⟨g', cap', w', h1, h2, b4.trans ((mov_of_grown h3).below (Nat.le_refl _) b4.size)⟩
end Go.Proofs.Ytbepnfcghjfngaa
