/- Lists of truth values of one's own, and one more. -/
import Derived.Test.YtmpiiilkaadhfaaDoorGrwA
import Derived.Test.YtmpiiilkaadhfaaDoorBolA
namespace Go.Proofs.YtmpiiilkaadhfaaDoor
open Go.ChangeShapes Go.WideShapes Go.ChangeAt Go.RowKit Go.Joins
set_option linter.unusedVariables false
set_option maxRecDepth 100000

def atB (L : List Bool) (i : Nat) : Bool := L.getD i false
/-- A list by its places. -/
def lst (l : Nat) (V : Nat → Bool) : List Bool := (List.range l).map V
theorem lst_len (l : Nat) (V : Nat → Bool) : (lst l V).length = l := by simp [lst]
theorem lst_at {l : Nat} {V : Nat → Bool} {i : Nat} (h : i < l) : atB (lst l V) i = V i := by simp [atB, lst, List.getD, h]

def bcells (L : List Bool) : List Value := L.map Value.bool
theorem bcells_snoc (L : List Bool) (x : Bool) : bcells (L ++ [x]) = bcells L ++ [.bool x] := by simp [bcells]
theorem own_bls {w : World} {base g n cap : Nat} {e : TypeId} {L : List Bool} (h : w.ownsRow base e 1 (.slice (some ⟨g, 0, none⟩) n cap) n (bcells L)) (hn : L.length = n) : Bls w g 0 n (atB L) := by
  intro i hi
  have hl : i < L.length := by omega
  have hc := h.cells (g := g) rfl i (.bool (atB L i)) (by simp [bcells, atB, List.getD, hl])
  rwa [Go.WideShapes.add_plain] at hc
theorem own_bols {w : World} {base g n cap : Nat} {e : TypeId} {L : List Bool} (h : w.ownsRow base e 1 (.slice (some ⟨g, 0, none⟩) n cap) n (bcells L)) : L.length = n := by
  have := h.1
  simpa [bcells] using this
theorem own_blsAt {w : World} {base g n cap : Nat} {e : TypeId} {L : List Bool} (h : w.ownsRow base e 1 (.slice (some ⟨g, 0, none⟩) n cap) n (bcells L)) : BlsAt w (some ⟨g, 0, none⟩) n (atB L) := Or.inr ⟨g, 0, rfl, (own_cap h).2, own_bls h (own_bols h)⟩
theorem infoBoo : (Tryd.prog.info? 4).map (fun i => (i.zero, i.size, i.bytes)) = some (some (.bool false), 1, 1) := by kernel_rfl
theorem bol_one (w : World) (base : Nat) (v : Value) (n : Nat) (L : List Bool) (x : Bool) (hown : w.ownsRow base 4 1 v n (bcells L)) (h63 : n + 1 ≤ 1000000) (hbase : base ≤ w.heap.size) :
    ∃ g' cap' w', (Builtin.append_ #[32, 32] 32 #[v, .slice (some ⟨w.heap.size, 0, none⟩) 1 1]).run Tryd.prog (w.alloc (.cells #[.bool x] 4)) = .ok (.slice (some ⟨g', 0, none⟩) (n + 1) cap') w' ∧ w'.ownsRow base 4 1 (.slice (some ⟨g', 0, none⟩) (n + 1) cap') (n + 1) (bcells (L ++ [x])) ∧ w.grownBy w' v.ownBlock ∧ (v.ownBlock = some g' ∨ w.heap.size ≤ g') := by
  obtain ⟨i0, hi0, hzz⟩ := Option.map_eq_some_iff.1 infoBoo
  simp only [Prod.mk.injEq] at hzz
  obtain ⟨hz0, hz1, hz2⟩ := hzz
  rw [bcells_snoc]
  exact append_one (P := Tryd.prog) w base 32 32 4 i0 _ 1 Tryd.underlying32 hi0 hz0 hz1 hz2 rfl v n (bcells L) hown _ rfl h63 (by omega) hbase
end Go.Proofs.YtmpiiilkaadhfaaDoor
