/- Lists of numbers of one's own, and one number more. -/
import Derived.Test.YtfopmobopmdahaaGreatGrwA
import Derived.Test.YtfopmobopmdahaaGreatIntA
namespace Go.Proofs.YtfopmobopmdahaaGreat
open Go.ChangeShapes Go.WideShapes Go.ChangeAt Go.RowKit Go.Joins
set_option linter.unusedVariables false

def icells (L : List Int) : List Value := L.map (Value.int .i64)
theorem icells_snoc (L : List Int) (x : Int) : icells (L ++ [x]) = icells L ++ [.int .i64 x] := by simp [icells]
theorem own_ints {w : World} {base g n cap : Nat} {e : TypeId} {L : List Int} (h : w.ownsRow base e 1 (.slice (some ⟨g, 0, none⟩) n cap) n (icells L)) (hn : L.length = n) : Ints w g 0 n (fun i => L.getD i 0) := by
  intro i hi
  have hl : i < L.length := by omega
  have hc := h.cells (g := g) rfl i (.int .i64 (L.getD i 0)) (by simp [icells, List.getD, hl])
  rwa [Go.WideShapes.add_plain] at hc
theorem int_one (w : World) (base : Nat) (v : Value) (n : Nat) (L : List Int) (x : Int) (hown : w.ownsRow base 3 1 v n (icells L)) (h63 : n + 1 ≤ 1000000) (hbase : base ≤ w.heap.size) :
    ∃ g' cap' w', (Builtin.append_ #[97, 97] 97 #[v, .slice (some ⟨w.heap.size, 0, none⟩) 1 1]).run Tryz.prog (w.alloc (.cells #[.int .i64 x] 3)) = .ok (.slice (some ⟨g', 0, none⟩) (n + 1) cap') w' ∧ w'.ownsRow base 3 1 (.slice (some ⟨g', 0, none⟩) (n + 1) cap') (n + 1) (icells (L ++ [x])) ∧ w.grownBy w' v.ownBlock ∧ (v.ownBlock = some g' ∨ w.heap.size ≤ g') := by
  obtain ⟨i0, hi0, hzz⟩ := Option.map_eq_some_iff.1 infoInt
  simp only [Prod.mk.injEq] at hzz
  obtain ⟨hz0, hz1, hz2⟩ := hzz
  rw [icells_snoc]
  exact append_one (P := Tryz.prog) w base 97 97 3 i0 _ 8 Tryz.underlying97 hi0 hz0 hz1 hz2 rfl v n (icells L) hown _ rfl h63 (by omega) hbase
theorem owns_len {w : World} {base n : Nat} {e : TypeId} {v : Value} {L : List Int} (h : w.ownsRow base e 1 v n (icells L)) : L.length = n := by
  have := h.1
  simpa [icells] using this
/-- Two lists, one behind the other. -/
theorem int_more (w : World) (base : Nat) (v : Value) (n : Nat) (L M : List Int) (b off m cap : Nat) (hown : w.ownsRow base 3 1 v n (icells L)) (hM : M.length = m) (hi : Ints w b off m (fun i => M.getD i 0)) (hm : 0 < m) (h63 : n + m ≤ 1000000) (hbase : base ≤ w.heap.size) :
    ∃ g' cap' w', (Builtin.append_ #[97, 97] 97 #[v, .slice (some ⟨b, off, none⟩) m cap]).run Tryz.prog w = .ok (.slice (some ⟨g', 0, none⟩) (n + m) cap') w' ∧ w'.ownsRow base 3 1 (.slice (some ⟨g', 0, none⟩) (n + m) cap') (n + m) (icells (L ++ M)) ∧ w.grownBy w' v.ownBlock ∧ (v.ownBlock = some g' ∨ w.heap.size ≤ g') := by
  obtain ⟨i0, hi0, hzz⟩ := Option.map_eq_some_iff.1 infoInt
  simp only [Prod.mk.injEq] at hzz
  obtain ⟨hz0, hz1, hz2⟩ := hzz
  have e : icells (L ++ M) = icells L ++ icells M := by simp [icells]
  rw [e]
  refine append_any (P := Tryz.prog) w base 97 97 3 i0 _ 1 8 Tryz.underlying97 hi0 hz0 hz1 hz2 rfl (by omega) v n (icells L) hown ⟨b, off, none⟩ m cap (icells M) (by simp [icells, hM]) ?_ ?_ hm (by unfold maxLen; omega) (by omega) hbase
  · intro j u hj
    have hj' : j < M.length := by
      have := (List.getElem?_eq_some_iff.1 hj).1
      simpa [icells] using this
    have := hi j (by omega)
    rw [Go.WideShapes.add_plain, this]
    simp [icells, hj'] at hj
    rw [← hj]
    simp [List.getD, hj']
  · intro u hu
    simp [icells] at hu
    obtain ⟨x, _, rfl⟩ := hu
    rfl
/-- A list's numbers by their places. -/
def at0 (L : List Int) (i : Nat) : Int := L.getD i 0
theorem at0_mem {L : List Int} {i : Nat} (h : i < L.length) : at0 L i ∈ L := by
  unfold at0
  rw [List.getD_eq_getElem?_getD, List.getElem?_eq_getElem h]
  exact List.getElem_mem _
theorem own_at {w : World} {base g n cap : Nat} {L : List Int} (h : w.ownsRow base 3 1 (.slice (some ⟨g, 0, none⟩) n cap) n (icells L)) : IntsAt w (some ⟨g, 0, none⟩) n (at0 L) := Or.inr ⟨g, 0, rfl, (own_cap h).2, own_ints h (owns_len h)⟩
end Go.Proofs.YtfopmobopmdahaaGreat
