/- Appends of numbers, as steps of a region that draws its order. -/
import Derived.Test.YtnjjobompjoigaaDoorGapA
import Derived.Test.YtnjjobompjoigaaDoorIapA
namespace Go.Proofs.YtnjjobompjoigaaDoor
open Go.ChangeShapes Go.WideShapes Go.ChangeAt Go.RowKit Go.Joins
set_option linter.unusedVariables false
set_option maxRecDepth 100000

/-- A type of lists of numbers, by what the program says of it. -/
structure LsT (t e : TypeId) : Prop where
  u : Tryd.prog.underlying t = some (.slice e)
  i : (Tryd.prog.info? e).map (fun i => (i.zero, i.size, i.bytes)) = some (some (.int .i64 0), 1, 8)
theorem lsInt : LsT 25 3 := ⟨Tryd.underlying25, infoInt⟩
theorem ints_where {t e : TypeId} (hT : LsT t e) (ty : TypeId) (w : World) (base g n cap0 : Nat) (L M : List Int) (b off m cap : Nat) (hown : w.ownsRow base e 1 (.slice (some ⟨g, 0, none⟩) n cap0) n (icells L)) (hM : M.length = m) (hi : Ints w b off m (at0 M)) (h63 : n + m ≤ 1000000) (hbase : base ≤ w.heap.size) :
    ∃ g' cap' w', (Builtin.append_ #[t, t] ty #[.slice (some ⟨g, 0, none⟩) n cap0, .slice (some ⟨b, off, none⟩) m cap]).run Tryd.prog w = .ok (.slice (some ⟨g', 0, none⟩) (n + m) cap') w' ∧ w'.ownsRow base e 1 (.slice (some ⟨g', 0, none⟩) (n + m) cap') (n + m) (icells (L ++ M)) ∧ w.grownBy w' (some g) ∧ (g' = g ∨ g' = w.heap.size) := by
  obtain ⟨i0, hi0, hzz⟩ := Option.map_eq_some_iff.1 hT.i
  simp only [Prod.mk.injEq] at hzz
  obtain ⟨hz0, hz1, hz2⟩ := hzz
  have e1 : icells (L ++ M) = icells L ++ icells M := by simp [icells]
  rw [e1]
  refine append_where (P := Tryd.prog) w base t ty e i0 _ 1 8 hT.u hi0 hz0 hz1 hz2 rfl (by omega) g n cap0 (icells L) hown ⟨b, off, none⟩ m cap (icells M) (by simp [icells, hM]) ?_ ?_ (by unfold maxLen; omega) (by omega) hbase
  · intro j u hj
    have hj' : j < M.length := by
      have := (List.getElem?_eq_some_iff.1 hj).1
      simpa [icells] using this
    have := hi j (by omega)
    rw [Go.WideShapes.add_plain, this]
    simp [icells, hj'] at hj
    rw [← hj]
    simp [at0, List.getD, hj']
  · intro u hu
    simp [icells] at hu
    obtain ⟨x, _, rfl⟩ := hu
    rfl
/-- An empty list that has been laid down is one's own. -/
theorem own_fresh {w : World} {base X : Nat} {e : TypeId} (hX : w.heap[X]? = some (.cells #[] e (0, 0))) (hb : base ≤ X) : w.ownsRow base e 1 (.slice (some ⟨X, 0, none⟩) 0 0) 0 (icells []) := ⟨by simp [icells], .inr ⟨X, 0, #[], rfl, hb, hX, Nat.le_refl _, by unfold maxLen; omega, by simp, by simp [icells]⟩⟩
/-- Numbers onto a list of one's own, as a step. -/
theorem step_ints {t e : TypeId} (hT : LsT t e) {ops : Array Oper} {o : Oper} {a : Act} {w : World} {K : Act → World → Prop} {Q : Exit → Act → World → Prop} {E : Prop} (hgd : o.guard = none) (s x : Operand)
    (ho : o.op = .call { callee := .builtin .append, args := #[s, x], argTypes := #[t, t] }) (L M : List Int) (base g n cap b off m c : Nat) (hs : a.eval s = .slice (some ⟨g, 0, none⟩) n cap) (hown : w.ownsRow base e 1 (.slice (some ⟨g, 0, none⟩) n cap) n (icells L)) (hbase : base ≤ w.heap.size)
    (hx : a.eval x = .slice (some ⟨b, off, none⟩) m c) (hM : M.length = m) (hi : Ints w b off m (at0 M)) (hl : n + m ≤ 1000000)
    (h : ∀ g' cap' w', w'.ownsRow base e 1 (.slice (some ⟨g', 0, none⟩) (n + m) cap') (n + m) (icells (L ++ M)) → w.grownBy w' (some g) → (g' = g ∨ g' = w.heap.size) → g' < w'.heap.size → K (a.put o.dst (.slice (some ⟨g', 0, none⟩) (n + m) cap')) w') :
    if Region.wanted o (yielded ops a.tmps) = true then Oper.wp Tryd.prog o a w K Q else E := by
  obtain ⟨g', cap', w', h1, h2, h3, h4⟩ := ints_where hT o.type w base g n cap L M b off m c hown hM hi hl hbase
  refine step_app_ex hgd s x _ ho _ _ hs hx _ _ h1 ?_
  exact h g' cap' w' h2 h3 h4 (own_cap h2).2
theorem at0_take {L : List Int} {k i : Nat} (h : i < k) (hk : k ≤ L.length) : at0 (L.take k) i = at0 L i := by
  unfold at0
  rw [List.getD_eq_getElem?_getD, List.getD_eq_getElem?_getD, List.getElem?_take_of_lt h]
end Go.Proofs.YtnjjobompjoigaaDoor
