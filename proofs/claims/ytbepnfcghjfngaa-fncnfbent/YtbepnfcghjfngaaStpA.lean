/- Appends of clauses as steps of a statement that draws its order. -/
import Derived.Test.YtbepnfcghjfngaaCldC
namespace Go.Proofs.Ytbepnfcghjfngaa
open Go.ChangeShapes Go.WideShapes Go.ChangeAt Go.RowKit Go.Joins
set_option linter.unusedVariables false

theorem step_append_ex {P : Program} {ops : Array Oper} {o : Oper} {a : Act} {w : World} {K : Act → World → Prop} {Q : Exit → Act → World → Prop} {E : Prop} (hgd : o.guard = none) (s x : Operand) (t : TypeId)
    (ho : o.op = .call { callee := .builtin .append, args := #[s, x], argTypes := #[t, t] }) (v xv : Value) (hs : a.eval s = v) (hx : a.eval x = xv) (v' : Value) (w' : World)
    (hr : (Builtin.append_ #[t, t] o.type #[v, xv]).run P w = .ok v' w') (h : K (a.put o.dst v') w') : if Region.wanted o (yielded ops a.tmps) = true then Oper.wp P o a w K Q else E := by
  have hw : Region.wanted o (yielded ops a.tmps) = true := by simp [Region.wanted, hgd]
  rw [if_pos hw]
  unfold Oper.wp
  simp only [execOp, ho, resolve, invoke, builtin, Sem.run_bind, Sem.run_pure, Result.andThen_ok, List.map_toArray, List.map_cons, List.map_nil, hs, hx, hr]
  exact h
/-- A copy of clauses onto an empty list that has been laid down. -/
theorem step_clz_copy {ops : Array Oper} {o : Oper} {a : Act} {w : World} {K : Act → World → Prop} {Q : Exit → Act → World → Prop} {E : Prop} (hgd : o.guard = none) (s x : Operand)
    (ho : o.op = .call { callee := .builtin .append, args := #[s, x], argTypes := #[23, 23] }) (hty : o.type = 23) (R : Nat) (Ls : List Clz) (v : Value) (base X : Nat) (hs : a.eval s = .slice (some ⟨X, 0, none⟩) 0 0) (hX : w.heap[X]? = some (.cells #[] 30 (0, 0))) (hbX : base ≤ X) (hbase : base ≤ w.heap.size)
    (hx : a.eval x = v) (hc : ClzAt w R v Ls) (hl : Ls.length ≤ 1000)
    (h : ∀ g cap w', w'.ownsRow base 30 1 (.slice (some ⟨g, 0, none⟩) Ls.length cap) Ls.length (scells Ls) → w.grownBy w' (some X) → (g = X ∨ w.heap.size ≤ g) → g < w'.heap.size → K (a.put o.dst (.slice (some ⟨g, 0, none⟩) Ls.length cap)) w') :
    if Region.wanted o (yielded ops a.tmps) = true then Oper.wp Try.prog o a w K Q else E := by
  obtain ⟨i0, hi0, hzz⟩ := Option.map_eq_some_iff.1 infoIntS
  simp only [Prod.mk.injEq] at hzz
  obtain ⟨hz0, hz1, hz2⟩ := hzz
  have o4 : w.ownsRow base 30 1 (.slice (some ⟨X, 0, none⟩) 0 0) 0 [] := ⟨by simp, .inr ⟨X, 0, #[], rfl, hbX, hX, Nat.le_refl _, by unfold maxLen; omega, by simp, by simp⟩⟩
  rcases hc.2 with ⟨rfl, rfl⟩ | ⟨b, cap, rfl, hcp, hR, hb, hcl⟩
  · refine step_append_ex hgd s x _ ho _ _ hs hx _ _ (run_append_owned_none _ base 23 _ 30 i0 1 Try.underlying23 hi0 _ 0 [] o4) ?_
    exact h X 0 w o4 ⟨rfl, rfl, rfl, Nat.le_refl _, fun _ _ _ => rfl⟩ (Or.inl rfl) (own_cap o4).2
  · obtain ⟨g', cap', w', h1, h2, h3, h4⟩ := append_where (P := Try.prog) w base 23 o.type 30 i0 _ 1 24 Try.underlying23 hi0 hz0 hz1 hz2 rfl (by omega) X 0 0 [] o4 ⟨b, 0, none⟩ Ls.length cap (scells Ls) (by simp [scells]) (by
      intro j u hj
      have hj' : j < Ls.length := by
        have := (List.getElem?_eq_some_iff.1 hj).1
        simpa [scells] using this
      rw [scells_at hj'] at hj
      rw [Go.WideShapes.add_plain, Nat.zero_add, hcl j hj']
      exact hj) (by
      intro u hu
      simp [scells] at hu
      obtain ⟨x, _, rfl⟩ := hu
      rfl) (by unfold maxLen; omega) (by omega) hbase
    simp only [Nat.zero_add, List.nil_append] at h1 h2
    refine step_append_ex hgd s x _ ho _ _ hs hx _ _ h1 ?_
    exact h g' cap' w' h2 h3 (by rcases h4 with rfl | rfl; exact Or.inl rfl; exact Or.inr (Nat.le_refl _)) (own_cap h2).2
/-- One clause more, that has been laid down. -/
theorem step_clz_one {ops : Array Oper} {o : Oper} {a : Act} {w : World} {K : Act → World → Prop} {Q : Exit → Act → World → Prop} {E : Prop} (hgd : o.guard = none) (s x : Operand)
    (ho : o.op = .call { callee := .builtin .append, args := #[s, x], argTypes := #[23, 23] }) (hty : o.type = 23) (Ls : List Clz) (q : Clz) (base g n cap T : Nat) (hs : a.eval s = .slice (some ⟨g, 0, none⟩) n cap) (hown : w.ownsRow base 30 1 (.slice (some ⟨g, 0, none⟩) n cap) n (scells Ls)) (hbase : base ≤ w.heap.size)
    (hx : a.eval x = .slice (some ⟨T, 0, none⟩) 1 1) (hT : w.cell? ⟨T, 0, none⟩ = some (.slice (some ⟨q.g, 0, none⟩) q.L.length q.cap)) (hl : n ≤ 1000)
    (h : ∀ g' cap' w', w'.ownsRow base 30 1 (.slice (some ⟨g', 0, none⟩) (n + 1) cap') (n + 1) (scells (Ls ++ [q])) → w.grownBy w' (some g) → (g' = g ∨ w.heap.size ≤ g') → g' < w'.heap.size → K (a.put o.dst (.slice (some ⟨g', 0, none⟩) (n + 1) cap')) w') :
    if Region.wanted o (yielded ops a.tmps) = true then Oper.wp Try.prog o a w K Q else E := by
  obtain ⟨i0, hi0, hzz⟩ := Option.map_eq_some_iff.1 infoIntS
  simp only [Prod.mk.injEq] at hzz
  obtain ⟨hz0, hz1, hz2⟩ := hzz
  obtain ⟨g', cap', w', h1, h2, h3, h4⟩ := append_where (P := Try.prog) w base 23 o.type 30 i0 _ 1 24 Try.underlying23 hi0 hz0 hz1 hz2 rfl (by omega) g n cap (scells Ls) hown ⟨T, 0, none⟩ 1 1 [q.cell] rfl (by
    intro j u hj
    rw [Go.WideShapes.add_plain, Nat.zero_add]
    match j, hj with
    | 0, hj => simp at hj; rw [← hj]; exact hT
    | j + 1, hj => simp at hj) (by intro u hu; simp at hu; subst hu; rfl) (by unfold maxLen; omega) (by omega) hbase
  refine step_append_ex hgd s x _ ho _ _ hs hx _ _ h1 ?_
  rw [← scells_snoc] at h2
  exact h g' cap' w' h2 h3 (by rcases h4 with rfl | rfl; exact Or.inl rfl; exact Or.inr (Nat.le_refl _)) (own_cap h2).2
theorem gcell {w w' : World} {g : Nat} (h : w.grownBy w' (some g)) : (∀ b o, b < w.heap.size → b ≠ g → w'.cell? ⟨b, o, none⟩ = w.cell? ⟨b, o, none⟩) ∧ (∀ b o, b < w.heap.size → b ≠ g → w'.frozen? ⟨b, o, none⟩ = w.frozen? ⟨b, o, none⟩) :=
  ⟨fun b o hb hg => World.cell?_of_block (h.block b hb (by simp; omega)), fun b o hb hg => World.frozen?_of_block (h.block b hb (by simp; omega))⟩
end Go.Proofs.Ytbepnfcghjfngaa
