/- Appends of names: a copy onto an empty list that has been laid down, and one name more. -/
import Derived.Test.YtfopmobopmdahaaGreatDrwD
import Derived.Test.YtfopmobopmdahaaGreatIapA
namespace Go.Proofs.YtfopmobopmdahaaGreat
open Go.ChangeShapes Go.WideShapes Go.ChangeAt Go.RowKit Go.Joins
set_option linter.unusedVariables false

theorem step_append_ex {P : Program} {ops : Array Oper} {o : Oper} {a : Act} {w : World} {K : Act → World → Prop} {Q : Exit → Act → World → Prop} {E : Prop} (hgd : o.guard = none) (s x : Operand) (t : TypeId)
    (ho : o.op = .call { callee := .builtin .append, args := #[s, x], argTypes := #[t, t] }) (v xv : Value) (hs : a.eval s = v) (hx : a.eval x = xv) (v' : Value) (w' : World)
    (hr : (Builtin.append_ #[t, t] o.type #[v, xv]).run P w = .ok v' w') (h : K (a.put o.dst v') w') : if Region.wanted o (yielded ops a.tmps) = true then Oper.wp P o a w K Q else E := by
  have hw : Region.wanted o (yielded ops a.tmps) = true := by simp [Region.wanted, hgd]
  rw [if_pos hw]
  unfold Oper.wp
  simp only [execOp, ho, resolve, invoke, builtin, Sem.run_bind, Sem.run_pure, Result.andThen_ok, List.map_toArray, List.map_cons, List.map_nil, hs, hx, hr]
  exact h
/-- Names as a list. -/
def dprs (n : Nat) (S : Nat → ByteArray) (V : Nat → Int) : List (ByteArray × Int) := (List.range n).map fun i => (S i, V i)
theorem dprs_len (n : Nat) (S : Nat → ByteArray) (V : Nat → Int) : (dprs n S V).length = n := by simp [dprs]
theorem dprs_at {n : Nat} {S : Nat → ByteArray} {V : Nat → Int} {i : Nat} (h : i < n) : (dprs n S V).getD i (ByteArray.empty, 0) = (S i, V i) := by simp [dprs, List.getD, h]
theorem dcells_size : ∀ (L : List (ByteArray × Int)), (dcells L).length = L.length * 2
  | [] => rfl
  | p :: L => by
    have e : dcells (p :: L) = .string p.1 :: .int .i64 p.2 :: dcells L := rfl
    rw [e]; simp [dcells_size L]; omega
theorem dcells_app (L M : List (ByteArray × Int)) : dcells (L ++ M) = dcells L ++ dcells M := by simp [dcells]
theorem dcells_cell {L : List (ByteArray × Int)} : ∀ u ∈ dcells L, u.oneCell' = true := by
  intro u hu
  simp [dcells] at hu
  obtain ⟨x, y, _, h | h⟩ := hu <;> subst h <;> rfl
/-- The names of a list, as they lie. -/
theorem dcells_lie {w : World} {b off : Nat} {L : List (ByteArray × Int)} (h : ∀ i (hi : i < L.length), w.cell? ⟨b, off + i * 2, none⟩ = some (.string (L[i]).1) ∧ w.cell? ⟨b, off + i * 2 + 1, none⟩ = some (.int .i64 (L[i]).2)) :
    ∀ j u, (dcells L)[j]? = some u → w.cell? ((⟨b, off, none⟩ : Addr).add j) = some u := by
  intro j u hj
  have hl : j < L.length * 2 := by
    have := (List.getElem?_eq_some_iff.1 hj).1
    rwa [dcells_size] at this
  have hi : j / 2 < L.length := by omega
  obtain ⟨a, c⟩ := dcells_at L (j / 2) hi
  obtain ⟨x, y⟩ := h (j / 2) hi
  rw [Go.WideShapes.add_plain]
  by_cases e : j % 2 = 0
  · have e1 : j / 2 * 2 = j := by omega
    rw [e1] at a x
    rw [a] at hj
    rw [x, ← hj]
  · have e1 : j / 2 * 2 + 1 = j := by omega
    rw [e1] at c
    rw [c] at hj
    have e2 : off + j / 2 * 2 + 1 = off + j := by omega
    rw [e2] at y
    rw [y, ← hj]
theorem decs_lie {w : World} {b off n : Nat} {S : Nat → ByteArray} {V : Nat → Int} (h : Decs w b off n S V) : ∀ j u, (dcells (dprs n S V))[j]? = some u → w.cell? ((⟨b, off, none⟩ : Addr).add j) = some u :=
  dcells_lie (fun i hi => by
    have hi' : i < n := by simpa [dprs_len] using hi
    have e : (dprs n S V)[i] = (S i, V i) := by simp [dprs]
    rw [e]; exact h i hi')
theorem infoDeclS : (Tryz.prog.info? 40).map (fun i => (i.zero, i.size, i.bytes)) = some (some (.agg #[.string ByteArray.empty, .int .i64 0]), 2, 24) := by kernel_rfl
/-- Names behind those of a list of one's own. -/
theorem decs_more (w : World) (base g n cap : Nat) (L M : List (ByteArray × Int)) (a : Addr) (m c : Nat) (hown : w.ownsRow base 40 2 (.slice (some ⟨g, 0, none⟩) n cap) n (dcells L)) (hm : M.length = m) (hM : ∀ j u, (dcells M)[j]? = some u → w.cell? (a.add j) = some u) (hk : n + m ≤ 4000000) (hbase : base ≤ w.heap.size) :
    ∃ g' cap' w', (Builtin.append_ #[29, 29] 29 #[.slice (some ⟨g, 0, none⟩) n cap, .slice (some a) m c]).run Tryz.prog w = .ok (.slice (some ⟨g', 0, none⟩) (n + m) cap') w' ∧ w'.ownsRow base 40 2 (.slice (some ⟨g', 0, none⟩) (n + m) cap') (n + m) (dcells (L ++ M)) ∧ w.grownBy w' (some g) ∧ (g' = g ∨ g' = w.heap.size) := by
  obtain ⟨i0, hi0, hzz⟩ := Option.map_eq_some_iff.1 infoDeclS
  simp only [Prod.mk.injEq] at hzz
  obtain ⟨hz0, hz1, hz2⟩ := hzz
  rw [dcells_app]
  exact append_where (P := Tryz.prog) w base 29 29 40 i0 _ 2 24 Tryz.underlying29 hi0 hz0 hz1 hz2 rfl (by omega) g n cap (dcells L) hown a m c (dcells M) (by rw [dcells_size, hm]) hM dcells_cell (by unfold maxLen; omega) (by omega) hbase
/-- An empty list that has been laid down is one's own. -/
theorem decs_none {w : World} {base X : Nat} (hX : w.heap[X]? = some (.cells #[] 40 (0, 0))) (hb : base ≤ X) : w.ownsRow base 40 2 (.slice (some ⟨X, 0, none⟩) 0 0) 0 (dcells []) :=
  ⟨rfl, .inr ⟨X, 0, #[], rfl, hb, hX, Nat.le_refl _, by unfold maxLen; omega, rfl, rfl⟩⟩
end Go.Proofs.YtfopmobopmdahaaGreat
