/- Layers that came in: what they lie in memory as. -/
import Derived.Test.YtfopmobopmdahaaGreatLyrA
namespace Go.Proofs.YtfopmobopmdahaaGreat
open Go.ChangeShapes Go.WideShapes Go.ChangeAt Go.RowKit Go.Joins
set_option linter.unusedVariables false

instance : Inhabited Lyr := ⟨⟨0, fun _ => ByteArray.empty, fun _ => 0, 0, fun _ => .nil⟩⟩
theorem terms_in {H : Type} {enc : TypeId × Value → H} {w : World} {a : Option Addr} {len cap : Nat} {d : DataW H} {p : List MemPlace} {sp : Nat → Bool} {held : Bool}
    (h : DataW.Trod enc Tryz.prog w 0 sp held 43 (.slice a len cap) d p) : len ≤ cap ∧ len ≤ maxLen ∧ ∃ kid, (TT.node 0 0 0 ByteArray.empty len kid).In w 0 w.heap.size a ∧ ∀ i, i < len → (kid i).Fit maxLen := by
  obtain ⟨fuel, hf⟩ := h
  rcases Go.Deep.open_slice Tryz.underlying43 hf with ⟨hcs, _⟩ | ⟨ad, l, c, mm, nn, D, Pl, hcs, _, hl, hmx, hmm, hy4, hel⟩
  · simp [Value.cells] at hcs
    obtain ⟨rfl, rfl, rfl⟩ := hcs
    exact ⟨Nat.le_refl _, by unfold maxLen; omega, fun _ => .nil, Or.inl rfl, fun i hi => by omega⟩
  · simp [Value.cells] at hcs
    obtain ⟨rfl, rfl, rfl⟩ := hcs
    have hlm : len ≤ mm := by rw [hmm]; split <;> omega
    refine ⟨hl, by omega, ?_⟩
    have each : ∀ i, i < len → ∃ q : TT × Option Addr × Nat, w.cells? 0 (ad.add (i * 5)) 5 = some [.int .i64 q.1.op, .int .i64 q.1.a, .int .i64 q.1.b, .string q.1.s, .slice q.2.1 q.1.n q.2.2] ∧ q.1.n ≤ q.2.2 ∧ q.1.In w 0 w.heap.size q.2.1 ∧ q.1.Fit maxLen := by
      intro i hi
      obtain ⟨cs', h1, h2⟩ := hel i (by omega)
      rw [cellsT] at h1
      obtain ⟨t, x, c, rfl, h3, h4, h5⟩ := term_cells _ _ _ _ (Nat.lt_succ_self _) h2
      exact ⟨(t, x, c), h1, h3, h4, h5⟩
    obtain ⟨q, hq⟩ := Go.Deep.choose_lt each
    refine ⟨fun i => (q i).1, ?_, fun i hi => (hq i hi).2.2.2⟩
    by_cases h0 : len = 0
    · exact Or.inl h0
    · have cell : ∀ i, i < len → ∀ j, j < 5 → w.cell? ((ad.add (i * 5)).add j) = [Value.int .i64 (q i).1.op, .int .i64 (q i).1.a, .int .i64 (q i).1.b, .string (q i).1.s, .slice (q i).2.1 (q i).1.n (q i).2.2][j]? := by
        intro i hi j hj
        obtain ⟨_, _, hc⟩ := World.cells?_some (hq i hi).1
        exact hc j hj
      obtain ⟨bl, off, spot⟩ := ad
      have hspot : spot = none := by
        have := cell 0 (by omega) 0 (by omega)
        simpa [Addr.add] using World.cell?_spot this
      subst hspot
      simp only [Go.WideShapes.add_plain] at cell
      refine Or.inr ⟨bl, off, rfl, Nat.zero_le _, World.block_lt_of_cell? _ _ (cell 0 (by omega) 0 (by omega)), fun i => (q i).2.1, fun i => (q i).2.2, fun i hi => ⟨?_, (hq i hi).2.1, (hq i hi).2.2.1⟩⟩
      exact ⟨cell i hi 0 (by omega), cell i hi 1 (by omega), cell i hi 2 (by omega), cell i hi 3 (by omega), cell i hi 4 (by omega)⟩
theorem layers_in {H : Type} {enc : TypeId × Value → H} {w : World} {a : Option Addr} {len cap : Nat} {d : DataW H} {p : List MemPlace} {sp : Nat → Bool} {held : Bool}
    (h : DataW.Trod enc Tryz.prog w 0 sp held 22 (.slice a len cap) d p) : len ≤ cap ∧ len ≤ maxLen ∧ ∃ Q, LaysIn w 0 w.heap.size a len Q ∧ ∀ i, i < len → (Q i).Fit maxLen := by
  obtain ⟨fuel, hf⟩ := h
  rcases Go.Deep.open_slice_pairs Tryz.underlying22 Tryz.underlying58 (by kernel_rfl) rfl rfl (by kernel_rfl) (by kernel_rfl) hf with ⟨hcs, _⟩ | ⟨x, l, c, m, n, V0, V1, D0, D1, P0, P1, hcs, _, hl, hm, hmm, _, hx⟩
  · simp [Value.cells] at hcs
    obtain ⟨rfl, rfl, rfl⟩ := hcs
    exact ⟨Nat.le_refl _, by unfold maxLen; omega, fun _ => default, Or.inl rfl, fun i hi => by omega⟩
  · simp [Value.cells] at hcs
    obtain ⟨rfl, rfl, rfl⟩ := hcs
    have hlm : len ≤ m := by rw [hmm]; split <;> omega
    refine ⟨hl, by omega, ?_⟩
    have one : ∀ (t e : TypeId) (n : Nat) (V : Value) (x : DataW H × List MemPlace), Tryz.prog.underlying t = some (.slice e) → DataW.trod enc Tryz.prog w 0 sp held n t [V] = some x → ∃ a l c, V = .slice a l c ∧ (a = none → c = 0) := by
      intro t e n V x ht hv
      rcases Go.Deep.open_slice ht hv with ⟨hcs, _⟩ | ⟨ad, l, c, mm, nn, D, Pl, hcs, _⟩
      · simp at hcs; exact ⟨_, _, _, hcs, fun _ => rfl⟩
      · simp at hcs; exact ⟨_, _, _, hcs, fun h => by cases h⟩
    have each : ∀ i, i < len → ∃ q : Lyr × (Option Addr × Option Addr) × (Nat × Nat), w.cell? (x.add (i * 2)) = some (.slice q.2.1.1 q.1.nd q.2.2.1) ∧ w.cell? (x.add (i * 2 + 1)) = some (.slice q.2.1.2 q.1.nt q.2.2.2) ∧ (q.1.nd ≤ q.2.2.1 ∧ q.1.nt ≤ q.2.2.2 ∧ (q.2.1.1 = none → q.2.2.1 = 0) ∧ (q.2.1.2 = none → q.2.2.2 = 0)) ∧ q.1.In w 0 w.heap.size q.2.1.1 q.2.1.2 ∧ q.1.Fit maxLen := by
      intro i hi
      obtain ⟨h0, h1, h2, h3⟩ := hx i (by omega)
      obtain ⟨a0, l0, c0, e0, z0⟩ := one _ _ _ _ _ Tryz.underlying56 h2
      obtain ⟨a1, l1, c1, e1, z1⟩ := one _ _ _ _ _ Tryz.underlying43 h3
      rw [e0] at h0 h2
      rw [e1] at h1 h3
      obtain ⟨k1, k2, S, V, k3, k4⟩ := decls_in (d := D0 i) (p := P0 i) ⟨n, h2⟩
      obtain ⟨m1, m2, kid, m3, m4⟩ := terms_in (d := D1 i) (p := P1 i) ⟨n, h3⟩
      refine ⟨(⟨l0, S, V, l1, kid⟩, (a0, a1), (c0, c1)), h0, h1, ⟨k1, m1, z0, z1⟩, ⟨?_, m3⟩, ⟨k2, fun j hj => (k4 j hj).1, m2, m4⟩⟩
      rcases k3 with k3 | ⟨b, off, q1, q2, q3⟩
      · exact Or.inl k3
      · exact Or.inr ⟨b, off, q1, Nat.zero_le _, q2, q3⟩
    obtain ⟨q, hq⟩ := Go.Deep.choose_lt each
    refine ⟨fun i => (q i).1, ?_, fun i hi => (hq i hi).2.2.2.2⟩
    by_cases h0 : len = 0
    · exact Or.inl h0
    · obtain ⟨bl, off, spot⟩ := x
      have hspot : spot = none := by simpa [Addr.add] using World.cell?_spot (hq 0 (by omega)).1
      subst hspot
      refine Or.inr ⟨bl, off, rfl, Nat.zero_le _, World.block_lt_of_cell? _ _ (hq 0 (by omega)).1, fun i => (q i).2.1.1, fun i => (q i).2.1.2, fun i => (q i).2.2.1, fun i => (q i).2.2.2, fun i hi => ?_⟩
      have := hq i hi
      rw [Go.WideShapes.add_plain, Go.WideShapes.add_plain] at this
      exact ⟨⟨this.1, by rw [Nat.add_assoc]; exact this.2.1⟩, this.2.2.1, this.2.2.2.1⟩
end Go.Proofs.YtfopmobopmdahaaGreat
