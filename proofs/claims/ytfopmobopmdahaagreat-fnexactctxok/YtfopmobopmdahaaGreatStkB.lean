/- The stack of layers: a mark more, a name more, a term more, as the program's calls make them. -/
import Derived.Test.YtfopmobopmdahaaGreatStkA
import Derived.Test.YtfopmobopmdahaaGreatDaA
import Derived.Deep.RegionLaw
namespace Go.Proofs.YtfopmobopmdahaaGreat
open Go.ChangeShapes Go.WideShapes Go.ChangeAt Go.RowKit Go.Joins
set_option linter.unusedVariables false
set_option linter.unusedSimpArgs false

theorem infoMarkS : (Tryz.prog.info? 101).map (fun i => (i.zero, i.size, i.bytes)) = some (some (.agg #[.int .i64 0, .int .i64 0, .slice none 0 0, .int .i64 0]), 4, 48) := by kernel_rfl
/-- One mark more. -/
theorem mark_one (w : World) (base : Nat) (v : Value) (M : List (Nat × Nat)) (p : Nat × Nat) (Tb : Nat) (hown : w.ownsRow base 101 4 v M.length (mcells M)) (h0 : w.cell? ⟨Tb, 0, none⟩ = some (.int .i64 (p.1 : Int))) (h1 : w.cell? ⟨Tb, 1, none⟩ = some (.int .i64 (p.2 : Int))) (h2 : w.cell? ⟨Tb, 2, none⟩ = some (.slice none 0 0)) (h3 : w.cell? ⟨Tb, 3, none⟩ = some (.int .i64 0)) (hk : M.length ≤ 100) (hbase : base ≤ w.heap.size) :
    ∃ g' cap' w', (Builtin.append_ #[70, 70] 70 #[v, .slice (some ⟨Tb, 0, none⟩) 1 1]).run Tryz.prog w = .ok (.slice (some ⟨g', 0, none⟩) (M.length + 1) cap') w' ∧ w'.ownsRow base 101 4 (.slice (some ⟨g', 0, none⟩) (M.length + 1) cap') (M ++ [p]).length (mcells (M ++ [p])) ∧ w.grownBy w' v.ownBlock ∧ (v.ownBlock = some g' ∨ w.heap.size ≤ g') := by
  obtain ⟨i0, hi0, hzz⟩ := Option.map_eq_some_iff.1 infoMarkS
  simp only [Prod.mk.injEq] at hzz
  obtain ⟨hz0, hz1, hz2⟩ := hzz
  rw [mcells_app, List.length_append, List.length_singleton]
  exact append_any (P := Tryz.prog) w base 70 70 101 i0 _ 4 48 Tryz.underlying70 hi0 hz0 hz1 hz2 rfl (by omega) v M.length (mcells M) hown ⟨Tb, 0, none⟩ 1 1 (mcells [p]) rfl (by
    intro j u hj
    rw [Go.WideShapes.add_plain, Nat.zero_add]
    match j, hj with
    | 0, hj => simp [mcells, mcell] at hj; rw [← hj]; exact h0
    | 1, hj => simp [mcells, mcell] at hj; rw [← hj]; exact h1
    | 2, hj => simp [mcells, mcell] at hj; rw [← hj]; exact h2
    | 3, hj => simp [mcells, mcell] at hj; rw [← hj]; exact h3
    | j + 4, hj => simp [mcells, mcell] at hj) mcells_cell (by omega) (by unfold maxLen; omega) (by omega) hbase
set_option maxRecDepth 100000 in
set_option maxHeartbeats 4000000 in
theorem push_any (w : World) (base : Nat) (K : SK) (L : List (ByteArray × Int)) (T : List Lt) (M : List (Nat × Nat)) (h : Stk w base K L T M) (hM : M.length ≤ 6) (hb : base ≤ w.heap.size) :
    Calls Tryz.prog 50 #[.pointer (some ⟨K.B, 0, none⟩)] w fun e w' => e = .returned (.bool (decide (M.length ≠ 6))) ∧ ∃ K', K'.B = K.B ∧ Stp K w K' w' ∧ (M.length ≠ 6 → Stk w' base K' L T (M ++ [(L.length, T.length)])) := by
  have HK := hide h
  obtain ⟨da, dc, hdv, d1, _⟩ := own_slice h.od
  obtain ⟨ta, tc, htv, t1, _⟩ := own_slice h.ot
  obtain ⟨ma, mc, hmv, m1, _⟩ := own_slice h.om
  have c0 := h.c0
  have c1 := h.c1
  have c2 := h.c2
  rw [hdv] at c0
  rw [htv] at c1
  rw [hmv] at c2
  have hlt := h.lt
  have hfz := h.fz 2
  by_cases h6 : M.length = 6
  · have k6 : ((M.length : Int) == 6) = true := by simp; omega
    have HR : Hid (decide (M.length ≠ 6) = false) := by show _ = _; simp [h6]
    have H6 := hide h6
    clear h h6
    go_enter Tryz.func50, Tryz.ntmps50
    go_wp2
    rw [unhide HR]
    go_ret
    exact ⟨rfl, K, rfl, Stp.refl _ _, fun h => absurd (unhide H6) h⟩
  · have k6 : ((M.length : Int) == 6) = false := by simp; omega
    have HR : Hid (decide (M.length ≠ 6) = true) := by show _ = _; simp [h6]
    -- the literal and the append, ahead of the walk
    obtain ⟨wt, hwt⟩ : ∃ x, x = w.drew.alloc (.cells #[.int .i64 (L.length : Int), .int .i64 (T.length : Int), .slice none 0 0, .int .i64 0] 101) := ⟨_, rfl⟩
    have bt : Below w.heap.size w wt := by rw [hwt]; exact (Below.refl _ _).drew.alloc (Nat.le_refl _) _
    have q0 : wt.cell? ⟨w.heap.size, 0, none⟩ = some (.int .i64 (L.length : Int)) := by rw [hwt]; exact World.cell?_alloc_new w.drew _ _ _
    have q1 : wt.cell? ⟨w.heap.size, 1, none⟩ = some (.int .i64 (T.length : Int)) := by rw [hwt]; exact World.cell?_alloc_new w.drew _ _ _
    have q2 : wt.cell? ⟨w.heap.size, 2, none⟩ = some (.slice none 0 0) := by rw [hwt]; exact World.cell?_alloc_new w.drew _ _ _
    have q3 : wt.cell? ⟨w.heap.size, 3, none⟩ = some (.int .i64 0) := by rw [hwt]; exact World.cell?_alloc_new w.drew _ _ _
    have ht := h.later bt
    obtain ⟨g, cp, w1, run, o1, g1, a1⟩ := mark_one wt base K.mv M (L.length, T.length) w.heap.size ht.om q0 q1 q2 q3 (by omega) (Nat.le_trans hb bt.size)
    have hg : w.grownBy w1 K.mv.ownBlock := grown_trans (⟨bt.os, bt.tape, bt.output, bt.size, fun k hk _ => bt.block k hk⟩ : w.grownBy wt K.mv.ownBlock) g1
    obtain ⟨S1, P1⟩ := h.put_m (v' := .slice (some ⟨g, 0, none⟩) (M.length + 1) cp) (M' := M ++ [(L.length, T.length)]) hg o1 (fun k e => by
      simp only [Value.ownBlock, Option.some.injEq] at e
      subst e
      rcases a1 with e | e
      · exact Or.inl e
      · exact Or.inr (Nat.le_trans bt.size e)) (Below.refl _ _)
    have e2 : w1.cell? ⟨K.B, 2, none⟩ = some (.slice ma M.length mc) := by
      rw [← hmv]
      exact (World.cell?_of_block (w := w) (a := ⟨K.B, 2, none⟩) (hg.block K.B hlt (fun e => h.nm e.symm))).trans h.c2
    have f2 : w1.frozen? ⟨K.B, 2, none⟩ = false := (World.frozen?_of_block (w := w) (a := ⟨K.B, 2, none⟩) (hg.block K.B hlt (fun e => h.nm e.symm))).trans (h.fz 2)
    rw [hmv, hwt] at run
    have HRun := hide run
    have HS := hide S1
    have HP := hide P1
    have H6 := hide h6
    clear h ht run S1 P1 o1 g1 a1 hg q0 q1 q2 q3 bt hwt hfz hdv htv hmv h6
    go_enter Tryz.func50, Tryz.ntmps50
    go_wp2_with fail
    go_region_law (refine step_append_ex rfl _ _ _ rfl _ _ rfl rfl _ _ (unhide HRun) ?_)
    all_goals go_wp2
    all_goals rw [unhide HR]
    all_goals go_ret
    all_goals exact ⟨rfl, { K with mv := .slice (some ⟨g, 0, none⟩) (M.length + 1) cp }, rfl, unhide HP, fun _ => unhide HS⟩
end Go.Proofs.YtfopmobopmdahaaGreat
