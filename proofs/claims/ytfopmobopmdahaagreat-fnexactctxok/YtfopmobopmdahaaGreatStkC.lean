/- The stack of layers: its last mark. -/
import Derived.Test.YtfopmobopmdahaaGreatStkA
import Derived.Deep.RegionLaw
import Derived.BigRegion
namespace Go.Proofs.YtfopmobopmdahaaGreat
open Go.ChangeShapes Go.WideShapes Go.ChangeAt Go.RowKit Go.Joins
set_option linter.unusedVariables false
set_option linter.unusedSimpArgs false

/-- What is written anew into the marks as it was leaves the stack as it was. -/
theorem Stk.mset {w : World} {base : Nat} {K : SK} {L : List (ByteArray × Int)} {T : List Lt} {M : List (Nat × Nat)} (h : Stk w base K L T M) {g n c j : Nat} {v : Value} (hmv : K.mv = .slice (some ⟨g, 0, none⟩) n c) (hv : (mcells M)[j]? = some v) :
    Stk (w.setCell ⟨g, j, none⟩ v) base K L T M ∧ Stp K w K (w.setCell ⟨g, j, none⟩ v) := by
  have hom := h.om
  rw [hmv] at hom
  have hn : n = M.length := by
    rcases hom.2 with ⟨e, _⟩ | ⟨g', cap, cur, e, _⟩
    · cases e
    · simp only [Value.slice.injEq] at e; exact e.2.1
  subst hn
  obtain ⟨s1, s2⟩ := hom.stored j v
  rw [set_same _ _ _ hv, ← hmv] at s1
  have hgB : g ≠ K.B := fun e => h.nm (by rw [hmv]; simp [Value.ownBlock, e])
  have blk : ∀ x, x ≠ g → (w.setCell ⟨g, j, none⟩ v).heap[x]? = w.heap[x]? := fun x hx => Below.heap_setCell _ _ _ _ (by intro e; exact hx e)
  refine ⟨⟨h.up, ?_, ?_, ?_, fun o => by rw [World.frozen?_setCell]; exact h.fz o, h.od.kept s2 ?_, h.ot.kept s2 ?_, s1, h.nd, h.nt, h.nm, h.dt, h.dm, h.tm⟩, ⟨rfl, rfl, rfl, by simp, fun _ _ hf => hf, fun x _ hf => blk x (fun e => hf.m (by rw [hmv]; simp [Value.ownBlock, e]))⟩⟩
  · rw [World.cell?_setCell_other _ _ _ _ (by intro e; injection e with e1; exact hgB e1)]; exact h.c0
  · rw [World.cell?_setCell_other _ _ _ _ (by intro e; injection e with e1; exact hgB e1)]; exact h.c1
  · rw [World.cell?_setCell_other _ _ _ _ (by intro e; injection e with e1; exact hgB e1)]; exact h.c2
  · rcases h.dm with e | e
    · exact Or.inl e
    · right; rw [hmv] at e; simpa [Value.ownBlock] using e
  · rcases h.tm with e | e
    · exact Or.inl e
    · right; rw [hmv] at e; simpa [Value.ownBlock] using e
set_option maxRecDepth 100000 in
set_option maxHeartbeats 2000000 in
theorem last_any (w : World) (base : Nat) (K : SK) (L : List (ByteArray × Int)) (T : List Lt) (M : List (Nat × Nat)) (h : Stk w base K L T M) (hM : 0 < M.length) (h9 : M.length ≤ 100) :
    Calls Tryz.prog 71 #[.pointer (some ⟨K.B, 0, none⟩)] w fun e w' => (∃ g c, K.mv = .slice (some ⟨g, 0, none⟩) M.length c ∧ e = .returned (.pointer (some ⟨g, (M.length - 1) * 4, none⟩))) ∧ Below w.heap.size w w' := by
  obtain ⟨ma, mc, hmv, m1, m2, m3, _⟩ := own_slice h.om
  obtain ⟨g, rfl⟩ := m3 hM
  have c2 := h.c2
  rw [hmv] at c2
  have HMV := hide hmv
  have hlt := h.lt
  unfold maxLen at m2
  clear h hmv m3
  go_enter Tryz.func71, Tryz.ntmps71
  go_wp2
  go_region
  all_goals go_wp2
  all_goals go_ret
  all_goals exact ⟨⟨g, mc, unhide HMV, rfl⟩, by first | exact Below.refl _ _ | exact (Below.refl _ _).drew⟩
end Go.Proofs.YtfopmobopmdahaaGreat
