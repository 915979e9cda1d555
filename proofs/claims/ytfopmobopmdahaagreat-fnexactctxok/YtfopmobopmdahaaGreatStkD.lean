/- The stack of layers: a name more. -/
import Derived.Test.YtfopmobopmdahaaGreatStkC
import Derived.Test.YtfopmobopmdahaaGreatDaA
import Derived.Deep.DeepCutAuto
namespace Go.Proofs.YtfopmobopmdahaaGreat
open Go.ChangeShapes Go.WideShapes Go.ChangeAt Go.RowKit Go.Joins
set_option linter.unusedVariables false
set_option linter.unusedSimpArgs false

theorem Stp.grown {K : SK} {w w1 w2 : World} {v : Value} (hg : w.grownBy w1 v.ownBlock) (hv : v = K.dv ∨ v = K.tv ∨ v = K.mv) (hb : Below w1.heap.size w1 w2) : Stp K w K w2 :=
  ⟨hb.os.trans hg.os, hb.tape.trans hg.tape, hb.output.trans hg.output, Nat.le_trans hg.size hb.size, fun _ _ h => h, fun x hx hf => (hb.block x (Nat.lt_of_lt_of_le hx hg.size)).trans (hg.block x hx (fun e => by
    rcases hv with rfl | rfl | rfl
    · exact hf.d e.symm
    · exact hf.t e.symm
    · exact hf.m e.symm))⟩
/-- One name more. -/
theorem dec_one (w : World) (base : Nat) (v : Value) (L : List (ByteArray × Int)) (p : ByteArray × Int) (Tb : Nat) (hown : w.ownsRow base 40 2 v L.length (dcells L)) (h0 : w.cell? ⟨Tb, 0, none⟩ = some (.string p.1)) (h1 : w.cell? ⟨Tb, 1, none⟩ = some (.int .i64 p.2)) (hk : L.length ≤ 2000000) (hbase : base ≤ w.heap.size) :
    ∃ g' cap' w', (Builtin.append_ #[29, 29] 29 #[v, .slice (some ⟨Tb, 0, none⟩) 1 1]).run Tryz.prog w = .ok (.slice (some ⟨g', 0, none⟩) (L.length + 1) cap') w' ∧ w'.ownsRow base 40 2 (.slice (some ⟨g', 0, none⟩) (L.length + 1) cap') (L ++ [p]).length (dcells (L ++ [p])) ∧ w.grownBy w' v.ownBlock ∧ (v.ownBlock = some g' ∨ w.heap.size ≤ g') := by
  obtain ⟨i0, hi0, hzz⟩ := Option.map_eq_some_iff.1 infoDeclS
  simp only [Prod.mk.injEq] at hzz
  obtain ⟨hz0, hz1, hz2⟩ := hzz
  rw [dcells_app, List.length_append, List.length_singleton]
  exact append_any (P := Tryz.prog) w base 29 29 40 i0 _ 2 24 Tryz.underlying29 hi0 hz0 hz1 hz2 rfl (by omega) v L.length (dcells L) hown ⟨Tb, 0, none⟩ 1 1 (dcells [p]) rfl (dcells_lie (fun i hi => by
    have e : i = 0 := by simpa using hi
    subst e
    exact ⟨h0, h1⟩)) dcells_cell (by omega) (by unfold maxLen; omega) (by omega) hbase
set_option maxRecDepth 100000 in
set_option maxHeartbeats 8000000 in
theorem name_any (w : World) (base : Nat) (K : SK) (L : List (ByteArray × Int)) (T : List Lt) (M : List (Nat × Nat)) (s : ByteArray) (v : Int) (h : Stk w base K L T M) (hM : 0 < M.length) (hM6 : M.length ≤ 6) (hb : base ≤ w.heap.size) (hL : L.length ≤ 1048575) (hs : SmL 1048576 (L ++ [(s, v)])) :
    Calls Tryz.prog 54 #[.pointer (some ⟨K.B, 0, none⟩), .agg #[.string s, .int .i64 v]] w fun e w' => e = .returned (.bool (declB (L ++ [(s, v)]).length (sL (L ++ [(s, v)])) (vL (L ++ [(s, v)])))) ∧ ∃ K', K'.B = K.B ∧ Stp K w K' w' ∧ (DeclL (L ++ [(s, v)]) → Stk w' base K' (L ++ [(s, v)]) T M) := by
  obtain ⟨da, dc, hdv, d1, _⟩ := own_slice h.od
  have hlt := h.lt
  obtain ⟨wb, hwb⟩ : ∃ x, x = w.alloc (.cells #[.string s, .int .i64 v] 40) := ⟨_, rfl⟩
  have bb : Below w.heap.size w wb := by rw [hwb]; exact (Below.refl _ _).alloc (Nat.le_refl _) _
  have x0 : wb.cell? ⟨w.heap.size, 0, none⟩ = some (.string s) := by rw [hwb]; simp [go_sem]
  have x1 : wb.cell? ⟨w.heap.size, 1, none⟩ = some (.int .i64 v) := by rw [hwb]; simp [go_sem]
  have lb : w.heap.size < wb.heap.size := by rw [hwb]; simp
  obtain ⟨wt, hwt⟩ : ∃ x, x = wb.drew.alloc (.cells #[.string s, .int .i64 v] 40) := ⟨_, rfl⟩
  have bt : Below wb.heap.size wb wt := by rw [hwt]; exact (Below.refl _ _).drew.alloc (Nat.le_refl _) _
  have q0 : wt.cell? ⟨wb.heap.size, 0, none⟩ = some (.string s) := by rw [hwt]; exact World.cell?_alloc_new wb.drew _ _ _
  have q1 : wt.cell? ⟨wb.heap.size, 1, none⟩ = some (.int .i64 v) := by rw [hwt]; exact World.cell?_alloc_new wb.drew _ _ _
  have bt' := bb.trans (bt.mono bb.size)
  have ht := h.later bt'
  have hB := h.later bb
  have c0 := hB.c0
  rw [hdv] at c0
  obtain ⟨g, cp, w1, run, o1, g1, a1⟩ := dec_one wt base K.dv L (s, v) wb.heap.size ht.od q0 q1 (by omega) (Nat.le_trans hb bt'.size)
  have hg : w.grownBy w1 K.dv.ownBlock := grown_trans (⟨bt'.os, bt'.tape, bt'.output, bt'.size, fun k hk _ => bt'.block k hk⟩ : w.grownBy wt K.dv.ownBlock) g1
  have HN : Hid (∀ k, (Value.slice (some ⟨g, 0, none⟩) (L.length + 1) cp).ownBlock = some k → K.dv.ownBlock = some k ∨ w.heap.size ≤ k) := fun k e => by
    simp only [Value.ownBlock, Option.some.injEq] at e
    subst e
    rcases a1 with e | e
    · exact Or.inl e
    · exact Or.inr (Nat.le_trans bt'.size e)
  have o1' := o1
  rw [List.length_append, List.length_singleton] at o1'
  have DN := hide (own_decl o1' (by simp))
  have gl := (own_cap o1').2
  have gc := (own_cap o1').1
  have hs' : Hid (∀ i, i < L.length + 1 → (sL (L ++ [(s, v)]) i).size ≤ 1048576) := fun i hi => hs i (by simp; omega)
  have e0 : w1.cell? ⟨K.B, 0, none⟩ = some (.slice da L.length dc) := by
    rw [← hdv]
    exact (World.cell?_of_block (w := w) (a := ⟨K.B, 0, none⟩) (hg.block K.B hlt (fun e => h.nd e.symm))).trans h.c0
  have f0 : w1.frozen? ⟨K.B, 0, none⟩ = false := (World.frozen?_of_block (w := w) (a := ⟨K.B, 0, none⟩) (hg.block K.B hlt (fun e => h.nd e.symm))).trans (h.fz 0)
  have hl1 : (L ++ [(s, v)]).length = L.length + 1 := by simp
  have hlt1 : K.B < w1.heap.size := World.block_lt_of_cell? _ _ e0
  rw [hdv, hwt] at run
  have HRun := hide run
  have HO := hide o1
  have HG := hide hg
  have HK := hide h
  have hlb : K.B < wb.heap.size := by omega
  have HWB := hide hwb
  rw [hl1]
  obtain ⟨SS, hSS⟩ : ∃ x, x = sL (L ++ [(s, v)]) := ⟨_, rfl⟩
  obtain ⟨VV, hVV⟩ : ∃ x, x = vL (L ++ [(s, v)]) := ⟨_, rfl⟩
  rw [← hSS, ← hVV] at DN ⊢
  rw [← hSS] at hs'
  have HDP : Hid (declB (L.length + 1) SS VV = true ↔ DeclL (L ++ [(s, v)])) := by
    show _ ↔ _
    unfold DeclL
    rw [hl1, hSS, hVV, declB_iff]
  clear run o1 o1' hg h hB ht q0 q1 bt bt' hwt hwb a1 g1 hdv hs hSS hVV
  go_enter Tryz.func54, Tryz.ntmps54
  go_wp2_with fail
  rw [← unhide HWB]
  go_cut [5] (fun s5 wx => s5 = .slice (some ⟨g, 0, none⟩) (L.length + 1) cp ∧ wx = w1)
  case first =>
    go_region_law (refine step_append_ex rfl _ _ _ rfl _ _ rfl rfl _ _ (unhide HRun) ?_)
    all_goals go_wp2_with fail
    all_goals go_meet
    all_goals exact ⟨rfl, rfl⟩
  case rest =>
    obtain ⟨rfl, rfl⟩ := hcut
    clear HRun x0 x1 HWB c0 bb lb hlb
    go_wp2_with fail
    refine (iDeclOk_any g 0 (L.length + 1) cp SS VV wc gl (unhide DN) gc (by omega) (unhide hs')).mono ?_
    rintro e w2 ⟨rfl, b2⟩
    replace f0 := (b2.frozen (p := ⟨K.B, 0, none⟩) hlt1).trans f0
    replace e0 := cell_later b2 e0
    cases hv : declB (L.length + 1) SS VV
    · have HNo : Hid (¬ DeclL (L ++ [(s, v)])) := fun hd => by
        have := (unhide HDP).2 hd
        rw [hv] at this; cases this
      have HP := hide (Stp.grown (K := K) (unhide HG) (Or.inl rfl) b2)
      go_wp2
      go_ret
      exact ⟨by rw [hv]; rfl, K, rfl, unhide HP, fun hd => absurd hd (unhide HNo)⟩
    · obtain ⟨S3, P3⟩ := (unhide HK).put_d (unhide HG) (unhide HO) (unhide HN) b2
      obtain ⟨w3, hw3⟩ : ∃ x, x = w2.setCell ⟨K.B, 0, none⟩ (.slice (some ⟨g, 0, none⟩) (L.length + 1) cp) := ⟨_, rfl⟩
      rw [← hw3] at S3 P3
      have HS := hide S3
      have HP := hide P3
      have HW3 := hide hw3
      obtain ⟨K1, hK1⟩ : ∃ x, x = ({ K with dv := .slice (some ⟨g, 0, none⟩) (L.length + 1) cp } : SK) := ⟨_, rfl⟩
      rw [← hK1] at HS HP
      have hB1 : K1.B = K.B := by rw [hK1]
      have HB1 := hide hB1
      clear S3 P3 hw3 hK1
      go_wp2_with fail
      rw [← unhide HW3, ← hB1]
      refine (last_any w3 base K1 (L ++ [(s, v)]) T M (unhide HS) hM (by omega)).mono ?_
      rintro e w4 ⟨⟨g2, c2, hmv, rfl⟩, b4⟩
      have HS4 := hide ((unhide HS).later b4)
      have HP4 := hide ((unhide HP).trans (Stp.of b4))
      obtain ⟨m, hm⟩ : ∃ m, M.length = m + 1 := ⟨M.length - 1, by omega⟩
      have hm4 := mcells_at M m 2 (by omega) (by omega)
      have hm5 := mcells_at M m 3 (by omega) (by omega)
      have om := (unhide HS4).om
      rw [hmv] at om
      have k2 := om.cellAt (m * 4 + 2) (by omega)
      have k3 := om.cellAt (m * 4 + 3) (by omega)
      have y2 := om.frozenAt (m * 4 + 2)
      have y3 := om.frozenAt (m * 4 + 3)
      rw [hm4] at k2
      rw [hm5] at k3
      simp only [mcell, List.getElem?_cons_succ, List.getElem?_cons_zero] at k2 k3 hm4 hm5
      obtain ⟨S5, P5⟩ := (unhide HS4).mset hmv hm4
      obtain ⟨S6, P6⟩ := S5.mset hmv hm5
      have HS6 := hide S6
      have HP6 := hide (((unhide HP4).trans P5).trans P6)
      have e1 : (M.length - 1) * 4 = m * 4 := by omega
      rw [e1]
      clear S5 S6 P5 P6 om hm4 hm5 hmv HS HP HS4 HP4 b4 e1
      go_wp2
      go_ret
      exact ⟨by rw [hv]; rfl, K1, unhide HB1, unhide HP6, fun _ => unhide HS6⟩
end Go.Proofs.YtfopmobopmdahaaGreat
