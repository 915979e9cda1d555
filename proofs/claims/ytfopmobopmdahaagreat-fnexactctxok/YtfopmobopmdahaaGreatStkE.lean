/- The stack of layers: a term more. -/
import Derived.Test.YtfopmobopmdahaaGreatStkD
import Derived.Deep.DeepCutAuto
namespace Go.Proofs.YtfopmobopmdahaaGreat
open Go.ChangeShapes Go.WideShapes Go.ChangeAt Go.RowKit Go.Joins
set_option linter.unusedVariables false
set_option linter.unusedSimpArgs false

theorem heap_setCell_at (w : World) (p : Addr) (u : Value) : (w.setCell p u).heap[p.block]? = (w.heap[p.block]?).map (fun x => match x with | .cells c elem frozen => .cells (if p.spot.isSome then c else c.setIfInBounds p.off u) elem frozen | o => o) := by
  simp [World.setCell, Array.getElem?_modify]
  rfl
theorem setCell_comm (w : World) {p q : Addr} (h : p.block ≠ q.block) (u v : Value) : (w.setCell p u).setCell q v = (w.setCell q v).setCell p u := by
  have hh : ((w.setCell p u).setCell q v).heap = ((w.setCell q v).setCell p u).heap := by
    apply Array.ext_getElem?
    intro i
    by_cases e1 : i = p.block
    · subst e1
      rw [Below.heap_setCell _ _ _ _ (by exact fun e => h e), heap_setCell_at, heap_setCell_at, Below.heap_setCell _ _ _ _ (by exact fun e => h e)]
    · by_cases e2 : i = q.block
      · subst e2
        rw [heap_setCell_at, Below.heap_setCell _ _ _ _ (by exact fun e => e1 e), Below.heap_setCell _ _ _ _ (by exact fun e => e1 e), heap_setCell_at]
      · rw [Below.heap_setCell _ _ _ _ (by exact fun e => e2 e), Below.heap_setCell _ _ _ _ (by exact fun e => e1 e), Below.heap_setCell _ _ _ _ (by exact fun e => e1 e), Below.heap_setCell _ _ _ _ (by exact fun e => e2 e)]
  have e : ∀ (a : World) (r : Addr) (x : Value), a.setCell r x = { a with heap := (a.setCell r x).heap } := fun _ _ _ => rfl
  rw [e (w.setCell p u) q v, hh]
  rfl
theorem withGo1 {P : Program} {md : Region.Mode} {ops : Array Oper} {Q : Exit → Act → World → Prop} {f : Nat} {l : Array Bool} {a : Act} {w : World} (h : ∀ (Go : Nat → Array Bool → Act → World → Prop) (a0 : Act), Hid (Go = wpAny P md ops Q) → Hid (a0 = a) → Go f l a0 w) : wpAny P md ops Q f l a w := h _ _ rfl rfl
theorem goTo1 {Go : Nat → Array Bool → Act → World → Prop} {f f' : Nat} {l l' : Array Bool} {a a' : Act} {w w' : World} (H : Go f' l' a' w') (hf : f = f') (hl : l = l') (ha : a = a') (hw : w = w') : Go f l a w := by subst hf hl ha hw; exact H
/-- No term, as it is laid down ahead of one. -/
def zlt : Lt := (.node 0 0 0 ⟨#[]⟩ 0 (fun _ => .nil), none, 0)
theorem tcells_put (T : List Lt) (p : Lt) : (((((tcells (T ++ [zlt])).set (T.length * 5) (.int .i64 p.1.op)).set (T.length * 5 + 1) (.int .i64 p.1.a)).set (T.length * 5 + 2) (.int .i64 p.1.b)).set (T.length * 5 + 3) (.string p.1.s)).set (T.length * 5 + 4) (.slice p.2.1 p.1.n p.2.2) = tcells (T ++ [p]) := by
  have hl := tcells_size T
  have hz : tcells [zlt] = [.int .i64 0, .int .i64 0, .int .i64 0, .string ⟨#[]⟩, .slice none 0 0] := rfl
  have hp : tcells [p] = [.int .i64 p.1.op, .int .i64 p.1.a, .int .i64 p.1.b, .string p.1.s, .slice p.2.1 p.1.n p.2.2] := by simp [tcells, tcell]
  rw [tcells_app, tcells_app, hz, hp]
  simp [List.set_append, hl]
/-- One term more. -/
theorem term_one (w : World) (base : Nat) (v : Value) (T : List Lt) (p : Lt) (Tb : Nat) (hown : w.ownsRow base 50 5 v T.length (tcells T)) (h0 : Five w Tb 0 p.1 p.2.1 p.2.2) (hk : T.length ≤ 2000000) (hbase : base ≤ w.heap.size) :
    ∃ g' cap' w', (Builtin.append_ #[48, 48] 48 #[v, .slice (some ⟨Tb, 0, none⟩) 1 1]).run Tryz.prog w = .ok (.slice (some ⟨g', 0, none⟩) (T.length + 1) cap') w' ∧ w'.ownsRow base 50 5 (.slice (some ⟨g', 0, none⟩) (T.length + 1) cap') (T.length + 1) (tcells (T ++ [p])) ∧ w.grownBy w' v.ownBlock ∧ (v.ownBlock = some g' ∨ w.heap.size ≤ g') := by
  obtain ⟨i0, hi0, hzz⟩ := Option.map_eq_some_iff.1 infoTermS
  simp only [Prod.mk.injEq] at hzz
  obtain ⟨hz0, hz1, hz2⟩ := hzz
  rw [tcells_app]
  exact append_any (P := Tryz.prog) w base 48 48 50 i0 _ 5 64 Tryz.underlying48 hi0 hz0 hz1 hz2 rfl (by omega) v T.length (tcells T) hown ⟨Tb, 0, none⟩ 1 1 (tcells [p]) (by simp [tcells, tcell]) (tcells_lie (fun i hi => by
    have e : i = 0 := by simpa using hi
    subst e
    exact h0)) tcells_cell (by omega) (by unfold maxLen; omega) (by omega) hbase
/-- The names of a stack, as TermSort takes them. -/
theorem Stk.names {w : World} {base : Nat} {K : SK} {L : List (ByteArray × Int)} {T : List Lt} {M : List (Nat × Nat)} (h : Stk w base K L T M) : ∃ da dc bd, K.dv = .slice da L.length dc ∧ L.length ≤ dc ∧ (0 < L.length → da = some ⟨bd, 0, none⟩) ∧ bd < w.heap.size ∧ Decs w bd 0 L.length (sL L) (vL L) := by
  obtain ⟨da, dc, hdv, d1, _, d3, _⟩ := own_slice h.od
  by_cases h0 : 0 < L.length
  · obtain ⟨g, rfl⟩ := d3 h0
    have := h.od
    rw [hdv] at this
    exact ⟨_, dc, g, hdv, d1, fun _ => rfl, (own_cap this).2, own_decl this rfl⟩
  · exact ⟨da, dc, K.B, hdv, d1, fun h => absurd h h0, h.lt, fun i hi => by omega⟩
set_option maxRecDepth 100000 in
set_option maxHeartbeats 8000000 in
theorem assert_any (hi : Nat) (w : World) (base : Nat) (K : SK) (L : List (ByteArray × Int)) (T : List Lt) (M : List (Nat × Nat)) (t : TT) (ad : Option Addr) (cpt : Nat) (h : Stk w base K L T M) (hM : 0 < M.length) (hM6 : M.length ≤ 6) (hb : base ≤ w.heap.size) (hL : L.length ≤ 1048576) (hs : SmL 1048576 L) (hT : T.length ≤ 8) (hin : t.In w 0 hi ad) (hf : t.Fit 1048576) (hhi : hi ≤ w.heap.size) :
    Calls Tryz.prog 59 #[.pointer (some ⟨K.B, 0, none⟩), .agg #[.int .i64 t.op, .int .i64 t.a, .int .i64 t.b, .string t.s, .slice ad t.n cpt]] w fun e w' => e = .returned (.bool (decide (T.length ≠ 8) && (tsL L t == 0))) ∧ ∃ K', K'.B = K.B ∧ Stp K w K' w' ∧ (T.length ≠ 8 → tsL L t = 0 → Stk w' base K' L (T ++ [(t, ad, cpt)]) M) := by
  obtain ⟨z, hz⟩ : ∃ z, z = tsL L t := ⟨_, rfl⟩
  have HZ := hide hz
  rw [← hz]
  have hlt := h.lt
  obtain ⟨wb, hwb⟩ : ∃ x, x = w.alloc (.cells #[.int .i64 t.op, .int .i64 t.a, .int .i64 t.b, .string t.s, .slice ad t.n cpt] 50) := ⟨_, rfl⟩
  have bb : Below w.heap.size w wb := by rw [hwb]; exact (Below.refl _ _).alloc (Nat.le_refl _) _
  have X : Five wb w.heap.size 0 t ad cpt := by rw [hwb]; exact ⟨by simp [go_sem], by simp [go_sem], by simp [go_sem], by simp [go_sem], by simp [go_sem]⟩
  have HKb := hide (h.later bb)
  have Pb := hide (Stp.of (K := K) bb)
  have HI := hide (hin.later (bb.mono hhi))
  have HWB := hide hwb
  have hhb := Nat.le_trans hhi bb.size
  have hbb := Nat.le_trans hb bb.size
  obtain ⟨da, dc, bd, hdv, d1, d2, d3, d4⟩ := (unhide HKb).names
  obtain ⟨ta, tc, htv, t1, t2, t3, t4⟩ := own_slice h.ot
  have c0 := (unhide HKb).c0
  have c1 := (unhide HKb).c1
  rw [hdv] at c0
  rw [htv] at c1
  have D4 := hide d4
  have HSm : Hid (∀ i, i < L.length → (sL L i).size ≤ 1048576) := hs
  clear h hin hs hz hwb bb d4
  go_enter Tryz.func59, Tryz.ntmps59
  go_wp2_with fail
  rw [← unhide HWB]
  clear HWB
  go_cut [19] (fun s19 wx => s19 = .bool (!(decide (T.length ≠ 8) && (z == 0))) ∧ Below wb.heap.size wb wx)
  case first =>
    by_cases h8 : T.length = 8
    · have k8 : ((T.length : Int) == 8) = true := by simp; omega
      have HR : Hid ((!(decide (T.length ≠ 8) && (z == 0))) = true) := by show _ = _; simp [h8]
      clear h8
      go_region
      all_goals go_wp2_with fail
      all_goals go_meet
      all_goals exact ⟨by rw [unhide HR], by first | exact Below.refl _ _ | exact (Below.refl _ _).drew⟩
    · have k8 : ((T.length : Int) == 8) = false := by simp; omega
      have HR : Hid ((!(decide (T.length ≠ 8) && (z == 0))) = (z != 0)) := by show _ = _; simp [h8, bne]
      have hb0 : Below wb.heap.size wb wb := Below.refl _ _
      obtain ⟨x0, x1, x2, x3, x4⟩ := id X
      have H8 := hide h8
      clear h8
      go_region_held3 (fun w' => w'.cell? ⟨K.B, 0, none⟩ = some (.slice da L.length dc) ∧ w'.cell? ⟨K.B, 1, none⟩ = some (.slice ta T.length tc) ∧ w'.cell? ⟨w.heap.size, 0, none⟩ = some (.int .i64 t.op) ∧ w'.cell? ⟨w.heap.size, 1, none⟩ = some (.int .i64 t.a) ∧ w'.cell? ⟨w.heap.size, 2, none⟩ = some (.int .i64 t.b) ∧ w'.cell? ⟨w.heap.size, 3, none⟩ = some (.string t.s) ∧ w'.cell? ⟨w.heap.size, 4, none⟩ = some (.slice ad t.n cpt)) (first | go_keep | exact ⟨c0, c1, X.1, X.2.1, X.2.2.1, X.2.2.2.1, X.2.2.2.2⟩ | (refine ⟨?_, ?_, ?_, ?_, ?_, ?_, ?_⟩ <;> assumption))
        (first | (go_at_call 72; refine (iTermSortD_any bd 0 L.length dc hi (sL L) (vL L) hL d1 (unhide HSm) t ad cpt _ (by first | exact unhide HI | exact (unhide HI).drew) hf (by exact hhb) (by exact d3) (by exact unhide D4) d2).mono ?_; rintro e wq ⟨rfl, bq⟩; rw [show tsort L.length (sL L) (vL L) t = z from (unhide HZ).symm]; have BL := (by first | exact hb0.trans (bq.mono hb0.size) | exact hb0.drew.trans (bq.mono hb0.size)); have X := Five.later (by exact X) bq; have c0 := cell_later bq (by exact c0); have c1 := cell_later bq (by exact c1); obtain ⟨x0, x1, x2, x3, x4⟩ := id X))
      all_goals go_wp2_with fail
      all_goals go_meet
      all_goals exact ⟨by rw [unhide HR], by first | exact BL | exact BL.drew⟩
  case rest =>
    obtain ⟨rfl, bx⟩ := hcut
    obtain ⟨wA, rfl⟩ : ∃ z, z = wc := ⟨_, rfl⟩
    have HA := hide ((unhide HKb).later bx)
    have PA := hide ((unhide Pb).trans (Stp.of bx))
    replace X := X.later bx
    replace c1 := cell_later bx c1
    have hbA := Nat.le_trans hbb bx.size
    have lx : w.heap.size < wA.heap.size := World.block_lt_of_cell? _ _ X.1
    clear HKb Pb HI D4 c0 bx d2 d3
    cases hr : (decide (T.length ≠ 8) && (z == 0))
    · have HNo : Hid (¬ (T.length ≠ 8 ∧ z = 0)) := fun hh => by
        simp [hh.1, hh.2] at hr
      go_wp2
      go_ret
      exact ⟨by rw [hr]; rfl, K, rfl, unhide PA, fun h1 h2 => absurd ⟨h1, h2⟩ (unhide HNo)⟩
    · have hltA := (unhide HA).lt
      obtain ⟨wt, hwt⟩ : ∃ x, x = wA.drew.alloc (.cells #[.int .i64 0, .int .i64 0, .int .i64 0, .string ⟨#[]⟩, .slice none 0 0] 50) := ⟨_, rfl⟩
      have bt : Below wA.heap.size wA wt := by rw [hwt]; exact (Below.refl _ _).drew.alloc (Nat.le_refl _) _
      have ZF : Five wt wA.heap.size 0 zlt.1 zlt.2.1 zlt.2.2 := by
        rw [hwt]
        exact ⟨World.cell?_alloc_new wA.drew _ _ _, World.cell?_alloc_new wA.drew _ _ _, World.cell?_alloc_new wA.drew _ _ _, World.cell?_alloc_new wA.drew _ _ _, World.cell?_alloc_new wA.drew _ _ _⟩
      have hAt := (unhide HA).later bt
      obtain ⟨g, cp, w1, run, o1, g1, a1⟩ := term_one wt base K.tv T zlt wA.heap.size hAt.ot ZF (by omega) (Nat.le_trans hbA bt.size)
      have hg1 : wA.grownBy w1 K.tv.ownBlock := grown_trans (⟨bt.os, bt.tape, bt.output, bt.size, fun k hk _ => bt.block k hk⟩ : wA.grownBy wt K.tv.ownBlock) g1
      have hN : ∀ k, (Value.slice (some ⟨g, 0, none⟩) (T.length + 1) cp).ownBlock = some k → K.tv.ownBlock = some k ∨ wA.heap.size ≤ k := fun k e => by
        simp only [Value.ownBlock, Option.some.injEq] at e
        subst e
        rcases a1 with e | e
        · exact Or.inl e
        · exact Or.inr (Nat.le_trans bt.size e)
      obtain ⟨s0, u0⟩ := o1.stored (T.length * 5) (.int .i64 t.op)
      obtain ⟨s1, u1⟩ := s0.stored (T.length * 5 + 1) (.int .i64 t.a)
      obtain ⟨s2, u2⟩ := s1.stored (T.length * 5 + 2) (.int .i64 t.b)
      obtain ⟨s3, u3⟩ := s2.stored (T.length * 5 + 3) (.string t.s)
      obtain ⟨s4, u4⟩ := s3.stored (T.length * 5 + 4) (.slice ad t.n cpt)
      have hput := tcells_put T (t, ad, cpt)
      simp only at hput
      rw [hput] at s4
      obtain ⟨w2, hw2⟩ : ∃ x, x = (((((w1.setCell ⟨g, T.length * 5, none⟩ (.int .i64 t.op)).setCell ⟨g, T.length * 5 + 1, none⟩ (.int .i64 t.a)).setCell ⟨g, T.length * 5 + 2, none⟩ (.int .i64 t.b)).setCell ⟨g, T.length * 5 + 3, none⟩ (.string t.s)).setCell ⟨g, T.length * 5 + 4, none⟩ (.slice ad t.n cpt)) := ⟨_, rfl⟩
      rw [← hw2] at s4 u4
      have gg : w1.grownBy w2 (some g) := grown_trans (grown_trans (grown_trans (grown_trans u0 u1) u2) u3) u4
      have hg : wA.grownBy w2 K.tv.ownBlock := ⟨gg.os.trans hg1.os, gg.tape.trans hg1.tape, gg.output.trans hg1.output, Nat.le_trans hg1.size gg.size, fun k hk hne => (gg.block k (Nat.lt_of_lt_of_le hk hg1.size) (fun e => by
        injection e with e
        rcases hN g rfl with e1 | e1
        · exact hne (by rw [e, e1])
        · omega)).trans (hg1.block k hk hne)⟩
      have hlen : (T ++ [(t, ad, cpt)]).length = T.length + 1 := by simp
      obtain ⟨S5, P5⟩ := (unhide HA).put_t (v' := .slice (some ⟨g, 0, none⟩) (T.length + 1) cp) (T' := T ++ [(t, ad, cpt)]) hg (by rw [hlen]; exact s4) hN (Below.refl _ _)
      have hgB : g ≠ K.B := fun e => by
        rcases hN g rfl with e1 | e1
        · exact (unhide HA).nt (by rw [e1, e])
        · omega
      have e1 : w1.cell? ⟨K.B, 1, none⟩ = some (.slice ta T.length tc) := by
        rw [← htv]
        exact (World.cell?_of_block (w := wA) (a := ⟨K.B, 1, none⟩) (hg1.block K.B hltA (fun e => (unhide HA).nt e.symm))).trans (unhide HA).c1
      have f1 : w1.frozen? ⟨K.B, 1, none⟩ = false := (World.frozen?_of_block (w := wA) (a := ⟨K.B, 1, none⟩) (hg1.block K.B hltA (fun e => (unhide HA).nt e.symm))).trans ((unhide HA).fz 1)
      have r0 := o1.cellAt (T.length * 5) (by omega)
      have r1 := o1.cellAt (T.length * 5 + 1) (by omega)
      have r2 := o1.cellAt (T.length * 5 + 2) (by omega)
      have r3 := o1.cellAt (T.length * 5 + 3) (by omega)
      have r4 := o1.cellAt (T.length * 5 + 4) (by omega)
      have rz : tcells (T ++ [zlt]) = tcells T ++ [.int .i64 0, .int .i64 0, .int .i64 0, .string ⟨#[]⟩, .slice none 0 0] := by rw [tcells_app]; rfl
      have hl5 := tcells_size T
      rw [rz] at r0 r1 r2 r3 r4
      rw [List.getElem?_append_right (by omega)] at r0 r1 r2 r3 r4
      simp only [hl5, Nat.sub_self, Nat.add_sub_cancel_left, List.getElem?_cons_zero, List.getElem?_cons_succ] at r0 r1 r2 r3 r4
      have y0 := o1.frozenAt (T.length * 5)
      have y1 := o1.frozenAt (T.length * 5 + 1)
      have y2 := o1.frozenAt (T.length * 5 + 2)
      have y3 := o1.frozenAt (T.length * 5 + 3)
      have y4 := o1.frozenAt (T.length * 5 + 4)
      have hBg : K.B ≠ g := fun e => hgB e.symm
      obtain ⟨w3, hw3⟩ : ∃ x, x = w2.setCell ⟨K.B, 1, none⟩ (.slice (some ⟨g, 0, none⟩) (T.length + 1) cp) := ⟨_, rfl⟩
      have hw3' : w3 = (((((w1.setCell ⟨K.B, 1, none⟩ (.slice (some ⟨g, 0, none⟩) (T.length + 1) cp)).setCell ⟨g, T.length * 5, none⟩ (.int .i64 t.op)).setCell ⟨g, T.length * 5 + 1, none⟩ (.int .i64 t.a)).setCell ⟨g, T.length * 5 + 2, none⟩ (.int .i64 t.b)).setCell ⟨g, T.length * 5 + 3, none⟩ (.string t.s)).setCell ⟨g, T.length * 5 + 4, none⟩ (.slice ad t.n cpt) := by
        have comm : ∀ (W : World) (j : Nat) (u : Value), (W.setCell ⟨g, j, none⟩ u).setCell ⟨K.B, 1, none⟩ (.slice (some ⟨g, 0, none⟩) (T.length + 1) cp) = (W.setCell ⟨K.B, 1, none⟩ (.slice (some ⟨g, 0, none⟩) (T.length + 1) cp)).setCell ⟨g, j, none⟩ u := fun W j u => setCell_comm W hgB _ _
        rw [hw3, hw2]
        simp only [comm]
      rw [hw2] at hw3
      rw [← hw2] at hw3
      have hw3f := hw3
      rw [hw2] at hw3f
      rw [← hw3] at S5 P5
      rw [htv] at run
      have HRun := hide run
      have HWT := hide hwt
      have HS := hide S5
      have HP := hide P5
      have HW3 := hide hw3f
      have HW3' := hide hw3'
      clear hw3f hw3' hw3 hw2 run S5 P5 s0 s1 s2 s3 s4 u0 u1 u2 u3 u4 hput rz hl5 o1 g1 a1 hg1 hN gg hg hlen hAt ZF bt hwt hgB htv
      obtain ⟨x0, x1, x2, x3, x4⟩ := id X
      have kl : (T.length : Int) < (T.length : Int) + 1 := by omega
      go_wp2_with fail
      go_cut [] (fun wx => wx = w3)
      case first =>
        clear HS HP HA PA HSm hf hT hL hhi hhb hbb hbA hb hM hM6 t1 t2 t3 t4 d1 hr HZ hdv
        refine wp_region_any (by kernel_rfl) ?_
        change wpAny _ _ _ _ _ _ _ wA.drew
        refine wpAny_take (i := 0) (v := ?_) rfl (by kernel_rfl) (by kernel_rfl) (by kernel_rfl) (fun _ _ _ h => h) (Or.inl ⟨by rfl, ?_⟩) ?_
        rotate_left
        · (intro w; first | (go_simp; done) | (go_simp; with_reducible rfl))
        try simp only [List.getElem_toArray, List.getElem_cons_succ, List.getElem_cons_zero, Act.put, List.setIfInBounds_toArray, List.set_cons_zero, List.set_cons_succ]
        refine wpAny_take (i := 1) (v := ?_) rfl (by kernel_rfl) (by kernel_rfl) (by kernel_rfl) (fun _ _ _ h => h) (Or.inl ⟨by rfl, ?_⟩) ?_
        rotate_left
        · (intro w; first | (go_simp; done) | (go_simp; with_reducible rfl))
        try simp only [List.getElem_toArray, List.getElem_cons_succ, List.getElem_cons_zero, Act.put, List.setIfInBounds_toArray, List.set_cons_zero, List.set_cons_succ]
        refine wpAny_take (i := 2) (v := ?_) rfl (by kernel_rfl) (by kernel_rfl) (by kernel_rfl) (fun _ _ _ h => h) (Or.inl ⟨by rfl, ?_⟩) ?_
        rotate_left
        · (intro w; first | (go_simp; done) | (go_simp; with_reducible rfl))
        try simp only [List.getElem_toArray, List.getElem_cons_succ, List.getElem_cons_zero, Act.put, List.setIfInBounds_toArray, List.set_cons_zero, List.set_cons_succ]
        refine withGo1 (fun Go a0 hGo ha0 => ?_)
        have N_3_4_6 : Go 6 #[true, true, true, true, true, true, true, false, false, false, false, false, false] ((((a0.put (some 23) (.slice ta T.length tc)).put (some 25) (.int .i64 (T.length : Int))).put (some 24) (.agg #[.int .i64 t.op, .int .i64 t.a, .int .i64 t.b, .string t.s, .slice ad t.n cpt])).put (some 26) (.slice (some ⟨wA.heap.size, 0, none⟩) 1 1)) wt := by
          rw [unhide hGo, unhide ha0]
          try simp only [List.getElem_toArray, List.getElem_cons_succ, List.getElem_cons_zero, Act.put, List.setIfInBounds_toArray, List.set_cons_zero, List.set_cons_succ]
          refine wpAny_ready (rs := [7]) (by kernel_rfl) (by simp) ?_
          refine AllReady.cons rfl (fun K hK => ?_) AllReady.nil
          have HKK := hide hK
          clear hK
          refine step_append_ex rfl _ _ _ rfl _ _ rfl rfl _ _ (unhide HRun) ?_
          refine unhide HKK _ _ ?_
          clear HKK
          try simp only [List.getElem_toArray, List.getElem_cons_succ, List.getElem_cons_zero, Act.put, List.setIfInBounds_toArray, List.set_cons_zero, List.set_cons_succ]
          refine wpAny_take (i := 8) (v := ?_) rfl (by kernel_rfl) (by kernel_rfl) (by kernel_rfl) (fun _ _ _ h => h) (Or.inl ⟨by rfl, ?_⟩) ?_
          rotate_left
          · (intro w; first | (go_simp; done) | (go_simp; with_reducible rfl))
          try simp only [List.getElem_toArray, List.getElem_cons_succ, List.getElem_cons_zero, Act.put, List.setIfInBounds_toArray, List.set_cons_zero, List.set_cons_succ]
          refine wpAny_take (i := 10) (v := ?_) rfl (by kernel_rfl) (by kernel_rfl) (by kernel_rfl) (fun _ _ _ h => h) (Or.inl ⟨by rfl, ?_⟩) ?_
          rotate_left
          · (intro w; first | (go_simp; done) | (go_simp; with_reducible rfl))
          try simp only [List.getElem_toArray, List.getElem_cons_succ, List.getElem_cons_zero, Act.put, List.setIfInBounds_toArray, List.set_cons_zero, List.set_cons_succ]
          refine wpAny_take (i := 11) (v := ?_) rfl (by kernel_rfl) (by kernel_rfl) (by kernel_rfl) (fun _ _ _ h => h) (Or.inl ⟨by rfl, ?_⟩) ?_
          rotate_left
          · (intro w; first | (go_simp; done) | (go_simp; with_reducible rfl))
          try simp only [List.getElem_toArray, List.getElem_cons_succ, List.getElem_cons_zero, Act.put, List.setIfInBounds_toArray, List.set_cons_zero, List.set_cons_succ]
          refine wpAny_ready (rs := [9, 12]) (by kernel_rfl) (by simp) ?_
          refine AllReady.cons rfl (fun K hK => ?_) (AllReady.cons rfl (fun K hK => ?_) AllReady.nil)
          · have HKK := hide hK
            clear hK
            go_simp
            refine unhide HKK _ _ ?_
            clear HKK
            try simp only [List.getElem_toArray, List.getElem_cons_succ, List.getElem_cons_zero, Act.put, List.setIfInBounds_toArray, List.set_cons_zero, List.set_cons_succ]
            refine wpAny_ready (rs := [12]) (by kernel_rfl) (by simp) ?_
            refine AllReady.cons rfl (fun K hK => ?_) AllReady.nil
            have HKK := hide hK
            clear hK
            go_simp
            refine unhide HKK _ _ ?_
            clear HKK
            try simp only [List.getElem_toArray, List.getElem_cons_succ, List.getElem_cons_zero, Act.put, List.setIfInBounds_toArray, List.set_cons_zero, List.set_cons_succ]
            refine wpAny_done (by kernel_rfl) ?_ _
            go_wp2_with fail
            go_meet
            exact (unhide HW3).symm
          · have HKK := hide hK
            clear hK
            go_simp
            refine unhide HKK _ _ ?_
            clear HKK
            try simp only [List.getElem_toArray, List.getElem_cons_succ, List.getElem_cons_zero, Act.put, List.setIfInBounds_toArray, List.set_cons_zero, List.set_cons_succ]
            refine wpAny_ready (rs := [9]) (by kernel_rfl) (by simp) ?_
            refine AllReady.cons rfl (fun K hK => ?_) AllReady.nil
            have HKK := hide hK
            clear hK
            go_simp
            refine unhide HKK _ _ ?_
            clear HKK
            try simp only [List.getElem_toArray, List.getElem_cons_succ, List.getElem_cons_zero, Act.put, List.setIfInBounds_toArray, List.set_cons_zero, List.set_cons_succ]
            refine wpAny_done (by kernel_rfl) ?_ _
            go_wp2_with fail
            go_meet
            exact (unhide HW3').symm
        have N_3_4 : Go 7 #[true, true, true, true, true, true, false, false, false, false, false, false, false] (((a0.put (some 23) (.slice ta T.length tc)).put (some 25) (.int .i64 (T.length : Int))).put (some 24) (.agg #[.int .i64 t.op, .int .i64 t.a, .int .i64 t.b, .string t.s, .slice ad t.n cpt])) wA.drew := by
          rw [unhide hGo, unhide ha0]
          try simp only [List.getElem_toArray, List.getElem_cons_succ, List.getElem_cons_zero, Act.put, List.setIfInBounds_toArray, List.set_cons_zero, List.set_cons_succ]
          refine wpAny_ready (rs := [6]) (by kernel_rfl) (by simp) ?_
          refine AllReady.cons rfl (fun K hK => ?_) AllReady.nil
          have HKK := hide hK
          clear hK
          go_simp
          refine unhide HKK _ _ ?_
          clear HKK
          try simp only [List.getElem_toArray, List.getElem_cons_succ, List.getElem_cons_zero, Act.put, List.setIfInBounds_toArray, List.set_cons_zero, List.set_cons_succ]
          rw [← unhide hGo]
          exact goTo1 N_3_4_6 (by kernel_rfl) (by kernel_rfl) (by rw [unhide ha0]; kernel_rfl) (unhide HWT).symm
        have N_3_6 : Go 7 #[true, true, true, true, false, true, true, false, false, false, false, false, false] (((a0.put (some 23) (.slice ta T.length tc)).put (some 25) (.int .i64 (T.length : Int))).put (some 26) (.slice (some ⟨wA.heap.size, 0, none⟩) 1 1)) wt := by
          rw [unhide hGo, unhide ha0]
          try simp only [List.getElem_toArray, List.getElem_cons_succ, List.getElem_cons_zero, Act.put, List.setIfInBounds_toArray, List.set_cons_zero, List.set_cons_succ]
          refine wpAny_ready (rs := [4]) (by kernel_rfl) (by simp) ?_
          refine AllReady.cons rfl (fun K hK => ?_) AllReady.nil
          have HKK := hide hK
          clear hK
          rw [unhide HWT]
          go_simp
          refine unhide HKK _ _ ?_
          clear HKK
          try simp only [List.getElem_toArray, List.getElem_cons_succ, List.getElem_cons_zero, Act.put, List.setIfInBounds_toArray, List.set_cons_zero, List.set_cons_succ]
          rw [← unhide hGo]
          exact goTo1 N_3_4_6 (by kernel_rfl) (by kernel_rfl) (by rw [unhide ha0]; kernel_rfl) (unhide HWT).symm
        have N_4_6 : Go 8 #[true, true, true, false, true, false, true, false, false, false, false, false, false] ((a0.put (some 24) (.agg #[.int .i64 t.op, .int .i64 t.a, .int .i64 t.b, .string t.s, .slice ad t.n cpt])).put (some 26) (.slice (some ⟨wA.heap.size, 0, none⟩) 1 1)) wt := by
          rw [unhide hGo, unhide ha0]
          try simp only [List.getElem_toArray, List.getElem_cons_succ, List.getElem_cons_zero, Act.put, List.setIfInBounds_toArray, List.set_cons_zero, List.set_cons_succ]
          refine wpAny_ready (rs := [3]) (by kernel_rfl) (by simp) ?_
          refine AllReady.cons rfl (fun K hK => ?_) AllReady.nil
          have HKK := hide hK
          clear hK
          rw [unhide HWT]
          go_simp
          refine unhide HKK _ _ ?_
          clear HKK
          try simp only [List.getElem_toArray, List.getElem_cons_succ, List.getElem_cons_zero, Act.put, List.setIfInBounds_toArray, List.set_cons_zero, List.set_cons_succ]
          refine wpAny_take (i := 5) (v := ?_) rfl (by kernel_rfl) (by kernel_rfl) (by kernel_rfl) (fun _ _ _ h => h) (Or.inl ⟨by rfl, ?_⟩) ?_
          rotate_left
          · (intro w; first | (go_simp; done) | (go_simp; with_reducible rfl))
          try simp only [List.getElem_toArray, List.getElem_cons_succ, List.getElem_cons_zero, Act.put, List.setIfInBounds_toArray, List.set_cons_zero, List.set_cons_succ]
          rw [← unhide hGo]
          exact goTo1 N_3_4_6 (by kernel_rfl) (by kernel_rfl) (by rw [unhide ha0]; kernel_rfl) (unhide HWT).symm
        have N_3 : Go 8 #[true, true, true, true, false, true, false, false, false, false, false, false, false] ((a0.put (some 23) (.slice ta T.length tc)).put (some 25) (.int .i64 (T.length : Int))) wA.drew := by
          rw [unhide hGo, unhide ha0]
          try simp only [List.getElem_toArray, List.getElem_cons_succ, List.getElem_cons_zero, Act.put, List.setIfInBounds_toArray, List.set_cons_zero, List.set_cons_succ]
          refine wpAny_ready (rs := [4, 6]) (by kernel_rfl) (by simp) ?_
          refine AllReady.cons rfl (fun K hK => ?_) (AllReady.cons rfl (fun K hK => ?_) AllReady.nil)
          · have HKK := hide hK
            clear hK
            go_simp
            refine unhide HKK _ _ ?_
            clear HKK
            try simp only [List.getElem_toArray, List.getElem_cons_succ, List.getElem_cons_zero, Act.put, List.setIfInBounds_toArray, List.set_cons_zero, List.set_cons_succ]
            rw [← unhide hGo]
            exact goTo1 N_3_4 (by kernel_rfl) (by kernel_rfl) (by rw [unhide ha0]; kernel_rfl) rfl
          · have HKK := hide hK
            clear hK
            go_simp
            refine unhide HKK _ _ ?_
            clear HKK
            try simp only [List.getElem_toArray, List.getElem_cons_succ, List.getElem_cons_zero, Act.put, List.setIfInBounds_toArray, List.set_cons_zero, List.set_cons_succ]
            rw [← unhide hGo]
            exact goTo1 N_3_6 (by kernel_rfl) (by kernel_rfl) (by rw [unhide ha0]; kernel_rfl) (unhide HWT).symm
        have N_4 : Go 9 #[true, true, true, false, true, false, false, false, false, false, false, false, false] (a0.put (some 24) (.agg #[.int .i64 t.op, .int .i64 t.a, .int .i64 t.b, .string t.s, .slice ad t.n cpt])) wA.drew := by
          rw [unhide hGo, unhide ha0]
          try simp only [List.getElem_toArray, List.getElem_cons_succ, List.getElem_cons_zero, Act.put, List.setIfInBounds_toArray, List.set_cons_zero, List.set_cons_succ]
          refine wpAny_ready (rs := [3, 6]) (by kernel_rfl) (by simp) ?_
          refine AllReady.cons rfl (fun K hK => ?_) (AllReady.cons rfl (fun K hK => ?_) AllReady.nil)
          · have HKK := hide hK
            clear hK
            go_simp
            refine unhide HKK _ _ ?_
            clear HKK
            try simp only [List.getElem_toArray, List.getElem_cons_succ, List.getElem_cons_zero, Act.put, List.setIfInBounds_toArray, List.set_cons_zero, List.set_cons_succ]
            refine wpAny_take (i := 5) (v := ?_) rfl (by kernel_rfl) (by kernel_rfl) (by kernel_rfl) (fun _ _ _ h => h) (Or.inl ⟨by rfl, ?_⟩) ?_
            rotate_left
            · (intro w; first | (go_simp; done) | (go_simp; with_reducible rfl))
            try simp only [List.getElem_toArray, List.getElem_cons_succ, List.getElem_cons_zero, Act.put, List.setIfInBounds_toArray, List.set_cons_zero, List.set_cons_succ]
            rw [← unhide hGo]
            exact goTo1 N_3_4 (by kernel_rfl) (by kernel_rfl) (by rw [unhide ha0]; kernel_rfl) rfl
          · have HKK := hide hK
            clear hK
            go_simp
            refine unhide HKK _ _ ?_
            clear HKK
            try simp only [List.getElem_toArray, List.getElem_cons_succ, List.getElem_cons_zero, Act.put, List.setIfInBounds_toArray, List.set_cons_zero, List.set_cons_succ]
            rw [← unhide hGo]
            exact goTo1 N_4_6 (by kernel_rfl) (by kernel_rfl) (by rw [unhide ha0]; kernel_rfl) (unhide HWT).symm
        have N_6 : Go 9 #[true, true, true, false, false, false, true, false, false, false, false, false, false] (a0.put (some 26) (.slice (some ⟨wA.heap.size, 0, none⟩) 1 1)) wt := by
          rw [unhide hGo, unhide ha0]
          try simp only [List.getElem_toArray, List.getElem_cons_succ, List.getElem_cons_zero, Act.put, List.setIfInBounds_toArray, List.set_cons_zero, List.set_cons_succ]
          refine wpAny_ready (rs := [3, 4]) (by kernel_rfl) (by simp) ?_
          refine AllReady.cons rfl (fun K hK => ?_) (AllReady.cons rfl (fun K hK => ?_) AllReady.nil)
          · have HKK := hide hK
            clear hK
            rw [unhide HWT]
            go_simp
            refine unhide HKK _ _ ?_
            clear HKK
            try simp only [List.getElem_toArray, List.getElem_cons_succ, List.getElem_cons_zero, Act.put, List.setIfInBounds_toArray, List.set_cons_zero, List.set_cons_succ]
            refine wpAny_take (i := 5) (v := ?_) rfl (by kernel_rfl) (by kernel_rfl) (by kernel_rfl) (fun _ _ _ h => h) (Or.inl ⟨by rfl, ?_⟩) ?_
            rotate_left
            · (intro w; first | (go_simp; done) | (go_simp; with_reducible rfl))
            try simp only [List.getElem_toArray, List.getElem_cons_succ, List.getElem_cons_zero, Act.put, List.setIfInBounds_toArray, List.set_cons_zero, List.set_cons_succ]
            rw [← unhide hGo]
            exact goTo1 N_3_6 (by kernel_rfl) (by kernel_rfl) (by rw [unhide ha0]; kernel_rfl) (unhide HWT).symm
          · have HKK := hide hK
            clear hK
            rw [unhide HWT]
            go_simp
            refine unhide HKK _ _ ?_
            clear HKK
            try simp only [List.getElem_toArray, List.getElem_cons_succ, List.getElem_cons_zero, Act.put, List.setIfInBounds_toArray, List.set_cons_zero, List.set_cons_succ]
            rw [← unhide hGo]
            exact goTo1 N_4_6 (by kernel_rfl) (by kernel_rfl) (by rw [unhide ha0]; kernel_rfl) (unhide HWT).symm
        have N_0 : Go 10 #[true, true, true, false, false, false, false, false, false, false, false, false, false] a0 wA.drew := by
          rw [unhide hGo, unhide ha0]
          try simp only [List.getElem_toArray, List.getElem_cons_succ, List.getElem_cons_zero, Act.put, List.setIfInBounds_toArray, List.set_cons_zero, List.set_cons_succ]
          refine wpAny_ready (rs := [3, 4, 6]) (by kernel_rfl) (by simp) ?_
          refine AllReady.cons rfl (fun K hK => ?_) (AllReady.cons rfl (fun K hK => ?_) (AllReady.cons rfl (fun K hK => ?_) AllReady.nil))
          · have HKK := hide hK
            clear hK
            go_simp
            refine unhide HKK _ _ ?_
            clear HKK
            try simp only [List.getElem_toArray, List.getElem_cons_succ, List.getElem_cons_zero, Act.put, List.setIfInBounds_toArray, List.set_cons_zero, List.set_cons_succ]
            refine wpAny_take (i := 5) (v := ?_) rfl (by kernel_rfl) (by kernel_rfl) (by kernel_rfl) (fun _ _ _ h => h) (Or.inl ⟨by rfl, ?_⟩) ?_
            rotate_left
            · (intro w; first | (go_simp; done) | (go_simp; with_reducible rfl))
            try simp only [List.getElem_toArray, List.getElem_cons_succ, List.getElem_cons_zero, Act.put, List.setIfInBounds_toArray, List.set_cons_zero, List.set_cons_succ]
            rw [← unhide hGo]
            exact goTo1 N_3 (by kernel_rfl) (by kernel_rfl) (by rw [unhide ha0]; kernel_rfl) rfl
          · have HKK := hide hK
            clear hK
            go_simp
            refine unhide HKK _ _ ?_
            clear HKK
            try simp only [List.getElem_toArray, List.getElem_cons_succ, List.getElem_cons_zero, Act.put, List.setIfInBounds_toArray, List.set_cons_zero, List.set_cons_succ]
            rw [← unhide hGo]
            exact goTo1 N_4 (by kernel_rfl) (by kernel_rfl) (by rw [unhide ha0]; kernel_rfl) rfl
          · have HKK := hide hK
            clear hK
            go_simp
            refine unhide HKK _ _ ?_
            clear HKK
            try simp only [List.getElem_toArray, List.getElem_cons_succ, List.getElem_cons_zero, Act.put, List.setIfInBounds_toArray, List.set_cons_zero, List.set_cons_succ]
            rw [← unhide hGo]
            exact goTo1 N_6 (by kernel_rfl) (by kernel_rfl) (by rw [unhide ha0]; kernel_rfl) (unhide HWT).symm
        exact goTo1 N_0 (by kernel_rfl) (by kernel_rfl) rfl rfl
      case rest =>
        have e3 := hcut
        obtain ⟨K1, hK1⟩ : ∃ x, x = ({ K with tv := .slice (some ⟨g, 0, none⟩) (T.length + 1) cp } : SK) := ⟨_, rfl⟩
        rw [← e3, ← hK1] at HS HP
        have hB1 : K1.B = K.B := by rw [hK1]
        have HB1 := hide hB1
        obtain ⟨w4, rfl⟩ : ∃ z, z = wc := ⟨_, rfl⟩
        clear e3 hcut hK1 HW3 HW3' HRun x0 x1 x2 x3 x4 X c1 r0 r1 r2 r3 r4 y0 y1 y2 y3 y4 e1 f1
        go_wp2_with fail
        rw [← hB1]
        refine (last_any w4 base K1 L (T ++ [(t, ad, cpt)]) M (unhide HS) hM (by omega)).mono ?_
        rintro e w5 ⟨⟨g2, c2, hmv, rfl⟩, b5⟩
        have HS4 := hide ((unhide HS).later b5)
        have HP4 := hide (((unhide PA).trans (unhide HP)).trans (Stp.of b5))
        obtain ⟨m, hm⟩ : ∃ m, M.length = m + 1 := ⟨M.length - 1, by omega⟩
        have hm4 := mcells_at M m 2 (by omega) (by omega)
        have hm5 := mcells_at M m 3 (by omega) (by omega)
        have om := (unhide HS4).om
        rw [hmv] at om
        have k2 := om.cellAt (m * 4 + 2) (by omega)
        have k3 := om.cellAt (m * 4 + 3) (by omega)
        have y2 := om.frozenAt (m * 4 + 2)
        have y3 := om.frozenAt (m * 4 + 3)
        rw [hm4] at k2
        rw [hm5] at k3
        simp only [mcell, List.getElem?_cons_succ, List.getElem?_cons_zero] at k2 k3 hm4 hm5
        obtain ⟨S5, P5⟩ := (unhide HS4).mset hmv hm4
        obtain ⟨S6, P6⟩ := S5.mset hmv hm5
        have HS6 := hide S6
        have HP6 := hide (((unhide HP4).trans P5).trans P6)
        have e1 : (M.length - 1) * 4 = m * 4 := by omega
        rw [e1]
        clear S5 S6 P5 P6 om hm4 hm5 hmv HS HP HS4 HP4 b5 e1
        go_wp2
        go_ret
        exact ⟨by rw [hr]; rfl, K1, unhide HB1, unhide HP6, fun _ _ => unhide HS6⟩
end Go.Proofs.YtfopmobopmdahaaGreat
