/- What the model's draw of a net and two marks returns. -/
import Derived.Test.YtbfijmijhfbkdaaDnC
namespace Go.Proofs.Ytbfijmijhfbkdaa
open Go.ChangeShapes Go.WideShapes Go.ChangeAt Go.RowKit Go.Joins
set_option linter.unusedVariables false
set_option linter.unusedSimpArgs false

structure XT (w0 wr : World) (R N X Y : Nat) (m : Int) (g n cap : Nat) (G : Nat → Gt) : Prop where
  p0 : wr.cell? ⟨X, 0, none⟩ = some (.int .i64 m)
  p1 : wr.cell? ⟨X, 1, none⟩ = some (.slice (some ⟨g, 0, none⟩) n cap)
  s0 : wr.cell? ⟨Y, 0, none⟩ = some (.int .i64 0)
  s1 : wr.cell? ⟨Y, 1, none⟩ = some (.slice none 0 0)
  sf : ∀ o, wr.frozen? ⟨Y, o, none⟩ = false
  gt : GtsAt wr (some ⟨g, 0, none⟩) n G
  gl : g < wr.heap.size
  rd : Rd wr R N
  mv : Mov R w0 wr
  ne : X ≠ R ∧ Y ≠ R ∧ X ≠ Y ∧ g ≠ R ∧ g ≠ Y ∧ R < w0.heap.size ∧ w0.heap.size ≤ Y ∧ w0.heap.size ≤ g
theorem XT.mov {w0 wr w' : World} {R N N' X Y : Nat} {m : Int} {g n cap : Nat} {G : Nat → Gt} (h : XT w0 wr R N X Y m g n cap G) (hm : Mov R wr w') (hR : Rd w' R N') : XT w0 w' R N' X Y m g n cap G := by
  have hY := World.block_lt_of_cell? _ _ h.s0
  obtain ⟨e1, e2, e3, e4, e5, e6, e7⟩ := h.ne
  exact ⟨hm.cell h.p0 e1, hm.cell h.p1 e1, hm.cell h.s0 e2, hm.cell h.s1 e2, fun o => frozen_mov hm hY e2 (h.sf o), h.gt.apart (Or.inr (fun b off e => by cases e; exact e4)) hm, Nat.lt_of_lt_of_le h.gl hm.size, hR, h.mv.trans hm, h.ne⟩
/-- A net and two marks. -/
def TwoQ (w : World) (e : Ending) (w' : World) : Prop := ∃ (m : Int) (g n cap : Nat) (G : Nat → Gt) (a b : Int), e = .returned (.tuple #[.agg #[.int .i64 m, .slice (some ⟨g, 0, none⟩) n cap], .int .i64 a, .int .i64 b]) ∧ (-1 ≤ m ∧ m ≤ 9) ∧ n ≤ 13 ∧ GtsAt w' (some ⟨g, 0, none⟩) n G ∧ g < w'.heap.size ∧ w.heap.size ≤ g ∧ WG n G ∧ W64 a ∧ W64 b
theorem XT.ret {w0 wr : World} {R N N' X Y : Nat} {m a b : Int} {g n cap : Nat} {G : Nat → Gt} (h : XT w0 wr R N X Y m g n cap G) (h1 : -1 ≤ m) (h2 : m ≤ 9) (h3 : n ≤ 13) (hw : WG n G) (ha : W64 a) (hb : W64 b) (hN : N ≤ N') :
    TwoQ w0 (.returned (.tuple #[.agg #[.int .i64 m, .slice (some ⟨g, 0, none⟩) n cap], .int .i64 a, .int .i64 b])) ((wr.setCell ⟨Y, 0, none⟩ (.int .i64 m)).setCell ⟨Y, 1, none⟩ (.slice (some ⟨g, 0, none⟩) n cap)) ∧ Rd ((wr.setCell ⟨Y, 0, none⟩ (.int .i64 m)).setCell ⟨Y, 1, none⟩ (.slice (some ⟨g, 0, none⟩) n cap)) R N' ∧ Mov R w0 ((wr.setCell ⟨Y, 0, none⟩ (.int .i64 m)).setCell ⟨Y, 1, none⟩ (.slice (some ⟨g, 0, none⟩) n cap)) := by
  have hv : Mov Y wr ((wr.setCell ⟨Y, 0, none⟩ (.int .i64 m)).setCell ⟨Y, 1, none⟩ (.slice (some ⟨g, 0, none⟩) n cap)) := (Mov.set _ _ _).trans (Mov.set _ _ _)
  obtain ⟨e1, e2, e3, e4, e5, e6, e7, e8⟩ := h.ne
  exact ⟨⟨m, g, n, cap, G, a, b, rfl, ⟨h1, h2⟩, h3, h.gt.apart (Or.inr (fun b off e => by cases e; exact e5)) hv, Nat.lt_of_lt_of_le h.gl hv.size, e8, hw, ha, hb⟩, (h.rd.other hv (by omega)).mono hN, (h.mv.setNew e7 _ _).setNew e7 _ _⟩
set_option maxRecDepth 100000 in
set_option maxHeartbeats 4000000 in
theorem l6Two_any (R N : Nat) (w : World) (hR : Rd w R N) (hN : N ≤ 700000) :
    Calls Try.prog 40 #[.pointer (some ⟨R, 0, none⟩)] w fun e w' => TwoQ w e w' ∧ Rd w' R (N + 300) ∧ Mov R w w' := by
  obtain ⟨wz, hwz⟩ : ∃ wz, wz = w.alloc (.cells #[.int .i64 0, .slice none 0 0] 25) := ⟨_, rfl⟩
  have BZ : Below w.heap.size w wz := by rw [hwz]; exact (Below.refl _ _).alloc (Nat.le_refl _) _
  have s0 : wz.cell? ⟨w.heap.size, 0, none⟩ = some (.int .i64 0) := by rw [hwz]; simp [go_sem]
  have s1 : wz.cell? ⟨w.heap.size, 1, none⟩ = some (.slice none 0 0) := by rw [hwz]; simp [go_sem]
  have sf : ∀ o, wz.frozen? ⟨w.heap.size, o, none⟩ = false := fun o => by rw [hwz]; simp [go_sem]
  have zl : w.heap.size < wz.heap.size := by rw [hwz]; simp
  have rl := hR.lt
  have R1 := hR.below BZ
  have v1 : Mov R w wz := Mov.of BZ
  have HZ := hide hwz
  clear hwz hR BZ
  go_enter Try.func40, Try.ntmps40
  go_wp2_with fail
  rw [← unhide HZ]
  refine (l6Net_any R N 12 _ R1 (by omega) (by omega) (by omega)).mono ?_
  rintro e w2 ⟨m0, ad0, n0, c0, G0, rfl, m00, m04, hn0, gt0, nn0, sp0, lo0, wg0, R2, v2⟩
  go_wp2_with fail
  refine (l6Bent_any R _ m0 ad0 n0 c0 G0 _ R2 (by omega) gt0 nn0 sp0 wg0 (by omega) (by omega) (by omega)).mono ?_
  rintro e w3 ⟨m, g, n, cap, G, rfl, mm1, mm2, hn, gt, gl, gb, wg, R3, v3⟩
  have v23 := v2.trans v3
  have hm9 : m ≤ 9 := by omega
  have HWG := hide wg
  have h0 : Hid (XT w (w3.alloc (.cells #[.int .i64 m, .slice (some ⟨g, 0, none⟩) n cap] 25)) R (N + 200 + 3) w3.heap.size w.heap.size m g n cap G) := by
    have ba : Below w3.heap.size w3 (w3.alloc (.cells #[.int .i64 m, .slice (some ⟨g, 0, none⟩) n cap] 25)) := (Below.refl _ _).alloc (Nat.le_refl _) _
    have y3 : w.heap.size < w3.heap.size := Nat.lt_of_lt_of_le zl v23.size
    have y2 := v2.size
    have rl3 := R3.lt
    exact ⟨by simp [go_sem], by simp [go_sem], cell_later ba (v23.cell s0 (by simp only; omega)), cell_later ba (v23.cell s1 (by simp only; omega)), fun o => (ba.frozen (p := ⟨w.heap.size, o, none⟩) y3).trans (frozen_mov v23 zl (by omega) (sf o)), gt.later ba, Nat.lt_of_lt_of_le gl ba.size, R3.below ba, (v1.trans v23).from ba, by omega⟩
  clear s0 s1 sf gt0 gt wg wg0 R1 R2 R3 v2 v3 v23 v1 gl gb nn0 sp0 lo0 HZ zl
  obtain ⟨X, hX⟩ : ∃ X, X = w3.heap.size := ⟨_, rfl⟩
  obtain ⟨Y, hY⟩ : ∃ Y, Y = w.heap.size := ⟨_, rfl⟩
  rw [← hX] at h0
  rw [show XT w _ R _ X w.heap.size m g n cap G = XT w _ R _ X Y m g n cap G by rw [hY]] at h0
  have kp0 := (unhide h0).p0
  have kp1 := (unhide h0).p1
  go_wp2_with fail
  (try rw [← hX])
  (try rw [← hY])
  generalize hwb : w3.alloc (.cells #[.int .i64 m, .slice (some ⟨g, 0, none⟩) n cap] 25) = wb at *
  clear hwb kp0 kp1 hX hY
  refine (l6Lit_any R _ m (some ⟨g, 0, none⟩) n cap _ (unhide h0).rd (by omega) (by omega) (by omega) (by omega)).mono ?_
  rintro e w4 ⟨a, rfl, ha, _, R4, v4⟩
  have HR := hide ((unhide h0).mov v4 R4)
  clear h0 v4 R4
  have kp0 := (unhide HR).p0
  have kp1 := (unhide HR).p1
  go_wp2_with fail
  refine (l6Lit_any R _ m (some ⟨g, 0, none⟩) n cap _ (unhide HR).rd (by omega) (by omega) (by omega) (by omega)).mono ?_
  rintro e w5 ⟨b, rfl, hb, _, R5, v5⟩
  clear kp0 kp1
  have HR := hide ((unhide HR).mov v5 R5)
  clear v5 R5
  go_wp2_with fail
  refine (pick_any R _ 30 _ (unhide HR).rd (by omega) (by omega) (by omega)).mono ?_
  rintro e w6 ⟨q, rfl, q0, q1, R6, v6⟩
  have HR := hide ((unhide HR).mov v6 R6)
  clear v6 R6
  have hXY := (unhide HR).ne.2.2.1
  have hYX := hXY.symm
  have hA : W64 a := by unfold W64; omega
  have hB : W64 b := by unfold W64; omega
  clear ha hb
  by_cases c0 : q = 0
  · subst c0
    have zn : w6.heap.size ≠ R := by have := (unhide HR).rd.lt; omega
    have bt : Below w6.heap.size w6 (w6.alloc (.cells #[.int .i64 (0), .int .i64 (40), .int .i64 (-40), .int .i64 (-9223372036854775808), .int .i64 (9223372036854775807)] 3)) := (Below.refl _ _).alloc (Nat.le_refl _) _
    have zt : ∀ i, i < 5 → (w6.alloc (.cells #[.int .i64 (0), .int .i64 (40), .int .i64 (-40), .int .i64 (-9223372036854775808), .int .i64 (9223372036854775807)] 3)).cell? ⟨w6.heap.size, i, none⟩ = some (.int .i64 (([0, 40, -40, -9223372036854775808, 9223372036854775807] : List Int).getD i 0)) := fun i hi => rowN w6 [0, 40, -40, -9223372036854775808, 9223372036854775807] 3 i hi
    have HR := hide ((unhide HR).mov (Mov.of bt) ((unhide HR).rd.below bt))
    clear bt
    go_wp2_with fail
    refine (num_any R _ w6.heap.size 5 [0, 40, -40, -9223372036854775808, 9223372036854775807] _ rfl (unhide HR).rd (by omega) zn (by omega) (by omega) zt).mono ?_
    rintro e w7 ⟨j, hj, rfl, R7, v7⟩
    have hz : W64 (([0, 40, -40, -9223372036854775808, 9223372036854775807] : List Int).getD j 0) := by
      have : j = 0 ∨ j = 1 ∨ j = 2 ∨ j = 3 ∨ j = 4 := by omega
      rcases this with rfl | rfl | rfl | rfl | rfl <;> (simp only [List.getD_cons_zero, List.getD_cons_succ]; unfold W64; omega)
    generalize ([0, 40, -40, -9223372036854775808, 9223372036854775807] : List Int).getD j 0 = z at *
    have HR := hide ((unhide HR).mov v7 R7)
    clear v7 R7 zt zn
    have kp0 := (unhide HR).p0
    have kp1 := (unhide HR).p1
    have ks0 := (unhide HR).s0
    have ks1 := (unhide HR).s1
    have kf0 := (unhide HR).sf 0
    have kf1 := (unhide HR).sf 1
    go_wp2
    refine bodyPost_ret (v := .tuple #[.agg #[.int .i64 m, .slice (some ⟨g, 0, none⟩) n cap], .int .i64 z, .int .i64 b]) (by simp [results, Try.results40, go_sem, ks0, ks1]) rfl ?_
    exact (unhide HR).ret mm1 hm9 (by omega) (unhide HWG) hz hB (by omega)
  · have k0 : (q == 0) = false := by simp [c0]
    by_cases c1 : q = 1
    · subst c1
      have zn : w6.heap.size ≠ R := by have := (unhide HR).rd.lt; omega
      have bt : Below w6.heap.size w6 (w6.alloc (.cells #[.int .i64 (0), .int .i64 (40), .int .i64 (-40), .int .i64 (-9223372036854775808), .int .i64 (9223372036854775807)] 3)) := (Below.refl _ _).alloc (Nat.le_refl _) _
      have zt : ∀ i, i < 5 → (w6.alloc (.cells #[.int .i64 (0), .int .i64 (40), .int .i64 (-40), .int .i64 (-9223372036854775808), .int .i64 (9223372036854775807)] 3)).cell? ⟨w6.heap.size, i, none⟩ = some (.int .i64 (([0, 40, -40, -9223372036854775808, 9223372036854775807] : List Int).getD i 0)) := fun i hi => rowN w6 [0, 40, -40, -9223372036854775808, 9223372036854775807] 3 i hi
      have HR := hide ((unhide HR).mov (Mov.of bt) ((unhide HR).rd.below bt))
      clear bt
      go_wp2_with fail
      refine (num_any R _ w6.heap.size 5 [0, 40, -40, -9223372036854775808, 9223372036854775807] _ rfl (unhide HR).rd (by omega) zn (by omega) (by omega) zt).mono ?_
      rintro e w7 ⟨j, hj, rfl, R7, v7⟩
      have hz : W64 (([0, 40, -40, -9223372036854775808, 9223372036854775807] : List Int).getD j 0) := by
        have : j = 0 ∨ j = 1 ∨ j = 2 ∨ j = 3 ∨ j = 4 := by omega
        rcases this with rfl | rfl | rfl | rfl | rfl <;> (simp only [List.getD_cons_zero, List.getD_cons_succ]; unfold W64; omega)
      generalize ([0, 40, -40, -9223372036854775808, 9223372036854775807] : List Int).getD j 0 = z at *
      have HR := hide ((unhide HR).mov v7 R7)
      clear v7 R7 zt zn
      have kp0 := (unhide HR).p0
      have kp1 := (unhide HR).p1
      have ks0 := (unhide HR).s0
      have ks1 := (unhide HR).s1
      have kf0 := (unhide HR).sf 0
      have kf1 := (unhide HR).sf 1
      go_wp2
      refine bodyPost_ret (v := .tuple #[.agg #[.int .i64 m, .slice (some ⟨g, 0, none⟩) n cap], .int .i64 a, .int .i64 z]) (by simp [results, Try.results40, go_sem, ks0, ks1]) rfl ?_
      exact (unhide HR).ret mm1 hm9 (by omega) (unhide HWG) hA hz (by omega)
    · have k1 : (q == 1) = false := by simp [c1]
      have kp0 := (unhide HR).p0
      have kp1 := (unhide HR).p1
      have ks0 := (unhide HR).s0
      have ks1 := (unhide HR).s1
      have kf0 := (unhide HR).sf 0
      have kf1 := (unhide HR).sf 1
      go_wp2
      refine bodyPost_ret (v := .tuple #[.agg #[.int .i64 m, .slice (some ⟨g, 0, none⟩) n cap], .int .i64 a, .int .i64 b]) (by simp [results, Try.results40, go_sem, ks0, ks1]) rfl ?_
      exact (unhide HR).ret mm1 hm9 (by omega) (unhide HWG) hA hB (by omega)
set_option maxRecDepth 100000 in
set_option maxHeartbeats 2000000 in
theorem drawNetAnd_any (a : Option Addr) (l c : Nat) (w : World) (hl : l ≤ 1048576) (hc : l ≤ c) (hcm : c ≤ maxLen) (hby : Byts w w.heap.size a l) :
    Calls Try.prog 15 #[.slice a l c] w fun e w' => TwoQ w e w' ∧ Below w.heap.size w w' := by
  obtain ⟨wz, hwz⟩ : ∃ wz, wz = w.alloc (.cells #[.int .i64 0, .slice none 0 0] 25) := ⟨_, rfl⟩
  have BZ : Below w.heap.size w wz := by rw [hwz]; exact (Below.refl _ _).alloc (Nat.le_refl _) _
  have s0 : wz.cell? ⟨w.heap.size, 0, none⟩ = some (.int .i64 0) := by rw [hwz]; simp [go_sem]
  have s1 : wz.cell? ⟨w.heap.size, 1, none⟩ = some (.slice none 0 0) := by rw [hwz]; simp [go_sem]
  have sf : ∀ o, wz.frozen? ⟨w.heap.size, o, none⟩ = false := fun o => by rw [hwz]; simp [go_sem]
  have zl : w.heap.size < wz.heap.size := by rw [hwz]; simp
  have hbz := hby.up BZ
  have HZ := hide hwz
  clear hwz hby
  go_enter Try.func15, Try.ntmps15
  go_wp2_with fail
  rw [← unhide HZ]
  refine (open_any _ _ _ _ hl hc hcm hbz).mono ?_
  rintro e w1 ⟨rfl, R1, b1⟩
  have B1 := BZ.trans (b1.mono BZ.size)
  replace s0 := cell_later b1 s0
  replace s1 := cell_later b1 s1
  have sf1 : ∀ o, w1.frozen? ⟨w.heap.size, o, none⟩ = false := fun o => (b1.frozen (p := ⟨w.heap.size, o, none⟩) zl).trans (sf o)
  have yl : w.heap.size < w1.heap.size := Nat.lt_of_lt_of_le zl b1.size
  go_wp2_with fail
  refine (l6Two_any wz.heap.size 0 _ R1 (by omega)).mono ?_
  rintro e w2 ⟨⟨m, g, n, cap, G, x, y, rfl, hm, hn, gt, gl, gb, wg, wx, wy⟩, R2, v2⟩
  replace s0 := v2.cell s0 (by simp only; omega)
  replace s1 := v2.cell s1 (by simp only; omega)
  have kf0 := frozen_mov v2 yl (by omega) (sf1 0)
  have kf1 := frozen_mov v2 yl (by omega) (sf1 1)
  have hgY : g ≠ w.heap.size := by omega
  have HGT := hide gt
  have B2 := B1.trans (v2.below (by omega) B1.size)
  have hb1 := B1.size
  clear sf sf1 gt R1 R2 v2 HZ hbz b1 B1 BZ
  go_wp2
  refine bodyPost_ret (v := .tuple #[.agg #[.int .i64 m, .slice (some ⟨g, 0, none⟩) n cap], .int .i64 x, .int .i64 y]) (by simp [results, Try.results15, go_sem, s0, s1]) rfl ?_
  have hv : Mov w.heap.size w2 ((w2.setCell ⟨w.heap.size, 0, none⟩ (.int .i64 m)).setCell ⟨w.heap.size, 1, none⟩ (.slice (some ⟨g, 0, none⟩) n cap)) := (Mov.set _ _ _).trans (Mov.set _ _ _)
  exact ⟨⟨m, g, n, cap, G, x, y, rfl, hm, hn, (unhide HGT).apart (Or.inr (fun b off e => by cases e; exact hgY)) hv, Nat.lt_of_lt_of_le gl hv.size, by omega, wg, wx, wy⟩, B2.trans (hv.below (Nat.le_refl _) B2.size)⟩
set_option maxRecDepth 100000 in
set_option maxHeartbeats 2000000 in
theorem drawNetXor_any (a : Option Addr) (l c : Nat) (w : World) (hl : l ≤ 1048576) (hc : l ≤ c) (hcm : c ≤ maxLen) (hby : Byts w w.heap.size a l) :
    Calls Try.prog 21 #[.slice a l c] w fun e w' => TwoQ w e w' ∧ Below w.heap.size w w' := by
  obtain ⟨wz, hwz⟩ : ∃ wz, wz = w.alloc (.cells #[.int .i64 0, .slice none 0 0] 25) := ⟨_, rfl⟩
  have BZ : Below w.heap.size w wz := by rw [hwz]; exact (Below.refl _ _).alloc (Nat.le_refl _) _
  have s0 : wz.cell? ⟨w.heap.size, 0, none⟩ = some (.int .i64 0) := by rw [hwz]; simp [go_sem]
  have s1 : wz.cell? ⟨w.heap.size, 1, none⟩ = some (.slice none 0 0) := by rw [hwz]; simp [go_sem]
  have sf : ∀ o, wz.frozen? ⟨w.heap.size, o, none⟩ = false := fun o => by rw [hwz]; simp [go_sem]
  have zl : w.heap.size < wz.heap.size := by rw [hwz]; simp
  have hbz := hby.up BZ
  have HZ := hide hwz
  clear hwz hby
  go_enter Try.func21, Try.ntmps21
  go_wp2_with fail
  rw [← unhide HZ]
  refine (open_any _ _ _ _ hl hc hcm hbz).mono ?_
  rintro e w1 ⟨rfl, R1, b1⟩
  have B1 := BZ.trans (b1.mono BZ.size)
  replace s0 := cell_later b1 s0
  replace s1 := cell_later b1 s1
  have sf1 : ∀ o, w1.frozen? ⟨w.heap.size, o, none⟩ = false := fun o => (b1.frozen (p := ⟨w.heap.size, o, none⟩) zl).trans (sf o)
  have yl : w.heap.size < w1.heap.size := Nat.lt_of_lt_of_le zl b1.size
  go_wp2_with fail
  refine (l6Two_any wz.heap.size 0 _ R1 (by omega)).mono ?_
  rintro e w2 ⟨⟨m, g, n, cap, G, x, y, rfl, hm, hn, gt, gl, gb, wg, wx, wy⟩, R2, v2⟩
  replace s0 := v2.cell s0 (by simp only; omega)
  replace s1 := v2.cell s1 (by simp only; omega)
  have kf0 := frozen_mov v2 yl (by omega) (sf1 0)
  have kf1 := frozen_mov v2 yl (by omega) (sf1 1)
  have hgY : g ≠ w.heap.size := by omega
  have HGT := hide gt
  have B2 := B1.trans (v2.below (by omega) B1.size)
  have hb1 := B1.size
  clear sf sf1 gt R1 R2 v2 HZ hbz b1 B1 BZ
  go_wp2
  refine bodyPost_ret (v := .tuple #[.agg #[.int .i64 m, .slice (some ⟨g, 0, none⟩) n cap], .int .i64 x, .int .i64 y]) (by simp [results, Try.results21, go_sem, s0, s1]) rfl ?_
  have hv : Mov w.heap.size w2 ((w2.setCell ⟨w.heap.size, 0, none⟩ (.int .i64 m)).setCell ⟨w.heap.size, 1, none⟩ (.slice (some ⟨g, 0, none⟩) n cap)) := (Mov.set _ _ _).trans (Mov.set _ _ _)
  exact ⟨⟨m, g, n, cap, G, x, y, rfl, hm, hn, (unhide HGT).apart (Or.inr (fun b off e => by cases e; exact hgY)) hv, Nat.lt_of_lt_of_le gl hv.size, by omega, wg, wx, wy⟩, B2.trans (hv.below (Nat.le_refl _) B2.size)⟩
end Go.Proofs.Ytbfijmijhfbkdaa
