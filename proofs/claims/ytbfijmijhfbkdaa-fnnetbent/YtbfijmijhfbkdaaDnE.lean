/- What the model's draw of two nets, one or nearly, returns. -/
import Derived.Test.YtbfijmijhfbkdaaDnC
namespace Go.Proofs.Ytbfijmijhfbkdaa
open Go.ChangeShapes Go.WideShapes Go.ChangeAt Go.RowKit Go.Joins
set_option linter.unusedVariables false
set_option linter.unusedSimpArgs false

/-- The net lies in its box X; the results' boxes Y and Y + 1. -/
structure XS (w0 wr : World) (R N X Y : Nat) (m : Int) (ad : Option Addr) (n cap : Nat) (G : Nat → Gt) : Prop where
  p0 : wr.cell? ⟨X, 0, none⟩ = some (.int .i64 m)
  p1 : wr.cell? ⟨X, 1, none⟩ = some (.slice ad n cap)
  s0 : wr.cell? ⟨Y, 0, none⟩ = some (.int .i64 0)
  s1 : wr.cell? ⟨Y, 1, none⟩ = some (.slice none 0 0)
  t0 : wr.cell? ⟨Y + 1, 0, none⟩ = some (.int .i64 0)
  t1 : wr.cell? ⟨Y + 1, 1, none⟩ = some (.slice none 0 0)
  sf : ∀ o, wr.frozen? ⟨Y, o, none⟩ = false
  tf : ∀ o, wr.frozen? ⟨Y + 1, o, none⟩ = false
  gt : GtsAt wr ad n G
  lo : ∀ p, ad = some p → p.block < wr.heap.size ∧ p.block ≠ R ∧ p.block ≠ Y ∧ p.block ≠ Y + 1
  rd : Rd wr R N
  be : Below w0.heap.size w0 wr
  ne : X ≠ R ∧ Y ≠ R ∧ Y + 1 ≠ R ∧ X ≠ Y ∧ X ≠ Y + 1 ∧ w0.heap.size ≤ R ∧ w0.heap.size ≤ Y
theorem XS.drew {w0 wr : World} {R N X Y : Nat} {m : Int} {ad : Option Addr} {n cap : Nat} {G : Nat → Gt} (h : XS w0 wr R N X Y m ad n cap G) : XS w0 wr.drew R N X Y m ad n cap G := ⟨h.p0, h.p1, h.s0, h.s1, h.t0, h.t1, h.sf, h.tf, h.gt, h.lo, h.rd, h.be.drew, h.ne⟩
theorem XS.mov {w0 wr w' : World} {R N N' X Y : Nat} {m : Int} {ad : Option Addr} {n cap : Nat} {G : Nat → Gt} (h : XS w0 wr R N X Y m ad n cap G) (hm : Mov R wr w') (hR : Rd w' R N') : XS w0 w' R N' X Y m ad n cap G := by
  have hY := World.block_lt_of_cell? _ _ h.s0
  have hY1 := World.block_lt_of_cell? _ _ h.t0
  obtain ⟨e1, e2, e3, e4, e5, e6, e7⟩ := h.ne
  exact ⟨hm.cell h.p0 e1, hm.cell h.p1 e1, hm.cell h.s0 e2, hm.cell h.s1 e2, hm.cell h.t0 e3, hm.cell h.t1 e3, fun o => frozen_mov hm hY e2 (h.sf o), fun o => frozen_mov hm hY1 e3 (h.tf o), h.gt.apart (Or.inr (fun b off e => (h.lo _ e).2.1)) hm, fun p hp => ⟨Nat.lt_of_lt_of_le (h.lo p hp).1 hm.size, (h.lo p hp).2⟩, hR, h.be.trans (hm.below e6 h.be.size), h.ne⟩
set_option maxRecDepth 100000 in
set_option maxHeartbeats 4000000 in
theorem drawNetSame_any (a : Option Addr) (l c : Nat) (w : World) (hl : l ≤ 1048576) (hc : l ≤ c) (hcm : c ≤ maxLen) (hby : Byts w w.heap.size a l) :
    Calls Try.prog 23 #[.slice a l c] w fun e w' => ∃ (m : Int) (ad : Option Addr) (n cap : Nat) (G : Nat → Gt) (m' : Int) (g' n' cap' : Nat) (G' : Nat → Gt), e = .returned (.tuple #[.agg #[.int .i64 m, .slice ad n cap], .agg #[.int .i64 m', .slice (some ⟨g', 0, none⟩) n' cap']]) ∧ (0 ≤ m ∧ m ≤ 4) ∧ n ≤ 12 ∧ n' ≤ 20 ∧ (ad = none → n = 0 ∧ cap = 0) ∧ (∀ p, ad = some p → p.spot = none ∧ p.block < w'.heap.size) ∧ GtsAt w' ad n G ∧ WG n G ∧ GtsAt w' (some ⟨g', 0, none⟩) n' G' ∧ WG n' G' ∧ Below w.heap.size w w' := by
  obtain ⟨wz, hwz⟩ : ∃ wz, wz = (w.alloc (.cells #[.int .i64 0, .slice none 0 0] 25)).alloc (.cells #[.int .i64 0, .slice none 0 0] 25) := ⟨_, rfl⟩
  have BZ : Below w.heap.size w wz := by rw [hwz]; exact ((Below.refl _ _).alloc (Nat.le_refl _) _).alloc (by simp) _
  have s0 : wz.cell? ⟨w.heap.size, 0, none⟩ = some (.int .i64 0) := by rw [hwz]; simp [go_sem]
  have s1 : wz.cell? ⟨w.heap.size, 1, none⟩ = some (.slice none 0 0) := by rw [hwz]; simp [go_sem]
  have t0 : wz.cell? ⟨w.heap.size + 1, 0, none⟩ = some (.int .i64 0) := by rw [hwz]; simp [go_sem]
  have t1 : wz.cell? ⟨w.heap.size + 1, 1, none⟩ = some (.slice none 0 0) := by rw [hwz]; simp [go_sem]
  have sf : ∀ o, wz.frozen? ⟨w.heap.size, o, none⟩ = false := fun o => by rw [hwz]; simp [go_sem]
  have tf : ∀ o, wz.frozen? ⟨w.heap.size + 1, o, none⟩ = false := fun o => by rw [hwz]; simp [go_sem]
  have zl : w.heap.size + 1 < wz.heap.size := by rw [hwz]; simp
  have hbz := hby.up BZ
  have HZ := hide hwz
  clear hwz hby
  go_enter Try.func23, Try.ntmps23
  go_wp2_with fail
  rw [← unhide HZ]
  refine (open_any _ _ _ _ hl hc hcm hbz).mono ?_
  rintro e w1 ⟨rfl, R1, b1⟩
  have V1 : Below w.heap.size w w1 := BZ.trans (b1.mono BZ.size)
  replace s0 := cell_later b1 s0
  replace s1 := cell_later b1 s1
  replace t0 := cell_later b1 t0
  replace t1 := cell_later b1 t1
  replace sf : ∀ o, w1.frozen? ⟨w.heap.size, o, none⟩ = false := fun o => (b1.frozen (p := ⟨w.heap.size, o, none⟩) (by simp only; omega)).trans (sf o)
  replace tf : ∀ o, w1.frozen? ⟨w.heap.size + 1, o, none⟩ = false := fun o => (b1.frozen (p := ⟨w.heap.size + 1, o, none⟩) zl).trans (tf o)
  have hs1 := V1.size
  obtain ⟨R, hR⟩ : ∃ R, R = wz.heap.size := ⟨_, rfl⟩
  rw [← hR] at R1 zl ⊢
  clear b1 hbz HZ hR BZ
  have rl1 := R1.lt
  go_wp2_with fail
  refine (l6Net_any R 0 10 _ R1 (by omega) (by omega) (by omega)).mono ?_
  rintro e w3 ⟨m, ad, n, cap, G, rfl, mm0, mm4, hn, gt, nn, sp, lo, wg, R3, v3⟩
  have HWG := hide wg
  have HSP := hide sp
  have h0 : Hid (XS w (w3.alloc (.cells #[.int .i64 m, .slice ad n cap] 25)) R (0 + 200) w3.heap.size w.heap.size m ad n cap G) := by
    have ba : Below w3.heap.size w3 (w3.alloc (.cells #[.int .i64 m, .slice ad n cap] 25)) := (Below.refl _ _).alloc (Nat.le_refl _) _
    have y3 : w.heap.size + 1 < w3.heap.size := Nat.lt_of_lt_of_le (by omega) v3.size
    have rl3 := R3.lt
    exact ⟨by simp [go_sem], by simp [go_sem], cell_later ba (v3.cell s0 (by simp only; omega)), cell_later ba (v3.cell s1 (by simp only; omega)), cell_later ba (v3.cell t0 (by simp only; omega)), cell_later ba (v3.cell t1 (by simp only; omega)), fun o => (ba.frozen (p := ⟨w.heap.size, o, none⟩) (by simp only; omega)).trans (frozen_mov v3 (by omega) (by omega) (sf o)), fun o => (ba.frozen (p := ⟨w.heap.size + 1, o, none⟩) y3).trans (frozen_mov v3 (by omega) (by omega) (tf o)), gt.later ba, fun p hp => ⟨Nat.lt_of_lt_of_le (lo p hp).1 ba.size, by have := (lo p hp).2; omega⟩, R3.below ba, (V1.trans (v3.below (by omega) hs1)).trans (ba.mono (by omega)), by omega⟩
  have HLO := hide (show ∀ p, ad = some p → p.block < w3.heap.size from fun p hp => (lo p hp).1)
  clear s0 s1 t0 t1 sf tf gt wg R1 R3 v3 V1 sp lo rl1 hs1
  obtain ⟨X, hX⟩ : ∃ X, X = w3.heap.size := ⟨_, rfl⟩
  obtain ⟨Y, hY⟩ : ∃ Y, Y = w.heap.size := ⟨_, rfl⟩
  rw [← hX] at h0
  rw [show XS w _ R _ X w.heap.size m ad n cap G = XS w _ R _ X Y m ad n cap G by rw [hY]] at h0
  have hXY := (unhide h0).ne.2.2.2.1
  have hXY1 := (unhide h0).ne.2.2.2.2.1
  have hYX := hXY.symm
  have hYX1 := hXY1.symm
  have kp0 := (unhide h0).p0
  have kp1 := (unhide h0).p1
  go_wp2
  refine wp_region_held_drew (S := fun w' => w'.cell? ⟨X, 0, none⟩ = some (.int .i64 m) ∧ w'.cell? ⟨X, 1, none⟩ = some (.slice ad n cap)) (by kernel_rfl) ?_ (fun hHeld => ?_)
  · exact ⟨kp0, kp1⟩
  obtain ⟨wd, hwd⟩ : ∃ x, x = (w3.alloc (.cells #[.int .i64 m, .slice ad n cap] 25)).drew := ⟨_, rfl⟩
  have HR := hide ((unhide h0).drew)
  rw [← hwd] at HR ⊢
  (try rw [← hwd] at hHeld)
  (try rw [← hX])
  (try rw [← hY])
  clear hwd h0 hX hY kp0 kp1
  have kp0 := (unhide HR).p0
  have kp1 := (unhide HR).p1
  have ks0 := (unhide HR).s0
  have ks1 := (unhide HR).s1
  have kt0 := (unhide HR).t0
  have kt1 := (unhide HR).t1
  have kf0 := (unhide HR).sf 0
  have kf1 := (unhide HR).sf 1
  have kg0 := (unhide HR).tf 0
  have kg1 := (unhide HR).tf 1
  refine wpAnyH_take (i := 0) (v := ?_) rfl (by kernel_rfl) (by kernel_rfl) (by kernel_rfl) (fun _ _ _ h => h) (Or.inl ⟨by rfl, ?_⟩) (by assumption) ?_
  rotate_left
  · (intro w hSw; (try dsimp only at hSw); first | (go_simp; done) | (go_simp; with_reducible rfl))
  try simp only [List.getElem_toArray, List.getElem_cons_succ, List.getElem_cons_zero, Act.put, List.setIfInBounds_toArray, List.set_cons_zero, List.set_cons_succ]
  refine wpAnyH_take (i := 1) (v := ?_) rfl (by kernel_rfl) (by kernel_rfl) (by kernel_rfl) (fun _ _ _ h => h) (Or.inl ⟨by rfl, ?_⟩) (by assumption) ?_
  rotate_left
  · (intro w hSw; (try dsimp only at hSw); first | (go_simp; done) | (go_simp; with_reducible rfl))
  try simp only [List.getElem_toArray, List.getElem_cons_succ, List.getElem_cons_zero, Act.put, List.setIfInBounds_toArray, List.set_cons_zero, List.set_cons_succ]
  refine wpAnyH_take (i := 2) (v := ?_) rfl (by kernel_rfl) (by kernel_rfl) (by kernel_rfl) (fun _ _ _ h => h) (Or.inl ⟨by rfl, ?_⟩) (by assumption) ?_
  rotate_left
  · (intro w hSw; (try dsimp only at hSw); first | (go_simp; done) | (go_simp; with_reducible rfl))
  try simp only [List.getElem_toArray, List.getElem_cons_succ, List.getElem_cons_zero, Act.put, List.setIfInBounds_toArray, List.set_cons_zero, List.set_cons_succ]
  refine wpAnyH_take (i := 3) (v := ?_) rfl (by kernel_rfl) (by kernel_rfl) (by kernel_rfl) (fun _ _ _ h => h) (Or.inl ⟨by rfl, ?_⟩) (by assumption) ?_
  rotate_left
  · (intro w hSw; (try dsimp only at hSw); first | (go_simp; done) | (go_simp; with_reducible rfl))
  try simp only [List.getElem_toArray, List.getElem_cons_succ, List.getElem_cons_zero, Act.put, List.setIfInBounds_toArray, List.set_cons_zero, List.set_cons_succ]
  refine wpAnyH_take (i := 4) (v := ?_) rfl (by kernel_rfl) (by kernel_rfl) (by kernel_rfl) (fun _ _ _ h => h) (Or.inl ⟨by rfl, ?_⟩) (by assumption) ?_
  rotate_left
  · (intro w hSw; (try dsimp only at hSw); first | (go_simp; done) | (go_simp; with_reducible rfl))
  try simp only [List.getElem_toArray, List.getElem_cons_succ, List.getElem_cons_zero, Act.put, List.setIfInBounds_toArray, List.set_cons_zero, List.set_cons_succ]
  refine wpAnyH_ready (rs := [5]) (by kernel_rfl) (by simp) ?_
  refine AllReadyH.cons rfl (fun K hK => ?_) AllReadyH.nil
  go_simp
  refine (l6Bent_any R _ m ad n cap G _ (by exact (unhide HR).rd) (by omega) (unhide HR).gt nn (unhide HSP) (unhide HWG) (by omega) (by omega) (by omega)).mono ?_
  rintro e w5 ⟨m5, g5, n5, c5, G5, rfl, a5, b5, d5, gt5, gl5, gb5, wg5, R5, v5⟩
  have hg5 : g5 ≠ R ∧ g5 ≠ Y ∧ g5 ≠ Y + 1 := by have h1 := (unhide HR).rd.lt; have h2 := World.block_lt_of_cell? _ _ (unhide HR).t0; simp only at h2; (try have h3 : wd.heap.size ≤ g5 := gb5); omega
  clear kp0 kp1 ks0 ks1 kt0 kt1 kf0 kf1 kg0 kg1
  have HR := hide ((unhide HR).mov (by exact v5) R5)
  clear v5 R5
  have kp0 := (unhide HR).p0
  have kp1 := (unhide HR).p1
  have ks0 := (unhide HR).s0
  have ks1 := (unhide HR).s1
  have kt0 := (unhide HR).t0
  have kt1 := (unhide HR).t1
  have kf0 := (unhide HR).sf 0
  have kf1 := (unhide HR).sf 1
  have kg0 := (unhide HR).tf 0
  have kg1 := (unhide HR).tf 1
  go_wp2_with fail
  refine hK.out _ _ ?_ (fun hHeld => ?_)
  · exact ⟨kp0, kp1⟩
  clear hK K
  try simp only [List.getElem_toArray, List.getElem_cons_succ, List.getElem_cons_zero, Act.put, List.setIfInBounds_toArray, List.set_cons_zero, List.set_cons_succ]
  refine wpAnyH_ready (rs := [6]) (by kernel_rfl) (by simp) ?_
  refine AllReadyH.cons rfl (fun K hK => ?_) AllReadyH.nil
  go_simp
  refine (l6Bent_any R _ m5 (some ⟨g5, 0, none⟩) n5 c5 G5 _ (by exact (unhide HR).rd) (by omega) gt5 (fun h => by cases h) (fun p h => by cases h; rfl) wg5 (by omega) (by omega) (by omega)).mono ?_
  rintro e w6 ⟨m6, g6, n6, c6, G6, rfl, a6, b6, d6, gt6, gl6, gb6, wg6, R6, v6⟩
  have hg6 : g6 ≠ R ∧ g6 ≠ Y ∧ g6 ≠ Y + 1 := by have h1 := (unhide HR).rd.lt; have h2 := World.block_lt_of_cell? _ _ (unhide HR).t0; simp only at h2; (try have h3 : wd.heap.size ≤ g6 := gb6); omega
  clear kp0 kp1 ks0 ks1 kt0 kt1 kf0 kf1 kg0 kg1
  have HR := hide ((unhide HR).mov (by exact v6) R6)
  clear v6 R6
  have kp0 := (unhide HR).p0
  have kp1 := (unhide HR).p1
  have ks0 := (unhide HR).s0
  have ks1 := (unhide HR).s1
  have kt0 := (unhide HR).t0
  have kt1 := (unhide HR).t1
  have kf0 := (unhide HR).sf 0
  have kf1 := (unhide HR).sf 1
  have kg0 := (unhide HR).tf 0
  have kg1 := (unhide HR).tf 1
  go_wp2_with fail
  refine hK.out _ _ ?_ (fun hHeld => ?_)
  · exact ⟨kp0, kp1⟩
  clear hK K
  try simp only [List.getElem_toArray, List.getElem_cons_succ, List.getElem_cons_zero, Act.put, List.setIfInBounds_toArray, List.set_cons_zero, List.set_cons_succ]
  refine wpAnyH_ready (rs := [7]) (by kernel_rfl) (by simp) ?_
  refine AllReadyH.cons rfl (fun K hK => ?_) AllReadyH.nil
  go_simp
  refine (l6Bent_any R _ m6 (some ⟨g6, 0, none⟩) n6 c6 G6 _ (by exact (unhide HR).rd) (by omega) gt6 (fun h => by cases h) (fun p h => by cases h; rfl) wg6 (by omega) (by omega) (by omega)).mono ?_
  rintro e w7 ⟨m7, g7, n7, c7, G7, rfl, a7, b7, d7, gt7, gl7, gb7, wg7, R7, v7⟩
  have hg7 : g7 ≠ R ∧ g7 ≠ Y ∧ g7 ≠ Y + 1 := by have h1 := (unhide HR).rd.lt; have h2 := World.block_lt_of_cell? _ _ (unhide HR).t0; simp only at h2; (try have h3 : wd.heap.size ≤ g7 := gb7); omega
  clear kp0 kp1 ks0 ks1 kt0 kt1 kf0 kf1 kg0 kg1
  have HR := hide ((unhide HR).mov (by exact v7) R7)
  clear v7 R7
  have kp0 := (unhide HR).p0
  have kp1 := (unhide HR).p1
  have ks0 := (unhide HR).s0
  have ks1 := (unhide HR).s1
  have kt0 := (unhide HR).t0
  have kt1 := (unhide HR).t1
  have kf0 := (unhide HR).sf 0
  have kf1 := (unhide HR).sf 1
  have kg0 := (unhide HR).tf 0
  have kg1 := (unhide HR).tf 1
  go_wp2_with fail
  refine hK.out _ _ ?_ (fun hHeld => ?_)
  · exact ⟨kp0, kp1⟩
  clear hK K
  try simp only [List.getElem_toArray, List.getElem_cons_succ, List.getElem_cons_zero, Act.put, List.setIfInBounds_toArray, List.set_cons_zero, List.set_cons_succ]
  refine wpAnyH_ready (rs := [8]) (by kernel_rfl) (by simp) ?_
  refine AllReadyH.cons rfl (fun K hK => ?_) AllReadyH.nil
  go_simp
  refine hK.out _ _ ?_ (fun hHeld => ?_)
  · exact ⟨by rw [World.cell?_setCell_other _ _ _ _ (by simp <;> omega), World.cell?_setCell_other _ _ _ _ (by simp <;> omega)]; exact kp0, by rw [World.cell?_setCell_other _ _ _ _ (by simp <;> omega), World.cell?_setCell_other _ _ _ _ (by simp <;> omega)]; exact kp1⟩
  clear hK K
  try simp only [List.getElem_toArray, List.getElem_cons_succ, List.getElem_cons_zero, Act.put, List.setIfInBounds_toArray, List.set_cons_zero, List.set_cons_succ]
  refine wpAnyH_ready (rs := [9]) (by kernel_rfl) (by simp) ?_
  refine AllReadyH.cons rfl (fun K hK => ?_) AllReadyH.nil
  go_simp
  refine hK.out _ _ ?_ (fun hHeld => ?_)
  · exact ⟨by rw [World.cell?_setCell_other _ _ _ _ (by simp <;> omega), World.cell?_setCell_other _ _ _ _ (by simp <;> omega), World.cell?_setCell_other _ _ _ _ (by simp <;> omega), World.cell?_setCell_other _ _ _ _ (by simp <;> omega)]; exact kp0, by rw [World.cell?_setCell_other _ _ _ _ (by simp <;> omega), World.cell?_setCell_other _ _ _ _ (by simp <;> omega), World.cell?_setCell_other _ _ _ _ (by simp <;> omega), World.cell?_setCell_other _ _ _ _ (by simp <;> omega)]; exact kp1⟩
  clear hK K
  try simp only [List.getElem_toArray, List.getElem_cons_succ, List.getElem_cons_zero, Act.put, List.setIfInBounds_toArray, List.set_cons_zero, List.set_cons_succ]
  refine wpAnyH_done (by kernel_rfl) ?_ _
  go_wp2
  refine bodyPost_ret (v := .tuple #[.agg #[.int .i64 m, .slice ad n cap], .agg #[.int .i64 m7, .slice (some ⟨g7, 0, none⟩) n7 c7]]) (by simp [results, Try.results23, go_sem, ks0, ks1, kt0, kt1]) rfl ?_
  have va : Mov Y w7 ((w7.setCell ⟨Y, 0, none⟩ (.int .i64 m)).setCell ⟨Y, 1, none⟩ (.slice ad n cap)) := (Mov.set _ _ _).trans (Mov.set _ _ _)
  have vb : Mov (Y + 1) ((w7.setCell ⟨Y, 0, none⟩ (.int .i64 m)).setCell ⟨Y, 1, none⟩ (.slice ad n cap)) ((((w7.setCell ⟨Y, 0, none⟩ (.int .i64 m)).setCell ⟨Y, 1, none⟩ (.slice ad n cap)).setCell ⟨Y + 1, 0, none⟩ (.int .i64 m7)).setCell ⟨Y + 1, 1, none⟩ (.slice (some ⟨g7, 0, none⟩) n7 c7)) := (Mov.set _ _ _).trans (Mov.set _ _ _)
  have hne := (unhide HR).ne
  have lo := (unhide HR).lo
  exact ⟨m, ad, n, cap, G, m7, g7, n7, c7, G7, rfl, ⟨mm0, mm4⟩, by omega, by omega, nn, fun p hp => ⟨unhide HSP p hp, Nat.lt_of_lt_of_le (lo p hp).1 (Nat.le_trans va.size vb.size)⟩, ((unhide HR).gt.apart (Or.inr (fun b off e => (lo _ e).2.2.1)) va).apart (Or.inr (fun b off e => (lo _ e).2.2.2)) vb, unhide HWG, (gt7.apart (Or.inr (fun b off e => by cases e; exact hg7.2.1)) va).apart (Or.inr (fun b off e => by cases e; exact hg7.2.2)) vb, wg7, ((unhide HR).be.trans (va.below (by omega) (unhide HR).be.size)).trans (vb.below (by omega) (Nat.le_trans (unhide HR).be.size va.size))⟩
end Go.Proofs.Ytbfijmijhfbkdaa
