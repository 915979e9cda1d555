/- What the model's draws of a net with what comes in, and of a net with two marks, return. -/
import Derived.Test.YtbfijmijhfbkdaaDnB
import Derived.Test.YtbfijmijhfbkdaaLeaA
namespace Go.Proofs.Ytbfijmijhfbkdaa
open Go.ChangeShapes Go.WideShapes Go.ChangeAt Go.RowKit Go.Joins
set_option linter.unusedVariables false
set_option linter.unusedSimpArgs false

theorem Byts.up {w w' : World} {a : Option Addr} {l : Nat} (h : Byts w w.heap.size a l) (hb : Below w.heap.size w w') : Byts w' w'.heap.size a l := by
  have hs := hb.size
  rcases h with h | ⟨B, o, e, hB, hc⟩
  · exact Or.inl h
  · exact Or.inr ⟨B, o, e, by omega, fun p hp => by
      obtain ⟨x, x0, x1, hx⟩ := hc p hp
      exact ⟨x, x0, x1, cell_later hb hx⟩⟩
theorem max0_any (k : Int) (w : World) (h : k ≤ 100) :
    Calls Try.prog 30 #[.int .i64 0, .int .i64 k] w fun e w' => ∃ N : Nat, e = .returned (.int .i64 (N : Int)) ∧ N ≤ 100 ∧ (N = 0 ∨ (N : Int) = k) ∧ w' = w := by
  by_cases h0 : k < 0
  · have hb : decide ((0 : Int) > k) = true := by simp; omega
    go_enter Try.func30, Try.ntmps30
    go_wp2
    go_ret
    exact ⟨0, rfl, by omega, Or.inl rfl, rfl⟩
  · have hb : decide ((0 : Int) > k) = false := by simp; omega
    obtain ⟨N, rfl⟩ := Int.eq_ofNat_of_zero_le (show 0 ≤ k by omega)
    go_enter Try.func30, Try.ntmps30
    go_wp2
    go_ret
    exact ⟨N, rfl, by omega, Or.inr rfl, rfl⟩
/-- A drawn net lies in a box. -/
structure XN (w0 wr : World) (R N X Y : Nat) (m : Int) (g n cap : Nat) (G : Nat → Gt) : Prop where
  p0 : wr.cell? ⟨X, 0, none⟩ = some (.int .i64 m)
  p1 : wr.cell? ⟨X, 1, none⟩ = some (.slice (some ⟨g, 0, none⟩) n cap)
  s0 : wr.cell? ⟨Y, 0, none⟩ = some (.int .i64 0)
  s1 : wr.cell? ⟨Y, 1, none⟩ = some (.slice none 0 0)
  sf : ∀ o, wr.frozen? ⟨Y, o, none⟩ = false
  gt : GtsAt wr (some ⟨g, 0, none⟩) n G
  gl : g < wr.heap.size
  rd : Rd wr R N
  be : Below w0.heap.size w0 wr
  ne : X ≠ R ∧ Y ≠ R ∧ X ≠ Y ∧ g ≠ R ∧ g ≠ Y ∧ w0.heap.size ≤ R ∧ w0.heap.size ≤ Y
theorem XN.drew {w0 wr : World} {R N X Y : Nat} {m : Int} {g n cap : Nat} {G : Nat → Gt} (h : XN w0 wr R N X Y m g n cap G) : XN w0 wr.drew R N X Y m g n cap G := ⟨h.p0, h.p1, h.s0, h.s1, h.sf, h.gt, h.gl, h.rd, h.be.drew, h.ne⟩
theorem XN.mov {w0 wr w' : World} {R N N' X Y : Nat} {m : Int} {g n cap : Nat} {G : Nat → Gt} (h : XN w0 wr R N X Y m g n cap G) (hm : Mov R wr w') (hR : Rd w' R N') : XN w0 w' R N' X Y m g n cap G := by
  have hY := World.block_lt_of_cell? _ _ h.s0
  obtain ⟨e1, e2, e3, e4, e5, e6, e7⟩ := h.ne
  exact ⟨hm.cell h.p0 e1, hm.cell h.p1 e1, hm.cell h.s0 e2, hm.cell h.s1 e2, fun o => frozen_mov hm hY e2 (h.sf o), h.gt.apart (Or.inr (fun b off e => by cases e; exact e4)) hm, Nat.lt_of_lt_of_le h.gl hm.size, hR, h.be.trans (hm.below e6 h.be.size), h.ne⟩
theorem XN.later {w0 wr w' : World} {R N X Y : Nat} {m : Int} {g n cap : Nat} {G : Nat → Gt} (h : XN w0 wr R N X Y m g n cap G) (hb : Below wr.heap.size wr w') : XN w0 w' R N X Y m g n cap G := h.mov (Mov.of hb) (h.rd.below hb)
set_option maxRecDepth 100000 in
set_option maxHeartbeats 4000000 in
theorem drawNetVals_any (a : Option Addr) (l c : Nat) (w : World) (hl : l ≤ 1048576) (hc : l ≤ c) (hcm : c ≤ maxLen) (hby : Byts w w.heap.size a l) :
    Calls Try.prog 8 #[.slice a l c] w fun e w' => ∃ (m : Int) (g n cap : Nat) (G : Nat → Gt) (q N k : Nat), e = .returned (.tuple #[.agg #[.int .i64 m, .slice (some ⟨g, 0, none⟩) n cap], .slice (some ⟨q, 0, none⟩) N N]) ∧ (-1 ≤ m ∧ m ≤ 9) ∧ n ≤ 13 ∧ N ≤ 9 ∧ GtsAt w' (some ⟨g, 0, none⟩) n G ∧ WG n G ∧ Bls w' q 0 N (vls N k) ∧ q < w'.heap.size ∧ Below w.heap.size w w' := by
  obtain ⟨wz, hwz⟩ : ∃ wz, wz = w.alloc (.cells #[.int .i64 0, .slice none 0 0] 25) := ⟨_, rfl⟩
  have BZ : Below w.heap.size w wz := by rw [hwz]; exact (Below.refl _ _).alloc (Nat.le_refl _) _
  have s0 : wz.cell? ⟨w.heap.size, 0, none⟩ = some (.int .i64 0) := by rw [hwz]; simp [go_sem]
  have s1 : wz.cell? ⟨w.heap.size, 1, none⟩ = some (.slice none 0 0) := by rw [hwz]; simp [go_sem]
  have sf : ∀ o, wz.frozen? ⟨w.heap.size, o, none⟩ = false := fun o => by rw [hwz]; simp [go_sem]
  have zl : w.heap.size < wz.heap.size := by rw [hwz]; simp
  have hbz := hby.up BZ
  have HZ := hide hwz
  clear hwz hby
  go_enter Try.func8, Try.ntmps8
  go_wp2_with fail
  rw [← unhide HZ]
  refine (open_any _ _ _ _ hl hc hcm hbz).mono ?_
  rintro e w1 ⟨rfl, R1, b1⟩
  have V1 : Below w.heap.size w w1 := BZ.trans (b1.mono BZ.size)
  replace s0 := cell_later b1 s0
  replace s1 := cell_later b1 s1
  replace sf : ∀ o, w1.frozen? ⟨w.heap.size, o, none⟩ = false := fun o => (b1.frozen (p := ⟨w.heap.size, o, none⟩) zl).trans (sf o)
  have hs1 := V1.size
  obtain ⟨R, hR⟩ : ∃ R, R = wz.heap.size := ⟨_, rfl⟩
  rw [← hR] at R1 zl ⊢
  clear b1 hbz HZ hR BZ
  have rl1 := R1.lt
  go_wp2_with fail
  refine (l6Net_any R 0 12 _ R1 (by omega) (by omega) (by omega)).mono ?_
  rintro e w2 ⟨m0, ad0, n0, c0, G0, rfl, m00, m04, hn0, gt0, nn0, sp0, lo0, wg0, R2, v2⟩
  go_wp2_with fail
  refine (l6Bent_any R _ m0 ad0 n0 c0 G0 _ R2 (by omega) gt0 nn0 sp0 wg0 (by omega) (by omega) (by omega)).mono ?_
  rintro e w3 ⟨m, g, n, cap, G, rfl, mm1, mm2, hn, gt, gl, gb, wg, R3, v3⟩
  have hgR : g ≠ R := by have := R2.lt; omega
  have v23 := v2.trans v3
  have rl3 := R3.lt
  have hm9 : m ≤ 9 := by omega
  have HWG := hide wg
  have h0 : Hid (XN w (w3.alloc (.cells #[.int .i64 m, .slice (some ⟨g, 0, none⟩) n cap] 25)) R (0 + 200 + 3) w3.heap.size w.heap.size m g n cap G) := by
    have ba : Below w3.heap.size w3 (w3.alloc (.cells #[.int .i64 m, .slice (some ⟨g, 0, none⟩) n cap] 25)) := (Below.refl _ _).alloc (Nat.le_refl _) _
    have y1 : w.heap.size < w1.heap.size := by omega
    have y3 : w.heap.size < w3.heap.size := Nat.lt_of_lt_of_le y1 v23.size
    have gg : w2.heap.size ≤ g := gb
    have y2 := v2.size
    exact ⟨by simp [go_sem], by simp [go_sem], cell_later ba (v23.cell s0 (by simp only; omega)), cell_later ba (v23.cell s1 (by simp only; omega)), fun o => (ba.frozen (p := ⟨w.heap.size, o, none⟩) y3).trans (frozen_mov v23 y1 (by omega) (sf o)), gt.later ba, Nat.lt_of_lt_of_le gl ba.size, R3.below ba, (V1.trans (v23.below (by omega) hs1)).trans (ba.mono (by omega)), by omega⟩
  clear s0 s1 sf gt0 gt wg wg0 R1 R2 R3 v2 v3 v23 V1 gl gb nn0 sp0 lo0 rl1 hs1
  obtain ⟨X, hX⟩ : ∃ X, X = w3.heap.size := ⟨_, rfl⟩
  obtain ⟨Y, hY⟩ : ∃ Y, Y = w.heap.size := ⟨_, rfl⟩
  rw [← hX] at h0
  rw [show XN w _ R _ X w.heap.size m g n cap G = XN w _ R _ X Y m g n cap G by rw [hY]] at h0
  have kp0 := (unhide h0).p0
  have kp1 := (unhide h0).p1
  go_wp2_with fail
  (try rw [← hX])
  (try rw [← hY])
  generalize hwb : w3.alloc (.cells #[.int .i64 m, .slice (some ⟨g, 0, none⟩) n cap] 25) = wb at *
  clear hwb kp0 kp1 hX hY
  refine (pick_any R _ 16 _ (unhide h0).rd (by omega) (by omega) (by omega)).mono ?_
  rintro e w4 ⟨q, rfl, q0, q1, R4, v4⟩
  have HR := hide ((unhide h0).mov v4 R4)
  clear h0 v4 R4
  have hXY := (unhide HR).ne.2.2.1
  have hYX := hXY.symm
  have hXR := (unhide HR).ne.1
  by_cases hq0 : q = 0
  · subst hq0
    go_wp2_with fail
    refine (pick_any R _ 9 _ (unhide HR).rd (by omega) (by omega) (by omega)).mono ?_
    rintro e w5 ⟨x, rfl, x0, x1, R5, v5⟩
    have HR := hide ((unhide HR).mov v5 R5)
    clear v5 R5
    have kp0 := (unhide HR).p0
    have kp1 := (unhide HR).p1
    have ks0 := (unhide HR).s0
    have ks1 := (unhide HR).s1
    have kf0 := (unhide HR).sf 0
    have kf1 := (unhide HR).sf 1
    go_wp2
    refine wp_region_held_drew (S := fun w' => w'.cell? ⟨X, 0, none⟩ = some (.int .i64 m) ∧ w'.cell? ⟨X, 1, none⟩ = some (.slice (some ⟨g, 0, none⟩) n cap)) (by kernel_rfl) ?_ (fun hHeld => ?_)
    · exact ⟨kp0, kp1⟩
    obtain ⟨wd, hwd⟩ : ∃ x, x = w5.drew := ⟨_, rfl⟩
    have HR := hide ((unhide HR).drew)
    rw [← hwd] at HR ⊢
    (try rw [← hwd] at hHeld)
    clear hwd
    have kp0 := (unhide HR).p0
    have kp1 := (unhide HR).p1
    have ks0 := (unhide HR).s0
    have ks1 := (unhide HR).s1
    have kf0 := (unhide HR).sf 0
    have kf1 := (unhide HR).sf 1
    refine wpAnyH_take (i := 0) (v := ?_) rfl (by kernel_rfl) (by kernel_rfl) (by kernel_rfl) (fun _ _ _ h => h) (Or.inl ⟨by rfl, ?_⟩) (by assumption) ?_
    rotate_left
    · (intro w hSw; (try dsimp only at hSw); first | (go_simp; done) | (go_simp; with_reducible rfl))
    try simp only [List.getElem_toArray, List.getElem_cons_succ, List.getElem_cons_zero, Act.put, List.setIfInBounds_toArray, List.set_cons_zero, List.set_cons_succ]
    refine wpAnyH_take (i := 1) (v := ?_) rfl (by kernel_rfl) (by kernel_rfl) (by kernel_rfl) (fun _ _ _ h => h) (Or.inl ⟨by rfl, ?_⟩) (by assumption) ?_
    rotate_left
    · (intro w hSw; (try dsimp only at hSw); first | (go_simp; done) | (go_simp; with_reducible rfl))
    try simp only [List.getElem_toArray, List.getElem_cons_succ, List.getElem_cons_zero, Act.put, List.setIfInBounds_toArray, List.set_cons_zero, List.set_cons_succ]
    refine wpAnyH_take (i := 3) (v := ?_) rfl (by kernel_rfl) (by kernel_rfl) (by kernel_rfl) (fun _ _ _ h => h) (Or.inl ⟨by rfl, ?_⟩) (by assumption) ?_
    rotate_left
    · (intro w hSw; (try dsimp only at hSw); first | (go_simp; done) | (go_simp; with_reducible rfl))
    try simp only [List.getElem_toArray, List.getElem_cons_succ, List.getElem_cons_zero, Act.put, List.setIfInBounds_toArray, List.set_cons_zero, List.set_cons_succ]
    refine wpAnyH_ready (rs := [2]) (by kernel_rfl) (by simp) ?_
    refine AllReadyH.cons rfl (fun K hK => ?_) AllReadyH.nil
    go_simp
    refine (max0_any x _ (by omega)).mono ?_
    rintro e w6 ⟨N, rfl, hN, hN2, hw6⟩
    subst hw6
    go_wp2_with fail
    refine hK.out _ _ ?_ (fun hHeld => ?_)
    · exact ⟨kp0, kp1⟩
    clear hK K
    try simp only [List.getElem_toArray, List.getElem_cons_succ, List.getElem_cons_zero, Act.put, List.setIfInBounds_toArray, List.set_cons_zero, List.set_cons_succ]
    refine wpAnyH_ready (rs := [4]) (by kernel_rfl) (by simp) ?_
    refine AllReadyH.cons rfl (fun K hK => ?_) AllReadyH.nil
    go_simp
    refine (pick_any R _ 256 _ (by exact (unhide HR).rd) (by omega) (by omega) (by omega)).mono ?_
    rintro e w7 ⟨k', rfl, k0, k1, R7, v7⟩
    obtain ⟨k, rfl⟩ := Int.eq_ofNat_of_zero_le k0
    clear kp0 kp1 ks0 ks1 kf0 kf1
    have HR := hide ((unhide HR).mov (by exact v7) R7)
    clear v7 R7
    have kp0 := (unhide HR).p0
    have kp1 := (unhide HR).p1
    have ks0 := (unhide HR).s0
    have ks1 := (unhide HR).s1
    have kf0 := (unhide HR).sf 0
    have kf1 := (unhide HR).sf 1
    go_wp2_with fail
    refine hK.out _ _ ?_ (fun hHeld => ?_)
    · exact ⟨kp0, kp1⟩
    clear hK K
    try simp only [List.getElem_toArray, List.getElem_cons_succ, List.getElem_cons_zero, Act.put, List.setIfInBounds_toArray, List.set_cons_zero, List.set_cons_succ]
    refine wpAnyH_ready (rs := [5]) (by kernel_rfl) (by simp) ?_
    refine AllReadyH.cons rfl (fun K hK => ?_) AllReadyH.nil
    go_simp
    refine (l4Vals_any N k _ (by omega) (by omega)).mono ?_
    rintro e w8 ⟨rfl, bl, md, b8⟩
    clear kp0 kp1 ks0 ks1 kf0 kf1
    have hqY : w7.heap.size ≠ Y := by have h9 := World.block_lt_of_cell? _ _ (unhide HR).s0; simp only at h9; omega
    have HR := hide ((unhide HR).later b8)
    have HB := hide bl
    have hq := md.1
    clear bl md b8
    have kp0 := (unhide HR).p0
    have kp1 := (unhide HR).p1
    have ks0 := (unhide HR).s0
    have ks1 := (unhide HR).s1
    have kf0 := (unhide HR).sf 0
    have kf1 := (unhide HR).sf 1
    go_wp2_with fail
    refine hK.out _ _ ?_ (fun hHeld => ?_)
    · exact ⟨kp0, kp1⟩
    clear hK K
    try simp only [List.getElem_toArray, List.getElem_cons_succ, List.getElem_cons_zero, Act.put, List.setIfInBounds_toArray, List.set_cons_zero, List.set_cons_succ]
    refine wpAnyH_ready (rs := [6]) (by kernel_rfl) (by simp) ?_
    refine AllReadyH.cons rfl (fun K hK => ?_) AllReadyH.nil
    go_simp
    refine hK.out _ _ ?_ (fun hHeld => ?_)
    · exact ⟨by rw [World.cell?_setCell_other _ _ _ _ (by simp <;> omega), World.cell?_setCell_other _ _ _ _ (by simp <;> omega)]; exact kp0, by rw [World.cell?_setCell_other _ _ _ _ (by simp <;> omega), World.cell?_setCell_other _ _ _ _ (by simp <;> omega)]; exact kp1⟩
    clear hK K
    try simp only [List.getElem_toArray, List.getElem_cons_succ, List.getElem_cons_zero, Act.put, List.setIfInBounds_toArray, List.set_cons_zero, List.set_cons_succ]
    refine wpAnyH_take (i := 7) (v := ?_) rfl (by kernel_rfl) (by kernel_rfl) (by kernel_rfl) (fun _ _ _ h => h) (Or.inl ⟨by rfl, ?_⟩) (by assumption) ?_
    rotate_left
    · (intro w hSw; (try dsimp only at hSw); first | (go_simp; done) | (go_simp; with_reducible rfl))
    try simp only [List.getElem_toArray, List.getElem_cons_succ, List.getElem_cons_zero, Act.put, List.setIfInBounds_toArray, List.set_cons_zero, List.set_cons_succ]
    refine wpAnyH_done (by kernel_rfl) ?_ _
    have hv : Mov Y w8 ((w8.setCell ⟨Y, 0, none⟩ (.int .i64 m)).setCell ⟨Y, 1, none⟩ (.slice (some ⟨g, 0, none⟩) n cap)) := (Mov.set _ _ _).trans (Mov.set _ _ _)
    go_wp2
    refine bodyPost_ret (v := .tuple #[.agg #[.int .i64 m, .slice (some ⟨g, 0, none⟩) n cap], .slice (some ⟨w7.heap.size, 0, none⟩) N N]) (by simp [results, Try.results8, go_sem, ks0, ks1]) rfl ?_
    have hne := (unhide HR).ne
    exact ⟨m, g, n, cap, G, w7.heap.size, N, k, rfl, ⟨mm1, hm9⟩, by omega, by omega, (unhide HR).gt.apart (Or.inr (fun b off e => by cases e; exact hne.2.2.2.2.1)) hv, unhide HWG, (fun i hi => hv.cell (unhide HB i hi) hqY), Nat.lt_of_lt_of_le hq hv.size, (unhide HR).be.trans (hv.below (by omega) (by have := (unhide HR).be.size; omega))⟩
  · have qb : (q == 0) = false := by simp [hq0]
    have kp0 := (unhide HR).p0
    have kp1 := (unhide HR).p1
    have ks0 := (unhide HR).s0
    have ks1 := (unhide HR).s1
    have kf0 := (unhide HR).sf 0
    have kf1 := (unhide HR).sf 1
    go_wp2
    refine wp_region_held_drew (S := fun w' => w'.cell? ⟨X, 0, none⟩ = some (.int .i64 m) ∧ w'.cell? ⟨X, 1, none⟩ = some (.slice (some ⟨g, 0, none⟩) n cap)) (by kernel_rfl) ?_ (fun hHeld => ?_)
    · exact ⟨kp0, kp1⟩
    obtain ⟨wd, hwd⟩ : ∃ x, x = w4.drew := ⟨_, rfl⟩
    have HR := hide ((unhide HR).drew)
    rw [← hwd] at HR ⊢
    (try rw [← hwd] at hHeld)
    clear hwd
    have kp0 := (unhide HR).p0
    have kp1 := (unhide HR).p1
    have ks0 := (unhide HR).s0
    have ks1 := (unhide HR).s1
    have kf0 := (unhide HR).sf 0
    have kf1 := (unhide HR).sf 1
    refine wpAnyH_take (i := 0) (v := ?_) rfl (by kernel_rfl) (by kernel_rfl) (by kernel_rfl) (fun _ _ _ h => h) (Or.inl ⟨by rfl, ?_⟩) (by assumption) ?_
    rotate_left
    · (intro w hSw; (try dsimp only at hSw); first | (go_simp; done) | (go_simp; with_reducible rfl))
    try simp only [List.getElem_toArray, List.getElem_cons_succ, List.getElem_cons_zero, Act.put, List.setIfInBounds_toArray, List.set_cons_zero, List.set_cons_succ]
    refine wpAnyH_take (i := 1) (v := ?_) rfl (by kernel_rfl) (by kernel_rfl) (by kernel_rfl) (fun _ _ _ h => h) (Or.inl ⟨by rfl, ?_⟩) (by assumption) ?_
    rotate_left
    · (intro w hSw; (try dsimp only at hSw); first | (go_simp; done) | (go_simp; with_reducible rfl))
    try simp only [List.getElem_toArray, List.getElem_cons_succ, List.getElem_cons_zero, Act.put, List.setIfInBounds_toArray, List.set_cons_zero, List.set_cons_succ]
    refine wpAnyH_take (i := 3) (v := ?_) rfl (by kernel_rfl) (by kernel_rfl) (by kernel_rfl) (fun _ _ _ h => h) (Or.inl ⟨by rfl, ?_⟩) (by assumption) ?_
    rotate_left
    · (intro w hSw; (try dsimp only at hSw); first | (go_simp; done) | (go_simp; with_reducible rfl))
    try simp only [List.getElem_toArray, List.getElem_cons_succ, List.getElem_cons_zero, Act.put, List.setIfInBounds_toArray, List.set_cons_zero, List.set_cons_succ]
    refine wpAnyH_ready (rs := [2]) (by kernel_rfl) (by simp) ?_
    refine AllReadyH.cons rfl (fun K hK => ?_) AllReadyH.nil
    go_simp
    refine (max0_any m _ (by omega)).mono ?_
    rintro e w6 ⟨N, rfl, hN, hN2, hw6⟩
    subst hw6
    go_wp2_with fail
    refine hK.out _ _ ?_ (fun hHeld => ?_)
    · exact ⟨kp0, kp1⟩
    clear hK K
    try simp only [List.getElem_toArray, List.getElem_cons_succ, List.getElem_cons_zero, Act.put, List.setIfInBounds_toArray, List.set_cons_zero, List.set_cons_succ]
    refine wpAnyH_ready (rs := [4]) (by kernel_rfl) (by simp) ?_
    refine AllReadyH.cons rfl (fun K hK => ?_) AllReadyH.nil
    go_simp
    refine (pick_any R _ 256 _ (by exact (unhide HR).rd) (by omega) (by omega) (by omega)).mono ?_
    rintro e w7 ⟨k', rfl, k0, k1, R7, v7⟩
    obtain ⟨k, rfl⟩ := Int.eq_ofNat_of_zero_le k0
    clear kp0 kp1 ks0 ks1 kf0 kf1
    have HR := hide ((unhide HR).mov (by exact v7) R7)
    clear v7 R7
    have kp0 := (unhide HR).p0
    have kp1 := (unhide HR).p1
    have ks0 := (unhide HR).s0
    have ks1 := (unhide HR).s1
    have kf0 := (unhide HR).sf 0
    have kf1 := (unhide HR).sf 1
    go_wp2_with fail
    refine hK.out _ _ ?_ (fun hHeld => ?_)
    · exact ⟨kp0, kp1⟩
    clear hK K
    try simp only [List.getElem_toArray, List.getElem_cons_succ, List.getElem_cons_zero, Act.put, List.setIfInBounds_toArray, List.set_cons_zero, List.set_cons_succ]
    refine wpAnyH_ready (rs := [5]) (by kernel_rfl) (by simp) ?_
    refine AllReadyH.cons rfl (fun K hK => ?_) AllReadyH.nil
    go_simp
    refine (l4Vals_any N k _ (by omega) (by omega)).mono ?_
    rintro e w8 ⟨rfl, bl, md, b8⟩
    clear kp0 kp1 ks0 ks1 kf0 kf1
    have hqY : w7.heap.size ≠ Y := by have h9 := World.block_lt_of_cell? _ _ (unhide HR).s0; simp only at h9; omega
    have HR := hide ((unhide HR).later b8)
    have HB := hide bl
    have hq := md.1
    clear bl md b8
    have kp0 := (unhide HR).p0
    have kp1 := (unhide HR).p1
    have ks0 := (unhide HR).s0
    have ks1 := (unhide HR).s1
    have kf0 := (unhide HR).sf 0
    have kf1 := (unhide HR).sf 1
    go_wp2_with fail
    refine hK.out _ _ ?_ (fun hHeld => ?_)
    · exact ⟨kp0, kp1⟩
    clear hK K
    try simp only [List.getElem_toArray, List.getElem_cons_succ, List.getElem_cons_zero, Act.put, List.setIfInBounds_toArray, List.set_cons_zero, List.set_cons_succ]
    refine wpAnyH_ready (rs := [6]) (by kernel_rfl) (by simp) ?_
    refine AllReadyH.cons rfl (fun K hK => ?_) AllReadyH.nil
    go_simp
    refine hK.out _ _ ?_ (fun hHeld => ?_)
    · exact ⟨by rw [World.cell?_setCell_other _ _ _ _ (by simp <;> omega), World.cell?_setCell_other _ _ _ _ (by simp <;> omega)]; exact kp0, by rw [World.cell?_setCell_other _ _ _ _ (by simp <;> omega), World.cell?_setCell_other _ _ _ _ (by simp <;> omega)]; exact kp1⟩
    clear hK K
    try simp only [List.getElem_toArray, List.getElem_cons_succ, List.getElem_cons_zero, Act.put, List.setIfInBounds_toArray, List.set_cons_zero, List.set_cons_succ]
    refine wpAnyH_take (i := 7) (v := ?_) rfl (by kernel_rfl) (by kernel_rfl) (by kernel_rfl) (fun _ _ _ h => h) (Or.inl ⟨by rfl, ?_⟩) (by assumption) ?_
    rotate_left
    · (intro w hSw; (try dsimp only at hSw); first | (go_simp; done) | (go_simp; with_reducible rfl))
    try simp only [List.getElem_toArray, List.getElem_cons_succ, List.getElem_cons_zero, Act.put, List.setIfInBounds_toArray, List.set_cons_zero, List.set_cons_succ]
    refine wpAnyH_done (by kernel_rfl) ?_ _
    have hv : Mov Y w8 ((w8.setCell ⟨Y, 0, none⟩ (.int .i64 m)).setCell ⟨Y, 1, none⟩ (.slice (some ⟨g, 0, none⟩) n cap)) := (Mov.set _ _ _).trans (Mov.set _ _ _)
    go_wp2
    refine bodyPost_ret (v := .tuple #[.agg #[.int .i64 m, .slice (some ⟨g, 0, none⟩) n cap], .slice (some ⟨w7.heap.size, 0, none⟩) N N]) (by simp [results, Try.results8, go_sem, ks0, ks1]) rfl ?_
    have hne := (unhide HR).ne
    exact ⟨m, g, n, cap, G, w7.heap.size, N, k, rfl, ⟨mm1, hm9⟩, by omega, by omega, (unhide HR).gt.apart (Or.inr (fun b off e => by cases e; exact hne.2.2.2.2.1)) hv, unhide HWG, (fun i hi => hv.cell (unhide HB i hi) hqY), Nat.lt_of_lt_of_le hq hv.size, (unhide HR).be.trans (hv.below (by omega) (by have := (unhide HR).be.size; omega))⟩
end Go.Proofs.Ytbfijmijhfbkdaa
