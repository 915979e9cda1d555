/- What the model's draws of nets and marks return. -/
import Derived.Test.YtmpiiilkaadhfaaDoorDnB
import Derived.Test.YtmpiiilkaadhfaaDoorIapA
namespace Go.Proofs.YtmpiiilkaadhfaaDoor
open Go.ChangeShapes Go.WideShapes Go.ChangeAt Go.RowKit Go.Joins
set_option linter.unusedVariables false
set_option maxRecDepth 100000
set_option linter.unusedSimpArgs false
/-- A net that is drawn. -/
def NetQ (w : World) (R N : Nat) (e : Ending) (w' : World) : Prop := ∃ m g n cap G, e = .returned (.agg #[.int .i64 m, .slice (some ⟨g, 0, none⟩) n cap]) ∧ -1 ≤ m ∧ m ≤ 9 ∧ n ≤ 4 ∧ GtsAt w' (some ⟨g, 0, none⟩) n G ∧ g < w'.heap.size ∧ w.heap.size ≤ g ∧ WG n G ∧ Rd w' R N ∧ Mov R w w'
set_option maxRecDepth 100000 in
set_option maxHeartbeats 8000000 in
theorem l7Net_any (R N : Nat) (w : World) (hR : Rd w R N) (hN : N ≤ 700000) :
    Calls Tryd.prog 62 #[.pointer (some ⟨R, 0, none⟩)] w fun e w' => NetQ w R (N + 40) e w' := by
  obtain ⟨wz, hwz⟩ : ∃ wz, wz = w.alloc (.cells #[.int .i64 0, .slice none 0 0] 25) := ⟨_, rfl⟩
  have BZ : Below w.heap.size w wz := by rw [hwz]; exact (Below.refl _ _).alloc (Nat.le_refl _) _
  have zs : wz.heap.size = w.heap.size + 1 := by rw [hwz]; simp
  have s0 : wz.cell? ⟨w.heap.size, 0, none⟩ = some (.int .i64 0) := by rw [hwz]; simp [go_sem]
  have s1 : wz.cell? ⟨w.heap.size, 1, none⟩ = some (.slice none 0 0) := by rw [hwz]; simp [go_sem]
  have sf : ∀ o, wz.frozen? ⟨w.heap.size, o, none⟩ = false := fun o => by rw [hwz]; simp [go_sem]
  have rl := hR.lt
  obtain ⟨wt, hwt⟩ : ∃ x, x = wz.alloc (.cells #[.int .i64 8, .int .i64 8, .int .i64 6, .int .i64 4, .int .i64 3] 3) := ⟨_, rfl⟩
  have BT : Below wz.heap.size wz wt := by rw [hwt]; exact (Below.refl _ _).alloc (Nat.le_refl _) _
  have zt : ∀ i, i < 5 → wt.cell? ⟨wz.heap.size, i, none⟩ = some (.int .i64 (([8, 8, 6, 4, 3] : List Int).getD i 0)) := fun i hi => by rw [hwt]; exact rowN wz [8, 8, 6, 4, 3] 3 i hi
  replace sf : ∀ o, wt.frozen? ⟨w.heap.size, o, none⟩ = false := fun o => (BT.frozen (p := ⟨w.heap.size, o, none⟩) (by simp only; omega)).trans (sf o)
  replace s0 := cell_later BT s0
  replace s1 := cell_later BT s1
  have hRz := hR.below (BZ.trans (BT.mono BZ.size))
  have M1 : Mov R w wt := Mov.of (BZ.trans (BT.mono BZ.size))
  have HZ := hide hwz
  have HT := hide hwt
  clear hwz hwt hR BT BZ
  go_enter Tryd.func62, Tryd.ntmps62
  go_wp2_with fail
  rw [← unhide HZ]
  rw [show w.heap.size + 1 = wz.heap.size from zs.symm]
  rw [← unhide HT]
  refine (num_any R N wz.heap.size 5 [8, 8, 6, 4, 3] _ rfl hRz (by omega) (by omega) (by omega) (by omega) zt).mono ?_
  rintro e w1 ⟨k, hk, rfl, R1, v1⟩
  have hz : 3 ≤ ([8, 8, 6, 4, 3] : List Int).getD k 0 ∧ ([8, 8, 6, 4, 3] : List Int).getD k 0 ≤ 8 := by
    have : k = 0 ∨ k = 1 ∨ k = 2 ∨ k = 3 ∨ k = 4 := by omega
    rcases this with rfl | rfl | rfl | rfl | rfl <;> (simp only [List.getD_cons_zero, List.getD_cons_succ]; omega)
  generalize ([8, 8, 6, 4, 3] : List Int).getD k 0 = m at *
  obtain ⟨m0, m4⟩ := hz
  have zl := World.block_lt_of_cell? _ _ s0
  simp only at zl
  replace s0 := v1.cell s0 (by simp only; omega)
  replace s1 := v1.cell s1 (by simp only; omega)
  have sf1 : ∀ o, w1.frozen? ⟨w.heap.size, o, none⟩ = false := fun o => frozen_mov v1 zl (by omega) (sf o)
  have M2 := M1.trans v1
  have hs1 := M2.size
  have zl1 := World.block_lt_of_cell? _ _ s0
  simp only at zl1
  obtain ⟨B, hB⟩ : ∃ B, B = w1.heap.size := ⟨_, rfl⟩
  have h0 : Hid (NB w (w1.alloc (.cells #[.int .i64 m, .slice none 0 0] 25)) R (N + 1) B w.heap.size m none 0 0 (fun _ => ⟨false, 0, 0⟩)) := by
    have ba : Below w1.heap.size w1 (w1.alloc (.cells #[.int .i64 m, .slice none 0 0] 25)) := (Below.refl _ _).alloc (Nat.le_refl _) _
    rw [hB]
    exact ⟨by simp [go_sem], by simp [go_sem], fun o => by simp [go_sem], cell_later ba s0, cell_later ba s1, fun o => (ba.frozen (p := ⟨w.heap.size, o, none⟩) zl1).trans (sf1 o), Or.inl rfl, fun _ => ⟨rfl, rfl⟩, fun p h => (by cases h), fun p h => (by cases h), fun i hi => by omega, R1.below ba, M2.from ba, by have := R1.lt; omega⟩
  clear s0 s1 sf sf1 M2 M1 v1 R1 hRz HZ HT zt hk
  go_wp2_with fail
  generalize hwb : w1.alloc (.cells #[.int .i64 m, .slice none 0 0] 25) = wb at *
  (try rw [← hB])
  clear hwb hB
  refine (pick_any R (N + 1) 4 _ (unhide h0).rd (by omega) (by omega) (by omega)).mono ?_
  rintro e w2 ⟨J, rfl, J0, J1, R2, v2⟩
  have h2 := hide ((unhide h0).mov v2 R2)
  obtain ⟨J, rfl⟩ := Int.eq_ofNat_of_zero_le J0
  obtain ⟨Y, hY⟩ : ∃ Y, Y = w.heap.size := ⟨_, rfl⟩
  rw [← hY] at h2 ⊢
  clear h0 v2 R2 hY zl zl1 hs1 zs
  go_wp2
  go_loopw [4] (fun i wr => ∃ j : Nat, j ≤ J ∧ i = .int .i64 (j : Int) ∧ ∃ m ad n cap G, 3 ≤ m ∧ m ≤ 8 ∧ n + j ≤ J ∧ NB w wr R (N + 2 + 5 * (J - j)) B Y m ad n cap G) (fun i _ => (intOf i).toNat)
  case atStart => exact ⟨J, Nat.le_refl _, rfl, m, none, 0, 0, _, m0, m4, by omega, (unhide h2).rdm (by omega)⟩
  case round =>
    clear h2 m0 m4
    obtain ⟨j, hj, rfl, m, ad, n, cap, G, m0, m4, hnj, hI⟩ := hrel
    have HR := hide hI
    clear hI
    cases j with
    | zero =>
      have kp0 := (unhide HR).p0
      have kp1 := (unhide HR).p1
      have hb : decide (((0 : Nat) : Int) > 0) = false := by simp
      go_wp2_with fail
      refine (l6Bent_any R _ m ad n cap G _ (unhide HR).rd (by omega) (unhide HR).gt (unhide HR).nn (unhide HR).sp (unhide HR).wg (by omega) (by omega) (by omega)).mono ?_
      rintro e w9 ⟨m9, g9, n9, c9, G9, rfl, a9, b9, d9, gt9, gl9, gb9, wg9, R9, v9⟩
      have hne := (unhide HR).ne
      have HM := (unhide HR).mv
      have ks0 := v9.cell (unhide HR).s0 hne.2.1
      have ks1 := v9.cell (unhide HR).s1 hne.2.1
      have yl := World.block_lt_of_cell? _ _ (unhide HR).s0
      have kf0 := frozen_mov v9 yl hne.2.1 ((unhide HR).sf 0)
      have kf1 := frozen_mov v9 yl hne.2.1 ((unhide HR).sf 1)
      have gy : g9 ≠ Y := by simp only at yl; omega
      have wsz := HM.size
      have HG9 := hide gt9
      have HR9 := hide R9
      have HW9 := hide wg9
      have HM9 := hide (HM.trans v9)
      clear gt9 R9 wg9 v9 HM kp0 kp1
      go_wp2
      refine bodyPost_ret (v := .agg #[.int .i64 m9, .slice (some ⟨g9, 0, none⟩) n9 c9]) (by simp [results, Tryd.results62, go_sem, ks0, ks1]) rfl ?_
      have hv : Mov Y w9 ((w9.setCell ⟨Y, 0, none⟩ (.int .i64 m9)).setCell ⟨Y, 1, none⟩ (.slice (some ⟨g9, 0, none⟩) n9 c9)) := (Mov.set _ _ _).trans (Mov.set _ _ _)
      exact ⟨m9, g9, n9, c9, G9, rfl, a9, by omega, by omega, (unhide HG9).apart (Or.inr (fun b off e => by cases e; exact gy)) hv, Nat.lt_of_lt_of_le gl9 hv.size, by omega, unhide HW9, ((unhide HR9).other hv (by omega)).mono (by omega), ((unhide HM9).setNew hne.2.2.2.2.1 _ _).setNew hne.2.2.2.2.1 _ _⟩
    | succ j =>
      have hb : decide (((j + 1 : Nat) : Int) > 0) = true := by simp <;> omega
      have kp0 := (unhide HR).p0
      have kp1 := (unhide HR).p1
      have kq0 := (unhide HR).pf 0
      have kq1 := (unhide HR).pf 1
      go_wp2
      refine wp_region_held_drew (S := fun _ => True) (by kernel_rfl) ?_ (fun hHeld => ?_)
      · trivial
      refine wpAnyH_take (i := 1) (v := ?_) rfl (by kernel_rfl) (by kernel_rfl) (by kernel_rfl) (fun _ _ _ h => h) (Or.inl ⟨by rfl, ?_⟩) (by assumption) ?_
      rotate_left
      · (intro w hSw; (try dsimp only at hSw); first | (go_simp; done) | (go_simp; with_reducible rfl))
      try simp only [List.getElem_toArray, List.getElem_cons_succ, List.getElem_cons_zero, Act.put, List.setIfInBounds_toArray, List.set_cons_zero, List.set_cons_succ]
      refine wpAnyH_take (i := 4) (v := ?_) rfl (by kernel_rfl) (by kernel_rfl) (by kernel_rfl) (fun _ _ _ h => h) (Or.inl ⟨by rfl, ?_⟩) (by assumption) ?_
      rotate_left
      · (intro w hSw; (try dsimp only at hSw); first | (go_simp; done) | (go_simp; with_reducible rfl))
      try simp only [List.getElem_toArray, List.getElem_cons_succ, List.getElem_cons_zero, Act.put, List.setIfInBounds_toArray, List.set_cons_zero, List.set_cons_succ]
      refine wpAnyH_ready (rs := [0, 2, 5]) (by kernel_rfl) (by simp) ?_
      refine AllReadyH.cons rfl (fun K hK => ?_) (AllReadyH.cons rfl (fun K hK => ?_) (AllReadyH.cons rfl (fun K hK => ?_) AllReadyH.nil))
      · go_simp
        refine hK.out _ _ ?_ (fun hHeld => ?_)
        · trivial
        clear hK K
        try simp only [List.getElem_toArray, List.getElem_cons_succ, List.getElem_cons_zero, Act.put, List.setIfInBounds_toArray, List.set_cons_zero, List.set_cons_succ]
        refine wpAnyH_ready (rs := [2, 5]) (by kernel_rfl) (by simp) ?_
        refine AllReadyH.cons rfl (fun K hK => ?_) (AllReadyH.cons rfl (fun K hK => ?_) AllReadyH.nil)
        · go_simp
          refine hK.out _ _ ?_ (fun hHeld => ?_)
          · trivial
          clear hK K
          try simp only [List.getElem_toArray, List.getElem_cons_succ, List.getElem_cons_zero, Act.put, List.setIfInBounds_toArray, List.set_cons_zero, List.set_cons_succ]
          refine wpAnyH_ready (rs := [3, 5]) (by kernel_rfl) (by simp) ?_
          refine AllReadyH.cons rfl (fun K hK => ?_) (AllReadyH.cons rfl (fun K hK => ?_) AllReadyH.nil)
          · go_simp
            refine (l6Lit_any R _ m ad n cap _ (by exact (unhide HR).rd) (by omega) (by omega) (by omega) (by omega)).mono ?_
            rintro e w3 ⟨a, rfl, ha, ham, R3, M3⟩
            clear kp0 kp1 kq0 kq1
            have HR := hide ((unhide HR).mov (by exact M3) R3)
            have HaM := hide (ham (by omega))
            clear M3 R3 ham
            have kp0 := (unhide HR).p0
            have kp1 := (unhide HR).p1
            have kq0 := (unhide HR).pf 0
            have kq1 := (unhide HR).pf 1
            go_wp2_with fail
            refine hK.out _ _ ?_ (fun hHeld => ?_)
            · trivial
            clear hK K
            try simp only [List.getElem_toArray, List.getElem_cons_succ, List.getElem_cons_zero, Act.put, List.setIfInBounds_toArray, List.set_cons_zero, List.set_cons_succ]
            refine wpAnyH_ready (rs := [5]) (by kernel_rfl) (by simp) ?_
            refine AllReadyH.cons rfl (fun K hK => ?_) AllReadyH.nil
            go_simp
            refine hK.out _ _ ?_ (fun hHeld => ?_)
            · trivial
            clear hK K
            try simp only [List.getElem_toArray, List.getElem_cons_succ, List.getElem_cons_zero, Act.put, List.setIfInBounds_toArray, List.set_cons_zero, List.set_cons_succ]
            refine wpAnyH_ready (rs := [6]) (by kernel_rfl) (by simp) ?_
            refine AllReadyH.cons rfl (fun K hK => ?_) AllReadyH.nil
            go_simp
            refine (l6Lit_any R _ m ad n cap _ (by exact (unhide HR).rd) (by omega) (by omega) (by omega) (by omega)).mono ?_
            rintro e w6 ⟨b, rfl, hb, hbm, R6, M6⟩
            clear kp0 kp1 kq0 kq1
            have HR := hide ((unhide HR).mov (by exact M6) R6)
            have HbM := hide (hbm (by omega))
            clear M6 R6 hbm
            have kp0 := (unhide HR).p0
            have kp1 := (unhide HR).p1
            have kq0 := (unhide HR).pf 0
            have kq1 := (unhide HR).pf 1
            go_wp2_with fail
            refine hK.out _ _ ?_ (fun hHeld => ?_)
            · trivial
            clear hK K
            try simp only [List.getElem_toArray, List.getElem_cons_succ, List.getElem_cons_zero, Act.put, List.setIfInBounds_toArray, List.set_cons_zero, List.set_cons_succ]
            refine wpAnyH_ready (rs := [7]) (by kernel_rfl) (by simp) ?_
            refine AllReadyH.cons rfl (fun K hK => ?_) AllReadyH.nil
            go_simp
            refine (l6And_any m ad n cap G a b _ (by exact (unhide HR).gt) (unhide HR).nn (unhide HR).sp (fun p hp => ((unhide HR).lo p hp).1) (by omega) (by omega) (by omega) (unhide HaM) (unhide HbM)).mono ?_
            rintro e w7 ⟨⟨a6, c6, rfl, g6, nn6, sp6, pl6⟩, b6⟩
            clear kp0 kp1 kq0 kq1
            have w5s := (unhide HR).ne
            have lo5 := (unhide HR).lo
            have B5 := World.block_lt_of_cell? _ _ (unhide HR).p0
            have Y5 := World.block_lt_of_cell? _ _ (unhide HR).s0
            have R5 := (unhide HR).rd.lt
            have W5 := (unhide HR).mv.size
            have hw := andR_wg (a := a) (b := b) (by unfold W64; omega) (by unfold W64; omega) (unhide HR).wg (show n < 600 by omega) (m := m)
            have HR := hide ((unhide HR).later (by exact b6))
            have lo6 : ∀ p, a6 = some p → p.block < w7.heap.size ∧ w.heap.size ≤ p.block ∧ p.block ≠ R ∧ p.block ≠ B ∧ p.block ≠ Y := fun p hp => by
              rcases pl6 with e | e | ⟨q, e, h1, h2⟩
              · rw [hp] at e; cases e
              · rw [hp] at e; have := lo5 p e.symm; exact ⟨Nat.lt_of_lt_of_le this.1 b6.size, this.2⟩
              · rw [hp] at e; cases e; simp only at B5 Y5 h1 h2 ⊢; (try simp at h1); omega
            have HP := hide ((unhide HR).put (m' := (andR m n G a b).m) (cap' := c6) g6 nn6 sp6 lo6 hw.2.2)
            have HW1 := hide hw.1
            have HW2 := hide hw.2.1
            clear g6 nn6 sp6 pl6 b6 lo6 lo5 hw w5s B5 Y5 R5 W5
            have kp0 := (unhide HR).p0
            have kp1 := (unhide HR).p1
            have kq0 := (unhide HR).pf 0
            have kq1 := (unhide HR).pf 1
            generalize andR m n G a b = r at *
            go_wp2_with fail
            refine hK.out _ _ ?_ (fun hHeld => ?_)
            · trivial
            clear hK K
            try simp only [List.getElem_toArray, List.getElem_cons_succ, List.getElem_cons_zero, Act.put, List.setIfInBounds_toArray, List.set_cons_zero, List.set_cons_succ]
            refine wpAnyH_take (i := 8) (v := ?_) rfl (by kernel_rfl) (by kernel_rfl) (by kernel_rfl) (fun _ _ _ h => h) (Or.inl ⟨by rfl, ?_⟩) (by assumption) ?_
            rotate_left
            · (intro w hSw; (try dsimp only at hSw); first | (go_simp; done) | (go_simp; with_reducible rfl))
            try simp only [List.getElem_toArray, List.getElem_cons_succ, List.getElem_cons_zero, Act.put, List.setIfInBounds_toArray, List.set_cons_zero, List.set_cons_succ]
            refine wpAnyH_take (i := 9) (v := ?_) rfl (by kernel_rfl) (by kernel_rfl) (by kernel_rfl) (fun _ _ _ h => h) (Or.inl ⟨by rfl, ?_⟩) (by assumption) ?_
            rotate_left
            · (intro w hSw; (try dsimp only at hSw); first | (go_simp; done) | (go_simp; with_reducible rfl))
            try simp only [List.getElem_toArray, List.getElem_cons_succ, List.getElem_cons_zero, Act.put, List.setIfInBounds_toArray, List.set_cons_zero, List.set_cons_succ]
            refine wpAnyH_take (i := 10) (v := ?_) rfl (by kernel_rfl) (by kernel_rfl) (by kernel_rfl) (fun _ _ _ h => h) (Or.inl ⟨by rfl, ?_⟩) (by assumption) ?_
            rotate_left
            · (intro w hSw; (try dsimp only at hSw); first | (go_simp; done) | (go_simp; with_reducible rfl))
            try simp only [List.getElem_toArray, List.getElem_cons_succ, List.getElem_cons_zero, Act.put, List.setIfInBounds_toArray, List.set_cons_zero, List.set_cons_succ]
            refine wpAnyH_ready (rs := [11]) (by kernel_rfl) (by simp) ?_
            refine AllReadyH.cons rfl (fun K hK => ?_) AllReadyH.nil
            go_simp
            refine hK.out _ _ ?_ (fun hHeld => ?_)
            · trivial
            clear hK K
            try simp only [List.getElem_toArray, List.getElem_cons_succ, List.getElem_cons_zero, Act.put, List.setIfInBounds_toArray, List.set_cons_zero, List.set_cons_succ]
            refine wpAnyH_done (by kernel_rfl) ?_ _
            clear kp0 kp1 kq0 kq1
            go_wp2
            go_roundw
            case rel => exact ⟨j, by omega, by go_num, r.m, a6, r.n, c6, r.G, by rw [unhide HW1]; exact m0, by rw [unhide HW1]; exact m4, by have := unhide HW2; omega, (by first | exact (unhide HP).drew.rdm (by omega) | exact (unhide HP).rdm (by omega))⟩
            case measure => simp [intOf] <;> omega
          · go_simp
            refine hK.out _ _ ?_ (fun hHeld => ?_)
            · trivial
            clear hK K
            try simp only [List.getElem_toArray, List.getElem_cons_succ, List.getElem_cons_zero, Act.put, List.setIfInBounds_toArray, List.set_cons_zero, List.set_cons_succ]
            refine wpAnyH_ready (rs := [3]) (by kernel_rfl) (by simp) ?_
            refine AllReadyH.cons rfl (fun K hK => ?_) AllReadyH.nil
            go_simp
            refine (l6Lit_any R _ m ad n cap _ (by exact (unhide HR).rd) (by omega) (by omega) (by omega) (by omega)).mono ?_
            rintro e w3 ⟨a, rfl, ha, ham, R3, M3⟩
            clear kp0 kp1 kq0 kq1
            have HR := hide ((unhide HR).mov (by exact M3) R3)
            have HaM := hide (ham (by omega))
            clear M3 R3 ham
            have kp0 := (unhide HR).p0
            have kp1 := (unhide HR).p1
            have kq0 := (unhide HR).pf 0
            have kq1 := (unhide HR).pf 1
            go_wp2_with fail
            refine hK.out _ _ ?_ (fun hHeld => ?_)
            · trivial
            clear hK K
            try simp only [List.getElem_toArray, List.getElem_cons_succ, List.getElem_cons_zero, Act.put, List.setIfInBounds_toArray, List.set_cons_zero, List.set_cons_succ]
            refine wpAnyH_ready (rs := [6]) (by kernel_rfl) (by simp) ?_
            refine AllReadyH.cons rfl (fun K hK => ?_) AllReadyH.nil
            go_simp
            refine (l6Lit_any R _ m ad n cap _ (by exact (unhide HR).rd) (by omega) (by omega) (by omega) (by omega)).mono ?_
            rintro e w6 ⟨b, rfl, hb, hbm, R6, M6⟩
            clear kp0 kp1 kq0 kq1
            have HR := hide ((unhide HR).mov (by exact M6) R6)
            have HbM := hide (hbm (by omega))
            clear M6 R6 hbm
            have kp0 := (unhide HR).p0
            have kp1 := (unhide HR).p1
            have kq0 := (unhide HR).pf 0
            have kq1 := (unhide HR).pf 1
            go_wp2_with fail
            refine hK.out _ _ ?_ (fun hHeld => ?_)
            · trivial
            clear hK K
            try simp only [List.getElem_toArray, List.getElem_cons_succ, List.getElem_cons_zero, Act.put, List.setIfInBounds_toArray, List.set_cons_zero, List.set_cons_succ]
            refine wpAnyH_ready (rs := [7]) (by kernel_rfl) (by simp) ?_
            refine AllReadyH.cons rfl (fun K hK => ?_) AllReadyH.nil
            go_simp
            refine (l6And_any m ad n cap G a b _ (by exact (unhide HR).gt) (unhide HR).nn (unhide HR).sp (fun p hp => ((unhide HR).lo p hp).1) (by omega) (by omega) (by omega) (unhide HaM) (unhide HbM)).mono ?_
            rintro e w7 ⟨⟨a6, c6, rfl, g6, nn6, sp6, pl6⟩, b6⟩
            clear kp0 kp1 kq0 kq1
            have w5s := (unhide HR).ne
            have lo5 := (unhide HR).lo
            have B5 := World.block_lt_of_cell? _ _ (unhide HR).p0
            have Y5 := World.block_lt_of_cell? _ _ (unhide HR).s0
            have R5 := (unhide HR).rd.lt
            have W5 := (unhide HR).mv.size
            have hw := andR_wg (a := a) (b := b) (by unfold W64; omega) (by unfold W64; omega) (unhide HR).wg (show n < 600 by omega) (m := m)
            have HR := hide ((unhide HR).later (by exact b6))
            have lo6 : ∀ p, a6 = some p → p.block < w7.heap.size ∧ w.heap.size ≤ p.block ∧ p.block ≠ R ∧ p.block ≠ B ∧ p.block ≠ Y := fun p hp => by
              rcases pl6 with e | e | ⟨q, e, h1, h2⟩
              · rw [hp] at e; cases e
              · rw [hp] at e; have := lo5 p e.symm; exact ⟨Nat.lt_of_lt_of_le this.1 b6.size, this.2⟩
              · rw [hp] at e; cases e; simp only at B5 Y5 h1 h2 ⊢; (try simp at h1); omega
            have HP := hide ((unhide HR).put (m' := (andR m n G a b).m) (cap' := c6) g6 nn6 sp6 lo6 hw.2.2)
            have HW1 := hide hw.1
            have HW2 := hide hw.2.1
            clear g6 nn6 sp6 pl6 b6 lo6 lo5 hw w5s B5 Y5 R5 W5
            have kp0 := (unhide HR).p0
            have kp1 := (unhide HR).p1
            have kq0 := (unhide HR).pf 0
            have kq1 := (unhide HR).pf 1
            generalize andR m n G a b = r at *
            go_wp2_with fail
            refine hK.out _ _ ?_ (fun hHeld => ?_)
            · trivial
            clear hK K
            try simp only [List.getElem_toArray, List.getElem_cons_succ, List.getElem_cons_zero, Act.put, List.setIfInBounds_toArray, List.set_cons_zero, List.set_cons_succ]
            refine wpAnyH_take (i := 8) (v := ?_) rfl (by kernel_rfl) (by kernel_rfl) (by kernel_rfl) (fun _ _ _ h => h) (Or.inl ⟨by rfl, ?_⟩) (by assumption) ?_
            rotate_left
            · (intro w hSw; (try dsimp only at hSw); first | (go_simp; done) | (go_simp; with_reducible rfl))
            try simp only [List.getElem_toArray, List.getElem_cons_succ, List.getElem_cons_zero, Act.put, List.setIfInBounds_toArray, List.set_cons_zero, List.set_cons_succ]
            refine wpAnyH_take (i := 9) (v := ?_) rfl (by kernel_rfl) (by kernel_rfl) (by kernel_rfl) (fun _ _ _ h => h) (Or.inl ⟨by rfl, ?_⟩) (by assumption) ?_
            rotate_left
            · (intro w hSw; (try dsimp only at hSw); first | (go_simp; done) | (go_simp; with_reducible rfl))
            try simp only [List.getElem_toArray, List.getElem_cons_succ, List.getElem_cons_zero, Act.put, List.setIfInBounds_toArray, List.set_cons_zero, List.set_cons_succ]
            refine wpAnyH_take (i := 10) (v := ?_) rfl (by kernel_rfl) (by kernel_rfl) (by kernel_rfl) (fun _ _ _ h => h) (Or.inl ⟨by rfl, ?_⟩) (by assumption) ?_
            rotate_left
            · (intro w hSw; (try dsimp only at hSw); first | (go_simp; done) | (go_simp; with_reducible rfl))
            try simp only [List.getElem_toArray, List.getElem_cons_succ, List.getElem_cons_zero, Act.put, List.setIfInBounds_toArray, List.set_cons_zero, List.set_cons_succ]
            refine wpAnyH_ready (rs := [11]) (by kernel_rfl) (by simp) ?_
            refine AllReadyH.cons rfl (fun K hK => ?_) AllReadyH.nil
            go_simp
            refine hK.out _ _ ?_ (fun hHeld => ?_)
            · trivial
            clear hK K
            try simp only [List.getElem_toArray, List.getElem_cons_succ, List.getElem_cons_zero, Act.put, List.setIfInBounds_toArray, List.set_cons_zero, List.set_cons_succ]
            refine wpAnyH_done (by kernel_rfl) ?_ _
            clear kp0 kp1 kq0 kq1
            go_wp2
            go_roundw
            case rel => exact ⟨j, by omega, by go_num, r.m, a6, r.n, c6, r.G, by rw [unhide HW1]; exact m0, by rw [unhide HW1]; exact m4, by have := unhide HW2; omega, (by first | exact (unhide HP).drew.rdm (by omega) | exact (unhide HP).rdm (by omega))⟩
            case measure => simp [intOf] <;> omega
        · go_simp
          refine hK.out _ _ ?_ (fun hHeld => ?_)
          · trivial
          clear hK K
          try simp only [List.getElem_toArray, List.getElem_cons_succ, List.getElem_cons_zero, Act.put, List.setIfInBounds_toArray, List.set_cons_zero, List.set_cons_succ]
          refine wpAnyH_ready (rs := [2]) (by kernel_rfl) (by simp) ?_
          refine AllReadyH.cons rfl (fun K hK => ?_) AllReadyH.nil
          go_simp
          refine hK.out _ _ ?_ (fun hHeld => ?_)
          · trivial
          clear hK K
          try simp only [List.getElem_toArray, List.getElem_cons_succ, List.getElem_cons_zero, Act.put, List.setIfInBounds_toArray, List.set_cons_zero, List.set_cons_succ]
          refine wpAnyH_ready (rs := [3]) (by kernel_rfl) (by simp) ?_
          refine AllReadyH.cons rfl (fun K hK => ?_) AllReadyH.nil
          go_simp
          refine (l6Lit_any R _ m ad n cap _ (by exact (unhide HR).rd) (by omega) (by omega) (by omega) (by omega)).mono ?_
          rintro e w3 ⟨a, rfl, ha, ham, R3, M3⟩
          clear kp0 kp1 kq0 kq1
          have HR := hide ((unhide HR).mov (by exact M3) R3)
          have HaM := hide (ham (by omega))
          clear M3 R3 ham
          have kp0 := (unhide HR).p0
          have kp1 := (unhide HR).p1
          have kq0 := (unhide HR).pf 0
          have kq1 := (unhide HR).pf 1
          go_wp2_with fail
          refine hK.out _ _ ?_ (fun hHeld => ?_)
          · trivial
          clear hK K
          try simp only [List.getElem_toArray, List.getElem_cons_succ, List.getElem_cons_zero, Act.put, List.setIfInBounds_toArray, List.set_cons_zero, List.set_cons_succ]
          refine wpAnyH_ready (rs := [6]) (by kernel_rfl) (by simp) ?_
          refine AllReadyH.cons rfl (fun K hK => ?_) AllReadyH.nil
          go_simp
          refine (l6Lit_any R _ m ad n cap _ (by exact (unhide HR).rd) (by omega) (by omega) (by omega) (by omega)).mono ?_
          rintro e w6 ⟨b, rfl, hb, hbm, R6, M6⟩
          clear kp0 kp1 kq0 kq1
          have HR := hide ((unhide HR).mov (by exact M6) R6)
          have HbM := hide (hbm (by omega))
          clear M6 R6 hbm
          have kp0 := (unhide HR).p0
          have kp1 := (unhide HR).p1
          have kq0 := (unhide HR).pf 0
          have kq1 := (unhide HR).pf 1
          go_wp2_with fail
          refine hK.out _ _ ?_ (fun hHeld => ?_)
          · trivial
          clear hK K
          try simp only [List.getElem_toArray, List.getElem_cons_succ, List.getElem_cons_zero, Act.put, List.setIfInBounds_toArray, List.set_cons_zero, List.set_cons_succ]
          refine wpAnyH_ready (rs := [7]) (by kernel_rfl) (by simp) ?_
          refine AllReadyH.cons rfl (fun K hK => ?_) AllReadyH.nil
          go_simp
          refine (l6And_any m ad n cap G a b _ (by exact (unhide HR).gt) (unhide HR).nn (unhide HR).sp (fun p hp => ((unhide HR).lo p hp).1) (by omega) (by omega) (by omega) (unhide HaM) (unhide HbM)).mono ?_
          rintro e w7 ⟨⟨a6, c6, rfl, g6, nn6, sp6, pl6⟩, b6⟩
          clear kp0 kp1 kq0 kq1
          have w5s := (unhide HR).ne
          have lo5 := (unhide HR).lo
          have B5 := World.block_lt_of_cell? _ _ (unhide HR).p0
          have Y5 := World.block_lt_of_cell? _ _ (unhide HR).s0
          have R5 := (unhide HR).rd.lt
          have W5 := (unhide HR).mv.size
          have hw := andR_wg (a := a) (b := b) (by unfold W64; omega) (by unfold W64; omega) (unhide HR).wg (show n < 600 by omega) (m := m)
          have HR := hide ((unhide HR).later (by exact b6))
          have lo6 : ∀ p, a6 = some p → p.block < w7.heap.size ∧ w.heap.size ≤ p.block ∧ p.block ≠ R ∧ p.block ≠ B ∧ p.block ≠ Y := fun p hp => by
            rcases pl6 with e | e | ⟨q, e, h1, h2⟩
            · rw [hp] at e; cases e
            · rw [hp] at e; have := lo5 p e.symm; exact ⟨Nat.lt_of_lt_of_le this.1 b6.size, this.2⟩
            · rw [hp] at e; cases e; simp only at B5 Y5 h1 h2 ⊢; (try simp at h1); omega
          have HP := hide ((unhide HR).put (m' := (andR m n G a b).m) (cap' := c6) g6 nn6 sp6 lo6 hw.2.2)
          have HW1 := hide hw.1
          have HW2 := hide hw.2.1
          clear g6 nn6 sp6 pl6 b6 lo6 lo5 hw w5s B5 Y5 R5 W5
          have kp0 := (unhide HR).p0
          have kp1 := (unhide HR).p1
          have kq0 := (unhide HR).pf 0
          have kq1 := (unhide HR).pf 1
          generalize andR m n G a b = r at *
          go_wp2_with fail
          refine hK.out _ _ ?_ (fun hHeld => ?_)
          · trivial
          clear hK K
          try simp only [List.getElem_toArray, List.getElem_cons_succ, List.getElem_cons_zero, Act.put, List.setIfInBounds_toArray, List.set_cons_zero, List.set_cons_succ]
          refine wpAnyH_take (i := 8) (v := ?_) rfl (by kernel_rfl) (by kernel_rfl) (by kernel_rfl) (fun _ _ _ h => h) (Or.inl ⟨by rfl, ?_⟩) (by assumption) ?_
          rotate_left
          · (intro w hSw; (try dsimp only at hSw); first | (go_simp; done) | (go_simp; with_reducible rfl))
          try simp only [List.getElem_toArray, List.getElem_cons_succ, List.getElem_cons_zero, Act.put, List.setIfInBounds_toArray, List.set_cons_zero, List.set_cons_succ]
          refine wpAnyH_take (i := 9) (v := ?_) rfl (by kernel_rfl) (by kernel_rfl) (by kernel_rfl) (fun _ _ _ h => h) (Or.inl ⟨by rfl, ?_⟩) (by assumption) ?_
          rotate_left
          · (intro w hSw; (try dsimp only at hSw); first | (go_simp; done) | (go_simp; with_reducible rfl))
          try simp only [List.getElem_toArray, List.getElem_cons_succ, List.getElem_cons_zero, Act.put, List.setIfInBounds_toArray, List.set_cons_zero, List.set_cons_succ]
          refine wpAnyH_take (i := 10) (v := ?_) rfl (by kernel_rfl) (by kernel_rfl) (by kernel_rfl) (fun _ _ _ h => h) (Or.inl ⟨by rfl, ?_⟩) (by assumption) ?_
          rotate_left
          · (intro w hSw; (try dsimp only at hSw); first | (go_simp; done) | (go_simp; with_reducible rfl))
          try simp only [List.getElem_toArray, List.getElem_cons_succ, List.getElem_cons_zero, Act.put, List.setIfInBounds_toArray, List.set_cons_zero, List.set_cons_succ]
          refine wpAnyH_ready (rs := [11]) (by kernel_rfl) (by simp) ?_
          refine AllReadyH.cons rfl (fun K hK => ?_) AllReadyH.nil
          go_simp
          refine hK.out _ _ ?_ (fun hHeld => ?_)
          · trivial
          clear hK K
          try simp only [List.getElem_toArray, List.getElem_cons_succ, List.getElem_cons_zero, Act.put, List.setIfInBounds_toArray, List.set_cons_zero, List.set_cons_succ]
          refine wpAnyH_done (by kernel_rfl) ?_ _
          clear kp0 kp1 kq0 kq1
          go_wp2
          go_roundw
          case rel => exact ⟨j, by omega, by go_num, r.m, a6, r.n, c6, r.G, by rw [unhide HW1]; exact m0, by rw [unhide HW1]; exact m4, by have := unhide HW2; omega, (by first | exact (unhide HP).drew.rdm (by omega) | exact (unhide HP).rdm (by omega))⟩
          case measure => simp [intOf] <;> omega
      · go_simp
        refine hK.out _ _ ?_ (fun hHeld => ?_)
        · trivial
        clear hK K
        try simp only [List.getElem_toArray, List.getElem_cons_succ, List.getElem_cons_zero, Act.put, List.setIfInBounds_toArray, List.set_cons_zero, List.set_cons_succ]
        refine wpAnyH_ready (rs := [0, 3, 5]) (by kernel_rfl) (by simp) ?_
        refine AllReadyH.cons rfl (fun K hK => ?_) (AllReadyH.cons rfl (fun K hK => ?_) (AllReadyH.cons rfl (fun K hK => ?_) AllReadyH.nil))
        · go_simp
          refine hK.out _ _ ?_ (fun hHeld => ?_)
          · trivial
          clear hK K
          try simp only [List.getElem_toArray, List.getElem_cons_succ, List.getElem_cons_zero, Act.put, List.setIfInBounds_toArray, List.set_cons_zero, List.set_cons_succ]
          refine wpAnyH_ready (rs := [3, 5]) (by kernel_rfl) (by simp) ?_
          refine AllReadyH.cons rfl (fun K hK => ?_) (AllReadyH.cons rfl (fun K hK => ?_) AllReadyH.nil)
          · go_simp
            refine (l6Lit_any R _ m ad n cap _ (by exact (unhide HR).rd) (by omega) (by omega) (by omega) (by omega)).mono ?_
            rintro e w3 ⟨a, rfl, ha, ham, R3, M3⟩
            clear kp0 kp1 kq0 kq1
            have HR := hide ((unhide HR).mov (by exact M3) R3)
            have HaM := hide (ham (by omega))
            clear M3 R3 ham
            have kp0 := (unhide HR).p0
            have kp1 := (unhide HR).p1
            have kq0 := (unhide HR).pf 0
            have kq1 := (unhide HR).pf 1
            go_wp2_with fail
            refine hK.out _ _ ?_ (fun hHeld => ?_)
            · trivial
            clear hK K
            try simp only [List.getElem_toArray, List.getElem_cons_succ, List.getElem_cons_zero, Act.put, List.setIfInBounds_toArray, List.set_cons_zero, List.set_cons_succ]
            refine wpAnyH_ready (rs := [5]) (by kernel_rfl) (by simp) ?_
            refine AllReadyH.cons rfl (fun K hK => ?_) AllReadyH.nil
            go_simp
            refine hK.out _ _ ?_ (fun hHeld => ?_)
            · trivial
            clear hK K
            try simp only [List.getElem_toArray, List.getElem_cons_succ, List.getElem_cons_zero, Act.put, List.setIfInBounds_toArray, List.set_cons_zero, List.set_cons_succ]
            refine wpAnyH_ready (rs := [6]) (by kernel_rfl) (by simp) ?_
            refine AllReadyH.cons rfl (fun K hK => ?_) AllReadyH.nil
            go_simp
            refine (l6Lit_any R _ m ad n cap _ (by exact (unhide HR).rd) (by omega) (by omega) (by omega) (by omega)).mono ?_
            rintro e w6 ⟨b, rfl, hb, hbm, R6, M6⟩
            clear kp0 kp1 kq0 kq1
            have HR := hide ((unhide HR).mov (by exact M6) R6)
            have HbM := hide (hbm (by omega))
            clear M6 R6 hbm
            have kp0 := (unhide HR).p0
            have kp1 := (unhide HR).p1
            have kq0 := (unhide HR).pf 0
            have kq1 := (unhide HR).pf 1
            go_wp2_with fail
            refine hK.out _ _ ?_ (fun hHeld => ?_)
            · trivial
            clear hK K
            try simp only [List.getElem_toArray, List.getElem_cons_succ, List.getElem_cons_zero, Act.put, List.setIfInBounds_toArray, List.set_cons_zero, List.set_cons_succ]
            refine wpAnyH_ready (rs := [7]) (by kernel_rfl) (by simp) ?_
            refine AllReadyH.cons rfl (fun K hK => ?_) AllReadyH.nil
            go_simp
            refine (l6And_any m ad n cap G a b _ (by exact (unhide HR).gt) (unhide HR).nn (unhide HR).sp (fun p hp => ((unhide HR).lo p hp).1) (by omega) (by omega) (by omega) (unhide HaM) (unhide HbM)).mono ?_
            rintro e w7 ⟨⟨a6, c6, rfl, g6, nn6, sp6, pl6⟩, b6⟩
            clear kp0 kp1 kq0 kq1
            have w5s := (unhide HR).ne
            have lo5 := (unhide HR).lo
            have B5 := World.block_lt_of_cell? _ _ (unhide HR).p0
            have Y5 := World.block_lt_of_cell? _ _ (unhide HR).s0
            have R5 := (unhide HR).rd.lt
            have W5 := (unhide HR).mv.size
            have hw := andR_wg (a := a) (b := b) (by unfold W64; omega) (by unfold W64; omega) (unhide HR).wg (show n < 600 by omega) (m := m)
            have HR := hide ((unhide HR).later (by exact b6))
            have lo6 : ∀ p, a6 = some p → p.block < w7.heap.size ∧ w.heap.size ≤ p.block ∧ p.block ≠ R ∧ p.block ≠ B ∧ p.block ≠ Y := fun p hp => by
              rcases pl6 with e | e | ⟨q, e, h1, h2⟩
              · rw [hp] at e; cases e
              · rw [hp] at e; have := lo5 p e.symm; exact ⟨Nat.lt_of_lt_of_le this.1 b6.size, this.2⟩
              · rw [hp] at e; cases e; simp only at B5 Y5 h1 h2 ⊢; (try simp at h1); omega
            have HP := hide ((unhide HR).put (m' := (andR m n G a b).m) (cap' := c6) g6 nn6 sp6 lo6 hw.2.2)
            have HW1 := hide hw.1
            have HW2 := hide hw.2.1
            clear g6 nn6 sp6 pl6 b6 lo6 lo5 hw w5s B5 Y5 R5 W5
            have kp0 := (unhide HR).p0
            have kp1 := (unhide HR).p1
            have kq0 := (unhide HR).pf 0
            have kq1 := (unhide HR).pf 1
            generalize andR m n G a b = r at *
            go_wp2_with fail
            refine hK.out _ _ ?_ (fun hHeld => ?_)
            · trivial
            clear hK K
            try simp only [List.getElem_toArray, List.getElem_cons_succ, List.getElem_cons_zero, Act.put, List.setIfInBounds_toArray, List.set_cons_zero, List.set_cons_succ]
            refine wpAnyH_take (i := 8) (v := ?_) rfl (by kernel_rfl) (by kernel_rfl) (by kernel_rfl) (fun _ _ _ h => h) (Or.inl ⟨by rfl, ?_⟩) (by assumption) ?_
            rotate_left
            · (intro w hSw; (try dsimp only at hSw); first | (go_simp; done) | (go_simp; with_reducible rfl))
            try simp only [List.getElem_toArray, List.getElem_cons_succ, List.getElem_cons_zero, Act.put, List.setIfInBounds_toArray, List.set_cons_zero, List.set_cons_succ]
            refine wpAnyH_take (i := 9) (v := ?_) rfl (by kernel_rfl) (by kernel_rfl) (by kernel_rfl) (fun _ _ _ h => h) (Or.inl ⟨by rfl, ?_⟩) (by assumption) ?_
            rotate_left
            · (intro w hSw; (try dsimp only at hSw); first | (go_simp; done) | (go_simp; with_reducible rfl))
            try simp only [List.getElem_toArray, List.getElem_cons_succ, List.getElem_cons_zero, Act.put, List.setIfInBounds_toArray, List.set_cons_zero, List.set_cons_succ]
            refine wpAnyH_take (i := 10) (v := ?_) rfl (by kernel_rfl) (by kernel_rfl) (by kernel_rfl) (fun _ _ _ h => h) (Or.inl ⟨by rfl, ?_⟩) (by assumption) ?_
            rotate_left
            · (intro w hSw; (try dsimp only at hSw); first | (go_simp; done) | (go_simp; with_reducible rfl))
            try simp only [List.getElem_toArray, List.getElem_cons_succ, List.getElem_cons_zero, Act.put, List.setIfInBounds_toArray, List.set_cons_zero, List.set_cons_succ]
            refine wpAnyH_ready (rs := [11]) (by kernel_rfl) (by simp) ?_
            refine AllReadyH.cons rfl (fun K hK => ?_) AllReadyH.nil
            go_simp
            refine hK.out _ _ ?_ (fun hHeld => ?_)
            · trivial
            clear hK K
            try simp only [List.getElem_toArray, List.getElem_cons_succ, List.getElem_cons_zero, Act.put, List.setIfInBounds_toArray, List.set_cons_zero, List.set_cons_succ]
            refine wpAnyH_done (by kernel_rfl) ?_ _
            clear kp0 kp1 kq0 kq1
            go_wp2
            go_roundw
            case rel => exact ⟨j, by omega, by go_num, r.m, a6, r.n, c6, r.G, by rw [unhide HW1]; exact m0, by rw [unhide HW1]; exact m4, by have := unhide HW2; omega, (by first | exact (unhide HP).drew.rdm (by omega) | exact (unhide HP).rdm (by omega))⟩
            case measure => simp [intOf] <;> omega
          · go_simp
            refine hK.out _ _ ?_ (fun hHeld => ?_)
            · trivial
            clear hK K
            try simp only [List.getElem_toArray, List.getElem_cons_succ, List.getElem_cons_zero, Act.put, List.setIfInBounds_toArray, List.set_cons_zero, List.set_cons_succ]
            refine wpAnyH_ready (rs := [3]) (by kernel_rfl) (by simp) ?_
            refine AllReadyH.cons rfl (fun K hK => ?_) AllReadyH.nil
            go_simp
            refine (l6Lit_any R _ m ad n cap _ (by exact (unhide HR).rd) (by omega) (by omega) (by omega) (by omega)).mono ?_
            rintro e w3 ⟨a, rfl, ha, ham, R3, M3⟩
            clear kp0 kp1 kq0 kq1
            have HR := hide ((unhide HR).mov (by exact M3) R3)
            have HaM := hide (ham (by omega))
            clear M3 R3 ham
            have kp0 := (unhide HR).p0
            have kp1 := (unhide HR).p1
            have kq0 := (unhide HR).pf 0
            have kq1 := (unhide HR).pf 1
            go_wp2_with fail
            refine hK.out _ _ ?_ (fun hHeld => ?_)
            · trivial
            clear hK K
            try simp only [List.getElem_toArray, List.getElem_cons_succ, List.getElem_cons_zero, Act.put, List.setIfInBounds_toArray, List.set_cons_zero, List.set_cons_succ]
            refine wpAnyH_ready (rs := [6]) (by kernel_rfl) (by simp) ?_
            refine AllReadyH.cons rfl (fun K hK => ?_) AllReadyH.nil
            go_simp
            refine (l6Lit_any R _ m ad n cap _ (by exact (unhide HR).rd) (by omega) (by omega) (by omega) (by omega)).mono ?_
            rintro e w6 ⟨b, rfl, hb, hbm, R6, M6⟩
            clear kp0 kp1 kq0 kq1
            have HR := hide ((unhide HR).mov (by exact M6) R6)
            have HbM := hide (hbm (by omega))
            clear M6 R6 hbm
            have kp0 := (unhide HR).p0
            have kp1 := (unhide HR).p1
            have kq0 := (unhide HR).pf 0
            have kq1 := (unhide HR).pf 1
            go_wp2_with fail
            refine hK.out _ _ ?_ (fun hHeld => ?_)
            · trivial
            clear hK K
            try simp only [List.getElem_toArray, List.getElem_cons_succ, List.getElem_cons_zero, Act.put, List.setIfInBounds_toArray, List.set_cons_zero, List.set_cons_succ]
            refine wpAnyH_ready (rs := [7]) (by kernel_rfl) (by simp) ?_
            refine AllReadyH.cons rfl (fun K hK => ?_) AllReadyH.nil
            go_simp
            refine (l6And_any m ad n cap G a b _ (by exact (unhide HR).gt) (unhide HR).nn (unhide HR).sp (fun p hp => ((unhide HR).lo p hp).1) (by omega) (by omega) (by omega) (unhide HaM) (unhide HbM)).mono ?_
            rintro e w7 ⟨⟨a6, c6, rfl, g6, nn6, sp6, pl6⟩, b6⟩
            clear kp0 kp1 kq0 kq1
            have w5s := (unhide HR).ne
            have lo5 := (unhide HR).lo
            have B5 := World.block_lt_of_cell? _ _ (unhide HR).p0
            have Y5 := World.block_lt_of_cell? _ _ (unhide HR).s0
            have R5 := (unhide HR).rd.lt
            have W5 := (unhide HR).mv.size
            have hw := andR_wg (a := a) (b := b) (by unfold W64; omega) (by unfold W64; omega) (unhide HR).wg (show n < 600 by omega) (m := m)
            have HR := hide ((unhide HR).later (by exact b6))
            have lo6 : ∀ p, a6 = some p → p.block < w7.heap.size ∧ w.heap.size ≤ p.block ∧ p.block ≠ R ∧ p.block ≠ B ∧ p.block ≠ Y := fun p hp => by
              rcases pl6 with e | e | ⟨q, e, h1, h2⟩
              · rw [hp] at e; cases e
              · rw [hp] at e; have := lo5 p e.symm; exact ⟨Nat.lt_of_lt_of_le this.1 b6.size, this.2⟩
              · rw [hp] at e; cases e; simp only at B5 Y5 h1 h2 ⊢; (try simp at h1); omega
            have HP := hide ((unhide HR).put (m' := (andR m n G a b).m) (cap' := c6) g6 nn6 sp6 lo6 hw.2.2)
            have HW1 := hide hw.1
            have HW2 := hide hw.2.1
            clear g6 nn6 sp6 pl6 b6 lo6 lo5 hw w5s B5 Y5 R5 W5
            have kp0 := (unhide HR).p0
            have kp1 := (unhide HR).p1
            have kq0 := (unhide HR).pf 0
            have kq1 := (unhide HR).pf 1
            generalize andR m n G a b = r at *
            go_wp2_with fail
            refine hK.out _ _ ?_ (fun hHeld => ?_)
            · trivial
            clear hK K
            try simp only [List.getElem_toArray, List.getElem_cons_succ, List.getElem_cons_zero, Act.put, List.setIfInBounds_toArray, List.set_cons_zero, List.set_cons_succ]
            refine wpAnyH_take (i := 8) (v := ?_) rfl (by kernel_rfl) (by kernel_rfl) (by kernel_rfl) (fun _ _ _ h => h) (Or.inl ⟨by rfl, ?_⟩) (by assumption) ?_
            rotate_left
            · (intro w hSw; (try dsimp only at hSw); first | (go_simp; done) | (go_simp; with_reducible rfl))
            try simp only [List.getElem_toArray, List.getElem_cons_succ, List.getElem_cons_zero, Act.put, List.setIfInBounds_toArray, List.set_cons_zero, List.set_cons_succ]
            refine wpAnyH_take (i := 9) (v := ?_) rfl (by kernel_rfl) (by kernel_rfl) (by kernel_rfl) (fun _ _ _ h => h) (Or.inl ⟨by rfl, ?_⟩) (by assumption) ?_
            rotate_left
            · (intro w hSw; (try dsimp only at hSw); first | (go_simp; done) | (go_simp; with_reducible rfl))
            try simp only [List.getElem_toArray, List.getElem_cons_succ, List.getElem_cons_zero, Act.put, List.setIfInBounds_toArray, List.set_cons_zero, List.set_cons_succ]
            refine wpAnyH_take (i := 10) (v := ?_) rfl (by kernel_rfl) (by kernel_rfl) (by kernel_rfl) (fun _ _ _ h => h) (Or.inl ⟨by rfl, ?_⟩) (by assumption) ?_
            rotate_left
            · (intro w hSw; (try dsimp only at hSw); first | (go_simp; done) | (go_simp; with_reducible rfl))
            try simp only [List.getElem_toArray, List.getElem_cons_succ, List.getElem_cons_zero, Act.put, List.setIfInBounds_toArray, List.set_cons_zero, List.set_cons_succ]
            refine wpAnyH_ready (rs := [11]) (by kernel_rfl) (by simp) ?_
            refine AllReadyH.cons rfl (fun K hK => ?_) AllReadyH.nil
            go_simp
            refine hK.out _ _ ?_ (fun hHeld => ?_)
            · trivial
            clear hK K
            try simp only [List.getElem_toArray, List.getElem_cons_succ, List.getElem_cons_zero, Act.put, List.setIfInBounds_toArray, List.set_cons_zero, List.set_cons_succ]
            refine wpAnyH_done (by kernel_rfl) ?_ _
            clear kp0 kp1 kq0 kq1
            go_wp2
            go_roundw
            case rel => exact ⟨j, by omega, by go_num, r.m, a6, r.n, c6, r.G, by rw [unhide HW1]; exact m0, by rw [unhide HW1]; exact m4, by have := unhide HW2; omega, (by first | exact (unhide HP).drew.rdm (by omega) | exact (unhide HP).rdm (by omega))⟩
            case measure => simp [intOf] <;> omega
        · go_simp
          refine (l6Lit_any R _ m ad n cap _ (by exact (unhide HR).rd) (by omega) (by omega) (by omega) (by omega)).mono ?_
          rintro e w3 ⟨a, rfl, ha, ham, R3, M3⟩
          clear kp0 kp1 kq0 kq1
          have HR := hide ((unhide HR).mov (by exact M3) R3)
          have HaM := hide (ham (by omega))
          clear M3 R3 ham
          have kp0 := (unhide HR).p0
          have kp1 := (unhide HR).p1
          have kq0 := (unhide HR).pf 0
          have kq1 := (unhide HR).pf 1
          go_wp2_with fail
          refine hK.out _ _ ?_ (fun hHeld => ?_)
          · trivial
          clear hK K
          try simp only [List.getElem_toArray, List.getElem_cons_succ, List.getElem_cons_zero, Act.put, List.setIfInBounds_toArray, List.set_cons_zero, List.set_cons_succ]
          refine wpAnyH_ready (rs := [0, 5]) (by kernel_rfl) (by simp) ?_
          refine AllReadyH.cons rfl (fun K hK => ?_) (AllReadyH.cons rfl (fun K hK => ?_) AllReadyH.nil)
          · go_simp
            refine hK.out _ _ ?_ (fun hHeld => ?_)
            · trivial
            clear hK K
            try simp only [List.getElem_toArray, List.getElem_cons_succ, List.getElem_cons_zero, Act.put, List.setIfInBounds_toArray, List.set_cons_zero, List.set_cons_succ]
            refine wpAnyH_ready (rs := [5]) (by kernel_rfl) (by simp) ?_
            refine AllReadyH.cons rfl (fun K hK => ?_) AllReadyH.nil
            go_simp
            refine hK.out _ _ ?_ (fun hHeld => ?_)
            · trivial
            clear hK K
            try simp only [List.getElem_toArray, List.getElem_cons_succ, List.getElem_cons_zero, Act.put, List.setIfInBounds_toArray, List.set_cons_zero, List.set_cons_succ]
            refine wpAnyH_ready (rs := [6]) (by kernel_rfl) (by simp) ?_
            refine AllReadyH.cons rfl (fun K hK => ?_) AllReadyH.nil
            go_simp
            refine (l6Lit_any R _ m ad n cap _ (by exact (unhide HR).rd) (by omega) (by omega) (by omega) (by omega)).mono ?_
            rintro e w6 ⟨b, rfl, hb, hbm, R6, M6⟩
            clear kp0 kp1 kq0 kq1
            have HR := hide ((unhide HR).mov (by exact M6) R6)
            have HbM := hide (hbm (by omega))
            clear M6 R6 hbm
            have kp0 := (unhide HR).p0
            have kp1 := (unhide HR).p1
            have kq0 := (unhide HR).pf 0
            have kq1 := (unhide HR).pf 1
            go_wp2_with fail
            refine hK.out _ _ ?_ (fun hHeld => ?_)
            · trivial
            clear hK K
            try simp only [List.getElem_toArray, List.getElem_cons_succ, List.getElem_cons_zero, Act.put, List.setIfInBounds_toArray, List.set_cons_zero, List.set_cons_succ]
            refine wpAnyH_ready (rs := [7]) (by kernel_rfl) (by simp) ?_
            refine AllReadyH.cons rfl (fun K hK => ?_) AllReadyH.nil
            go_simp
            refine (l6And_any m ad n cap G a b _ (by exact (unhide HR).gt) (unhide HR).nn (unhide HR).sp (fun p hp => ((unhide HR).lo p hp).1) (by omega) (by omega) (by omega) (unhide HaM) (unhide HbM)).mono ?_
            rintro e w7 ⟨⟨a6, c6, rfl, g6, nn6, sp6, pl6⟩, b6⟩
            clear kp0 kp1 kq0 kq1
            have w5s := (unhide HR).ne
            have lo5 := (unhide HR).lo
            have B5 := World.block_lt_of_cell? _ _ (unhide HR).p0
            have Y5 := World.block_lt_of_cell? _ _ (unhide HR).s0
            have R5 := (unhide HR).rd.lt
            have W5 := (unhide HR).mv.size
            have hw := andR_wg (a := a) (b := b) (by unfold W64; omega) (by unfold W64; omega) (unhide HR).wg (show n < 600 by omega) (m := m)
            have HR := hide ((unhide HR).later (by exact b6))
            have lo6 : ∀ p, a6 = some p → p.block < w7.heap.size ∧ w.heap.size ≤ p.block ∧ p.block ≠ R ∧ p.block ≠ B ∧ p.block ≠ Y := fun p hp => by
              rcases pl6 with e | e | ⟨q, e, h1, h2⟩
              · rw [hp] at e; cases e
              · rw [hp] at e; have := lo5 p e.symm; exact ⟨Nat.lt_of_lt_of_le this.1 b6.size, this.2⟩
              · rw [hp] at e; cases e; simp only at B5 Y5 h1 h2 ⊢; (try simp at h1); omega
            have HP := hide ((unhide HR).put (m' := (andR m n G a b).m) (cap' := c6) g6 nn6 sp6 lo6 hw.2.2)
            have HW1 := hide hw.1
            have HW2 := hide hw.2.1
            clear g6 nn6 sp6 pl6 b6 lo6 lo5 hw w5s B5 Y5 R5 W5
            have kp0 := (unhide HR).p0
            have kp1 := (unhide HR).p1
            have kq0 := (unhide HR).pf 0
            have kq1 := (unhide HR).pf 1
            generalize andR m n G a b = r at *
            go_wp2_with fail
            refine hK.out _ _ ?_ (fun hHeld => ?_)
            · trivial
            clear hK K
            try simp only [List.getElem_toArray, List.getElem_cons_succ, List.getElem_cons_zero, Act.put, List.setIfInBounds_toArray, List.set_cons_zero, List.set_cons_succ]
            refine wpAnyH_take (i := 8) (v := ?_) rfl (by kernel_rfl) (by kernel_rfl) (by kernel_rfl) (fun _ _ _ h => h) (Or.inl ⟨by rfl, ?_⟩) (by assumption) ?_
            rotate_left
            · (intro w hSw; (try dsimp only at hSw); first | (go_simp; done) | (go_simp; with_reducible rfl))
            try simp only [List.getElem_toArray, List.getElem_cons_succ, List.getElem_cons_zero, Act.put, List.setIfInBounds_toArray, List.set_cons_zero, List.set_cons_succ]
            refine wpAnyH_take (i := 9) (v := ?_) rfl (by kernel_rfl) (by kernel_rfl) (by kernel_rfl) (fun _ _ _ h => h) (Or.inl ⟨by rfl, ?_⟩) (by assumption) ?_
            rotate_left
            · (intro w hSw; (try dsimp only at hSw); first | (go_simp; done) | (go_simp; with_reducible rfl))
            try simp only [List.getElem_toArray, List.getElem_cons_succ, List.getElem_cons_zero, Act.put, List.setIfInBounds_toArray, List.set_cons_zero, List.set_cons_succ]
            refine wpAnyH_take (i := 10) (v := ?_) rfl (by kernel_rfl) (by kernel_rfl) (by kernel_rfl) (fun _ _ _ h => h) (Or.inl ⟨by rfl, ?_⟩) (by assumption) ?_
            rotate_left
            · (intro w hSw; (try dsimp only at hSw); first | (go_simp; done) | (go_simp; with_reducible rfl))
            try simp only [List.getElem_toArray, List.getElem_cons_succ, List.getElem_cons_zero, Act.put, List.setIfInBounds_toArray, List.set_cons_zero, List.set_cons_succ]
            refine wpAnyH_ready (rs := [11]) (by kernel_rfl) (by simp) ?_
            refine AllReadyH.cons rfl (fun K hK => ?_) AllReadyH.nil
            go_simp
            refine hK.out _ _ ?_ (fun hHeld => ?_)
            · trivial
            clear hK K
            try simp only [List.getElem_toArray, List.getElem_cons_succ, List.getElem_cons_zero, Act.put, List.setIfInBounds_toArray, List.set_cons_zero, List.set_cons_succ]
            refine wpAnyH_done (by kernel_rfl) ?_ _
            clear kp0 kp1 kq0 kq1
            go_wp2
            go_roundw
            case rel => exact ⟨j, by omega, by go_num, r.m, a6, r.n, c6, r.G, by rw [unhide HW1]; exact m0, by rw [unhide HW1]; exact m4, by have := unhide HW2; omega, (by first | exact (unhide HP).drew.rdm (by omega) | exact (unhide HP).rdm (by omega))⟩
            case measure => simp [intOf] <;> omega
          · go_simp
            refine hK.out _ _ ?_ (fun hHeld => ?_)
            · trivial
            clear hK K
            try simp only [List.getElem_toArray, List.getElem_cons_succ, List.getElem_cons_zero, Act.put, List.setIfInBounds_toArray, List.set_cons_zero, List.set_cons_succ]
            refine wpAnyH_ready (rs := [0, 6]) (by kernel_rfl) (by simp) ?_
            refine AllReadyH.cons rfl (fun K hK => ?_) (AllReadyH.cons rfl (fun K hK => ?_) AllReadyH.nil)
            · go_simp
              refine hK.out _ _ ?_ (fun hHeld => ?_)
              · trivial
              clear hK K
              try simp only [List.getElem_toArray, List.getElem_cons_succ, List.getElem_cons_zero, Act.put, List.setIfInBounds_toArray, List.set_cons_zero, List.set_cons_succ]
              refine wpAnyH_ready (rs := [6]) (by kernel_rfl) (by simp) ?_
              refine AllReadyH.cons rfl (fun K hK => ?_) AllReadyH.nil
              go_simp
              refine (l6Lit_any R _ m ad n cap _ (by exact (unhide HR).rd) (by omega) (by omega) (by omega) (by omega)).mono ?_
              rintro e w6 ⟨b, rfl, hb, hbm, R6, M6⟩
              clear kp0 kp1 kq0 kq1
              have HR := hide ((unhide HR).mov (by exact M6) R6)
              have HbM := hide (hbm (by omega))
              clear M6 R6 hbm
              have kp0 := (unhide HR).p0
              have kp1 := (unhide HR).p1
              have kq0 := (unhide HR).pf 0
              have kq1 := (unhide HR).pf 1
              go_wp2_with fail
              refine hK.out _ _ ?_ (fun hHeld => ?_)
              · trivial
              clear hK K
              try simp only [List.getElem_toArray, List.getElem_cons_succ, List.getElem_cons_zero, Act.put, List.setIfInBounds_toArray, List.set_cons_zero, List.set_cons_succ]
              refine wpAnyH_ready (rs := [7]) (by kernel_rfl) (by simp) ?_
              refine AllReadyH.cons rfl (fun K hK => ?_) AllReadyH.nil
              go_simp
              refine (l6And_any m ad n cap G a b _ (by exact (unhide HR).gt) (unhide HR).nn (unhide HR).sp (fun p hp => ((unhide HR).lo p hp).1) (by omega) (by omega) (by omega) (unhide HaM) (unhide HbM)).mono ?_
              rintro e w7 ⟨⟨a6, c6, rfl, g6, nn6, sp6, pl6⟩, b6⟩
              clear kp0 kp1 kq0 kq1
              have w5s := (unhide HR).ne
              have lo5 := (unhide HR).lo
              have B5 := World.block_lt_of_cell? _ _ (unhide HR).p0
              have Y5 := World.block_lt_of_cell? _ _ (unhide HR).s0
              have R5 := (unhide HR).rd.lt
              have W5 := (unhide HR).mv.size
              have hw := andR_wg (a := a) (b := b) (by unfold W64; omega) (by unfold W64; omega) (unhide HR).wg (show n < 600 by omega) (m := m)
              have HR := hide ((unhide HR).later (by exact b6))
              have lo6 : ∀ p, a6 = some p → p.block < w7.heap.size ∧ w.heap.size ≤ p.block ∧ p.block ≠ R ∧ p.block ≠ B ∧ p.block ≠ Y := fun p hp => by
                rcases pl6 with e | e | ⟨q, e, h1, h2⟩
                · rw [hp] at e; cases e
                · rw [hp] at e; have := lo5 p e.symm; exact ⟨Nat.lt_of_lt_of_le this.1 b6.size, this.2⟩
                · rw [hp] at e; cases e; simp only at B5 Y5 h1 h2 ⊢; (try simp at h1); omega
              have HP := hide ((unhide HR).put (m' := (andR m n G a b).m) (cap' := c6) g6 nn6 sp6 lo6 hw.2.2)
              have HW1 := hide hw.1
              have HW2 := hide hw.2.1
              clear g6 nn6 sp6 pl6 b6 lo6 lo5 hw w5s B5 Y5 R5 W5
              have kp0 := (unhide HR).p0
              have kp1 := (unhide HR).p1
              have kq0 := (unhide HR).pf 0
              have kq1 := (unhide HR).pf 1
              generalize andR m n G a b = r at *
              go_wp2_with fail
              refine hK.out _ _ ?_ (fun hHeld => ?_)
              · trivial
              clear hK K
              try simp only [List.getElem_toArray, List.getElem_cons_succ, List.getElem_cons_zero, Act.put, List.setIfInBounds_toArray, List.set_cons_zero, List.set_cons_succ]
              refine wpAnyH_take (i := 8) (v := ?_) rfl (by kernel_rfl) (by kernel_rfl) (by kernel_rfl) (fun _ _ _ h => h) (Or.inl ⟨by rfl, ?_⟩) (by assumption) ?_
              rotate_left
              · (intro w hSw; (try dsimp only at hSw); first | (go_simp; done) | (go_simp; with_reducible rfl))
              try simp only [List.getElem_toArray, List.getElem_cons_succ, List.getElem_cons_zero, Act.put, List.setIfInBounds_toArray, List.set_cons_zero, List.set_cons_succ]
              refine wpAnyH_take (i := 9) (v := ?_) rfl (by kernel_rfl) (by kernel_rfl) (by kernel_rfl) (fun _ _ _ h => h) (Or.inl ⟨by rfl, ?_⟩) (by assumption) ?_
              rotate_left
              · (intro w hSw; (try dsimp only at hSw); first | (go_simp; done) | (go_simp; with_reducible rfl))
              try simp only [List.getElem_toArray, List.getElem_cons_succ, List.getElem_cons_zero, Act.put, List.setIfInBounds_toArray, List.set_cons_zero, List.set_cons_succ]
              refine wpAnyH_take (i := 10) (v := ?_) rfl (by kernel_rfl) (by kernel_rfl) (by kernel_rfl) (fun _ _ _ h => h) (Or.inl ⟨by rfl, ?_⟩) (by assumption) ?_
              rotate_left
              · (intro w hSw; (try dsimp only at hSw); first | (go_simp; done) | (go_simp; with_reducible rfl))
              try simp only [List.getElem_toArray, List.getElem_cons_succ, List.getElem_cons_zero, Act.put, List.setIfInBounds_toArray, List.set_cons_zero, List.set_cons_succ]
              refine wpAnyH_ready (rs := [11]) (by kernel_rfl) (by simp) ?_
              refine AllReadyH.cons rfl (fun K hK => ?_) AllReadyH.nil
              go_simp
              refine hK.out _ _ ?_ (fun hHeld => ?_)
              · trivial
              clear hK K
              try simp only [List.getElem_toArray, List.getElem_cons_succ, List.getElem_cons_zero, Act.put, List.setIfInBounds_toArray, List.set_cons_zero, List.set_cons_succ]
              refine wpAnyH_done (by kernel_rfl) ?_ _
              clear kp0 kp1 kq0 kq1
              go_wp2
              go_roundw
              case rel => exact ⟨j, by omega, by go_num, r.m, a6, r.n, c6, r.G, by rw [unhide HW1]; exact m0, by rw [unhide HW1]; exact m4, by have := unhide HW2; omega, (by first | exact (unhide HP).drew.rdm (by omega) | exact (unhide HP).rdm (by omega))⟩
              case measure => simp [intOf] <;> omega
            · go_simp
              refine (l6Lit_any R _ m ad n cap _ (by exact (unhide HR).rd) (by omega) (by omega) (by omega) (by omega)).mono ?_
              rintro e w6 ⟨b, rfl, hb, hbm, R6, M6⟩
              clear kp0 kp1 kq0 kq1
              have HR := hide ((unhide HR).mov (by exact M6) R6)
              have HbM := hide (hbm (by omega))
              clear M6 R6 hbm
              have kp0 := (unhide HR).p0
              have kp1 := (unhide HR).p1
              have kq0 := (unhide HR).pf 0
              have kq1 := (unhide HR).pf 1
              go_wp2_with fail
              refine hK.out _ _ ?_ (fun hHeld => ?_)
              · trivial
              clear hK K
              try simp only [List.getElem_toArray, List.getElem_cons_succ, List.getElem_cons_zero, Act.put, List.setIfInBounds_toArray, List.set_cons_zero, List.set_cons_succ]
              refine wpAnyH_ready (rs := [0]) (by kernel_rfl) (by simp) ?_
              refine AllReadyH.cons rfl (fun K hK => ?_) AllReadyH.nil
              go_simp
              refine hK.out _ _ ?_ (fun hHeld => ?_)
              · trivial
              clear hK K
              try simp only [List.getElem_toArray, List.getElem_cons_succ, List.getElem_cons_zero, Act.put, List.setIfInBounds_toArray, List.set_cons_zero, List.set_cons_succ]
              refine wpAnyH_ready (rs := [7]) (by kernel_rfl) (by simp) ?_
              refine AllReadyH.cons rfl (fun K hK => ?_) AllReadyH.nil
              go_simp
              refine (l6And_any m ad n cap G a b _ (by exact (unhide HR).gt) (unhide HR).nn (unhide HR).sp (fun p hp => ((unhide HR).lo p hp).1) (by omega) (by omega) (by omega) (unhide HaM) (unhide HbM)).mono ?_
              rintro e w7 ⟨⟨a6, c6, rfl, g6, nn6, sp6, pl6⟩, b6⟩
              clear kp0 kp1 kq0 kq1
              have w5s := (unhide HR).ne
              have lo5 := (unhide HR).lo
              have B5 := World.block_lt_of_cell? _ _ (unhide HR).p0
              have Y5 := World.block_lt_of_cell? _ _ (unhide HR).s0
              have R5 := (unhide HR).rd.lt
              have W5 := (unhide HR).mv.size
              have hw := andR_wg (a := a) (b := b) (by unfold W64; omega) (by unfold W64; omega) (unhide HR).wg (show n < 600 by omega) (m := m)
              have HR := hide ((unhide HR).later (by exact b6))
              have lo6 : ∀ p, a6 = some p → p.block < w7.heap.size ∧ w.heap.size ≤ p.block ∧ p.block ≠ R ∧ p.block ≠ B ∧ p.block ≠ Y := fun p hp => by
                rcases pl6 with e | e | ⟨q, e, h1, h2⟩
                · rw [hp] at e; cases e
                · rw [hp] at e; have := lo5 p e.symm; exact ⟨Nat.lt_of_lt_of_le this.1 b6.size, this.2⟩
                · rw [hp] at e; cases e; simp only at B5 Y5 h1 h2 ⊢; (try simp at h1); omega
              have HP := hide ((unhide HR).put (m' := (andR m n G a b).m) (cap' := c6) g6 nn6 sp6 lo6 hw.2.2)
              have HW1 := hide hw.1
              have HW2 := hide hw.2.1
              clear g6 nn6 sp6 pl6 b6 lo6 lo5 hw w5s B5 Y5 R5 W5
              have kp0 := (unhide HR).p0
              have kp1 := (unhide HR).p1
              have kq0 := (unhide HR).pf 0
              have kq1 := (unhide HR).pf 1
              generalize andR m n G a b = r at *
              go_wp2_with fail
              refine hK.out _ _ ?_ (fun hHeld => ?_)
              · trivial
              clear hK K
              try simp only [List.getElem_toArray, List.getElem_cons_succ, List.getElem_cons_zero, Act.put, List.setIfInBounds_toArray, List.set_cons_zero, List.set_cons_succ]
              refine wpAnyH_take (i := 8) (v := ?_) rfl (by kernel_rfl) (by kernel_rfl) (by kernel_rfl) (fun _ _ _ h => h) (Or.inl ⟨by rfl, ?_⟩) (by assumption) ?_
              rotate_left
              · (intro w hSw; (try dsimp only at hSw); first | (go_simp; done) | (go_simp; with_reducible rfl))
              try simp only [List.getElem_toArray, List.getElem_cons_succ, List.getElem_cons_zero, Act.put, List.setIfInBounds_toArray, List.set_cons_zero, List.set_cons_succ]
              refine wpAnyH_take (i := 9) (v := ?_) rfl (by kernel_rfl) (by kernel_rfl) (by kernel_rfl) (fun _ _ _ h => h) (Or.inl ⟨by rfl, ?_⟩) (by assumption) ?_
              rotate_left
              · (intro w hSw; (try dsimp only at hSw); first | (go_simp; done) | (go_simp; with_reducible rfl))
              try simp only [List.getElem_toArray, List.getElem_cons_succ, List.getElem_cons_zero, Act.put, List.setIfInBounds_toArray, List.set_cons_zero, List.set_cons_succ]
              refine wpAnyH_take (i := 10) (v := ?_) rfl (by kernel_rfl) (by kernel_rfl) (by kernel_rfl) (fun _ _ _ h => h) (Or.inl ⟨by rfl, ?_⟩) (by assumption) ?_
              rotate_left
              · (intro w hSw; (try dsimp only at hSw); first | (go_simp; done) | (go_simp; with_reducible rfl))
              try simp only [List.getElem_toArray, List.getElem_cons_succ, List.getElem_cons_zero, Act.put, List.setIfInBounds_toArray, List.set_cons_zero, List.set_cons_succ]
              refine wpAnyH_ready (rs := [11]) (by kernel_rfl) (by simp) ?_
              refine AllReadyH.cons rfl (fun K hK => ?_) AllReadyH.nil
              go_simp
              refine hK.out _ _ ?_ (fun hHeld => ?_)
              · trivial
              clear hK K
              try simp only [List.getElem_toArray, List.getElem_cons_succ, List.getElem_cons_zero, Act.put, List.setIfInBounds_toArray, List.set_cons_zero, List.set_cons_succ]
              refine wpAnyH_done (by kernel_rfl) ?_ _
              clear kp0 kp1 kq0 kq1
              go_wp2
              go_roundw
              case rel => exact ⟨j, by omega, by go_num, r.m, a6, r.n, c6, r.G, by rw [unhide HW1]; exact m0, by rw [unhide HW1]; exact m4, by have := unhide HW2; omega, (by first | exact (unhide HP).drew.rdm (by omega) | exact (unhide HP).rdm (by omega))⟩
              case measure => simp [intOf] <;> omega
        · go_simp
          refine hK.out _ _ ?_ (fun hHeld => ?_)
          · trivial
          clear hK K
          try simp only [List.getElem_toArray, List.getElem_cons_succ, List.getElem_cons_zero, Act.put, List.setIfInBounds_toArray, List.set_cons_zero, List.set_cons_succ]
          refine wpAnyH_ready (rs := [0, 3]) (by kernel_rfl) (by simp) ?_
          refine AllReadyH.cons rfl (fun K hK => ?_) (AllReadyH.cons rfl (fun K hK => ?_) AllReadyH.nil)
          · go_simp
            refine hK.out _ _ ?_ (fun hHeld => ?_)
            · trivial
            clear hK K
            try simp only [List.getElem_toArray, List.getElem_cons_succ, List.getElem_cons_zero, Act.put, List.setIfInBounds_toArray, List.set_cons_zero, List.set_cons_succ]
            refine wpAnyH_ready (rs := [3]) (by kernel_rfl) (by simp) ?_
            refine AllReadyH.cons rfl (fun K hK => ?_) AllReadyH.nil
            go_simp
            refine (l6Lit_any R _ m ad n cap _ (by exact (unhide HR).rd) (by omega) (by omega) (by omega) (by omega)).mono ?_
            rintro e w3 ⟨a, rfl, ha, ham, R3, M3⟩
            clear kp0 kp1 kq0 kq1
            have HR := hide ((unhide HR).mov (by exact M3) R3)
            have HaM := hide (ham (by omega))
            clear M3 R3 ham
            have kp0 := (unhide HR).p0
            have kp1 := (unhide HR).p1
            have kq0 := (unhide HR).pf 0
            have kq1 := (unhide HR).pf 1
            go_wp2_with fail
            refine hK.out _ _ ?_ (fun hHeld => ?_)
            · trivial
            clear hK K
            try simp only [List.getElem_toArray, List.getElem_cons_succ, List.getElem_cons_zero, Act.put, List.setIfInBounds_toArray, List.set_cons_zero, List.set_cons_succ]
            refine wpAnyH_ready (rs := [6]) (by kernel_rfl) (by simp) ?_
            refine AllReadyH.cons rfl (fun K hK => ?_) AllReadyH.nil
            go_simp
            refine (l6Lit_any R _ m ad n cap _ (by exact (unhide HR).rd) (by omega) (by omega) (by omega) (by omega)).mono ?_
            rintro e w6 ⟨b, rfl, hb, hbm, R6, M6⟩
            clear kp0 kp1 kq0 kq1
            have HR := hide ((unhide HR).mov (by exact M6) R6)
            have HbM := hide (hbm (by omega))
            clear M6 R6 hbm
            have kp0 := (unhide HR).p0
            have kp1 := (unhide HR).p1
            have kq0 := (unhide HR).pf 0
            have kq1 := (unhide HR).pf 1
            go_wp2_with fail
            refine hK.out _ _ ?_ (fun hHeld => ?_)
            · trivial
            clear hK K
            try simp only [List.getElem_toArray, List.getElem_cons_succ, List.getElem_cons_zero, Act.put, List.setIfInBounds_toArray, List.set_cons_zero, List.set_cons_succ]
            refine wpAnyH_ready (rs := [7]) (by kernel_rfl) (by simp) ?_
            refine AllReadyH.cons rfl (fun K hK => ?_) AllReadyH.nil
            go_simp
            refine (l6And_any m ad n cap G a b _ (by exact (unhide HR).gt) (unhide HR).nn (unhide HR).sp (fun p hp => ((unhide HR).lo p hp).1) (by omega) (by omega) (by omega) (unhide HaM) (unhide HbM)).mono ?_
            rintro e w7 ⟨⟨a6, c6, rfl, g6, nn6, sp6, pl6⟩, b6⟩
            clear kp0 kp1 kq0 kq1
            have w5s := (unhide HR).ne
            have lo5 := (unhide HR).lo
            have B5 := World.block_lt_of_cell? _ _ (unhide HR).p0
            have Y5 := World.block_lt_of_cell? _ _ (unhide HR).s0
            have R5 := (unhide HR).rd.lt
            have W5 := (unhide HR).mv.size
            have hw := andR_wg (a := a) (b := b) (by unfold W64; omega) (by unfold W64; omega) (unhide HR).wg (show n < 600 by omega) (m := m)
            have HR := hide ((unhide HR).later (by exact b6))
            have lo6 : ∀ p, a6 = some p → p.block < w7.heap.size ∧ w.heap.size ≤ p.block ∧ p.block ≠ R ∧ p.block ≠ B ∧ p.block ≠ Y := fun p hp => by
              rcases pl6 with e | e | ⟨q, e, h1, h2⟩
              · rw [hp] at e; cases e
              · rw [hp] at e; have := lo5 p e.symm; exact ⟨Nat.lt_of_lt_of_le this.1 b6.size, this.2⟩
              · rw [hp] at e; cases e; simp only at B5 Y5 h1 h2 ⊢; (try simp at h1); omega
            have HP := hide ((unhide HR).put (m' := (andR m n G a b).m) (cap' := c6) g6 nn6 sp6 lo6 hw.2.2)
            have HW1 := hide hw.1
            have HW2 := hide hw.2.1
            clear g6 nn6 sp6 pl6 b6 lo6 lo5 hw w5s B5 Y5 R5 W5
            have kp0 := (unhide HR).p0
            have kp1 := (unhide HR).p1
            have kq0 := (unhide HR).pf 0
            have kq1 := (unhide HR).pf 1
            generalize andR m n G a b = r at *
            go_wp2_with fail
            refine hK.out _ _ ?_ (fun hHeld => ?_)
            · trivial
            clear hK K
            try simp only [List.getElem_toArray, List.getElem_cons_succ, List.getElem_cons_zero, Act.put, List.setIfInBounds_toArray, List.set_cons_zero, List.set_cons_succ]
            refine wpAnyH_take (i := 8) (v := ?_) rfl (by kernel_rfl) (by kernel_rfl) (by kernel_rfl) (fun _ _ _ h => h) (Or.inl ⟨by rfl, ?_⟩) (by assumption) ?_
            rotate_left
            · (intro w hSw; (try dsimp only at hSw); first | (go_simp; done) | (go_simp; with_reducible rfl))
            try simp only [List.getElem_toArray, List.getElem_cons_succ, List.getElem_cons_zero, Act.put, List.setIfInBounds_toArray, List.set_cons_zero, List.set_cons_succ]
            refine wpAnyH_take (i := 9) (v := ?_) rfl (by kernel_rfl) (by kernel_rfl) (by kernel_rfl) (fun _ _ _ h => h) (Or.inl ⟨by rfl, ?_⟩) (by assumption) ?_
            rotate_left
            · (intro w hSw; (try dsimp only at hSw); first | (go_simp; done) | (go_simp; with_reducible rfl))
            try simp only [List.getElem_toArray, List.getElem_cons_succ, List.getElem_cons_zero, Act.put, List.setIfInBounds_toArray, List.set_cons_zero, List.set_cons_succ]
            refine wpAnyH_take (i := 10) (v := ?_) rfl (by kernel_rfl) (by kernel_rfl) (by kernel_rfl) (fun _ _ _ h => h) (Or.inl ⟨by rfl, ?_⟩) (by assumption) ?_
            rotate_left
            · (intro w hSw; (try dsimp only at hSw); first | (go_simp; done) | (go_simp; with_reducible rfl))
            try simp only [List.getElem_toArray, List.getElem_cons_succ, List.getElem_cons_zero, Act.put, List.setIfInBounds_toArray, List.set_cons_zero, List.set_cons_succ]
            refine wpAnyH_ready (rs := [11]) (by kernel_rfl) (by simp) ?_
            refine AllReadyH.cons rfl (fun K hK => ?_) AllReadyH.nil
            go_simp
            refine hK.out _ _ ?_ (fun hHeld => ?_)
            · trivial
            clear hK K
            try simp only [List.getElem_toArray, List.getElem_cons_succ, List.getElem_cons_zero, Act.put, List.setIfInBounds_toArray, List.set_cons_zero, List.set_cons_succ]
            refine wpAnyH_done (by kernel_rfl) ?_ _
            clear kp0 kp1 kq0 kq1
            go_wp2
            go_roundw
            case rel => exact ⟨j, by omega, by go_num, r.m, a6, r.n, c6, r.G, by rw [unhide HW1]; exact m0, by rw [unhide HW1]; exact m4, by have := unhide HW2; omega, (by first | exact (unhide HP).drew.rdm (by omega) | exact (unhide HP).rdm (by omega))⟩
            case measure => simp [intOf] <;> omega
          · go_simp
            refine (l6Lit_any R _ m ad n cap _ (by exact (unhide HR).rd) (by omega) (by omega) (by omega) (by omega)).mono ?_
            rintro e w3 ⟨a, rfl, ha, ham, R3, M3⟩
            clear kp0 kp1 kq0 kq1
            have HR := hide ((unhide HR).mov (by exact M3) R3)
            have HaM := hide (ham (by omega))
            clear M3 R3 ham
            have kp0 := (unhide HR).p0
            have kp1 := (unhide HR).p1
            have kq0 := (unhide HR).pf 0
            have kq1 := (unhide HR).pf 1
            go_wp2_with fail
            refine hK.out _ _ ?_ (fun hHeld => ?_)
            · trivial
            clear hK K
            try simp only [List.getElem_toArray, List.getElem_cons_succ, List.getElem_cons_zero, Act.put, List.setIfInBounds_toArray, List.set_cons_zero, List.set_cons_succ]
            refine wpAnyH_ready (rs := [0, 6]) (by kernel_rfl) (by simp) ?_
            refine AllReadyH.cons rfl (fun K hK => ?_) (AllReadyH.cons rfl (fun K hK => ?_) AllReadyH.nil)
            · go_simp
              refine hK.out _ _ ?_ (fun hHeld => ?_)
              · trivial
              clear hK K
              try simp only [List.getElem_toArray, List.getElem_cons_succ, List.getElem_cons_zero, Act.put, List.setIfInBounds_toArray, List.set_cons_zero, List.set_cons_succ]
              refine wpAnyH_ready (rs := [6]) (by kernel_rfl) (by simp) ?_
              refine AllReadyH.cons rfl (fun K hK => ?_) AllReadyH.nil
              go_simp
              refine (l6Lit_any R _ m ad n cap _ (by exact (unhide HR).rd) (by omega) (by omega) (by omega) (by omega)).mono ?_
              rintro e w6 ⟨b, rfl, hb, hbm, R6, M6⟩
              clear kp0 kp1 kq0 kq1
              have HR := hide ((unhide HR).mov (by exact M6) R6)
              have HbM := hide (hbm (by omega))
              clear M6 R6 hbm
              have kp0 := (unhide HR).p0
              have kp1 := (unhide HR).p1
              have kq0 := (unhide HR).pf 0
              have kq1 := (unhide HR).pf 1
              go_wp2_with fail
              refine hK.out _ _ ?_ (fun hHeld => ?_)
              · trivial
              clear hK K
              try simp only [List.getElem_toArray, List.getElem_cons_succ, List.getElem_cons_zero, Act.put, List.setIfInBounds_toArray, List.set_cons_zero, List.set_cons_succ]
              refine wpAnyH_ready (rs := [7]) (by kernel_rfl) (by simp) ?_
              refine AllReadyH.cons rfl (fun K hK => ?_) AllReadyH.nil
              go_simp
              refine (l6And_any m ad n cap G a b _ (by exact (unhide HR).gt) (unhide HR).nn (unhide HR).sp (fun p hp => ((unhide HR).lo p hp).1) (by omega) (by omega) (by omega) (unhide HaM) (unhide HbM)).mono ?_
              rintro e w7 ⟨⟨a6, c6, rfl, g6, nn6, sp6, pl6⟩, b6⟩
              clear kp0 kp1 kq0 kq1
              have w5s := (unhide HR).ne
              have lo5 := (unhide HR).lo
              have B5 := World.block_lt_of_cell? _ _ (unhide HR).p0
              have Y5 := World.block_lt_of_cell? _ _ (unhide HR).s0
              have R5 := (unhide HR).rd.lt
              have W5 := (unhide HR).mv.size
              have hw := andR_wg (a := a) (b := b) (by unfold W64; omega) (by unfold W64; omega) (unhide HR).wg (show n < 600 by omega) (m := m)
              have HR := hide ((unhide HR).later (by exact b6))
              have lo6 : ∀ p, a6 = some p → p.block < w7.heap.size ∧ w.heap.size ≤ p.block ∧ p.block ≠ R ∧ p.block ≠ B ∧ p.block ≠ Y := fun p hp => by
                rcases pl6 with e | e | ⟨q, e, h1, h2⟩
                · rw [hp] at e; cases e
                · rw [hp] at e; have := lo5 p e.symm; exact ⟨Nat.lt_of_lt_of_le this.1 b6.size, this.2⟩
                · rw [hp] at e; cases e; simp only at B5 Y5 h1 h2 ⊢; (try simp at h1); omega
              have HP := hide ((unhide HR).put (m' := (andR m n G a b).m) (cap' := c6) g6 nn6 sp6 lo6 hw.2.2)
              have HW1 := hide hw.1
              have HW2 := hide hw.2.1
              clear g6 nn6 sp6 pl6 b6 lo6 lo5 hw w5s B5 Y5 R5 W5
              have kp0 := (unhide HR).p0
              have kp1 := (unhide HR).p1
              have kq0 := (unhide HR).pf 0
              have kq1 := (unhide HR).pf 1
              generalize andR m n G a b = r at *
              go_wp2_with fail
              refine hK.out _ _ ?_ (fun hHeld => ?_)
              · trivial
              clear hK K
              try simp only [List.getElem_toArray, List.getElem_cons_succ, List.getElem_cons_zero, Act.put, List.setIfInBounds_toArray, List.set_cons_zero, List.set_cons_succ]
              refine wpAnyH_take (i := 8) (v := ?_) rfl (by kernel_rfl) (by kernel_rfl) (by kernel_rfl) (fun _ _ _ h => h) (Or.inl ⟨by rfl, ?_⟩) (by assumption) ?_
              rotate_left
              · (intro w hSw; (try dsimp only at hSw); first | (go_simp; done) | (go_simp; with_reducible rfl))
              try simp only [List.getElem_toArray, List.getElem_cons_succ, List.getElem_cons_zero, Act.put, List.setIfInBounds_toArray, List.set_cons_zero, List.set_cons_succ]
              refine wpAnyH_take (i := 9) (v := ?_) rfl (by kernel_rfl) (by kernel_rfl) (by kernel_rfl) (fun _ _ _ h => h) (Or.inl ⟨by rfl, ?_⟩) (by assumption) ?_
              rotate_left
              · (intro w hSw; (try dsimp only at hSw); first | (go_simp; done) | (go_simp; with_reducible rfl))
              try simp only [List.getElem_toArray, List.getElem_cons_succ, List.getElem_cons_zero, Act.put, List.setIfInBounds_toArray, List.set_cons_zero, List.set_cons_succ]
              refine wpAnyH_take (i := 10) (v := ?_) rfl (by kernel_rfl) (by kernel_rfl) (by kernel_rfl) (fun _ _ _ h => h) (Or.inl ⟨by rfl, ?_⟩) (by assumption) ?_
              rotate_left
              · (intro w hSw; (try dsimp only at hSw); first | (go_simp; done) | (go_simp; with_reducible rfl))
              try simp only [List.getElem_toArray, List.getElem_cons_succ, List.getElem_cons_zero, Act.put, List.setIfInBounds_toArray, List.set_cons_zero, List.set_cons_succ]
              refine wpAnyH_ready (rs := [11]) (by kernel_rfl) (by simp) ?_
              refine AllReadyH.cons rfl (fun K hK => ?_) AllReadyH.nil
              go_simp
              refine hK.out _ _ ?_ (fun hHeld => ?_)
              · trivial
              clear hK K
              try simp only [List.getElem_toArray, List.getElem_cons_succ, List.getElem_cons_zero, Act.put, List.setIfInBounds_toArray, List.set_cons_zero, List.set_cons_succ]
              refine wpAnyH_done (by kernel_rfl) ?_ _
              clear kp0 kp1 kq0 kq1
              go_wp2
              go_roundw
              case rel => exact ⟨j, by omega, by go_num, r.m, a6, r.n, c6, r.G, by rw [unhide HW1]; exact m0, by rw [unhide HW1]; exact m4, by have := unhide HW2; omega, (by first | exact (unhide HP).drew.rdm (by omega) | exact (unhide HP).rdm (by omega))⟩
              case measure => simp [intOf] <;> omega
            · go_simp
              refine (l6Lit_any R _ m ad n cap _ (by exact (unhide HR).rd) (by omega) (by omega) (by omega) (by omega)).mono ?_
              rintro e w6 ⟨b, rfl, hb, hbm, R6, M6⟩
              clear kp0 kp1 kq0 kq1
              have HR := hide ((unhide HR).mov (by exact M6) R6)
              have HbM := hide (hbm (by omega))
              clear M6 R6 hbm
              have kp0 := (unhide HR).p0
              have kp1 := (unhide HR).p1
              have kq0 := (unhide HR).pf 0
              have kq1 := (unhide HR).pf 1
              go_wp2_with fail
              refine hK.out _ _ ?_ (fun hHeld => ?_)
              · trivial
              clear hK K
              try simp only [List.getElem_toArray, List.getElem_cons_succ, List.getElem_cons_zero, Act.put, List.setIfInBounds_toArray, List.set_cons_zero, List.set_cons_succ]
              refine wpAnyH_ready (rs := [0]) (by kernel_rfl) (by simp) ?_
              refine AllReadyH.cons rfl (fun K hK => ?_) AllReadyH.nil
              go_simp
              refine hK.out _ _ ?_ (fun hHeld => ?_)
              · trivial
              clear hK K
              try simp only [List.getElem_toArray, List.getElem_cons_succ, List.getElem_cons_zero, Act.put, List.setIfInBounds_toArray, List.set_cons_zero, List.set_cons_succ]
              refine wpAnyH_ready (rs := [7]) (by kernel_rfl) (by simp) ?_
              refine AllReadyH.cons rfl (fun K hK => ?_) AllReadyH.nil
              go_simp
              refine (l6And_any m ad n cap G a b _ (by exact (unhide HR).gt) (unhide HR).nn (unhide HR).sp (fun p hp => ((unhide HR).lo p hp).1) (by omega) (by omega) (by omega) (unhide HaM) (unhide HbM)).mono ?_
              rintro e w7 ⟨⟨a6, c6, rfl, g6, nn6, sp6, pl6⟩, b6⟩
              clear kp0 kp1 kq0 kq1
              have w5s := (unhide HR).ne
              have lo5 := (unhide HR).lo
              have B5 := World.block_lt_of_cell? _ _ (unhide HR).p0
              have Y5 := World.block_lt_of_cell? _ _ (unhide HR).s0
              have R5 := (unhide HR).rd.lt
              have W5 := (unhide HR).mv.size
              have hw := andR_wg (a := a) (b := b) (by unfold W64; omega) (by unfold W64; omega) (unhide HR).wg (show n < 600 by omega) (m := m)
              have HR := hide ((unhide HR).later (by exact b6))
              have lo6 : ∀ p, a6 = some p → p.block < w7.heap.size ∧ w.heap.size ≤ p.block ∧ p.block ≠ R ∧ p.block ≠ B ∧ p.block ≠ Y := fun p hp => by
                rcases pl6 with e | e | ⟨q, e, h1, h2⟩
                · rw [hp] at e; cases e
                · rw [hp] at e; have := lo5 p e.symm; exact ⟨Nat.lt_of_lt_of_le this.1 b6.size, this.2⟩
                · rw [hp] at e; cases e; simp only at B5 Y5 h1 h2 ⊢; (try simp at h1); omega
              have HP := hide ((unhide HR).put (m' := (andR m n G a b).m) (cap' := c6) g6 nn6 sp6 lo6 hw.2.2)
              have HW1 := hide hw.1
              have HW2 := hide hw.2.1
              clear g6 nn6 sp6 pl6 b6 lo6 lo5 hw w5s B5 Y5 R5 W5
              have kp0 := (unhide HR).p0
              have kp1 := (unhide HR).p1
              have kq0 := (unhide HR).pf 0
              have kq1 := (unhide HR).pf 1
              generalize andR m n G a b = r at *
              go_wp2_with fail
              refine hK.out _ _ ?_ (fun hHeld => ?_)
              · trivial
              clear hK K
              try simp only [List.getElem_toArray, List.getElem_cons_succ, List.getElem_cons_zero, Act.put, List.setIfInBounds_toArray, List.set_cons_zero, List.set_cons_succ]
              refine wpAnyH_take (i := 8) (v := ?_) rfl (by kernel_rfl) (by kernel_rfl) (by kernel_rfl) (fun _ _ _ h => h) (Or.inl ⟨by rfl, ?_⟩) (by assumption) ?_
              rotate_left
              · (intro w hSw; (try dsimp only at hSw); first | (go_simp; done) | (go_simp; with_reducible rfl))
              try simp only [List.getElem_toArray, List.getElem_cons_succ, List.getElem_cons_zero, Act.put, List.setIfInBounds_toArray, List.set_cons_zero, List.set_cons_succ]
              refine wpAnyH_take (i := 9) (v := ?_) rfl (by kernel_rfl) (by kernel_rfl) (by kernel_rfl) (fun _ _ _ h => h) (Or.inl ⟨by rfl, ?_⟩) (by assumption) ?_
              rotate_left
              · (intro w hSw; (try dsimp only at hSw); first | (go_simp; done) | (go_simp; with_reducible rfl))
              try simp only [List.getElem_toArray, List.getElem_cons_succ, List.getElem_cons_zero, Act.put, List.setIfInBounds_toArray, List.set_cons_zero, List.set_cons_succ]
              refine wpAnyH_take (i := 10) (v := ?_) rfl (by kernel_rfl) (by kernel_rfl) (by kernel_rfl) (fun _ _ _ h => h) (Or.inl ⟨by rfl, ?_⟩) (by assumption) ?_
              rotate_left
              · (intro w hSw; (try dsimp only at hSw); first | (go_simp; done) | (go_simp; with_reducible rfl))
              try simp only [List.getElem_toArray, List.getElem_cons_succ, List.getElem_cons_zero, Act.put, List.setIfInBounds_toArray, List.set_cons_zero, List.set_cons_succ]
              refine wpAnyH_ready (rs := [11]) (by kernel_rfl) (by simp) ?_
              refine AllReadyH.cons rfl (fun K hK => ?_) AllReadyH.nil
              go_simp
              refine hK.out _ _ ?_ (fun hHeld => ?_)
              · trivial
              clear hK K
              try simp only [List.getElem_toArray, List.getElem_cons_succ, List.getElem_cons_zero, Act.put, List.setIfInBounds_toArray, List.set_cons_zero, List.set_cons_succ]
              refine wpAnyH_done (by kernel_rfl) ?_ _
              clear kp0 kp1 kq0 kq1
              go_wp2
              go_roundw
              case rel => exact ⟨j, by omega, by go_num, r.m, a6, r.n, c6, r.G, by rw [unhide HW1]; exact m0, by rw [unhide HW1]; exact m4, by have := unhide HW2; omega, (by first | exact (unhide HP).drew.rdm (by omega) | exact (unhide HP).rdm (by omega))⟩
              case measure => simp [intOf] <;> omega
      · go_simp
        refine hK.out _ _ ?_ (fun hHeld => ?_)
        · trivial
        clear hK K
        try simp only [List.getElem_toArray, List.getElem_cons_succ, List.getElem_cons_zero, Act.put, List.setIfInBounds_toArray, List.set_cons_zero, List.set_cons_succ]
        refine wpAnyH_ready (rs := [0, 2]) (by kernel_rfl) (by simp) ?_
        refine AllReadyH.cons rfl (fun K hK => ?_) (AllReadyH.cons rfl (fun K hK => ?_) AllReadyH.nil)
        · go_simp
          refine hK.out _ _ ?_ (fun hHeld => ?_)
          · trivial
          clear hK K
          try simp only [List.getElem_toArray, List.getElem_cons_succ, List.getElem_cons_zero, Act.put, List.setIfInBounds_toArray, List.set_cons_zero, List.set_cons_succ]
          refine wpAnyH_ready (rs := [2]) (by kernel_rfl) (by simp) ?_
          refine AllReadyH.cons rfl (fun K hK => ?_) AllReadyH.nil
          go_simp
          refine hK.out _ _ ?_ (fun hHeld => ?_)
          · trivial
          clear hK K
          try simp only [List.getElem_toArray, List.getElem_cons_succ, List.getElem_cons_zero, Act.put, List.setIfInBounds_toArray, List.set_cons_zero, List.set_cons_succ]
          refine wpAnyH_ready (rs := [3]) (by kernel_rfl) (by simp) ?_
          refine AllReadyH.cons rfl (fun K hK => ?_) AllReadyH.nil
          go_simp
          refine (l6Lit_any R _ m ad n cap _ (by exact (unhide HR).rd) (by omega) (by omega) (by omega) (by omega)).mono ?_
          rintro e w3 ⟨a, rfl, ha, ham, R3, M3⟩
          clear kp0 kp1 kq0 kq1
          have HR := hide ((unhide HR).mov (by exact M3) R3)
          have HaM := hide (ham (by omega))
          clear M3 R3 ham
          have kp0 := (unhide HR).p0
          have kp1 := (unhide HR).p1
          have kq0 := (unhide HR).pf 0
          have kq1 := (unhide HR).pf 1
          go_wp2_with fail
          refine hK.out _ _ ?_ (fun hHeld => ?_)
          · trivial
          clear hK K
          try simp only [List.getElem_toArray, List.getElem_cons_succ, List.getElem_cons_zero, Act.put, List.setIfInBounds_toArray, List.set_cons_zero, List.set_cons_succ]
          refine wpAnyH_ready (rs := [6]) (by kernel_rfl) (by simp) ?_
          refine AllReadyH.cons rfl (fun K hK => ?_) AllReadyH.nil
          go_simp
          refine (l6Lit_any R _ m ad n cap _ (by exact (unhide HR).rd) (by omega) (by omega) (by omega) (by omega)).mono ?_
          rintro e w6 ⟨b, rfl, hb, hbm, R6, M6⟩
          clear kp0 kp1 kq0 kq1
          have HR := hide ((unhide HR).mov (by exact M6) R6)
          have HbM := hide (hbm (by omega))
          clear M6 R6 hbm
          have kp0 := (unhide HR).p0
          have kp1 := (unhide HR).p1
          have kq0 := (unhide HR).pf 0
          have kq1 := (unhide HR).pf 1
          go_wp2_with fail
          refine hK.out _ _ ?_ (fun hHeld => ?_)
          · trivial
          clear hK K
          try simp only [List.getElem_toArray, List.getElem_cons_succ, List.getElem_cons_zero, Act.put, List.setIfInBounds_toArray, List.set_cons_zero, List.set_cons_succ]
          refine wpAnyH_ready (rs := [7]) (by kernel_rfl) (by simp) ?_
          refine AllReadyH.cons rfl (fun K hK => ?_) AllReadyH.nil
          go_simp
          refine (l6And_any m ad n cap G a b _ (by exact (unhide HR).gt) (unhide HR).nn (unhide HR).sp (fun p hp => ((unhide HR).lo p hp).1) (by omega) (by omega) (by omega) (unhide HaM) (unhide HbM)).mono ?_
          rintro e w7 ⟨⟨a6, c6, rfl, g6, nn6, sp6, pl6⟩, b6⟩
          clear kp0 kp1 kq0 kq1
          have w5s := (unhide HR).ne
          have lo5 := (unhide HR).lo
          have B5 := World.block_lt_of_cell? _ _ (unhide HR).p0
          have Y5 := World.block_lt_of_cell? _ _ (unhide HR).s0
          have R5 := (unhide HR).rd.lt
          have W5 := (unhide HR).mv.size
          have hw := andR_wg (a := a) (b := b) (by unfold W64; omega) (by unfold W64; omega) (unhide HR).wg (show n < 600 by omega) (m := m)
          have HR := hide ((unhide HR).later (by exact b6))
          have lo6 : ∀ p, a6 = some p → p.block < w7.heap.size ∧ w.heap.size ≤ p.block ∧ p.block ≠ R ∧ p.block ≠ B ∧ p.block ≠ Y := fun p hp => by
            rcases pl6 with e | e | ⟨q, e, h1, h2⟩
            · rw [hp] at e; cases e
            · rw [hp] at e; have := lo5 p e.symm; exact ⟨Nat.lt_of_lt_of_le this.1 b6.size, this.2⟩
            · rw [hp] at e; cases e; simp only at B5 Y5 h1 h2 ⊢; (try simp at h1); omega
          have HP := hide ((unhide HR).put (m' := (andR m n G a b).m) (cap' := c6) g6 nn6 sp6 lo6 hw.2.2)
          have HW1 := hide hw.1
          have HW2 := hide hw.2.1
          clear g6 nn6 sp6 pl6 b6 lo6 lo5 hw w5s B5 Y5 R5 W5
          have kp0 := (unhide HR).p0
          have kp1 := (unhide HR).p1
          have kq0 := (unhide HR).pf 0
          have kq1 := (unhide HR).pf 1
          generalize andR m n G a b = r at *
          go_wp2_with fail
          refine hK.out _ _ ?_ (fun hHeld => ?_)
          · trivial
          clear hK K
          try simp only [List.getElem_toArray, List.getElem_cons_succ, List.getElem_cons_zero, Act.put, List.setIfInBounds_toArray, List.set_cons_zero, List.set_cons_succ]
          refine wpAnyH_take (i := 8) (v := ?_) rfl (by kernel_rfl) (by kernel_rfl) (by kernel_rfl) (fun _ _ _ h => h) (Or.inl ⟨by rfl, ?_⟩) (by assumption) ?_
          rotate_left
          · (intro w hSw; (try dsimp only at hSw); first | (go_simp; done) | (go_simp; with_reducible rfl))
          try simp only [List.getElem_toArray, List.getElem_cons_succ, List.getElem_cons_zero, Act.put, List.setIfInBounds_toArray, List.set_cons_zero, List.set_cons_succ]
          refine wpAnyH_take (i := 9) (v := ?_) rfl (by kernel_rfl) (by kernel_rfl) (by kernel_rfl) (fun _ _ _ h => h) (Or.inl ⟨by rfl, ?_⟩) (by assumption) ?_
          rotate_left
          · (intro w hSw; (try dsimp only at hSw); first | (go_simp; done) | (go_simp; with_reducible rfl))
          try simp only [List.getElem_toArray, List.getElem_cons_succ, List.getElem_cons_zero, Act.put, List.setIfInBounds_toArray, List.set_cons_zero, List.set_cons_succ]
          refine wpAnyH_take (i := 10) (v := ?_) rfl (by kernel_rfl) (by kernel_rfl) (by kernel_rfl) (fun _ _ _ h => h) (Or.inl ⟨by rfl, ?_⟩) (by assumption) ?_
          rotate_left
          · (intro w hSw; (try dsimp only at hSw); first | (go_simp; done) | (go_simp; with_reducible rfl))
          try simp only [List.getElem_toArray, List.getElem_cons_succ, List.getElem_cons_zero, Act.put, List.setIfInBounds_toArray, List.set_cons_zero, List.set_cons_succ]
          refine wpAnyH_ready (rs := [11]) (by kernel_rfl) (by simp) ?_
          refine AllReadyH.cons rfl (fun K hK => ?_) AllReadyH.nil
          go_simp
          refine hK.out _ _ ?_ (fun hHeld => ?_)
          · trivial
          clear hK K
          try simp only [List.getElem_toArray, List.getElem_cons_succ, List.getElem_cons_zero, Act.put, List.setIfInBounds_toArray, List.set_cons_zero, List.set_cons_succ]
          refine wpAnyH_done (by kernel_rfl) ?_ _
          clear kp0 kp1 kq0 kq1
          go_wp2
          go_roundw
          case rel => exact ⟨j, by omega, by go_num, r.m, a6, r.n, c6, r.G, by rw [unhide HW1]; exact m0, by rw [unhide HW1]; exact m4, by have := unhide HW2; omega, (by first | exact (unhide HP).drew.rdm (by omega) | exact (unhide HP).rdm (by omega))⟩
          case measure => simp [intOf] <;> omega
        · go_simp
          refine hK.out _ _ ?_ (fun hHeld => ?_)
          · trivial
          clear hK K
          try simp only [List.getElem_toArray, List.getElem_cons_succ, List.getElem_cons_zero, Act.put, List.setIfInBounds_toArray, List.set_cons_zero, List.set_cons_succ]
          refine wpAnyH_ready (rs := [0, 3]) (by kernel_rfl) (by simp) ?_
          refine AllReadyH.cons rfl (fun K hK => ?_) (AllReadyH.cons rfl (fun K hK => ?_) AllReadyH.nil)
          · go_simp
            refine hK.out _ _ ?_ (fun hHeld => ?_)
            · trivial
            clear hK K
            try simp only [List.getElem_toArray, List.getElem_cons_succ, List.getElem_cons_zero, Act.put, List.setIfInBounds_toArray, List.set_cons_zero, List.set_cons_succ]
            refine wpAnyH_ready (rs := [3]) (by kernel_rfl) (by simp) ?_
            refine AllReadyH.cons rfl (fun K hK => ?_) AllReadyH.nil
            go_simp
            refine (l6Lit_any R _ m ad n cap _ (by exact (unhide HR).rd) (by omega) (by omega) (by omega) (by omega)).mono ?_
            rintro e w3 ⟨a, rfl, ha, ham, R3, M3⟩
            clear kp0 kp1 kq0 kq1
            have HR := hide ((unhide HR).mov (by exact M3) R3)
            have HaM := hide (ham (by omega))
            clear M3 R3 ham
            have kp0 := (unhide HR).p0
            have kp1 := (unhide HR).p1
            have kq0 := (unhide HR).pf 0
            have kq1 := (unhide HR).pf 1
            go_wp2_with fail
            refine hK.out _ _ ?_ (fun hHeld => ?_)
            · trivial
            clear hK K
            try simp only [List.getElem_toArray, List.getElem_cons_succ, List.getElem_cons_zero, Act.put, List.setIfInBounds_toArray, List.set_cons_zero, List.set_cons_succ]
            refine wpAnyH_ready (rs := [6]) (by kernel_rfl) (by simp) ?_
            refine AllReadyH.cons rfl (fun K hK => ?_) AllReadyH.nil
            go_simp
            refine (l6Lit_any R _ m ad n cap _ (by exact (unhide HR).rd) (by omega) (by omega) (by omega) (by omega)).mono ?_
            rintro e w6 ⟨b, rfl, hb, hbm, R6, M6⟩
            clear kp0 kp1 kq0 kq1
            have HR := hide ((unhide HR).mov (by exact M6) R6)
            have HbM := hide (hbm (by omega))
            clear M6 R6 hbm
            have kp0 := (unhide HR).p0
            have kp1 := (unhide HR).p1
            have kq0 := (unhide HR).pf 0
            have kq1 := (unhide HR).pf 1
            go_wp2_with fail
            refine hK.out _ _ ?_ (fun hHeld => ?_)
            · trivial
            clear hK K
            try simp only [List.getElem_toArray, List.getElem_cons_succ, List.getElem_cons_zero, Act.put, List.setIfInBounds_toArray, List.set_cons_zero, List.set_cons_succ]
            refine wpAnyH_ready (rs := [7]) (by kernel_rfl) (by simp) ?_
            refine AllReadyH.cons rfl (fun K hK => ?_) AllReadyH.nil
            go_simp
            refine (l6And_any m ad n cap G a b _ (by exact (unhide HR).gt) (unhide HR).nn (unhide HR).sp (fun p hp => ((unhide HR).lo p hp).1) (by omega) (by omega) (by omega) (unhide HaM) (unhide HbM)).mono ?_
            rintro e w7 ⟨⟨a6, c6, rfl, g6, nn6, sp6, pl6⟩, b6⟩
            clear kp0 kp1 kq0 kq1
            have w5s := (unhide HR).ne
            have lo5 := (unhide HR).lo
            have B5 := World.block_lt_of_cell? _ _ (unhide HR).p0
            have Y5 := World.block_lt_of_cell? _ _ (unhide HR).s0
            have R5 := (unhide HR).rd.lt
            have W5 := (unhide HR).mv.size
            have hw := andR_wg (a := a) (b := b) (by unfold W64; omega) (by unfold W64; omega) (unhide HR).wg (show n < 600 by omega) (m := m)
            have HR := hide ((unhide HR).later (by exact b6))
            have lo6 : ∀ p, a6 = some p → p.block < w7.heap.size ∧ w.heap.size ≤ p.block ∧ p.block ≠ R ∧ p.block ≠ B ∧ p.block ≠ Y := fun p hp => by
              rcases pl6 with e | e | ⟨q, e, h1, h2⟩
              · rw [hp] at e; cases e
              · rw [hp] at e; have := lo5 p e.symm; exact ⟨Nat.lt_of_lt_of_le this.1 b6.size, this.2⟩
              · rw [hp] at e; cases e; simp only at B5 Y5 h1 h2 ⊢; (try simp at h1); omega
            have HP := hide ((unhide HR).put (m' := (andR m n G a b).m) (cap' := c6) g6 nn6 sp6 lo6 hw.2.2)
            have HW1 := hide hw.1
            have HW2 := hide hw.2.1
            clear g6 nn6 sp6 pl6 b6 lo6 lo5 hw w5s B5 Y5 R5 W5
            have kp0 := (unhide HR).p0
            have kp1 := (unhide HR).p1
            have kq0 := (unhide HR).pf 0
            have kq1 := (unhide HR).pf 1
            generalize andR m n G a b = r at *
            go_wp2_with fail
            refine hK.out _ _ ?_ (fun hHeld => ?_)
            · trivial
            clear hK K
            try simp only [List.getElem_toArray, List.getElem_cons_succ, List.getElem_cons_zero, Act.put, List.setIfInBounds_toArray, List.set_cons_zero, List.set_cons_succ]
            refine wpAnyH_take (i := 8) (v := ?_) rfl (by kernel_rfl) (by kernel_rfl) (by kernel_rfl) (fun _ _ _ h => h) (Or.inl ⟨by rfl, ?_⟩) (by assumption) ?_
            rotate_left
            · (intro w hSw; (try dsimp only at hSw); first | (go_simp; done) | (go_simp; with_reducible rfl))
            try simp only [List.getElem_toArray, List.getElem_cons_succ, List.getElem_cons_zero, Act.put, List.setIfInBounds_toArray, List.set_cons_zero, List.set_cons_succ]
            refine wpAnyH_take (i := 9) (v := ?_) rfl (by kernel_rfl) (by kernel_rfl) (by kernel_rfl) (fun _ _ _ h => h) (Or.inl ⟨by rfl, ?_⟩) (by assumption) ?_
            rotate_left
            · (intro w hSw; (try dsimp only at hSw); first | (go_simp; done) | (go_simp; with_reducible rfl))
            try simp only [List.getElem_toArray, List.getElem_cons_succ, List.getElem_cons_zero, Act.put, List.setIfInBounds_toArray, List.set_cons_zero, List.set_cons_succ]
            refine wpAnyH_take (i := 10) (v := ?_) rfl (by kernel_rfl) (by kernel_rfl) (by kernel_rfl) (fun _ _ _ h => h) (Or.inl ⟨by rfl, ?_⟩) (by assumption) ?_
            rotate_left
            · (intro w hSw; (try dsimp only at hSw); first | (go_simp; done) | (go_simp; with_reducible rfl))
            try simp only [List.getElem_toArray, List.getElem_cons_succ, List.getElem_cons_zero, Act.put, List.setIfInBounds_toArray, List.set_cons_zero, List.set_cons_succ]
            refine wpAnyH_ready (rs := [11]) (by kernel_rfl) (by simp) ?_
            refine AllReadyH.cons rfl (fun K hK => ?_) AllReadyH.nil
            go_simp
            refine hK.out _ _ ?_ (fun hHeld => ?_)
            · trivial
            clear hK K
            try simp only [List.getElem_toArray, List.getElem_cons_succ, List.getElem_cons_zero, Act.put, List.setIfInBounds_toArray, List.set_cons_zero, List.set_cons_succ]
            refine wpAnyH_done (by kernel_rfl) ?_ _
            clear kp0 kp1 kq0 kq1
            go_wp2
            go_roundw
            case rel => exact ⟨j, by omega, by go_num, r.m, a6, r.n, c6, r.G, by rw [unhide HW1]; exact m0, by rw [unhide HW1]; exact m4, by have := unhide HW2; omega, (by first | exact (unhide HP).drew.rdm (by omega) | exact (unhide HP).rdm (by omega))⟩
            case measure => simp [intOf] <;> omega
          · go_simp
            refine (l6Lit_any R _ m ad n cap _ (by exact (unhide HR).rd) (by omega) (by omega) (by omega) (by omega)).mono ?_
            rintro e w3 ⟨a, rfl, ha, ham, R3, M3⟩
            clear kp0 kp1 kq0 kq1
            have HR := hide ((unhide HR).mov (by exact M3) R3)
            have HaM := hide (ham (by omega))
            clear M3 R3 ham
            have kp0 := (unhide HR).p0
            have kp1 := (unhide HR).p1
            have kq0 := (unhide HR).pf 0
            have kq1 := (unhide HR).pf 1
            go_wp2_with fail
            refine hK.out _ _ ?_ (fun hHeld => ?_)
            · trivial
            clear hK K
            try simp only [List.getElem_toArray, List.getElem_cons_succ, List.getElem_cons_zero, Act.put, List.setIfInBounds_toArray, List.set_cons_zero, List.set_cons_succ]
            refine wpAnyH_ready (rs := [0, 6]) (by kernel_rfl) (by simp) ?_
            refine AllReadyH.cons rfl (fun K hK => ?_) (AllReadyH.cons rfl (fun K hK => ?_) AllReadyH.nil)
            · go_simp
              refine hK.out _ _ ?_ (fun hHeld => ?_)
              · trivial
              clear hK K
              try simp only [List.getElem_toArray, List.getElem_cons_succ, List.getElem_cons_zero, Act.put, List.setIfInBounds_toArray, List.set_cons_zero, List.set_cons_succ]
              refine wpAnyH_ready (rs := [6]) (by kernel_rfl) (by simp) ?_
              refine AllReadyH.cons rfl (fun K hK => ?_) AllReadyH.nil
              go_simp
              refine (l6Lit_any R _ m ad n cap _ (by exact (unhide HR).rd) (by omega) (by omega) (by omega) (by omega)).mono ?_
              rintro e w6 ⟨b, rfl, hb, hbm, R6, M6⟩
              clear kp0 kp1 kq0 kq1
              have HR := hide ((unhide HR).mov (by exact M6) R6)
              have HbM := hide (hbm (by omega))
              clear M6 R6 hbm
              have kp0 := (unhide HR).p0
              have kp1 := (unhide HR).p1
              have kq0 := (unhide HR).pf 0
              have kq1 := (unhide HR).pf 1
              go_wp2_with fail
              refine hK.out _ _ ?_ (fun hHeld => ?_)
              · trivial
              clear hK K
              try simp only [List.getElem_toArray, List.getElem_cons_succ, List.getElem_cons_zero, Act.put, List.setIfInBounds_toArray, List.set_cons_zero, List.set_cons_succ]
              refine wpAnyH_ready (rs := [7]) (by kernel_rfl) (by simp) ?_
              refine AllReadyH.cons rfl (fun K hK => ?_) AllReadyH.nil
              go_simp
              refine (l6And_any m ad n cap G a b _ (by exact (unhide HR).gt) (unhide HR).nn (unhide HR).sp (fun p hp => ((unhide HR).lo p hp).1) (by omega) (by omega) (by omega) (unhide HaM) (unhide HbM)).mono ?_
              rintro e w7 ⟨⟨a6, c6, rfl, g6, nn6, sp6, pl6⟩, b6⟩
              clear kp0 kp1 kq0 kq1
              have w5s := (unhide HR).ne
              have lo5 := (unhide HR).lo
              have B5 := World.block_lt_of_cell? _ _ (unhide HR).p0
              have Y5 := World.block_lt_of_cell? _ _ (unhide HR).s0
              have R5 := (unhide HR).rd.lt
              have W5 := (unhide HR).mv.size
              have hw := andR_wg (a := a) (b := b) (by unfold W64; omega) (by unfold W64; omega) (unhide HR).wg (show n < 600 by omega) (m := m)
              have HR := hide ((unhide HR).later (by exact b6))
              have lo6 : ∀ p, a6 = some p → p.block < w7.heap.size ∧ w.heap.size ≤ p.block ∧ p.block ≠ R ∧ p.block ≠ B ∧ p.block ≠ Y := fun p hp => by
                rcases pl6 with e | e | ⟨q, e, h1, h2⟩
                · rw [hp] at e; cases e
                · rw [hp] at e; have := lo5 p e.symm; exact ⟨Nat.lt_of_lt_of_le this.1 b6.size, this.2⟩
                · rw [hp] at e; cases e; simp only at B5 Y5 h1 h2 ⊢; (try simp at h1); omega
              have HP := hide ((unhide HR).put (m' := (andR m n G a b).m) (cap' := c6) g6 nn6 sp6 lo6 hw.2.2)
              have HW1 := hide hw.1
              have HW2 := hide hw.2.1
              clear g6 nn6 sp6 pl6 b6 lo6 lo5 hw w5s B5 Y5 R5 W5
              have kp0 := (unhide HR).p0
              have kp1 := (unhide HR).p1
              have kq0 := (unhide HR).pf 0
              have kq1 := (unhide HR).pf 1
              generalize andR m n G a b = r at *
              go_wp2_with fail
              refine hK.out _ _ ?_ (fun hHeld => ?_)
              · trivial
              clear hK K
              try simp only [List.getElem_toArray, List.getElem_cons_succ, List.getElem_cons_zero, Act.put, List.setIfInBounds_toArray, List.set_cons_zero, List.set_cons_succ]
              refine wpAnyH_take (i := 8) (v := ?_) rfl (by kernel_rfl) (by kernel_rfl) (by kernel_rfl) (fun _ _ _ h => h) (Or.inl ⟨by rfl, ?_⟩) (by assumption) ?_
              rotate_left
              · (intro w hSw; (try dsimp only at hSw); first | (go_simp; done) | (go_simp; with_reducible rfl))
              try simp only [List.getElem_toArray, List.getElem_cons_succ, List.getElem_cons_zero, Act.put, List.setIfInBounds_toArray, List.set_cons_zero, List.set_cons_succ]
              refine wpAnyH_take (i := 9) (v := ?_) rfl (by kernel_rfl) (by kernel_rfl) (by kernel_rfl) (fun _ _ _ h => h) (Or.inl ⟨by rfl, ?_⟩) (by assumption) ?_
              rotate_left
              · (intro w hSw; (try dsimp only at hSw); first | (go_simp; done) | (go_simp; with_reducible rfl))
              try simp only [List.getElem_toArray, List.getElem_cons_succ, List.getElem_cons_zero, Act.put, List.setIfInBounds_toArray, List.set_cons_zero, List.set_cons_succ]
              refine wpAnyH_take (i := 10) (v := ?_) rfl (by kernel_rfl) (by kernel_rfl) (by kernel_rfl) (fun _ _ _ h => h) (Or.inl ⟨by rfl, ?_⟩) (by assumption) ?_
              rotate_left
              · (intro w hSw; (try dsimp only at hSw); first | (go_simp; done) | (go_simp; with_reducible rfl))
              try simp only [List.getElem_toArray, List.getElem_cons_succ, List.getElem_cons_zero, Act.put, List.setIfInBounds_toArray, List.set_cons_zero, List.set_cons_succ]
              refine wpAnyH_ready (rs := [11]) (by kernel_rfl) (by simp) ?_
              refine AllReadyH.cons rfl (fun K hK => ?_) AllReadyH.nil
              go_simp
              refine hK.out _ _ ?_ (fun hHeld => ?_)
              · trivial
              clear hK K
              try simp only [List.getElem_toArray, List.getElem_cons_succ, List.getElem_cons_zero, Act.put, List.setIfInBounds_toArray, List.set_cons_zero, List.set_cons_succ]
              refine wpAnyH_done (by kernel_rfl) ?_ _
              clear kp0 kp1 kq0 kq1
              go_wp2
              go_roundw
              case rel => exact ⟨j, by omega, by go_num, r.m, a6, r.n, c6, r.G, by rw [unhide HW1]; exact m0, by rw [unhide HW1]; exact m4, by have := unhide HW2; omega, (by first | exact (unhide HP).drew.rdm (by omega) | exact (unhide HP).rdm (by omega))⟩
              case measure => simp [intOf] <;> omega
            · go_simp
              refine (l6Lit_any R _ m ad n cap _ (by exact (unhide HR).rd) (by omega) (by omega) (by omega) (by omega)).mono ?_
              rintro e w6 ⟨b, rfl, hb, hbm, R6, M6⟩
              clear kp0 kp1 kq0 kq1
              have HR := hide ((unhide HR).mov (by exact M6) R6)
              have HbM := hide (hbm (by omega))
              clear M6 R6 hbm
              have kp0 := (unhide HR).p0
              have kp1 := (unhide HR).p1
              have kq0 := (unhide HR).pf 0
              have kq1 := (unhide HR).pf 1
              go_wp2_with fail
              refine hK.out _ _ ?_ (fun hHeld => ?_)
              · trivial
              clear hK K
              try simp only [List.getElem_toArray, List.getElem_cons_succ, List.getElem_cons_zero, Act.put, List.setIfInBounds_toArray, List.set_cons_zero, List.set_cons_succ]
              refine wpAnyH_ready (rs := [0]) (by kernel_rfl) (by simp) ?_
              refine AllReadyH.cons rfl (fun K hK => ?_) AllReadyH.nil
              go_simp
              refine hK.out _ _ ?_ (fun hHeld => ?_)
              · trivial
              clear hK K
              try simp only [List.getElem_toArray, List.getElem_cons_succ, List.getElem_cons_zero, Act.put, List.setIfInBounds_toArray, List.set_cons_zero, List.set_cons_succ]
              refine wpAnyH_ready (rs := [7]) (by kernel_rfl) (by simp) ?_
              refine AllReadyH.cons rfl (fun K hK => ?_) AllReadyH.nil
              go_simp
              refine (l6And_any m ad n cap G a b _ (by exact (unhide HR).gt) (unhide HR).nn (unhide HR).sp (fun p hp => ((unhide HR).lo p hp).1) (by omega) (by omega) (by omega) (unhide HaM) (unhide HbM)).mono ?_
              rintro e w7 ⟨⟨a6, c6, rfl, g6, nn6, sp6, pl6⟩, b6⟩
              clear kp0 kp1 kq0 kq1
              have w5s := (unhide HR).ne
              have lo5 := (unhide HR).lo
              have B5 := World.block_lt_of_cell? _ _ (unhide HR).p0
              have Y5 := World.block_lt_of_cell? _ _ (unhide HR).s0
              have R5 := (unhide HR).rd.lt
              have W5 := (unhide HR).mv.size
              have hw := andR_wg (a := a) (b := b) (by unfold W64; omega) (by unfold W64; omega) (unhide HR).wg (show n < 600 by omega) (m := m)
              have HR := hide ((unhide HR).later (by exact b6))
              have lo6 : ∀ p, a6 = some p → p.block < w7.heap.size ∧ w.heap.size ≤ p.block ∧ p.block ≠ R ∧ p.block ≠ B ∧ p.block ≠ Y := fun p hp => by
                rcases pl6 with e | e | ⟨q, e, h1, h2⟩
                · rw [hp] at e; cases e
                · rw [hp] at e; have := lo5 p e.symm; exact ⟨Nat.lt_of_lt_of_le this.1 b6.size, this.2⟩
                · rw [hp] at e; cases e; simp only at B5 Y5 h1 h2 ⊢; (try simp at h1); omega
              have HP := hide ((unhide HR).put (m' := (andR m n G a b).m) (cap' := c6) g6 nn6 sp6 lo6 hw.2.2)
              have HW1 := hide hw.1
              have HW2 := hide hw.2.1
              clear g6 nn6 sp6 pl6 b6 lo6 lo5 hw w5s B5 Y5 R5 W5
              have kp0 := (unhide HR).p0
              have kp1 := (unhide HR).p1
              have kq0 := (unhide HR).pf 0
              have kq1 := (unhide HR).pf 1
              generalize andR m n G a b = r at *
              go_wp2_with fail
              refine hK.out _ _ ?_ (fun hHeld => ?_)
              · trivial
              clear hK K
              try simp only [List.getElem_toArray, List.getElem_cons_succ, List.getElem_cons_zero, Act.put, List.setIfInBounds_toArray, List.set_cons_zero, List.set_cons_succ]
              refine wpAnyH_take (i := 8) (v := ?_) rfl (by kernel_rfl) (by kernel_rfl) (by kernel_rfl) (fun _ _ _ h => h) (Or.inl ⟨by rfl, ?_⟩) (by assumption) ?_
              rotate_left
              · (intro w hSw; (try dsimp only at hSw); first | (go_simp; done) | (go_simp; with_reducible rfl))
              try simp only [List.getElem_toArray, List.getElem_cons_succ, List.getElem_cons_zero, Act.put, List.setIfInBounds_toArray, List.set_cons_zero, List.set_cons_succ]
              refine wpAnyH_take (i := 9) (v := ?_) rfl (by kernel_rfl) (by kernel_rfl) (by kernel_rfl) (fun _ _ _ h => h) (Or.inl ⟨by rfl, ?_⟩) (by assumption) ?_
              rotate_left
              · (intro w hSw; (try dsimp only at hSw); first | (go_simp; done) | (go_simp; with_reducible rfl))
              try simp only [List.getElem_toArray, List.getElem_cons_succ, List.getElem_cons_zero, Act.put, List.setIfInBounds_toArray, List.set_cons_zero, List.set_cons_succ]
              refine wpAnyH_take (i := 10) (v := ?_) rfl (by kernel_rfl) (by kernel_rfl) (by kernel_rfl) (fun _ _ _ h => h) (Or.inl ⟨by rfl, ?_⟩) (by assumption) ?_
              rotate_left
              · (intro w hSw; (try dsimp only at hSw); first | (go_simp; done) | (go_simp; with_reducible rfl))
              try simp only [List.getElem_toArray, List.getElem_cons_succ, List.getElem_cons_zero, Act.put, List.setIfInBounds_toArray, List.set_cons_zero, List.set_cons_succ]
              refine wpAnyH_ready (rs := [11]) (by kernel_rfl) (by simp) ?_
              refine AllReadyH.cons rfl (fun K hK => ?_) AllReadyH.nil
              go_simp
              refine hK.out _ _ ?_ (fun hHeld => ?_)
              · trivial
              clear hK K
              try simp only [List.getElem_toArray, List.getElem_cons_succ, List.getElem_cons_zero, Act.put, List.setIfInBounds_toArray, List.set_cons_zero, List.set_cons_succ]
              refine wpAnyH_done (by kernel_rfl) ?_ _
              clear kp0 kp1 kq0 kq1
              go_wp2
              go_roundw
              case rel => exact ⟨j, by omega, by go_num, r.m, a6, r.n, c6, r.G, by rw [unhide HW1]; exact m0, by rw [unhide HW1]; exact m4, by have := unhide HW2; omega, (by first | exact (unhide HP).drew.rdm (by omega) | exact (unhide HP).rdm (by omega))⟩
              case measure => simp [intOf] <;> omega
theorem own_made1 {w : World} {base g n cap : Nat} {e : TypeId} {L : List Int} (h : w.ownsRow base e 1 (.slice (some ⟨g, 0, none⟩) n cap) n (icells L)) {j : Nat} (hj : j < n) : (∃ v, w.cell? ⟨g, j, none⟩ = some v) ∧ w.frozen? ⟨g, j, none⟩ = false := by
  refine ⟨⟨.int .i64 (at0 L j), ?_⟩, own_froz h j⟩
  · have := own_ints h (owns_len h) j hj
    rwa [Nat.zero_add] at this
/-- Marks that are drawn: a row of its own. -/
def MarksQ (w : World) (R N W : Nat) (e : Ending) (w' : World) : Prop := ∃ g n cp L, e = .returned (.slice (some ⟨g, 0, none⟩) n cp) ∧ n ≤ cp ∧ L.length = n ∧ n ≤ W + 1 ∧ Ints w' g 0 n (at0 L) ∧ g < w'.heap.size ∧ w.heap.size ≤ g ∧ (∀ i, i < n → W64 (at0 L i)) ∧ Rd w' R N ∧ Mov R w w'
set_option maxRecDepth 100000 in
set_option maxHeartbeats 4000000 in
theorem l7Marks_any (R N : Nat) (m : Int) (ad : Option Addr) (n cap W : Nat) (w : World) (hR : Rd w R N) (hN : N ≤ 700000) (hm0 : -1 ≤ m) (hm1 : m ≤ 9) (hn : n ≤ 1000) (h1 : 1 ≤ W) (h4 : W ≤ 4) :
    Calls Tryd.prog 63 #[.pointer (some ⟨R, 0, none⟩), .agg #[.int .i64 m, .slice ad n cap], .int .i64 (W : Int)] w fun e w' => MarksQ w R (N + 12) W e w' := by
  obtain ⟨wz, hwz⟩ : ∃ wz, wz = w.alloc (.cells #[.int .i64 m, .slice ad n cap] 25) := ⟨_, rfl⟩
  have BZ : Below w.heap.size w wz := by rw [hwz]; exact (Below.refl _ _).alloc (Nat.le_refl _) _
  have zs : wz.heap.size = w.heap.size + 1 := by rw [hwz]; simp
  have p0 : wz.cell? ⟨w.heap.size, 0, none⟩ = some (.int .i64 m) := by rw [hwz]; simp [go_sem]
  have p1 : wz.cell? ⟨w.heap.size, 1, none⟩ = some (.slice ad n cap) := by rw [hwz]; simp [go_sem]
  have rl := hR.lt
  have bt : Below wz.heap.size wz (wz.alloc (.cells #[] 3)) := (Below.refl _ _).alloc (Nat.le_refl _) _
  have h0 : Hid ((wz.alloc (.cells #[] 3)).ownsRow (w.heap.size + 1) 3 1 (.slice (some ⟨wz.heap.size, 0, none⟩) 0 0) 0 (icells []) ∧ Rd (wz.alloc (.cells #[] 3)) R N ∧ Mov R w (wz.alloc (.cells #[] 3)) ∧ (wz.alloc (.cells #[] 3)).cell? ⟨w.heap.size, 0, none⟩ = some (.int .i64 m) ∧ (wz.alloc (.cells #[] 3)).cell? ⟨w.heap.size, 1, none⟩ = some (.slice ad n cap)) :=
    ⟨own_mono (own_new wz 3 1) (by omega), (hR.below BZ).below bt, (Mov.of BZ).trans (Mov.of bt), cell_later bt p0, cell_later bt p1⟩
  have HZ := hide hwz
  clear hwz BZ p0 p1 bt hR
  go_enter Tryd.func63, Tryd.ntmps63
  go_wp2
  rw [← unhide HZ]
  rw [show w.heap.size + 1 = wz.heap.size from zs.symm]
  clear zs
  go_loopw [7, 8] (fun l i wr => ∃ j : Nat, j ≤ W ∧ i = .int .i64 (j : Int) ∧ ∃ g cp L, l = .slice (some ⟨g, 0, none⟩) j cp ∧ wr.ownsRow (w.heap.size + 1) 3 1 (.slice (some ⟨g, 0, none⟩) j cp) j (icells L) ∧ (∀ x, x ∈ L → W64 x) ∧ Rd wr R (N + 2 * j) ∧ Mov R w wr ∧ wr.cell? ⟨w.heap.size, 0, none⟩ = some (.int .i64 m) ∧ wr.cell? ⟨w.heap.size, 1, none⟩ = some (.slice ad n cap)) (fun _ i _ => W - (intOf i).toNat)
  case atStart => exact ⟨0, by omega, rfl, _, _, [], rfl, (unhide h0).1, (fun x hx => by cases hx), (unhide h0).2.1.mono (by omega), (unhide h0).2.2.1, (unhide h0).2.2.2.1, (unhide h0).2.2.2.2⟩
  case round =>
    clear h0
    obtain ⟨j, hj, rfl, g, cp, L, rfl, ho, hx, hr, hm, p0, p1⟩ := hrel
    have HO := hide ho
    have HX := hide hx
    have HR := hide hr
    have HM := hide hm
    have lg := own_base ho
    have hLj := owns_len ho
    have lgs := own_cap ho
    clear ho hx hr hm
    by_cases hlt : j < W
    · go_wp2_with fail
      refine (l6Lit_any R _ m ad n cap _ (unhide HR) (by omega) hm0 hm1 hn).mono ?_
      rintro e w3 ⟨a, rfl, ha, _, R3, M3⟩
      have ow3 := World.ownsRow.kept (w' := w3) (unhide HO) (grown_mov M3) (Or.inr (by simp [Value.ownBlock]; omega))
      have hs3 := ((unhide HM).trans M3).size
      obtain ⟨g', cp', w4, hrun, ow4, gr4, at4⟩ := int_one w3 (w.heap.size + 1) (.slice (some ⟨g, 0, none⟩) j cp) j L a ow3 (by omega) (by have := World.block_lt_of_cell? _ _ p0; have := M3.size; simp only at *; omega)
      have HRUN := hide hrun
      have mg : Mov g w3 w4 := mov_of_grown gr4
      have HO4 := hide ow4
      have q0 := mg.cell (M3.cell p0 (by simp only; omega)) (by simp only; omega)
      have q1 := mg.cell (M3.cell p1 (by simp only; omega)) (by simp only; omega)
      have HR4 := hide (R3.other mg (by omega))
      have HM4 : Hid (Mov R w w4) := ⟨mg.1.trans (((unhide HM).trans M3).1), mg.2.1.trans (((unhide HM).trans M3).2.1), mg.2.2.1.trans (((unhide HM).trans M3).2.2.1), Nat.le_trans ((unhide HM).trans M3).size mg.size, fun k hk hne => (mg.2.2.2.2 k (Nat.lt_of_lt_of_le hk hs3) (by omega)).trans (((unhide HM).trans M3).2.2.2.2 k hk hne)⟩
      have HX4 : Hid (∀ x, x ∈ L ++ [a] → W64 x) := fun x hx => by
        rcases List.mem_append.1 hx with h | h
        · exact unhide HX x h
        · simp at h; subst h; unfold W64; omega
      clear hrun ow3 ow4 gr4 at4 R3 M3 mg p0 p1
      go_wp2_with (first | (at_builtin; refine wpList_append_run _ rfl (.tmp 15) (.tmp 19) 26 rfl _ _ _ _ rfl rfl (unhide HRUN) ?_))
      go_wp2
      go_roundw
      case rel => exact ⟨j + 1, by omega, by go_num, g', cp', L ++ [a], rfl, unhide HO4, unhide HX4, (unhide HR4).mono (by omega), unhide HM4, q0, q1⟩
      case measure => simp [intOf]; omega
    · have ej : j = W := by omega
      subst ej
      have HIn : Hid (Ints wr g 0 j (at0 L)) := own_ints (unhide HO) hLj
      have HXa : Hid (∀ i, i < j → W64 (at0 L i)) := fun i hi => unhide HX _ (at0_mem (by omega))
      go_wp2_with fail
      refine (pick_any R _ 60 _ (unhide HR) (by omega) (by omega) (by omega)).mono ?_
      rintro e w3 ⟨k, rfl, k0, k1, R3, M3⟩
      have ow3 := World.ownsRow.kept (w' := w3) (unhide HO) (grown_mov M3) (Or.inr (by simp [Value.ownBlock]; omega))
      have HM3 := hide ((unhide HM).trans M3)
      have HO3 := hide ow3
      have HR3 := hide R3
      have i3 : Hid (Ints w3 g 0 j (at0 L)) := own_ints ow3 hLj
      have lw := (unhide HM).size
      have l3 := (own_cap ow3).2
      have wsz := (unhide HM3).size
      clear ow3 R3 M3 p0 p1
      by_cases e0 : k = 0
      · subst e0
        have m3 := own_made1 (unhide HO3) (j := 0) (by omega)
        obtain ⟨⟨v0, c0⟩, fz⟩ := m3
        obtain ⟨wt, hwt⟩ : ∃ x, x = w3.alloc (.cells #[.int .i64 0, .int .i64 99, .int .i64 (-9223372036854775808)] 3) := ⟨_, rfl⟩
        have BT : Below w3.heap.size w3 wt := by rw [hwt]; exact (Below.refl _ _).alloc (Nat.le_refl _) _
        have zt : ∀ i, i < 3 → wt.cell? ⟨w3.heap.size, i, none⟩ = some (.int .i64 (([0, 99, -9223372036854775808] : List Int).getD i 0)) := fun i hi => by rw [hwt]; exact rowN w3 [0, 99, -9223372036854775808] 3 i hi
        have HT := hide hwt
        have HRt := hide ((unhide HR3).below BT)
        have HMt := hide ((unhide HM3).trans (Mov.of BT))
        have HIt := hide ((unhide i3).later BT)
        have ct := cell_later BT c0
        have ft := (BT.frozen (p := ⟨g, 0, none⟩) l3).trans fz
        have lt3 := BT.size
        have rl3 := (unhide HR3).lt
        clear hwt c0 fz BT
        have hj0 : (0 : Int) < (j : Int) := by omega
        go_wp2_with fail
        rw [← unhide HT]
        refine (num_any R _ w3.heap.size 3 [0, 99, -9223372036854775808] _ rfl (unhide HRt) (by omega) (by omega) (by omega) (by omega) zt).mono ?_
        rintro e w4 ⟨q, hq, rfl, R4, M4⟩
        have hz : W64 (([0, 99, -9223372036854775808] : List Int).getD q 0) := by
          have : q = 0 ∨ q = 1 ∨ q = 2 := by omega
          rcases this with rfl | rfl | rfl <;> (simp only [List.getD_cons_zero, List.getD_cons_succ]; unfold W64; omega)
        generalize ([0, 99, -9223372036854775808] : List Int).getD q 0 = z at *
        replace ct := M4.cell ct (by simp only; omega)
        have f4 := frozen_mov M4 (Nat.lt_of_lt_of_le l3 lt3) (by omega) ft
        have HI4 : Hid (Ints w4 g 0 j (at0 L)) := fun i hi => M4.cell (unhide HIt i hi) (by simp only; omega)
        have HR4 := hide R4
        have HM4 := hide ((unhide HMt).trans M4)
        have l4 : g < w4.heap.size := Nat.lt_of_lt_of_le (Nat.lt_of_lt_of_le l3 lt3) M4.size
        clear R4 M4 zt ft HT
        go_wp2
        go_ret
        have ms : Mov g w4 (w4.setCell ⟨g, 0, none⟩ (.int .i64 z)) := Mov.set _ _ _
        have hsl : (L.set 0 z).length = j := by simp [hLj]
        have hat : ∀ i, i < j → at0 (L.set 0 z) i = if i = 0 then z else at0 L i := fun i hi => by
          unfold at0
          rw [List.getD_eq_getElem?_getD, List.getD_eq_getElem?_getD, List.getElem?_set]
          by_cases e : i = 0
          · subst e; simp [show 0 < L.length by omega]
          · rw [if_neg (fun h => e h.symm), if_neg e]
        refine ⟨g, j, cp, L.set 0 z, rfl, by omega, hsl, by omega, fun i hi => ?_, Nat.lt_of_lt_of_le l4 ms.size, by omega, fun i hi => ?_, ((unhide HR4).other ms (by omega)).mono (by omega), (unhide HM4).setNew (by omega) _ _⟩
        · rw [hat i hi, Nat.zero_add]
          by_cases e : i = 0
          · subst e; rw [if_pos rfl]; exact World.cell?_setCell_same _ _ _ ct
          · rw [if_neg e, World.cell?_setCell_other _ _ _ _ (by simp <;> omega)]
            have := unhide HI4 i hi
            rwa [Nat.zero_add] at this
        · rw [hat i hi]; split
          · exact hz
          · exact unhide HXa i hi
      · by_cases e1 : k = 1
        · subst e1
          obtain ⟨g', cp', w4, hrun, ow4, gr4, at4⟩ := int_one w3 (w.heap.size + 1) (.slice (some ⟨g, 0, none⟩) j cp) j L 1 (unhide HO3) (by omega) (by omega)
          have HRUN := hide hrun
          have mg : Mov g w3 w4 := mov_of_grown gr4
          have HO4 := hide ow4
          have HR4 := hide ((unhide HR3).other mg (by have := (unhide HR3).lt; omega))
          have HM4 : Hid (Mov R w w4) := ⟨mg.1.trans ((unhide HM3).1), mg.2.1.trans ((unhide HM3).2.1), mg.2.2.1.trans ((unhide HM3).2.2.1), Nat.le_trans (unhide HM3).size mg.size, fun k hk hne => (mg.2.2.2.2 k (Nat.lt_of_lt_of_le hk wsz) (by omega)).trans ((unhide HM3).2.2.2.2 k hk hne)⟩
          clear hrun ow4 gr4 at4 mg
          go_wp2_with (first | (at_builtin; refine wpList_append_run _ rfl (.tmp 32) (.tmp 33) 26 rfl _ _ _ _ rfl rfl (unhide HRUN) ?_))
          go_wp2
          go_ret
          have hl4 := owns_len (unhide HO4)
          exact ⟨g', j + 1, cp', L ++ [1], rfl, (own_cap (unhide HO4)).1, hl4, by omega, own_ints (unhide HO4) hl4, (own_cap (unhide HO4)).2, by have := own_base (unhide HO4); omega, fun i hi => by
            rcases List.mem_append.1 (at0_mem (L := L ++ [1]) (i := i) (by omega)) with h | h
            · exact unhide HX _ h
            · simp at h; rw [h]; unfold W64; omega, (unhide HR4).mono (by omega), unhide HM4⟩
        · by_cases e2 : k = 2
          · subst e2
            have b4 : Below w3.heap.size w3 (w3.alloc (.cells #[] 3)) := (Below.refl _ _).alloc (Nat.le_refl _) _
            go_wp2
            go_ret
            exact ⟨w3.heap.size, 0, 0, [], rfl, by omega, rfl, by omega, fun i hi => by omega, by simp, by omega, fun i hi => by omega, ((unhide HR3).below b4).mono (by omega), (unhide HM3).trans (Mov.of b4)⟩
          · have f0 : (k == 0) = false := by simp [e0]
            have f1 : (k == 1) = false := by simp [e1]
            have f2 : (k == 2) = false := by simp [e2]
            clear e0 e1 e2
            go_wp2
            go_ret
            exact ⟨g, j, cp, L, rfl, by omega, hLj, by omega, unhide i3, l3, by omega, unhide HXa, (unhide HR3).mono (by omega), unhide HM3⟩
/-- A row of marks, in memory of its own. -/
structure RowQ (w0 w : World) (g n cp : Nat) (L : List Int) : Prop where
  c : n ≤ cp
  l : L.length = n
  b : n ≤ 5
  i : Ints w g 0 n (at0 L)
  lt : g < w.heap.size
  lo : w0.heap.size ≤ g
  v : ∀ i, i < n → W64 (at0 L i)
theorem RowQ.mov {w0 w w' : World} {g n cp R : Nat} {L : List Int} (h : RowQ w0 w g n cp L) (hm : Mov R w w') (hR : g ≠ R) : RowQ w0 w' g n cp L := ⟨h.c, h.l, h.b, fun i hi => hm.cell (h.i i hi) hR, Nat.lt_of_lt_of_le h.lt hm.size, h.lo, h.v⟩
theorem RowQ.from {w0 w1 w : World} {g n cp : Nat} {L : List Int} (h : RowQ w1 w g n cp L) (hb : w0.heap.size ≤ w1.heap.size) : RowQ w0 w g n cp L := ⟨h.c, h.l, h.b, h.i, h.lt, Nat.le_trans hb h.lo, h.v⟩
theorem MarksQ.row {w w' : World} {R N W : Nat} {e : Ending} (h : MarksQ w R N W e w') (hW : W ≤ 4) : ∃ g n cp L, e = .returned (.slice (some ⟨g, 0, none⟩) n cp) ∧ RowQ w w' g n cp L ∧ Rd w' R N ∧ Mov R w w' := by
  obtain ⟨g, n, cp, L, h1, h2, h3, h4, h5, h6, h7, h8, h9, h10⟩ := h
  exact ⟨g, n, cp, L, h1, ⟨h2, h3, by omega, h5, h6, h7, h8⟩, h9, h10⟩
/-- A net and two rows that are drawn. -/
def TwoM (w : World) (R N : Nat) (e : Ending) (w' : World) : Prop := ∃ m g n cap G gu nu cu L gv nv cv M, e = .returned (.tuple #[.agg #[.int .i64 m, .slice (some ⟨g, 0, none⟩) n cap], .slice (some ⟨gu, 0, none⟩) nu cu, .slice (some ⟨gv, 0, none⟩) nv cv]) ∧ (-1 ≤ m ∧ m ≤ 9 ∧ n ≤ 4) ∧ (GtsAt w' (some ⟨g, 0, none⟩) n G ∧ g < w'.heap.size ∧ w.heap.size ≤ g ∧ WG n G) ∧ RowQ w w' gu nu cu L ∧ RowQ w w' gv nv cv M ∧ Rd w' R N ∧ Mov R w w'
set_option maxRecDepth 100000 in
set_option maxHeartbeats 4000000 in
theorem l7Two_any (R N : Nat) (w : World) (hR : Rd w R N) (hN : N ≤ 600000) :
    Calls Tryd.prog 30 #[.pointer (some ⟨R, 0, none⟩)] w fun e w' => TwoM w R (N + 80) e w' := by
  obtain ⟨wz, hwz⟩ : ∃ wz, wz = w.alloc (.cells #[.int .i64 0, .slice none 0 0] 25) := ⟨_, rfl⟩
  have BZ : Below w.heap.size w wz := by rw [hwz]; exact (Below.refl _ _).alloc (Nat.le_refl _) _
  have zs : wz.heap.size = w.heap.size + 1 := by rw [hwz]; simp
  have s0 : wz.cell? ⟨w.heap.size, 0, none⟩ = some (.int .i64 0) := by rw [hwz]; simp [go_sem]
  have s1 : wz.cell? ⟨w.heap.size, 1, none⟩ = some (.slice none 0 0) := by rw [hwz]; simp [go_sem]
  have sf : ∀ o, wz.frozen? ⟨w.heap.size, o, none⟩ = false := fun o => by rw [hwz]; simp [go_sem]
  have rl := hR.lt
  have hRz := hR.below BZ
  have M1 : Mov R w wz := Mov.of BZ
  have HZ := hide hwz
  clear hwz hR
  go_enter Tryd.func30, Tryd.ntmps30
  go_wp2_with fail
  rw [← unhide HZ]
  refine (l7Net_any R N wz hRz (by omega)).mono ?_
  rintro e w1 ⟨m, g, n, cap, G, rfl, m0, m1, n4, gt, gl, gb, wg, R1, v1⟩
  obtain ⟨B, hB⟩ : ∃ B, B = w1.heap.size := ⟨_, rfl⟩
  obtain ⟨Y, hY⟩ : ∃ Y, Y = w.heap.size := ⟨_, rfl⟩
  have h0 : Hid (NB w (w1.alloc (.cells #[.int .i64 m, .slice (some ⟨g, 0, none⟩) n cap] 25)) R (N + 40) B Y m (some ⟨g, 0, none⟩) n cap G) := by
    have ba : Below w1.heap.size w1 (w1.alloc (.cells #[.int .i64 m, .slice (some ⟨g, 0, none⟩) n cap] 25)) := (Below.refl _ _).alloc (Nat.le_refl _) _
    have zl : w.heap.size < wz.heap.size := by omega
    have zl1 : w.heap.size < w1.heap.size := Nat.lt_of_lt_of_le zl v1.size
    rw [hB, hY]
    exact ⟨by simp [go_sem], by simp [go_sem], fun o => by simp [go_sem], cell_later ba (v1.cell s0 (by simp only; omega)), cell_later ba (v1.cell s1 (by simp only; omega)), fun o => (ba.frozen (p := ⟨w.heap.size, o, none⟩) zl1).trans (frozen_mov v1 zl (by omega) (sf o)), gt.later ba, fun h => (by cases h), fun p h => (by cases h; rfl), fun p h => (by cases h; simp only; refine ⟨Nat.lt_of_lt_of_le gl ba.size, ?_⟩; omega), wg, R1.below ba, (M1.trans v1).from ba, by have := R1.lt; omega⟩
  clear s0 s1 sf M1 v1 R1 hRz HZ BZ gt wg gl gb
  go_wp2_with fail
  generalize hwb : w1.alloc (.cells #[.int .i64 m, .slice (some ⟨g, 0, none⟩) n cap] 25) = wb at *
  rw [← hB, ← hY]
  clear hwb hB hY zs
  refine (pick_any R _ 4 _ (unhide h0).rd (by omega) (by omega) (by omega)).mono ?_
  rintro e w2 ⟨J, rfl, J0, J1, R2, v2⟩
  have h2 := hide ((unhide h0).mov v2 R2)
  clear h0 v2 R2
  obtain ⟨J, rfl⟩ := Int.eq_ofNat_of_zero_le J0
  have hJw : IntKind.i64.wrap (1 + (J : Int)) = ((J + 1 : Nat) : Int) := by rw [IntKind.wrap_i64]; omega
  have kp0 := (unhide h2).p0
  have kp1 := (unhide h2).p1
  go_wp2_with fail
  refine (l7Marks_any R _ m (some ⟨g, 0, none⟩) n cap (J + 1) w2 (unhide h2).rd (by omega) m0 m1 (by omega) (by omega) (by omega)).mono ?_
  intro e w3 hq
  obtain ⟨gu, nu, cu, L, rfl, hrow, R3, v3⟩ := hq.row (by omega)
  have HROW := hide (hrow.from (unhide h2).mv.size)
  have gu2 := hrow.lo
  have h3 := hide ((unhide h2).mov v3 R3)
  have hB2 := World.block_lt_of_cell? _ _ (unhide h2).p0
  have hY2 := World.block_lt_of_cell? _ _ (unhide h2).s0
  have rl2 := (unhide h2).rd.lt
  simp only at hB2 hY2
  have gune : gu ≠ R ∧ gu ≠ B ∧ gu ≠ Y := by omega
  clear h2 v3 R3 hrow hq gu2 hB2 hY2 rl2 kp0 kp1
  go_wp2_with fail
  refine (pick_any R _ 16 _ (unhide h3).rd (by omega) (by omega) (by omega)).mono ?_
  rintro e w4 ⟨k, rfl, k0, k1, R4, v4⟩
  have HRO4 := hide ((unhide HROW).mov v4 gune.1)
  have h4 := hide ((unhide h3).mov v4 R4)
  clear h3 HROW v4 R4
  by_cases hk : k = 0
  · subst hk
    go_wp2_with fail
    refine (pick_any R _ 4 _ (unhide h4).rd (by omega) (by omega) (by omega)).mono ?_
    rintro e w5 ⟨H, rfl, H0, H1, R5, v5⟩
    have HRU := hide ((unhide HRO4).mov v5 gune.1)
    have HR := hide ((unhide h4).mov v5 R5)
    clear h4 HRO4 v5 R5
    obtain ⟨H, rfl⟩ := Int.eq_ofNat_of_zero_le H0
    have hHw : IntKind.i64.wrap (1 + (H : Int)) = ((H + 1 : Nat) : Int) := by rw [IntKind.wrap_i64]; omega
    have hne := (unhide HR).ne
    have kp0 := (unhide HR).p0
    have kp1 := (unhide HR).p1
    have ks0 := (unhide HR).s0
    have ks1 := (unhide HR).s1
    have kf0 := (unhide HR).sf 0
    have kf1 := (unhide HR).sf 1
    go_wp2
    refine wp_region_held_drew (S := fun w' => w'.cell? ⟨B, 0, none⟩ = some (.int .i64 m) ∧ w'.cell? ⟨B, 1, none⟩ = some (.slice (some ⟨g, 0, none⟩) n cap)) (by kernel_rfl) ?_ (fun hHeld => ?_)
    · exact ⟨kp0, kp1⟩
    obtain ⟨wd, hwd⟩ : ∃ x, x = w5.drew := ⟨_, rfl⟩
    have HR := hide ((unhide HR).drew)
    rw [← hwd] at HR ⊢
    (try rw [← hwd] at hHeld)
    have HRU := hide ((unhide HRU).mov (Mov.of (R := R) (Below.refl _ _).drew) gune.1)
    rw [← hwd] at HRU
    clear hwd kp0 kp1 ks0 ks1 kf0 kf1
    have kp0 := (unhide HR).p0
    have kp1 := (unhide HR).p1
    have ks0 := (unhide HR).s0
    have ks1 := (unhide HR).s1
    have kf0 := (unhide HR).sf 0
    have kf1 := (unhide HR).sf 1
    refine wpAnyH_take (i := 0) (v := ?_) rfl (by kernel_rfl) (by kernel_rfl) (by kernel_rfl) (fun _ _ _ h => h) (Or.inl ⟨by rfl, ?_⟩) (by assumption) ?_
    rotate_left
    · (intro w hSw; (try dsimp only at hSw); first | (go_simp; done) | (go_simp; with_reducible rfl))
    try simp only [List.getElem_toArray, List.getElem_cons_succ, List.getElem_cons_zero, Act.put, List.setIfInBounds_toArray, List.set_cons_zero, List.set_cons_succ]
    refine wpAnyH_take (i := 1) (v := ?_) rfl (by kernel_rfl) (by kernel_rfl) (by kernel_rfl) (fun _ _ _ h => h) (Or.inl ⟨by rfl, ?_⟩) (by assumption) ?_
    rotate_left
    · (intro w hSw; (try dsimp only at hSw); first | (go_simp; done) | (go_simp; with_reducible rfl))
    try simp only [List.getElem_toArray, List.getElem_cons_succ, List.getElem_cons_zero, Act.put, List.setIfInBounds_toArray, List.set_cons_zero, List.set_cons_succ]
    refine wpAnyH_take (i := 2) (v := ?_) rfl (by kernel_rfl) (by kernel_rfl) (by kernel_rfl) (fun _ _ _ h => h) (Or.inl ⟨by rfl, ?_⟩) (by assumption) ?_
    rotate_left
    · (intro w hSw; (try dsimp only at hSw); first | (go_simp; done) | (go_simp; with_reducible rfl))
    try simp only [List.getElem_toArray, List.getElem_cons_succ, List.getElem_cons_zero, Act.put, List.setIfInBounds_toArray, List.set_cons_zero, List.set_cons_succ]
    refine wpAnyH_take (i := 3) (v := ?_) rfl (by kernel_rfl) (by kernel_rfl) (by kernel_rfl) (fun _ _ _ h => h) (Or.inl ⟨by rfl, ?_⟩) (by assumption) ?_
    rotate_left
    · (intro w hSw; (try dsimp only at hSw); first | (go_simp; done) | (go_simp; with_reducible rfl))
    try simp only [List.getElem_toArray, List.getElem_cons_succ, List.getElem_cons_zero, Act.put, List.setIfInBounds_toArray, List.set_cons_zero, List.set_cons_succ]
    refine wpAnyH_take (i := 4) (v := ?_) rfl (by kernel_rfl) (by kernel_rfl) (by kernel_rfl) (fun _ _ _ h => h) (Or.inl ⟨by rfl, ?_⟩) (by assumption) ?_
    rotate_left
    · (intro w hSw; (try dsimp only at hSw); first | (go_simp; done) | (go_simp; with_reducible rfl))
    try simp only [List.getElem_toArray, List.getElem_cons_succ, List.getElem_cons_zero, Act.put, List.setIfInBounds_toArray, List.set_cons_zero, List.set_cons_succ]
    refine wpAnyH_ready (rs := [5]) (by kernel_rfl) (by simp) ?_
    refine AllReadyH.cons rfl (fun K hK => ?_) AllReadyH.nil
    go_simp
    refine (l7Marks_any R _ m (some ⟨g, 0, none⟩) n cap (H + 1) _ (by exact (unhide HR).rd) (by omega) m0 m1 (by omega) (by omega) (by omega)).mono ?_
    intro e w6 hq
    obtain ⟨gv, nv, cv, M, rfl, hrow, R6, v6⟩ := hq.row (by omega)
    have HRV := hide (hrow.from (show w.heap.size ≤ _ from (unhide HR).mv.size))
    have gv2 : wd.heap.size ≤ gv := hrow.lo
    have hY2 := World.block_lt_of_cell? _ _ (unhide HR).s0
    simp only at hY2
    have gvne : gv ≠ Y := by omega
    have HRU := hide ((unhide HRU).mov v6 gune.1)
    have HR := hide ((unhide HR).mov v6 R6)
    clear kp0 kp1 ks0 ks1 kf0 kf1
    clear hrow hq R6 v6 gv2 hY2
    have kp0 := (unhide HR).p0
    have kp1 := (unhide HR).p1
    have ks0 := (unhide HR).s0
    have ks1 := (unhide HR).s1
    have kf0 := (unhide HR).sf 0
    have kf1 := (unhide HR).sf 1
    go_wp2_with fail
    refine hK.out _ _ ?_ (fun hHeld => ?_)
    · exact ⟨kp0, kp1⟩
    clear hK K
    try simp only [List.getElem_toArray, List.getElem_cons_succ, List.getElem_cons_zero, Act.put, List.setIfInBounds_toArray, List.set_cons_zero, List.set_cons_succ]
    refine wpAnyH_ready (rs := [6]) (by kernel_rfl) (by simp) ?_
    refine AllReadyH.cons rfl (fun K hK => ?_) AllReadyH.nil
    go_simp
    refine hK.out _ _ ?_ (fun hHeld => ?_)
    · exact ⟨by rw [World.cell?_setCell_other _ _ _ _ (by simp <;> omega), World.cell?_setCell_other _ _ _ _ (by simp <;> omega)]; exact kp0, by rw [World.cell?_setCell_other _ _ _ _ (by simp <;> omega), World.cell?_setCell_other _ _ _ _ (by simp <;> omega)]; exact kp1⟩
    clear hK K
    try simp only [List.getElem_toArray, List.getElem_cons_succ, List.getElem_cons_zero, Act.put, List.setIfInBounds_toArray, List.set_cons_zero, List.set_cons_succ]
    refine wpAnyH_ready (rs := [7]) (by kernel_rfl) (by simp) ?_
    refine AllReadyH.cons rfl (fun K hK => ?_) AllReadyH.nil
    go_simp
    refine hK.out _ _ ?_ (fun hHeld => ?_)
    · exact ⟨by rw [World.cell?_setCell_other _ _ _ _ (by simp <;> omega), World.cell?_setCell_other _ _ _ _ (by simp <;> omega)]; exact kp0, by rw [World.cell?_setCell_other _ _ _ _ (by simp <;> omega), World.cell?_setCell_other _ _ _ _ (by simp <;> omega)]; exact kp1⟩
    clear hK K
    try simp only [List.getElem_toArray, List.getElem_cons_succ, List.getElem_cons_zero, Act.put, List.setIfInBounds_toArray, List.set_cons_zero, List.set_cons_succ]
    refine wpAnyH_ready (rs := [8]) (by kernel_rfl) (by simp) ?_
    refine AllReadyH.cons rfl (fun K hK => ?_) AllReadyH.nil
    go_simp
    refine hK.out _ _ ?_ (fun hHeld => ?_)
    · exact ⟨by rw [World.cell?_setCell_other _ _ _ _ (by simp <;> omega), World.cell?_setCell_other _ _ _ _ (by simp <;> omega)]; exact kp0, by rw [World.cell?_setCell_other _ _ _ _ (by simp <;> omega), World.cell?_setCell_other _ _ _ _ (by simp <;> omega)]; exact kp1⟩
    clear hK K
    try simp only [List.getElem_toArray, List.getElem_cons_succ, List.getElem_cons_zero, Act.put, List.setIfInBounds_toArray, List.set_cons_zero, List.set_cons_succ]
    refine wpAnyH_done (by kernel_rfl) ?_ _
    go_wp2
    refine bodyPost_ret (v := .tuple #[.agg #[.int .i64 m, .slice (some ⟨g, 0, none⟩) n cap], .slice (some ⟨gu, 0, none⟩) nu cu, .slice (some ⟨gv, 0, none⟩) nv cv]) (by simp [results, Tryd.results30, go_sem, ks0, ks1]) rfl ?_
    have hv : Mov Y w6 ((w6.setCell ⟨Y, 0, none⟩ (.int .i64 m)).setCell ⟨Y, 1, none⟩ (.slice (some ⟨g, 0, none⟩) n cap)) := (Mov.set _ _ _).trans (Mov.set _ _ _)
    have lo := (unhide HR).lo _ rfl
    have hne := (unhide HR).ne
    exact ⟨m, g, n, cap, G, gu, nu, cu, L, gv, nv, cv, M, rfl, ⟨m0, m1, n4⟩, ⟨(unhide HR).gt.apart (Or.inr (fun b off e => by cases e; exact lo.2.2.2.2)) hv, Nat.lt_of_lt_of_le lo.1 hv.size, lo.2.1, (unhide HR).wg⟩, (unhide HRU).mov hv gune.2.2, (unhide HRV).mov hv gvne, ((unhide HR).rd.other hv (by omega)).mono (by omega), ((unhide HR).mv.setNew hne.2.2.2.2.1 _ _).setNew hne.2.2.2.2.1 _ _⟩
  · have hk0 : (k == 0) = false := by simp [hk]
    have HRU := HRO4
    have HR := h4
    clear h4 HRO4
    have hne := (unhide HR).ne
    have kp0 := (unhide HR).p0
    have kp1 := (unhide HR).p1
    have ks0 := (unhide HR).s0
    have ks1 := (unhide HR).s1
    have kf0 := (unhide HR).sf 0
    have kf1 := (unhide HR).sf 1
    go_wp2
    refine wp_region_held_drew (S := fun w' => w'.cell? ⟨B, 0, none⟩ = some (.int .i64 m) ∧ w'.cell? ⟨B, 1, none⟩ = some (.slice (some ⟨g, 0, none⟩) n cap)) (by kernel_rfl) ?_ (fun hHeld => ?_)
    · exact ⟨kp0, kp1⟩
    obtain ⟨wd, hwd⟩ : ∃ x, x = w4.drew := ⟨_, rfl⟩
    have HR := hide ((unhide HR).drew)
    rw [← hwd] at HR ⊢
    (try rw [← hwd] at hHeld)
    have HRU := hide ((unhide HRU).mov (Mov.of (R := R) (Below.refl _ _).drew) gune.1)
    rw [← hwd] at HRU
    clear hwd kp0 kp1 ks0 ks1 kf0 kf1
    have kp0 := (unhide HR).p0
    have kp1 := (unhide HR).p1
    have ks0 := (unhide HR).s0
    have ks1 := (unhide HR).s1
    have kf0 := (unhide HR).sf 0
    have kf1 := (unhide HR).sf 1
    refine wpAnyH_take (i := 0) (v := ?_) rfl (by kernel_rfl) (by kernel_rfl) (by kernel_rfl) (fun _ _ _ h => h) (Or.inl ⟨by rfl, ?_⟩) (by assumption) ?_
    rotate_left
    · (intro w hSw; (try dsimp only at hSw); first | (go_simp; done) | (go_simp; with_reducible rfl))
    try simp only [List.getElem_toArray, List.getElem_cons_succ, List.getElem_cons_zero, Act.put, List.setIfInBounds_toArray, List.set_cons_zero, List.set_cons_succ]
    refine wpAnyH_take (i := 1) (v := ?_) rfl (by kernel_rfl) (by kernel_rfl) (by kernel_rfl) (fun _ _ _ h => h) (Or.inl ⟨by rfl, ?_⟩) (by assumption) ?_
    rotate_left
    · (intro w hSw; (try dsimp only at hSw); first | (go_simp; done) | (go_simp; with_reducible rfl))
    try simp only [List.getElem_toArray, List.getElem_cons_succ, List.getElem_cons_zero, Act.put, List.setIfInBounds_toArray, List.set_cons_zero, List.set_cons_succ]
    refine wpAnyH_take (i := 2) (v := ?_) rfl (by kernel_rfl) (by kernel_rfl) (by kernel_rfl) (fun _ _ _ h => h) (Or.inl ⟨by rfl, ?_⟩) (by assumption) ?_
    rotate_left
    · (intro w hSw; (try dsimp only at hSw); first | (go_simp; done) | (go_simp; with_reducible rfl))
    try simp only [List.getElem_toArray, List.getElem_cons_succ, List.getElem_cons_zero, Act.put, List.setIfInBounds_toArray, List.set_cons_zero, List.set_cons_succ]
    refine wpAnyH_take (i := 3) (v := ?_) rfl (by kernel_rfl) (by kernel_rfl) (by kernel_rfl) (fun _ _ _ h => h) (Or.inl ⟨by rfl, ?_⟩) (by assumption) ?_
    rotate_left
    · (intro w hSw; (try dsimp only at hSw); first | (go_simp; done) | (go_simp; with_reducible rfl))
    try simp only [List.getElem_toArray, List.getElem_cons_succ, List.getElem_cons_zero, Act.put, List.setIfInBounds_toArray, List.set_cons_zero, List.set_cons_succ]
    refine wpAnyH_take (i := 4) (v := ?_) rfl (by kernel_rfl) (by kernel_rfl) (by kernel_rfl) (fun _ _ _ h => h) (Or.inl ⟨by rfl, ?_⟩) (by assumption) ?_
    rotate_left
    · (intro w hSw; (try dsimp only at hSw); first | (go_simp; done) | (go_simp; with_reducible rfl))
    try simp only [List.getElem_toArray, List.getElem_cons_succ, List.getElem_cons_zero, Act.put, List.setIfInBounds_toArray, List.set_cons_zero, List.set_cons_succ]
    refine wpAnyH_ready (rs := [5]) (by kernel_rfl) (by simp) ?_
    refine AllReadyH.cons rfl (fun K hK => ?_) AllReadyH.nil
    go_simp
    refine (l7Marks_any R _ m (some ⟨g, 0, none⟩) n cap (J + 1) _ (by exact (unhide HR).rd) (by omega) m0 m1 (by omega) (by omega) (by omega)).mono ?_
    intro e w6 hq
    obtain ⟨gv, nv, cv, M, rfl, hrow, R6, v6⟩ := hq.row (by omega)
    have HRV := hide (hrow.from (show w.heap.size ≤ _ from (unhide HR).mv.size))
    have gv2 : wd.heap.size ≤ gv := hrow.lo
    have hY2 := World.block_lt_of_cell? _ _ (unhide HR).s0
    simp only at hY2
    have gvne : gv ≠ Y := by omega
    have HRU := hide ((unhide HRU).mov v6 gune.1)
    have HR := hide ((unhide HR).mov v6 R6)
    clear kp0 kp1 ks0 ks1 kf0 kf1
    clear hrow hq R6 v6 gv2 hY2
    have kp0 := (unhide HR).p0
    have kp1 := (unhide HR).p1
    have ks0 := (unhide HR).s0
    have ks1 := (unhide HR).s1
    have kf0 := (unhide HR).sf 0
    have kf1 := (unhide HR).sf 1
    go_wp2_with fail
    refine hK.out _ _ ?_ (fun hHeld => ?_)
    · exact ⟨kp0, kp1⟩
    clear hK K
    try simp only [List.getElem_toArray, List.getElem_cons_succ, List.getElem_cons_zero, Act.put, List.setIfInBounds_toArray, List.set_cons_zero, List.set_cons_succ]
    refine wpAnyH_ready (rs := [6]) (by kernel_rfl) (by simp) ?_
    refine AllReadyH.cons rfl (fun K hK => ?_) AllReadyH.nil
    go_simp
    refine hK.out _ _ ?_ (fun hHeld => ?_)
    · exact ⟨by rw [World.cell?_setCell_other _ _ _ _ (by simp <;> omega), World.cell?_setCell_other _ _ _ _ (by simp <;> omega)]; exact kp0, by rw [World.cell?_setCell_other _ _ _ _ (by simp <;> omega), World.cell?_setCell_other _ _ _ _ (by simp <;> omega)]; exact kp1⟩
    clear hK K
    try simp only [List.getElem_toArray, List.getElem_cons_succ, List.getElem_cons_zero, Act.put, List.setIfInBounds_toArray, List.set_cons_zero, List.set_cons_succ]
    refine wpAnyH_ready (rs := [7]) (by kernel_rfl) (by simp) ?_
    refine AllReadyH.cons rfl (fun K hK => ?_) AllReadyH.nil
    go_simp
    refine hK.out _ _ ?_ (fun hHeld => ?_)
    · exact ⟨by rw [World.cell?_setCell_other _ _ _ _ (by simp <;> omega), World.cell?_setCell_other _ _ _ _ (by simp <;> omega)]; exact kp0, by rw [World.cell?_setCell_other _ _ _ _ (by simp <;> omega), World.cell?_setCell_other _ _ _ _ (by simp <;> omega)]; exact kp1⟩
    clear hK K
    try simp only [List.getElem_toArray, List.getElem_cons_succ, List.getElem_cons_zero, Act.put, List.setIfInBounds_toArray, List.set_cons_zero, List.set_cons_succ]
    refine wpAnyH_ready (rs := [8]) (by kernel_rfl) (by simp) ?_
    refine AllReadyH.cons rfl (fun K hK => ?_) AllReadyH.nil
    go_simp
    refine hK.out _ _ ?_ (fun hHeld => ?_)
    · exact ⟨by rw [World.cell?_setCell_other _ _ _ _ (by simp <;> omega), World.cell?_setCell_other _ _ _ _ (by simp <;> omega)]; exact kp0, by rw [World.cell?_setCell_other _ _ _ _ (by simp <;> omega), World.cell?_setCell_other _ _ _ _ (by simp <;> omega)]; exact kp1⟩
    clear hK K
    try simp only [List.getElem_toArray, List.getElem_cons_succ, List.getElem_cons_zero, Act.put, List.setIfInBounds_toArray, List.set_cons_zero, List.set_cons_succ]
    refine wpAnyH_done (by kernel_rfl) ?_ _
    go_wp2
    refine bodyPost_ret (v := .tuple #[.agg #[.int .i64 m, .slice (some ⟨g, 0, none⟩) n cap], .slice (some ⟨gu, 0, none⟩) nu cu, .slice (some ⟨gv, 0, none⟩) nv cv]) (by simp [results, Tryd.results30, go_sem, ks0, ks1]) rfl ?_
    have hv : Mov Y w6 ((w6.setCell ⟨Y, 0, none⟩ (.int .i64 m)).setCell ⟨Y, 1, none⟩ (.slice (some ⟨g, 0, none⟩) n cap)) := (Mov.set _ _ _).trans (Mov.set _ _ _)
    have lo := (unhide HR).lo _ rfl
    have hne := (unhide HR).ne
    exact ⟨m, g, n, cap, G, gu, nu, cu, L, gv, nv, cv, M, rfl, ⟨m0, m1, n4⟩, ⟨(unhide HR).gt.apart (Or.inr (fun b off e => by cases e; exact lo.2.2.2.2)) hv, Nat.lt_of_lt_of_le lo.1 hv.size, lo.2.1, (unhide HR).wg⟩, (unhide HRU).mov hv gune.2.2, (unhide HRV).mov hv gvne, ((unhide HR).rd.other hv (by omega)).mono (by omega), ((unhide HR).mv.setNew hne.2.2.2.2.1 _ _).setNew hne.2.2.2.2.1 _ _⟩
theorem Byts.up {w w' : World} {a : Option Addr} {l : Nat} (h : Byts w w.heap.size a l) (hb : Below w.heap.size w w') : Byts w' w'.heap.size a l := by
  have hs := hb.size
  rcases h with h | ⟨B, o, e, hB, hc⟩
  · exact Or.inl h
  · exact Or.inr ⟨B, o, e, by omega, fun p hp => by
      obtain ⟨x, x0, x1, hx⟩ := hc p hp
      exact ⟨x, x0, x1, cell_later hb hx⟩⟩
/-- What lies where a net and two rows have been drawn: the net's box B, the result's box Y, the reader R. -/
structure DB (w0 wr : World) (R N B Y : Nat) (m : Int) (g n cap : Nat) (G : Nat → Gt) (gu nu cu : Nat) (L : List Int) (gv nv cv : Nat) (M : List Int) : Prop where
  p0 : wr.cell? ⟨B, 0, none⟩ = some (.int .i64 m)
  p1 : wr.cell? ⟨B, 1, none⟩ = some (.slice (some ⟨g, 0, none⟩) n cap)
  s0 : wr.cell? ⟨Y, 0, none⟩ = some (.int .i64 0)
  s1 : wr.cell? ⟨Y, 1, none⟩ = some (.slice none 0 0)
  sf : ∀ o, wr.frozen? ⟨Y, o, none⟩ = false
  gt : GtsAt wr (some ⟨g, 0, none⟩) n G
  gl : g < wr.heap.size ∧ g ≠ R ∧ g ≠ Y ∧ w0.heap.size ≤ g
  wg : WG n G
  ru : RowQ w0 wr gu nu cu L
  rv : RowQ w0 wr gv nv cv M
  rd : Rd wr R N
  be : Below w0.heap.size w0 wr ∧ B ≠ R ∧ Y ≠ R ∧ B ≠ Y ∧ w0.heap.size ≤ R ∧ w0.heap.size ≤ Y ∧ gu ≠ R ∧ gv ≠ R ∧ gu ≠ Y ∧ gv ≠ Y
theorem DB.drew {w0 wr : World} {R N B Y : Nat} {m : Int} {g n cap : Nat} {G : Nat → Gt} {gu nu cu : Nat} {L : List Int} {gv nv cv : Nat} {M : List Int} (h : DB w0 wr R N B Y m g n cap G gu nu cu L gv nv cv M) : DB w0 wr.drew R N B Y m g n cap G gu nu cu L gv nv cv M :=
  ⟨h.p0, h.p1, h.s0, h.s1, h.sf, h.gt, h.gl, h.wg, h.ru.mov (Mov.of (R := R) (Below.refl _ _).drew) h.be.2.2.2.2.2.2.1, h.rv.mov (Mov.of (R := R) (Below.refl _ _).drew) h.be.2.2.2.2.2.2.2.1, h.rd, h.be.1.drew, h.be.2⟩
theorem DB.mov {w0 wr w' : World} {R N N' B Y : Nat} {m : Int} {g n cap : Nat} {G : Nat → Gt} {gu nu cu : Nat} {L : List Int} {gv nv cv : Nat} {M : List Int} (h : DB w0 wr R N B Y m g n cap G gu nu cu L gv nv cv M) (hm : Mov R wr w') (hR : Rd w' R N') : DB w0 w' R N' B Y m g n cap G gu nu cu L gv nv cv M := by
  obtain ⟨e0, e1, e2, e3, e4, e5, e6, e7, e8, e9⟩ := h.be
  have hY := World.block_lt_of_cell? _ _ h.s0
  exact ⟨hm.cell h.p0 e1, hm.cell h.p1 e1, hm.cell h.s0 e2, hm.cell h.s1 e2, fun o => frozen_mov hm hY e2 (h.sf o), h.gt.apart (Or.inr (fun b off e => by cases e; exact h.gl.2.1)) hm, ⟨Nat.lt_of_lt_of_le h.gl.1 hm.size, h.gl.2⟩, h.wg, h.ru.mov hm e6, h.rv.mov hm e7, hR, e0.trans (hm.below e4 e0.size), e1, e2, e3, e4, e5, e6, e7, e8, e9⟩
/-- A net, a number, two rows. -/
def DrawM (w : World) (e : Ending) (w' : World) (P : Int → Prop) : Prop := ∃ m g n cap G c gu nu cu L gv nv cv M, e = .returned (.tuple #[.agg #[.int .i64 m, .slice (some ⟨g, 0, none⟩) n cap], .int .i64 c, .slice (some ⟨gu, 0, none⟩) nu cu, .slice (some ⟨gv, 0, none⟩) nv cv]) ∧ (-1 ≤ m ∧ m ≤ 9 ∧ n ≤ 4) ∧ (GtsAt w' (some ⟨g, 0, none⟩) n G ∧ g < w'.heap.size ∧ w.heap.size ≤ g ∧ WG n G) ∧ P c ∧ RowQ w w' gu nu cu L ∧ RowQ w w' gv nv cv M ∧ Below w.heap.size w w'
theorem DB.ret {w0 wr : World} {R N B Y : Nat} {m c : Int} {g n cap : Nat} {G : Nat → Gt} {gu nu cu : Nat} {L : List Int} {gv nv cv : Nat} {M : List Int} {P : Int → Prop} (h : DB w0 wr R N B Y m g n cap G gu nu cu L gv nv cv M) (hm : -1 ≤ m ∧ m ≤ 9 ∧ n ≤ 4) (hP : P c) :
    DrawM w0 (.returned (.tuple #[.agg #[.int .i64 m, .slice (some ⟨g, 0, none⟩) n cap], .int .i64 c, .slice (some ⟨gu, 0, none⟩) nu cu, .slice (some ⟨gv, 0, none⟩) nv cv])) ((wr.setCell ⟨Y, 0, none⟩ (.int .i64 m)).setCell ⟨Y, 1, none⟩ (.slice (some ⟨g, 0, none⟩) n cap)) P := by
  have hv : Mov Y wr ((wr.setCell ⟨Y, 0, none⟩ (.int .i64 m)).setCell ⟨Y, 1, none⟩ (.slice (some ⟨g, 0, none⟩) n cap)) := (Mov.set _ _ _).trans (Mov.set _ _ _)
  obtain ⟨e0, e1, e2, e3, e4, e5, e6, e7, e8, e9⟩ := h.be
  exact ⟨m, g, n, cap, G, c, gu, nu, cu, L, gv, nv, cv, M, rfl, hm, ⟨h.gt.apart (Or.inr (fun b off e => by cases e; exact h.gl.2.2.1)) hv, Nat.lt_of_lt_of_le h.gl.1 hv.size, h.gl.2.2.2, h.wg⟩, hP, h.ru.mov hv e8, h.rv.mov hv e9, e0.trans (hv.below e5 e0.size)⟩
set_option maxRecDepth 100000 in
set_option maxHeartbeats 1000000 in
theorem drawBitsIf_any (a : Option Addr) (l c : Nat) (w : World) (hl : l ≤ 1048576) (hc : l ≤ c) (hcm : c ≤ maxLen) (hby : Byts w w.heap.size a l) :
    Calls Tryd.prog 17 #[.slice a l c] w fun e w' => DrawM w e w' W64 := by
  obtain ⟨wz, hwz⟩ : ∃ wz, wz = w.alloc (.cells #[.int .i64 0, .slice none 0 0] 25) := ⟨_, rfl⟩
  have BZ : Below w.heap.size w wz := by rw [hwz]; exact (Below.refl _ _).alloc (Nat.le_refl _) _
  have zs : wz.heap.size = w.heap.size + 1 := by rw [hwz]; simp
  have s0 : wz.cell? ⟨w.heap.size, 0, none⟩ = some (.int .i64 0) := by rw [hwz]; simp [go_sem]
  have s1 : wz.cell? ⟨w.heap.size, 1, none⟩ = some (.slice none 0 0) := by rw [hwz]; simp [go_sem]
  have sf : ∀ o, wz.frozen? ⟨w.heap.size, o, none⟩ = false := fun o => by rw [hwz]; simp [go_sem]
  have hbz := hby.up BZ
  have HZ := hide hwz
  clear hwz hby
  go_enter Tryd.func17, Tryd.ntmps17
  go_wp2_with fail
  rw [← unhide HZ]
  refine (open_any _ _ _ _ hl hc hcm hbz).mono ?_
  rintro e w1 ⟨rfl, R1, b1⟩
  have V1 : Below w.heap.size w w1 := BZ.trans (b1.mono BZ.size)
  replace sf : ∀ o, w1.frozen? ⟨w.heap.size, o, none⟩ = false := fun o => (b1.frozen (p := ⟨w.heap.size, o, none⟩) (show w.heap.size < wz.heap.size by omega)).trans (sf o)
  replace s0 := cell_later b1 s0
  replace s1 := cell_later b1 s1
  have hs1 := V1.size
  obtain ⟨R, hR⟩ : ∃ R, R = wz.heap.size := ⟨_, rfl⟩
  rw [← hR] at R1 zs ⊢
  have HZS := hide zs
  clear b1 hbz HZ hR BZ zs
  have rl1 := R1.lt
  go_wp2_with fail
  refine (l7Two_any R 0 _ R1 (by omega)).mono ?_
  rintro e w3 ⟨m, g, n, cap, G, gu, nu, cu, L, gv, nv, cv, M, rfl, ⟨m0, m1, n4⟩, ⟨gt, gl, gb, wg⟩, ru, rv, R3, v3⟩
  obtain ⟨B, hB⟩ : ∃ B, B = w3.heap.size := ⟨_, rfl⟩
  obtain ⟨Y, hY⟩ : ∃ Y, Y = w.heap.size := ⟨_, rfl⟩
  have yl : w.heap.size < w1.heap.size := by have := World.block_lt_of_cell? _ _ s0; simpa using this
  have h0 : Hid (DB w (w3.alloc (.cells #[.int .i64 m, .slice (some ⟨g, 0, none⟩) n cap] 25)) R 100 B Y m g n cap G gu nu cu L gv nv cv M) := by
    have ba : Below w3.heap.size w3 (w3.alloc (.cells #[.int .i64 m, .slice (some ⟨g, 0, none⟩) n cap] 25)) := (Below.refl _ _).alloc (Nat.le_refl _) _
    have zs := unhide HZS
    have zl3 : w.heap.size < w3.heap.size := Nat.lt_of_lt_of_le yl v3.size
    have lu := ru.lo
    have lv := rv.lo
    have l3 := ru.lt
    have l4 := rv.lt
    rw [hB, hY]
    exact ⟨by simp [go_sem], by simp [go_sem], cell_later ba (v3.cell s0 (by simp only; omega)), cell_later ba (v3.cell s1 (by simp only; omega)), fun o => (ba.frozen (p := ⟨w.heap.size, o, none⟩) zl3).trans (frozen_mov v3 yl (by omega) (sf o)), gt.later ba, ⟨Nat.lt_of_lt_of_le gl ba.size, by omega⟩, wg, (ru.mov (Mov.of (R := R) ba) (by omega)).from (by omega), (rv.mov (Mov.of (R := R) ba) (by omega)).from (by omega), (R3.below ba).mono (by omega), ⟨(V1.trans (v3.below (by omega) V1.size)).trans (ba.mono (Nat.le_trans V1.size v3.size)), by omega⟩⟩
  clear s0 s1 sf V1 v3 R1 R3 gt wg gl gb ru rv hs1 rl1 yl
  go_wp2_with fail
  generalize hwb : w3.alloc (.cells #[.int .i64 m, .slice (some ⟨g, 0, none⟩) n cap] 25) = wb at *
  (try rw [← hB])
  (try rw [← hY])
  clear hwb hB hY HZS
  have kp0 := (unhide h0).p0
  have kp1 := (unhide h0).p1
  refine (l6Lit_any R _ m (some ⟨g, 0, none⟩) n cap _ (unhide h0).rd (by omega) m0 m1 (by omega)).mono ?_
  rintro e w4 ⟨b, rfl, hb, _, R4, v4⟩
  have h1 := hide ((unhide h0).mov v4 R4)
  have hbw : W64 b := by unfold W64; omega
  clear h0 v4 R4 kp0 kp1
  go_wp2_with fail
  refine (pick_any R _ 20 _ (unhide h1).rd (by omega) (by omega) (by omega)).mono ?_
  rintro e w5 ⟨k, rfl, k0, k1, R5, v5⟩
  have h2 := hide ((unhide h1).mov v5 R5)
  clear h1 v5 R5
  by_cases hk : k = 0
  · subst hk
    obtain ⟨wt, hwt⟩ : ∃ x, x = w5.alloc (.cells #[.int .i64 0, .int .i64 99, .int .i64 (-9223372036854775808)] 3) := ⟨_, rfl⟩
    have BT : Below w5.heap.size w5 wt := by rw [hwt]; exact (Below.refl _ _).alloc (Nat.le_refl _) _
    have zt : ∀ i, i < 3 → wt.cell? ⟨w5.heap.size, i, none⟩ = some (.int .i64 (([0, 99, -9223372036854775808] : List Int).getD i 0)) := fun i hi => by rw [hwt]; exact rowN w5 [0, 99, -9223372036854775808] 3 i hi
    have HT := hide hwt
    have h3 := hide ((unhide h2).mov (Mov.of BT) ((unhide h2).rd.below BT))
    have rl5 := (unhide h2).rd.lt
    clear hwt BT
    go_wp2_with fail
    rw [← unhide HT]
    refine (num_any R _ w5.heap.size 3 [0, 99, -9223372036854775808] _ rfl (unhide h3).rd (by omega) (by omega) (by omega) (by omega) zt).mono ?_
    rintro e w6 ⟨q, hq, rfl, R6, v6⟩
    have hz : W64 (([0, 99, -9223372036854775808] : List Int).getD q 0) := by
      have : q = 0 ∨ q = 1 ∨ q = 2 := by omega
      rcases this with rfl | rfl | rfl <;> (simp only [List.getD_cons_zero, List.getD_cons_succ]; unfold W64; omega)
    generalize ([0, 99, -9223372036854775808] : List Int).getD q 0 = z at *
    have h4 := hide ((unhide h3).mov v6 R6)
    clear h2 h3 v6 R6 zt HT
    have kp0 := (unhide h4).p0
    have kp1 := (unhide h4).p1
    have ks0 := (unhide h4).s0
    have ks1 := (unhide h4).s1
    have kf0 := (unhide h4).sf 0
    have kf1 := (unhide h4).sf 1
    have hne := (unhide h4).be.2.2.2.1
    go_wp2
    refine bodyPost_ret (v := .tuple #[.agg #[.int .i64 m, .slice (some ⟨g, 0, none⟩) n cap], .int .i64 z, .slice (some ⟨gu, 0, none⟩) nu cu, .slice (some ⟨gv, 0, none⟩) nv cv]) (by simp [results, Tryd.results17, go_sem, ks0, ks1]) rfl ?_
    exact (unhide h4).ret ⟨m0, m1, n4⟩ hz
  · have hk0 : (k == 0) = false := by simp [hk]
    have kp0 := (unhide h2).p0
    have kp1 := (unhide h2).p1
    have ks0 := (unhide h2).s0
    have ks1 := (unhide h2).s1
    have kf0 := (unhide h2).sf 0
    have kf1 := (unhide h2).sf 1
    have hne := (unhide h2).be.2.2.2.1
    go_wp2
    refine bodyPost_ret (v := .tuple #[.agg #[.int .i64 m, .slice (some ⟨g, 0, none⟩) n cap], .int .i64 b, .slice (some ⟨gu, 0, none⟩) nu cu, .slice (some ⟨gv, 0, none⟩) nv cv]) (by simp [results, Tryd.results17, go_sem, ks0, ks1]) rfl ?_
    exact (unhide h2).ret ⟨m0, m1, n4⟩ hbw
set_option maxRecDepth 100000 in
set_option maxHeartbeats 1000000 in
theorem drawBitsCmp_any (a : Option Addr) (l c : Nat) (w : World) (hl : l ≤ 1048576) (hc : l ≤ c) (hcm : c ≤ maxLen) (hby : Byts w w.heap.size a l) :
    Calls Tryd.prog 6 #[.slice a l c] w fun e w' => DrawM w e w' (fun c => 14 ≤ c ∧ c ≤ 18) := by
  obtain ⟨wz, hwz⟩ : ∃ wz, wz = w.alloc (.cells #[.int .i64 0, .slice none 0 0] 25) := ⟨_, rfl⟩
  have BZ : Below w.heap.size w wz := by rw [hwz]; exact (Below.refl _ _).alloc (Nat.le_refl _) _
  have zs : wz.heap.size = w.heap.size + 1 := by rw [hwz]; simp
  have s0 : wz.cell? ⟨w.heap.size, 0, none⟩ = some (.int .i64 0) := by rw [hwz]; simp [go_sem]
  have s1 : wz.cell? ⟨w.heap.size, 1, none⟩ = some (.slice none 0 0) := by rw [hwz]; simp [go_sem]
  have sf : ∀ o, wz.frozen? ⟨w.heap.size, o, none⟩ = false := fun o => by rw [hwz]; simp [go_sem]
  have hbz := hby.up BZ
  have HZ := hide hwz
  clear hwz hby
  go_enter Tryd.func6, Tryd.ntmps6
  go_wp2_with fail
  rw [← unhide HZ]
  refine (open_any _ _ _ _ hl hc hcm hbz).mono ?_
  rintro e w1 ⟨rfl, R1, b1⟩
  have V1 : Below w.heap.size w w1 := BZ.trans (b1.mono BZ.size)
  replace sf : ∀ o, w1.frozen? ⟨w.heap.size, o, none⟩ = false := fun o => (b1.frozen (p := ⟨w.heap.size, o, none⟩) (show w.heap.size < wz.heap.size by omega)).trans (sf o)
  replace s0 := cell_later b1 s0
  replace s1 := cell_later b1 s1
  have hs1 := V1.size
  obtain ⟨R, hR⟩ : ∃ R, R = wz.heap.size := ⟨_, rfl⟩
  rw [← hR] at R1 zs ⊢
  have HZS := hide zs
  clear b1 hbz HZ hR BZ zs
  have rl1 := R1.lt
  go_wp2_with fail
  refine (l7Two_any R 0 _ R1 (by omega)).mono ?_
  rintro e w3 ⟨m, g, n, cap, G, gu, nu, cu, L, gv, nv, cv, M, rfl, ⟨m0, m1, n4⟩, ⟨gt, gl, gb, wg⟩, ru, rv, R3, v3⟩
  obtain ⟨B, hB⟩ : ∃ B, B = w3.heap.size := ⟨_, rfl⟩
  obtain ⟨Y, hY⟩ : ∃ Y, Y = w.heap.size := ⟨_, rfl⟩
  have yl : w.heap.size < w1.heap.size := by have := World.block_lt_of_cell? _ _ s0; simpa using this
  have h0 : Hid (DB w (w3.alloc (.cells #[.int .i64 m, .slice (some ⟨g, 0, none⟩) n cap] 25)) R 100 B Y m g n cap G gu nu cu L gv nv cv M) := by
    have ba : Below w3.heap.size w3 (w3.alloc (.cells #[.int .i64 m, .slice (some ⟨g, 0, none⟩) n cap] 25)) := (Below.refl _ _).alloc (Nat.le_refl _) _
    have zs := unhide HZS
    have zl3 : w.heap.size < w3.heap.size := Nat.lt_of_lt_of_le yl v3.size
    have lu := ru.lo
    have lv := rv.lo
    have l3 := ru.lt
    have l4 := rv.lt
    rw [hB, hY]
    exact ⟨by simp [go_sem], by simp [go_sem], cell_later ba (v3.cell s0 (by simp only; omega)), cell_later ba (v3.cell s1 (by simp only; omega)), fun o => (ba.frozen (p := ⟨w.heap.size, o, none⟩) zl3).trans (frozen_mov v3 yl (by omega) (sf o)), gt.later ba, ⟨Nat.lt_of_lt_of_le gl ba.size, by omega⟩, wg, (ru.mov (Mov.of (R := R) ba) (by omega)).from (by omega), (rv.mov (Mov.of (R := R) ba) (by omega)).from (by omega), (R3.below ba).mono (by omega), ⟨(V1.trans (v3.below (by omega) V1.size)).trans (ba.mono (Nat.le_trans V1.size v3.size)), by omega⟩⟩
  clear s0 s1 sf V1 v3 R1 R3 gt wg gl gb ru rv hs1 rl1 yl
  go_wp2
  generalize hwb : w3.alloc (.cells #[.int .i64 m, .slice (some ⟨g, 0, none⟩) n cap] 25) = wb at *
  (try rw [← hB])
  (try rw [← hY])
  clear hwb hB hY HZS
  have hne := (unhide h0).be.2.2.2.1
  have kp0 := (unhide h0).p0
  have kp1 := (unhide h0).p1
  refine wp_region_held_drew (S := fun w' => w'.cell? ⟨B, 0, none⟩ = some (.int .i64 m) ∧ w'.cell? ⟨B, 1, none⟩ = some (.slice (some ⟨g, 0, none⟩) n cap)) (by kernel_rfl) ?_ (fun hHeld => ?_)
  · exact ⟨kp0, kp1⟩
  obtain ⟨wd, hwd⟩ : ∃ x, x = wb.drew := ⟨_, rfl⟩
  have HR := hide ((unhide h0).drew)
  rw [← hwd] at HR ⊢
  (try rw [← hwd] at hHeld)
  clear hwd h0 kp0 kp1
  have kp0 := (unhide HR).p0
  have kp1 := (unhide HR).p1
  have ks0 := (unhide HR).s0
  have ks1 := (unhide HR).s1
  have kf0 := (unhide HR).sf 0
  have kf1 := (unhide HR).sf 1
  refine wpAnyH_take (i := 0) (v := ?_) rfl (by kernel_rfl) (by kernel_rfl) (by kernel_rfl) (fun _ _ _ h => h) (Or.inl ⟨by rfl, ?_⟩) (by assumption) ?_
  rotate_left
  · (intro w hSw; (try dsimp only at hSw); first | (go_simp; done) | (go_simp; with_reducible rfl))
  try simp only [List.getElem_toArray, List.getElem_cons_succ, List.getElem_cons_zero, Act.put, List.setIfInBounds_toArray, List.set_cons_zero, List.set_cons_succ]
  refine wpAnyH_take (i := 1) (v := ?_) rfl (by kernel_rfl) (by kernel_rfl) (by kernel_rfl) (fun _ _ _ h => h) (Or.inl ⟨by rfl, ?_⟩) (by assumption) ?_
  rotate_left
  · (intro w hSw; (try dsimp only at hSw); first | (go_simp; done) | (go_simp; with_reducible rfl))
  try simp only [List.getElem_toArray, List.getElem_cons_succ, List.getElem_cons_zero, Act.put, List.setIfInBounds_toArray, List.set_cons_zero, List.set_cons_succ]
  refine wpAnyH_take (i := 4) (v := ?_) rfl (by kernel_rfl) (by kernel_rfl) (by kernel_rfl) (fun _ _ _ h => h) (Or.inl ⟨by rfl, ?_⟩) (by assumption) ?_
  rotate_left
  · (intro w hSw; (try dsimp only at hSw); first | (go_simp; done) | (go_simp; with_reducible rfl))
  try simp only [List.getElem_toArray, List.getElem_cons_succ, List.getElem_cons_zero, Act.put, List.setIfInBounds_toArray, List.set_cons_zero, List.set_cons_succ]
  refine wpAnyH_take (i := 5) (v := ?_) rfl (by kernel_rfl) (by kernel_rfl) (by kernel_rfl) (fun _ _ _ h => h) (Or.inl ⟨by rfl, ?_⟩) (by assumption) ?_
  rotate_left
  · (intro w hSw; (try dsimp only at hSw); first | (go_simp; done) | (go_simp; with_reducible rfl))
  try simp only [List.getElem_toArray, List.getElem_cons_succ, List.getElem_cons_zero, Act.put, List.setIfInBounds_toArray, List.set_cons_zero, List.set_cons_succ]
  refine wpAnyH_ready (rs := [2]) (by kernel_rfl) (by simp) ?_
  refine AllReadyH.cons rfl (fun K hK => ?_) AllReadyH.nil
  go_simp
  obtain ⟨wt, hwt⟩ : ∃ x, x = wd.alloc (.cells #[.int .i64 15, .int .i64 16, .int .i64 17, .int .i64 15, .int .i64 16, .int .i64 17, .int .i64 14, .int .i64 18] 3) := ⟨_, rfl⟩
  have bt : Below wd.heap.size wd wt := by rw [hwt]; exact (Below.refl _ _).alloc (Nat.le_refl _) _
  have zt : ∀ i, i < 8 → wt.cell? ⟨wd.heap.size, i, none⟩ = some (.int .i64 (([15, 16, 17, 15, 16, 17, 14, 18] : List Int).getD i 0)) := fun i hi => by rw [hwt]; exact rowN wd [15, 16, 17, 15, 16, 17, 14, 18] 3 i hi
  have zn : wd.heap.size ≠ R := by have := (unhide HR).rd.lt; omega
  clear kp0 kp1 ks0 ks1 kf0 kf1
  have HR := hide ((unhide HR).mov (Mov.of bt) ((unhide HR).rd.below bt))
  rw [← hwt]
  obtain ⟨ZT, hZT⟩ : ∃ z, z = wd.heap.size := ⟨_, rfl⟩
  rw [← hZT] at zt zn ⊢
  clear hwt bt hZT
  have kp0 := (unhide HR).p0
  have kp1 := (unhide HR).p1
  have ks0 := (unhide HR).s0
  have ks1 := (unhide HR).s1
  have kf0 := (unhide HR).sf 0
  have kf1 := (unhide HR).sf 1
  refine hK.out _ _ ?_ (fun hHeld => ?_)
  · exact ⟨kp0, kp1⟩
  clear hK K
  try simp only [List.getElem_toArray, List.getElem_cons_succ, List.getElem_cons_zero, Act.put, List.setIfInBounds_toArray, List.set_cons_zero, List.set_cons_succ]
  refine wpAnyH_ready (rs := [3]) (by kernel_rfl) (by simp) ?_
  refine AllReadyH.cons rfl (fun K hK => ?_) AllReadyH.nil
  go_simp
  refine (num_any R _ ZT 8 [15, 16, 17, 15, 16, 17, 14, 18] _ rfl (unhide HR).rd (by omega) zn (by omega) (by omega) zt).mono ?_
  rintro e w5 ⟨q, hq, rfl, R5, v5⟩
  have hz : 14 ≤ ([15, 16, 17, 15, 16, 17, 14, 18] : List Int).getD q 0 ∧ ([15, 16, 17, 15, 16, 17, 14, 18] : List Int).getD q 0 ≤ 18 := by
    have : q = 0 ∨ q = 1 ∨ q = 2 ∨ q = 3 ∨ q = 4 ∨ q = 5 ∨ q = 6 ∨ q = 7 := by omega
    rcases this with rfl | rfl | rfl | rfl | rfl | rfl | rfl | rfl <;> (simp only [List.getD_cons_zero, List.getD_cons_succ]; omega)
  generalize ([15, 16, 17, 15, 16, 17, 14, 18] : List Int).getD q 0 = z at *
  clear kp0 kp1 ks0 ks1 kf0 kf1
  have HR := hide ((unhide HR).mov v5 R5)
  clear v5 R5 zt zn
  have kp0 := (unhide HR).p0
  have kp1 := (unhide HR).p1
  have ks0 := (unhide HR).s0
  have ks1 := (unhide HR).s1
  have kf0 := (unhide HR).sf 0
  have kf1 := (unhide HR).sf 1
  go_wp2_with fail
  refine hK.out _ _ ?_ (fun hHeld => ?_)
  · exact ⟨kp0, kp1⟩
  clear hK K
  try simp only [List.getElem_toArray, List.getElem_cons_succ, List.getElem_cons_zero, Act.put, List.setIfInBounds_toArray, List.set_cons_zero, List.set_cons_succ]
  refine wpAnyH_ready (rs := [6]) (by kernel_rfl) (by simp) ?_
  refine AllReadyH.cons rfl (fun K hK => ?_) AllReadyH.nil
  go_simp
  refine hK.out _ _ ?_ (fun hHeld => ?_)
  · exact ⟨by rw [World.cell?_setCell_other _ _ _ _ (by simp <;> omega), World.cell?_setCell_other _ _ _ _ (by simp <;> omega)]; exact kp0, by rw [World.cell?_setCell_other _ _ _ _ (by simp <;> omega), World.cell?_setCell_other _ _ _ _ (by simp <;> omega)]; exact kp1⟩
  clear hK K
  try simp only [List.getElem_toArray, List.getElem_cons_succ, List.getElem_cons_zero, Act.put, List.setIfInBounds_toArray, List.set_cons_zero, List.set_cons_succ]
  refine wpAnyH_ready (rs := [7]) (by kernel_rfl) (by simp) ?_
  refine AllReadyH.cons rfl (fun K hK => ?_) AllReadyH.nil
  go_simp
  refine hK.out _ _ ?_ (fun hHeld => ?_)
  · exact ⟨by rw [World.cell?_setCell_other _ _ _ _ (by simp <;> omega), World.cell?_setCell_other _ _ _ _ (by simp <;> omega)]; exact kp0, by rw [World.cell?_setCell_other _ _ _ _ (by simp <;> omega), World.cell?_setCell_other _ _ _ _ (by simp <;> omega)]; exact kp1⟩
  clear hK K
  try simp only [List.getElem_toArray, List.getElem_cons_succ, List.getElem_cons_zero, Act.put, List.setIfInBounds_toArray, List.set_cons_zero, List.set_cons_succ]
  refine wpAnyH_ready (rs := [8]) (by kernel_rfl) (by simp) ?_
  refine AllReadyH.cons rfl (fun K hK => ?_) AllReadyH.nil
  go_simp
  refine hK.out _ _ ?_ (fun hHeld => ?_)
  · exact ⟨by rw [World.cell?_setCell_other _ _ _ _ (by simp <;> omega), World.cell?_setCell_other _ _ _ _ (by simp <;> omega)]; exact kp0, by rw [World.cell?_setCell_other _ _ _ _ (by simp <;> omega), World.cell?_setCell_other _ _ _ _ (by simp <;> omega)]; exact kp1⟩
  clear hK K
  try simp only [List.getElem_toArray, List.getElem_cons_succ, List.getElem_cons_zero, Act.put, List.setIfInBounds_toArray, List.set_cons_zero, List.set_cons_succ]
  refine wpAnyH_ready (rs := [9]) (by kernel_rfl) (by simp) ?_
  refine AllReadyH.cons rfl (fun K hK => ?_) AllReadyH.nil
  go_simp
  refine hK.out _ _ ?_ (fun hHeld => ?_)
  · exact ⟨by rw [World.cell?_setCell_other _ _ _ _ (by simp <;> omega), World.cell?_setCell_other _ _ _ _ (by simp <;> omega)]; exact kp0, by rw [World.cell?_setCell_other _ _ _ _ (by simp <;> omega), World.cell?_setCell_other _ _ _ _ (by simp <;> omega)]; exact kp1⟩
  clear hK K
  try simp only [List.getElem_toArray, List.getElem_cons_succ, List.getElem_cons_zero, Act.put, List.setIfInBounds_toArray, List.set_cons_zero, List.set_cons_succ]
  refine wpAnyH_done (by kernel_rfl) ?_ _
  go_wp2
  refine bodyPost_ret (v := .tuple #[.agg #[.int .i64 m, .slice (some ⟨g, 0, none⟩) n cap], .int .i64 z, .slice (some ⟨gu, 0, none⟩) nu cu, .slice (some ⟨gv, 0, none⟩) nv cv]) (by simp [results, Tryd.results6, go_sem, ks0, ks1]) rfl ?_
  exact (unhide HR).ret ⟨m0, m1, n4⟩ hz
end Go.Proofs.YtmpiiilkaadhfaaDoor
