/- Adding, of the model. -/
import Derived.Test.YtjchdggpfkjcgaaDoorBuS
namespace Go.Proofs.YtjchdggpfkjcgaaDoor
open Go.ChangeShapes Go.WideShapes Go.ChangeAt Go.RowKit Go.Joins
set_option linter.unusedVariables false
set_option maxRecDepth 100000
set_option linter.unusedSimpArgs false

set_option maxRecDepth 100000 in
set_option maxHeartbeats 1000000 in
theorem l7Add_any (s : KS) (ad : Option Addr) (cap : Nat) (la : Option Addr) (nl cl : Nat) (L : List Int) (lb : Option Addr) (cm : Nat) (M : List Int) (c : Int) (w : World) (hk : KOk s) (hi : KIn w s ad cap) (hc : Mk s c) (hdL : IntsAt w la nl (at0 L)) (hdM : IntsAt w lb nl (at0 M)) (hL : L.length = nl) (hM : M.length = nl) (hl : nl ≤ 100) (mL : MkL s L) (mM : MkL s M) :
    Calls Tryd.prog 42 #[.agg #[.int .i64 s.m, .slice ad s.n cap, .bool s.ok], .slice la nl cl, .slice lb nl cm, .int .i64 c] w fun e w' => LPost ((addS 1 L M s c nl).1.1, (addS 1 L M s c nl).2) ad w.heap.size e w' ∧ Below w.heap.size w w' := by
  have HGD : Hid (∀ i, i ≤ nl → KOk (addS 1 L M s c i).1.1 ∧ Mk (addS 1 L M s c i).1.1 (addS 1 L M s c i).1.2 ∧ MkL (addS 1 L M s c i).1.1 (addS 1 L M s c i).2 ∧ Le s (addS 1 L M s c i).1.1) := fun i hi => addS_good (by omega) hk hc mL mM i (by omega) (by omega)
  have HI := hide hi
  have HL := hide hdL
  have HM := hide hdM
  have HmL := hide mL
  have HmM := hide mM
  have HeL := hide hL
  have HeM := hide hM
  have h0 : Hid (RowI w (((w.alloc (.cells #[.int .i64 s.m, .slice ad s.n cap, .bool s.ok] 48)).alloc (.cells #[.int .i64 0, .slice none 0 0, .bool false] 48)).alloc (.cells #[] 3)) s [] 0 ad ad cap (w.heap.size + 2) 0) := by
    have b3 : Below w.heap.size w (((w.alloc (.cells #[.int .i64 s.m, .slice ad s.n cap, .bool s.ok] 48)).alloc (.cells #[.int .i64 0, .slice none 0 0, .bool false] 48)).alloc (.cells #[] 3)) := (((Below.refl _ _).alloc (Nat.le_refl _) _).alloc (by simp) _).alloc (by simp; omega) _
    refine ⟨⟨by simp [go_sem], by simp [go_sem], by simp [go_sem]⟩, fun o => by simp [go_sem], hi.later b3, Pl.refl _ _, fun q hq => by have := hi.2.2.2 q hq; omega, by simpa [icells] using own_new ((w.alloc (.cells #[.int .i64 s.m, .slice ad s.n cap, .bool s.ok] 48)).alloc (.cells #[.int .i64 0, .slice none 0 0, .bool false] 48)) 3 1, by simp [go_sem], by simp [go_sem], by simp [go_sem], fun o => by simp [go_sem], by simp, b3⟩
  clear hk hi hc hdL hdM mL mM hL hM
  go_enter Tryd.func42, Tryd.ntmps42
  go_wp2
  go_loopw [11, 10, 3] (fun i o k wr => ∃ j : Nat, j ≤ nl ∧ i = .int .i64 j ∧ k = .int .i64 (addS 1 L M s c j).1.2 ∧ ∃ ga gc g cp, o = .slice (some ⟨g, 0, none⟩) j cp ∧ RowI w wr (addS 1 L M s c j).1.1 (addS 1 L M s c j).2 j ad ga gc g cp) (fun i _ _ _ => nl - (intOf i).toNat)
  case atStart => exact ⟨0, by omega, rfl, rfl, ad, cap, w.heap.size + 2, 0, rfl, unhide h0⟩
  case round =>
    obtain ⟨j, hj, rfl, rfl, ga, gc, g, cp, rfl, hI⟩ := hrel
    have HR := hide hI
    have HGj := unhide HGD j hj
    by_cases hlt : j < nl
    · obtain ⟨bL, oL, rfl, lL, dL0⟩ := at0_in (unhide HL) hlt
      obtain ⟨bM, oM, rfl, lM, dM0⟩ := at0_in (unhide HM) hlt
      have mx := ((unhide HmL) j (by rw [unhide HeL]; exact hlt)).le HGj.2.2.2
      have my := ((unhide HmM) j (by rw [unhide HeM]; exact hlt)).le HGj.2.2.2
      have HN : Hid (addS 1 L M s c (j + 1) = ((addR 1 (addS 1 L M s c j).1.1 (at0 L j) (at0 M j) (addS 1 L M s c j).1.2).1, (addS 1 L M s c j).2 ++ [(addR 1 (addS 1 L M s c j).1.1 (at0 L j) (at0 M j) (addS 1 L M s c j).1.2).2])) := rfl
      have hlen : (addS 1 L M s c j).2.length = j := addS_len _ _ _ _ _ _
      have gS := HGj.1
      have mC := HGj.2.1
      clear hI HGj
      generalize at0 L j = x at *
      generalize at0 M j = y at *
      generalize (addS 1 L M s c j).1.1 = S at *
      generalize (addS 1 L M s c j).1.2 = C at *
      generalize (addS 1 L M s c j).2 = R at *
      have Clo := mC.1
      have Chi := mC.2.1
      obtain ⟨u1, hu1⟩ : ∃ u, u = xorK 1 S x y := ⟨_, rfl⟩
      have g1 : Good S u1 := by rw [hu1]; exact xorK_good (by omega) gS mx my
      obtain ⟨u2, hu2⟩ : ∃ u, u = xorK 1 u1.1 u1.2 C := ⟨_, rfl⟩
      have g2 : Good u1.1 u2 := by rw [hu2]; exact xorK_good (by omega) g1.1 g1.2.1 (mC.le g1.2.2)
      obtain ⟨u3, hu3⟩ : ∃ u, u = andK 1 u2.1 x y := ⟨_, rfl⟩
      have g3 : Good u2.1 u3 := by rw [hu3]; exact andK_good (by omega) g2.1 ((mx.le g1.2.2).le g2.2.2) ((my.le g1.2.2).le g2.2.2)
      obtain ⟨u4, hu4⟩ : ∃ u, u = andK 1 u3.1 u1.2 C := ⟨_, rfl⟩
      have g4 : Good u3.1 u4 := by rw [hu4]; exact andK_good (by omega) g3.1 ((g1.2.1.le g2.2.2).le g3.2.2) (((mC.le g1.2.2).le g2.2.2).le g3.2.2)
      obtain ⟨u5, hu5⟩ : ∃ u, u = orK 1 u4.1 u3.2 u4.2 := ⟨_, rfl⟩
      have g5 : Good u4.1 u5 := by rw [hu5]; exact orK_good (by omega) g4.1 (g3.2.1.le g4.2.2) g4.2.1
      have HN2 : Hid (addS 1 L M s c (j + 1) = (u5, R ++ [u2.2])) := by rw [unhide HN, hu5, hu4, hu3, hu2, hu1]; rfl
      have HU1 := hide hu1
      have HU2 := hide hu2
      have HU3 := hide hu3
      have HU4 := hide hu4
      have HU5 := hide hu5
      have ub1 := g1.2.1.1
      have uc1 := g1.2.1.2.1
      have ub2 := g2.2.1.1
      have uc2 := g2.2.1.2.1
      have ub3 := g3.2.1.1
      have uc3 := g3.2.1.2.1
      have ub4 := g4.2.1.1
      have uc4 := g4.2.1.2.1
      have ub5 := g5.2.1.1
      have uc5 := g5.2.1.2.1
      clear hu1 hu2 hu3 hu4 hu5 HN
      have HC1 : Hid (∀ w', KIn w' S ga gc → Calls Tryd.prog 63 #[.agg #[.int .i64 S.m, .slice ga S.n gc, .bool S.ok], .int .i64 x, .int .i64 y] w' fun e w'' => KPost u1 ga w'.heap.size e w'' ∧ Below w'.heap.size w' w'') := fun w' hw' => by have h := l7Xor_any S ga gc x y w' gS hw' mx my; rw [← unhide HU1] at h; exact h
      obtain ⟨kp0, kp1, kp2⟩ := (unhide HR).k
      have kq0 := (unhide HR).kf 0
      have kq1 := (unhide HR).kf 1
      have kq2 := (unhide HR).kf 2
      have kl := (unhide HR).k.lt
      have dL := ((unhide HR).be.cell (p := ⟨bL, oL + j, none⟩) lL).trans dL0
      have dM := ((unhide HR).be.cell (p := ⟨bM, oM + j, none⟩) lM).trans dM0
      go_wp2
      refine wp_region_held_drew (S := fun w' => w'.cell? ⟨bL, oL + j, none⟩ = some (.int .i64 x) ∧ w'.cell? ⟨bM, oM + j, none⟩ = some (.int .i64 y)) (by kernel_rfl) ?_ (fun hHeld => ?_)
      · exact ⟨dL, dM⟩
      refine wpAnyH_take (i := 1) (v := ?_) rfl (by kernel_rfl) (by kernel_rfl) (by kernel_rfl) (fun _ _ _ h => h) (Or.inl ⟨by rfl, ?_⟩) (by assumption) ?_
      rotate_left
      · (intro w hSw; (try dsimp only at hSw); first | (go_simp; done) | (go_simp; with_reducible rfl))
      try simp only [List.getElem_toArray, List.getElem_cons_succ, List.getElem_cons_zero, Act.put, List.setIfInBounds_toArray, List.set_cons_zero, List.set_cons_succ]
      refine wpAnyH_take (i := 2) (v := ?_) rfl (by kernel_rfl) (by kernel_rfl) (by kernel_rfl) (fun _ _ _ h => h) (Or.inl ⟨by rfl, ?_⟩) (by assumption) ?_
      rotate_left
      · (intro w hSw; (try dsimp only at hSw); first | (go_simp; done) | (go_simp; with_reducible rfl))
      try simp only [List.getElem_toArray, List.getElem_cons_succ, List.getElem_cons_zero, Act.put, List.setIfInBounds_toArray, List.set_cons_zero, List.set_cons_succ]
      refine wpAnyH_take (i := 3) (v := ?_) rfl (by kernel_rfl) (by kernel_rfl) (by kernel_rfl) (fun _ _ _ h => h) (Or.inl ⟨by rfl, ?_⟩) (by assumption) ?_
      rotate_left
      · (intro w hSw; (try dsimp only at hSw); first | (go_simp; done) | (go_simp; with_reducible rfl))
      try simp only [List.getElem_toArray, List.getElem_cons_succ, List.getElem_cons_zero, Act.put, List.setIfInBounds_toArray, List.set_cons_zero, List.set_cons_succ]
      refine wpAnyH_take (i := 4) (v := ?_) rfl (by kernel_rfl) (by kernel_rfl) (by kernel_rfl) (fun _ _ _ h => h) (Or.inl ⟨by rfl, ?_⟩) (by assumption) ?_
      rotate_left
      · (intro w hSw; (try dsimp only at hSw); first | (go_simp; done) | (go_simp; with_reducible rfl))
      try simp only [List.getElem_toArray, List.getElem_cons_succ, List.getElem_cons_zero, Act.put, List.setIfInBounds_toArray, List.set_cons_zero, List.set_cons_succ]
      refine wpAnyH_take (i := 5) (v := ?_) rfl (by kernel_rfl) (by kernel_rfl) (by kernel_rfl) (fun _ _ _ h => h) (Or.inl ⟨by rfl, ?_⟩) (by assumption) ?_
      rotate_left
      · (intro w hSw; (try dsimp only at hSw); first | (go_simp; done) | (go_simp; with_reducible rfl))
      try simp only [List.getElem_toArray, List.getElem_cons_succ, List.getElem_cons_zero, Act.put, List.setIfInBounds_toArray, List.set_cons_zero, List.set_cons_succ]
      refine wpAnyH_take (i := 6) (v := ?_) rfl (by kernel_rfl) (by kernel_rfl) (by kernel_rfl) (fun _ _ _ h => h) (Or.inl ⟨by rfl, ?_⟩) (by assumption) ?_
      rotate_left
      · (intro w hSw; (try dsimp only at hSw); first | (go_simp; done) | (go_simp; with_reducible rfl))
      try simp only [List.getElem_toArray, List.getElem_cons_succ, List.getElem_cons_zero, Act.put, List.setIfInBounds_toArray, List.set_cons_zero, List.set_cons_succ]
      refine wpAnyH_take (i := 7) (v := ?_) rfl (by kernel_rfl) (by kernel_rfl) (by kernel_rfl) (fun _ _ _ h => h) (Or.inl ⟨by rfl, ?_⟩) (by assumption) ?_
      rotate_left
      · (intro w hSw; (try dsimp only at hSw); first | (go_simp; done) | (go_simp; with_reducible rfl))
      try simp only [List.getElem_toArray, List.getElem_cons_succ, List.getElem_cons_zero, Act.put, List.setIfInBounds_toArray, List.set_cons_zero, List.set_cons_succ]
      refine wpAnyH_take (i := 8) (v := ?_) rfl (by kernel_rfl) (by kernel_rfl) (by kernel_rfl) (fun _ _ _ h => h) (Or.inl ⟨by rfl, ?_⟩) (by assumption) ?_
      rotate_left
      · (intro w hSw; (try dsimp only at hSw); first | (go_simp; done) | (go_simp; with_reducible rfl))
      try simp only [List.getElem_toArray, List.getElem_cons_succ, List.getElem_cons_zero, Act.put, List.setIfInBounds_toArray, List.set_cons_zero, List.set_cons_succ]
      refine wpAnyH_ready (rs := [0]) (by kernel_rfl) (by simp) ?_
      refine AllReadyH.cons rfl (fun K hK => ?_) AllReadyH.nil
      go_simp
      refine hK.out _ _ ?_ (fun hHeld => ?_)
      · exact ⟨dL, dM⟩
      clear hK K
      try simp only [List.getElem_toArray, List.getElem_cons_succ, List.getElem_cons_zero, Act.put, List.setIfInBounds_toArray, List.set_cons_zero, List.set_cons_succ]
      refine wpAnyH_ready (rs := [9]) (by kernel_rfl) (by simp) ?_
      refine AllReadyH.cons rfl (fun K hK => ?_) AllReadyH.nil
      go_simp
      refine (unhide HC1 _ (by first | exact (unhide HR).i | exact (unhide HR).drew.i)).mono ?_
      rintro e w1 ⟨⟨ga1, gc1, rfl, hi1, pl1⟩, b1⟩
      have hcl := (RowI.call (by first | exact unhide HR | exact (unhide HR).drew) b1 hi1 pl1 (unhide HI).2.2.2)
      obtain ⟨⟨⟨kp0, kp1, kp2⟩, kf⟩, hput⟩ := hcl
      have kq0 := kf 0
      have kq1 := kf 1
      have kq2 := kf 2
      have HP1 := hide hput
      replace dL := cell_later b1 (by exact dL)
      replace dM := cell_later b1 (by exact dM)
      have lg1 : w.heap.size < w1.heap.size := World.block_lt_of_cell? _ _ kp0
      clear hput kf b1 hi1 pl1
      go_wp2_with fail
      refine hK.out _ _ ?_ (fun hHeld => ?_)
      · exact ⟨dL, dM⟩
      clear hK K
      try simp only [List.getElem_toArray, List.getElem_cons_succ, List.getElem_cons_zero, Act.put, List.setIfInBounds_toArray, List.set_cons_zero, List.set_cons_succ]
      refine wpAnyH_take (i := 10) (v := ?_) rfl (by kernel_rfl) (by kernel_rfl) (by kernel_rfl) (fun _ _ _ h => h) (Or.inl ⟨by rfl, ?_⟩) (by assumption) ?_
      rotate_left
      · (intro w hSw; (try dsimp only at hSw); first | (go_simp; done) | (go_simp; with_reducible rfl))
      try simp only [List.getElem_toArray, List.getElem_cons_succ, List.getElem_cons_zero, Act.put, List.setIfInBounds_toArray, List.set_cons_zero, List.set_cons_succ]
      refine wpAnyH_take (i := 11) (v := ?_) rfl (by kernel_rfl) (by kernel_rfl) (by kernel_rfl) (fun _ _ _ h => h) (Or.inl ⟨by rfl, ?_⟩) (by assumption) ?_
      rotate_left
      · (intro w hSw; (try dsimp only at hSw); first | (go_simp; done) | (go_simp; with_reducible rfl))
      try simp only [List.getElem_toArray, List.getElem_cons_succ, List.getElem_cons_zero, Act.put, List.setIfInBounds_toArray, List.set_cons_zero, List.set_cons_succ]
      refine wpAnyH_take (i := 12) (v := ?_) rfl (by kernel_rfl) (by kernel_rfl) (by kernel_rfl) (fun _ _ _ h => h) (Or.inl ⟨by rfl, ?_⟩) (by assumption) ?_
      rotate_left
      · (intro w hSw; (try dsimp only at hSw); first | (go_simp; done) | (go_simp; with_reducible rfl))
      try simp only [List.getElem_toArray, List.getElem_cons_succ, List.getElem_cons_zero, Act.put, List.setIfInBounds_toArray, List.set_cons_zero, List.set_cons_succ]
      refine wpAnyH_ready (rs := [13]) (by kernel_rfl) (by simp) ?_
      refine AllReadyH.cons rfl (fun K hK => ?_) AllReadyH.nil
      go_simp
      refine hK.out _ _ ?_ (fun hHeld => ?_)
      · exact ⟨by rw [World.cell?_setCell_other _ _ _ _ (by simp <;> omega), World.cell?_setCell_other _ _ _ _ (by simp <;> omega), World.cell?_setCell_other _ _ _ _ (by simp <;> omega)]; exact dL, by rw [World.cell?_setCell_other _ _ _ _ (by simp <;> omega), World.cell?_setCell_other _ _ _ _ (by simp <;> omega), World.cell?_setCell_other _ _ _ _ (by simp <;> omega)]; exact dM⟩
      clear hK K
      try simp only [List.getElem_toArray, List.getElem_cons_succ, List.getElem_cons_zero, Act.put, List.setIfInBounds_toArray, List.set_cons_zero, List.set_cons_succ]
      refine wpAnyH_ready (rs := [14]) (by kernel_rfl) (by simp) ?_
      refine AllReadyH.cons rfl (fun K hK => ?_) AllReadyH.nil
      go_simp
      refine hK.out _ _ ?_ (fun hHeld => ?_)
      · exact ⟨by rw [World.cell?_setCell_other _ _ _ _ (by simp <;> omega), World.cell?_setCell_other _ _ _ _ (by simp <;> omega), World.cell?_setCell_other _ _ _ _ (by simp <;> omega)]; exact dL, by rw [World.cell?_setCell_other _ _ _ _ (by simp <;> omega), World.cell?_setCell_other _ _ _ _ (by simp <;> omega), World.cell?_setCell_other _ _ _ _ (by simp <;> omega)]; exact dM⟩
      clear hK K
      try simp only [List.getElem_toArray, List.getElem_cons_succ, List.getElem_cons_zero, Act.put, List.setIfInBounds_toArray, List.set_cons_zero, List.set_cons_succ]
      refine wpAnyH_done (by kernel_rfl) ?_ _
      have lg2 := lg1
      clear lg1 lg2
      obtain ⟨v1, hv1⟩ : ∃ v, v = ((w1.setCell ⟨w.heap.size, 0, none⟩ (.int .i64 u1.1.m)).setCell ⟨w.heap.size, 1, none⟩ (.slice ga1 u1.1.n gc1)).setCell ⟨w.heap.size, 2, none⟩ (.bool u1.1.ok) := ⟨_, rfl⟩
      replace HR := hide (unhide HP1 v1 hv1)
      rw [← hv1]
      clear hv1 kp0 kp1 kp2 kq0 kq1 kq2 dL dM kl
      have HC2 : Hid (∀ w', KIn w' u1.1 ga1 gc1 → Calls Tryd.prog 63 #[.agg #[.int .i64 u1.1.m, .slice ga1 u1.1.n gc1, .bool u1.1.ok], .int .i64 u1.2, .int .i64 C] w' fun e w'' => KPost u2 ga1 w'.heap.size e w'' ∧ Below w'.heap.size w' w'') := fun w' hw' => by have h := l7Xor_any u1.1 ga1 gc1 u1.2 C w' g1.1 hw' g1.2.1 (mC.le g1.2.2); rw [← unhide HU2] at h; exact h
      obtain ⟨kp0, kp1, kp2⟩ := (unhide HR).k
      have kq0 := (unhide HR).kf 0
      have kq1 := (unhide HR).kf 1
      have kq2 := (unhide HR).kf 2
      have kl := (unhide HR).k.lt
      have dL := ((unhide HR).be.cell (p := ⟨bL, oL + j, none⟩) lL).trans dL0
      have dM := ((unhide HR).be.cell (p := ⟨bM, oM + j, none⟩) lM).trans dM0
      go_wp2_with fail
      refine (unhide HC2 _ (by first | exact (unhide HR).i | exact (unhide HR).drew.i)).mono ?_
      rintro e w2 ⟨⟨ga2, gc2, rfl, hi1, pl1⟩, b1⟩
      have hcl := (RowI.call (by first | exact unhide HR | exact (unhide HR).drew) b1 hi1 pl1 (unhide HI).2.2.2)
      obtain ⟨⟨⟨kp0, kp1, kp2⟩, kf⟩, hput⟩ := hcl
      have kq0 := kf 0
      have kq1 := kf 1
      have kq2 := kf 2
      have HP2 := hide hput
      clear hput kf b1 hi1 pl1
      clear dL dM
      obtain ⟨v2, hv2⟩ : ∃ v, v = ((w2.setCell ⟨w.heap.size, 0, none⟩ (.int .i64 u2.1.m)).setCell ⟨w.heap.size, 1, none⟩ (.slice ga2 u2.1.n gc2)).setCell ⟨w.heap.size, 2, none⟩ (.bool u2.1.ok) := ⟨_, rfl⟩
      replace HR := hide (unhide HP2 v2 hv2)
      go_wp2
      rw [← hv2]
      clear hv2 kp0 kp1 kp2 kq0 kq1 kq2 kl
      have HC3 : Hid (∀ w', KIn w' u2.1 ga2 gc2 → Calls Tryd.prog 64 #[.agg #[.int .i64 u2.1.m, .slice ga2 u2.1.n gc2, .bool u2.1.ok], .int .i64 x, .int .i64 y] w' fun e w'' => KPost u3 ga2 w'.heap.size e w'' ∧ Below w'.heap.size w' w'') := fun w' hw' => by have h := l7And_any u2.1 ga2 gc2 x y w' g2.1 hw' ((mx.le g1.2.2).le g2.2.2) ((my.le g1.2.2).le g2.2.2); rw [← unhide HU3] at h; exact h
      obtain ⟨kp0, kp1, kp2⟩ := (unhide HR).k
      have kq0 := (unhide HR).kf 0
      have kq1 := (unhide HR).kf 1
      have kq2 := (unhide HR).kf 2
      have kl := (unhide HR).k.lt
      have dL := ((unhide HR).be.cell (p := ⟨bL, oL + j, none⟩) lL).trans dL0
      have dM := ((unhide HR).be.cell (p := ⟨bM, oM + j, none⟩) lM).trans dM0
      go_wp2
      refine wp_region_held_drew (S := fun w' => w'.cell? ⟨bL, oL + j, none⟩ = some (.int .i64 x) ∧ w'.cell? ⟨bM, oM + j, none⟩ = some (.int .i64 y)) (by kernel_rfl) ?_ (fun hHeld => ?_)
      · exact ⟨dL, dM⟩
      refine wpAnyH_take (i := 1) (v := ?_) rfl (by kernel_rfl) (by kernel_rfl) (by kernel_rfl) (fun _ _ _ h => h) (Or.inl ⟨by rfl, ?_⟩) (by assumption) ?_
      rotate_left
      · (intro w hSw; (try dsimp only at hSw); first | (go_simp; done) | (go_simp; with_reducible rfl))
      try simp only [List.getElem_toArray, List.getElem_cons_succ, List.getElem_cons_zero, Act.put, List.setIfInBounds_toArray, List.set_cons_zero, List.set_cons_succ]
      refine wpAnyH_take (i := 2) (v := ?_) rfl (by kernel_rfl) (by kernel_rfl) (by kernel_rfl) (fun _ _ _ h => h) (Or.inl ⟨by rfl, ?_⟩) (by assumption) ?_
      rotate_left
      · (intro w hSw; (try dsimp only at hSw); first | (go_simp; done) | (go_simp; with_reducible rfl))
      try simp only [List.getElem_toArray, List.getElem_cons_succ, List.getElem_cons_zero, Act.put, List.setIfInBounds_toArray, List.set_cons_zero, List.set_cons_succ]
      refine wpAnyH_take (i := 3) (v := ?_) rfl (by kernel_rfl) (by kernel_rfl) (by kernel_rfl) (fun _ _ _ h => h) (Or.inl ⟨by rfl, ?_⟩) (by assumption) ?_
      rotate_left
      · (intro w hSw; (try dsimp only at hSw); first | (go_simp; done) | (go_simp; with_reducible rfl))
      try simp only [List.getElem_toArray, List.getElem_cons_succ, List.getElem_cons_zero, Act.put, List.setIfInBounds_toArray, List.set_cons_zero, List.set_cons_succ]
      refine wpAnyH_take (i := 4) (v := ?_) rfl (by kernel_rfl) (by kernel_rfl) (by kernel_rfl) (fun _ _ _ h => h) (Or.inl ⟨by rfl, ?_⟩) (by assumption) ?_
      rotate_left
      · (intro w hSw; (try dsimp only at hSw); first | (go_simp; done) | (go_simp; with_reducible rfl))
      try simp only [List.getElem_toArray, List.getElem_cons_succ, List.getElem_cons_zero, Act.put, List.setIfInBounds_toArray, List.set_cons_zero, List.set_cons_succ]
      refine wpAnyH_take (i := 5) (v := ?_) rfl (by kernel_rfl) (by kernel_rfl) (by kernel_rfl) (fun _ _ _ h => h) (Or.inl ⟨by rfl, ?_⟩) (by assumption) ?_
      rotate_left
      · (intro w hSw; (try dsimp only at hSw); first | (go_simp; done) | (go_simp; with_reducible rfl))
      try simp only [List.getElem_toArray, List.getElem_cons_succ, List.getElem_cons_zero, Act.put, List.setIfInBounds_toArray, List.set_cons_zero, List.set_cons_succ]
      refine wpAnyH_take (i := 6) (v := ?_) rfl (by kernel_rfl) (by kernel_rfl) (by kernel_rfl) (fun _ _ _ h => h) (Or.inl ⟨by rfl, ?_⟩) (by assumption) ?_
      rotate_left
      · (intro w hSw; (try dsimp only at hSw); first | (go_simp; done) | (go_simp; with_reducible rfl))
      try simp only [List.getElem_toArray, List.getElem_cons_succ, List.getElem_cons_zero, Act.put, List.setIfInBounds_toArray, List.set_cons_zero, List.set_cons_succ]
      refine wpAnyH_take (i := 7) (v := ?_) rfl (by kernel_rfl) (by kernel_rfl) (by kernel_rfl) (fun _ _ _ h => h) (Or.inl ⟨by rfl, ?_⟩) (by assumption) ?_
      rotate_left
      · (intro w hSw; (try dsimp only at hSw); first | (go_simp; done) | (go_simp; with_reducible rfl))
      try simp only [List.getElem_toArray, List.getElem_cons_succ, List.getElem_cons_zero, Act.put, List.setIfInBounds_toArray, List.set_cons_zero, List.set_cons_succ]
      refine wpAnyH_take (i := 8) (v := ?_) rfl (by kernel_rfl) (by kernel_rfl) (by kernel_rfl) (fun _ _ _ h => h) (Or.inl ⟨by rfl, ?_⟩) (by assumption) ?_
      rotate_left
      · (intro w hSw; (try dsimp only at hSw); first | (go_simp; done) | (go_simp; with_reducible rfl))
      try simp only [List.getElem_toArray, List.getElem_cons_succ, List.getElem_cons_zero, Act.put, List.setIfInBounds_toArray, List.set_cons_zero, List.set_cons_succ]
      refine wpAnyH_ready (rs := [0]) (by kernel_rfl) (by simp) ?_
      refine AllReadyH.cons rfl (fun K hK => ?_) AllReadyH.nil
      go_simp
      refine hK.out _ _ ?_ (fun hHeld => ?_)
      · exact ⟨dL, dM⟩
      clear hK K
      try simp only [List.getElem_toArray, List.getElem_cons_succ, List.getElem_cons_zero, Act.put, List.setIfInBounds_toArray, List.set_cons_zero, List.set_cons_succ]
      refine wpAnyH_ready (rs := [9]) (by kernel_rfl) (by simp) ?_
      refine AllReadyH.cons rfl (fun K hK => ?_) AllReadyH.nil
      go_simp
      refine (unhide HC3 _ (by first | exact (unhide HR).i | exact (unhide HR).drew.i)).mono ?_
      rintro e w3 ⟨⟨ga3, gc3, rfl, hi1, pl1⟩, b1⟩
      have hcl := (RowI.call (by first | exact unhide HR | exact (unhide HR).drew) b1 hi1 pl1 (unhide HI).2.2.2)
      obtain ⟨⟨⟨kp0, kp1, kp2⟩, kf⟩, hput⟩ := hcl
      have kq0 := kf 0
      have kq1 := kf 1
      have kq2 := kf 2
      have HP3 := hide hput
      replace dL := cell_later b1 (by exact dL)
      replace dM := cell_later b1 (by exact dM)
      have lg1 : w.heap.size < w3.heap.size := World.block_lt_of_cell? _ _ kp0
      clear hput kf b1 hi1 pl1
      go_wp2_with fail
      refine hK.out _ _ ?_ (fun hHeld => ?_)
      · exact ⟨dL, dM⟩
      clear hK K
      try simp only [List.getElem_toArray, List.getElem_cons_succ, List.getElem_cons_zero, Act.put, List.setIfInBounds_toArray, List.set_cons_zero, List.set_cons_succ]
      refine wpAnyH_take (i := 10) (v := ?_) rfl (by kernel_rfl) (by kernel_rfl) (by kernel_rfl) (fun _ _ _ h => h) (Or.inl ⟨by rfl, ?_⟩) (by assumption) ?_
      rotate_left
      · (intro w hSw; (try dsimp only at hSw); first | (go_simp; done) | (go_simp; with_reducible rfl))
      try simp only [List.getElem_toArray, List.getElem_cons_succ, List.getElem_cons_zero, Act.put, List.setIfInBounds_toArray, List.set_cons_zero, List.set_cons_succ]
      refine wpAnyH_take (i := 11) (v := ?_) rfl (by kernel_rfl) (by kernel_rfl) (by kernel_rfl) (fun _ _ _ h => h) (Or.inl ⟨by rfl, ?_⟩) (by assumption) ?_
      rotate_left
      · (intro w hSw; (try dsimp only at hSw); first | (go_simp; done) | (go_simp; with_reducible rfl))
      try simp only [List.getElem_toArray, List.getElem_cons_succ, List.getElem_cons_zero, Act.put, List.setIfInBounds_toArray, List.set_cons_zero, List.set_cons_succ]
      refine wpAnyH_take (i := 12) (v := ?_) rfl (by kernel_rfl) (by kernel_rfl) (by kernel_rfl) (fun _ _ _ h => h) (Or.inl ⟨by rfl, ?_⟩) (by assumption) ?_
      rotate_left
      · (intro w hSw; (try dsimp only at hSw); first | (go_simp; done) | (go_simp; with_reducible rfl))
      try simp only [List.getElem_toArray, List.getElem_cons_succ, List.getElem_cons_zero, Act.put, List.setIfInBounds_toArray, List.set_cons_zero, List.set_cons_succ]
      refine wpAnyH_ready (rs := [13]) (by kernel_rfl) (by simp) ?_
      refine AllReadyH.cons rfl (fun K hK => ?_) AllReadyH.nil
      go_simp
      refine hK.out _ _ ?_ (fun hHeld => ?_)
      · exact ⟨by rw [World.cell?_setCell_other _ _ _ _ (by simp <;> omega), World.cell?_setCell_other _ _ _ _ (by simp <;> omega), World.cell?_setCell_other _ _ _ _ (by simp <;> omega)]; exact dL, by rw [World.cell?_setCell_other _ _ _ _ (by simp <;> omega), World.cell?_setCell_other _ _ _ _ (by simp <;> omega), World.cell?_setCell_other _ _ _ _ (by simp <;> omega)]; exact dM⟩
      clear hK K
      try simp only [List.getElem_toArray, List.getElem_cons_succ, List.getElem_cons_zero, Act.put, List.setIfInBounds_toArray, List.set_cons_zero, List.set_cons_succ]
      refine wpAnyH_ready (rs := [14]) (by kernel_rfl) (by simp) ?_
      refine AllReadyH.cons rfl (fun K hK => ?_) AllReadyH.nil
      go_simp
      refine hK.out _ _ ?_ (fun hHeld => ?_)
      · exact ⟨by rw [World.cell?_setCell_other _ _ _ _ (by simp <;> omega), World.cell?_setCell_other _ _ _ _ (by simp <;> omega), World.cell?_setCell_other _ _ _ _ (by simp <;> omega)]; exact dL, by rw [World.cell?_setCell_other _ _ _ _ (by simp <;> omega), World.cell?_setCell_other _ _ _ _ (by simp <;> omega), World.cell?_setCell_other _ _ _ _ (by simp <;> omega)]; exact dM⟩
      clear hK K
      try simp only [List.getElem_toArray, List.getElem_cons_succ, List.getElem_cons_zero, Act.put, List.setIfInBounds_toArray, List.set_cons_zero, List.set_cons_succ]
      refine wpAnyH_done (by kernel_rfl) ?_ _
      have lg2 := lg1
      clear lg1 lg2
      obtain ⟨v3, hv3⟩ : ∃ v, v = ((w3.setCell ⟨w.heap.size, 0, none⟩ (.int .i64 u3.1.m)).setCell ⟨w.heap.size, 1, none⟩ (.slice ga3 u3.1.n gc3)).setCell ⟨w.heap.size, 2, none⟩ (.bool u3.1.ok) := ⟨_, rfl⟩
      replace HR := hide (unhide HP3 v3 hv3)
      rw [← hv3]
      clear hv3 kp0 kp1 kp2 kq0 kq1 kq2 dL dM kl
      have HC4 : Hid (∀ w', KIn w' u3.1 ga3 gc3 → Calls Tryd.prog 64 #[.agg #[.int .i64 u3.1.m, .slice ga3 u3.1.n gc3, .bool u3.1.ok], .int .i64 u1.2, .int .i64 C] w' fun e w'' => KPost u4 ga3 w'.heap.size e w'' ∧ Below w'.heap.size w' w'') := fun w' hw' => by have h := l7And_any u3.1 ga3 gc3 u1.2 C w' g3.1 hw' ((g1.2.1.le g2.2.2).le g3.2.2) (((mC.le g1.2.2).le g2.2.2).le g3.2.2); rw [← unhide HU4] at h; exact h
      obtain ⟨kp0, kp1, kp2⟩ := (unhide HR).k
      have kq0 := (unhide HR).kf 0
      have kq1 := (unhide HR).kf 1
      have kq2 := (unhide HR).kf 2
      have kl := (unhide HR).k.lt
      have dL := ((unhide HR).be.cell (p := ⟨bL, oL + j, none⟩) lL).trans dL0
      have dM := ((unhide HR).be.cell (p := ⟨bM, oM + j, none⟩) lM).trans dM0
      go_wp2_with fail
      refine (unhide HC4 _ (by first | exact (unhide HR).i | exact (unhide HR).drew.i)).mono ?_
      rintro e w4 ⟨⟨ga4, gc4, rfl, hi1, pl1⟩, b1⟩
      have hcl := (RowI.call (by first | exact unhide HR | exact (unhide HR).drew) b1 hi1 pl1 (unhide HI).2.2.2)
      obtain ⟨⟨⟨kp0, kp1, kp2⟩, kf⟩, hput⟩ := hcl
      have kq0 := kf 0
      have kq1 := kf 1
      have kq2 := kf 2
      have HP4 := hide hput
      clear hput kf b1 hi1 pl1
      clear dL dM
      obtain ⟨v4, hv4⟩ : ∃ v, v = ((w4.setCell ⟨w.heap.size, 0, none⟩ (.int .i64 u4.1.m)).setCell ⟨w.heap.size, 1, none⟩ (.slice ga4 u4.1.n gc4)).setCell ⟨w.heap.size, 2, none⟩ (.bool u4.1.ok) := ⟨_, rfl⟩
      replace HR := hide (unhide HP4 v4 hv4)
      go_wp2_with fail
      rw [← hv4]
      clear hv4 kp0 kp1 kp2 kq0 kq1 kq2 kl
      have HC5 : Hid (∀ w', KIn w' u4.1 ga4 gc4 → Calls Tryd.prog 65 #[.agg #[.int .i64 u4.1.m, .slice ga4 u4.1.n gc4, .bool u4.1.ok], .int .i64 u3.2, .int .i64 u4.2] w' fun e w'' => KPost u5 ga4 w'.heap.size e w'' ∧ Below w'.heap.size w' w'') := fun w' hw' => by have h := l7Or_any u4.1 ga4 gc4 u3.2 u4.2 w' g4.1 hw' (g3.2.1.le g4.2.2) g4.2.1; rw [← unhide HU5] at h; exact h
      refine (unhide HC5 _ (unhide HR).i).mono ?_
      rintro e w5 ⟨⟨ga5, gc5, rfl, hi1, pl1⟩, b1⟩
      have hcl := RowI.call (unhide HR) b1 hi1 pl1 (unhide HI).2.2.2
      obtain ⟨⟨⟨kp0, kp1, kp2⟩, kf⟩, hput⟩ := hcl
      have kq0 := kf 0
      have kq1 := kf 1
      have kq2 := kf 2
      have kl := World.block_lt_of_cell? _ _ kp0
      have HP5 := hide hput
      clear hput kf b1 hi1 pl1
      obtain ⟨v5, hv5⟩ : ∃ v, v = ((w5.setCell ⟨w.heap.size, 0, none⟩ (.int .i64 u5.1.m)).setCell ⟨w.heap.size, 1, none⟩ (.slice ga5 u5.1.n gc5)).setCell ⟨w.heap.size, 2, none⟩ (.bool u5.1.ok) := ⟨_, rfl⟩
      have hR5 := unhide HP5 v5 hv5
      obtain ⟨g9, cp9, w9, hrun, ow9, gr9, at9⟩ := int_one v5 (w.heap.size + 2) _ j R u2.2 hR5.row (by omega) hR5.lo
      have hz5 : v5.heap.size = w5.heap.size := by rw [hv5]; simp
      rw [hz5, hv5] at hrun
      have HRUN := hide hrun
      have HR9 := hide (hR5.more ow9 (by simpa [Value.ownBlock] using gr9) (by simpa [Value.ownBlock] using at9))
      clear hrun ow9 gr9 at9 hR5 hz5 hv5
      go_wp2_with (first | (at_builtin; refine wpList_append_run _ rfl (.tmp 70) (.tmp 72) 25 rfl _ _ _ _ rfl rfl (unhide HRUN) ?_))
      go_roundw
      case rel => exact ⟨j + 1, by omega, by go_num, by rw [unhide HN2], ga5, gc5, g9, cp9, rfl, by rw [unhide HN2]; exact unhide HR9⟩
      case measure => simp [intOf]; omega
    · have ej : j = nl := by omega
      subst ej
      have hlen : (addS 1 L M s c j).2.length = j := addS_len _ _ _ _ _ _
      obtain ⟨q, hq⟩ : ∃ q, q = addS 1 L M s c j := ⟨_, rfl⟩
      rw [← hq] at hI hlen HR
      have HLEN := hide hlen
      have HQ := hide hq
      clear hq
      obtain ⟨kp0, kp1, kp2⟩ := hI.k
      have kl := hI.k.lt
      have s0 := hI.s0
      have s1 := hI.s1
      have s2 := hI.s2
      have f0 := hI.sf 0
      have f1 := hI.sf 1
      have f2 := hI.sf 2
      have be := hI.be
      have bg := own_base hI.row
      clear hI hlen HGj
      go_wp2
      refine bodyPost_ret (v := .tuple #[.agg #[.int .i64 q.1.1.m, .slice ga q.1.1.n gc, .bool q.1.1.ok], .slice (some ⟨g, 0, none⟩) j cp]) (by simp [results, Tryd.results42, go_sem, s0, s1, s2]) rfl ?_
      rw [← unhide HQ]
      have mv := mov3 wr (w.heap.size + 1) (.int .i64 q.1.1.m) (.slice ga q.1.1.n gc) (.bool q.1.1.ok)
      refine ⟨⟨ga, gc, g, cp, by simp only [unhide HLEN], (unhide HR).i.mov ((unhide HR).pl.apart (unhide HI).2.2.2 (by omega) (by omega)) mv, (unhide HR).pl.mono (by omega), ?_, (unhide HR).ap⟩, bel3 be (by omega) _ _ _⟩
      simp only [unhide HLEN]
      exact own_mono ((unhide HR).row.kept (grown_mov mv) (Or.inr (by simp [Value.ownBlock]; omega))) (by omega)
end Go.Proofs.YtjchdggpfkjcgaaDoor
