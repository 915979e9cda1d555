/- Two numbers held against each other, of the model. -/
import Derived.Test.YtnjjobompjoigaaDoorCpM
namespace Go.Proofs.YtnjjobompjoigaaDoor
open Go.ChangeShapes Go.WideShapes Go.ChangeAt Go.RowKit Go.Joins
set_option linter.unusedVariables false
set_option maxRecDepth 100000
set_option linter.unusedSimpArgs false

/-- What holds at each round: the box, the results' box, the gates. -/
structure KI (w wr : World) (s : KS) (ad ga : Option Addr) (gc : Nat) : Prop where
  k : KBox wr w.heap.size s ga gc
  kf : ∀ o, wr.frozen? ⟨w.heap.size, o, none⟩ = false
  i : KIn wr s ga gc
  pl : Pl ad ga (w.heap.size + 2)
  s0 : wr.cell? ⟨w.heap.size + 1, 0, none⟩ = some (.int .i64 0)
  s1 : wr.cell? ⟨w.heap.size + 1, 1, none⟩ = some (.slice none 0 0)
  s2 : wr.cell? ⟨w.heap.size + 1, 2, none⟩ = some (.bool false)
  sf : ∀ o, wr.frozen? ⟨w.heap.size + 1, o, none⟩ = false
  lo : w.heap.size + 2 ≤ wr.heap.size
  be : Below w.heap.size w wr
theorem KI.drew {w wr : World} {s : KS} {ad ga : Option Addr} {gc : Nat} (h : KI w wr s ad ga gc) : KI w wr.drew s ad ga gc := ⟨h.k, h.kf, h.i, h.pl, h.s0, h.s1, h.s2, h.sf, h.lo, h.be.drew⟩
/-- Behind a call that hands back a net in the making: the box is still the elder one. -/
theorem KI.call {w wr w1 : World} {s t : KS} {ad ga ga' : Option Addr} {gc gc' : Nat} (h : KI w wr s ad ga gc) (hb : Below wr.heap.size wr w1) (hi : KIn w1 t ga' gc') (hp : Pl ga ga' wr.heap.size) (hw : ∀ q, ad = some q → q.block < w.heap.size) :
    (KBox w1 w.heap.size s ga gc ∧ (∀ o, w1.frozen? ⟨w.heap.size, o, none⟩ = false)) ∧
    ∀ v, v = ((w1.setCell ⟨w.heap.size, 0, none⟩ (.int .i64 t.m)).setCell ⟨w.heap.size, 1, none⟩ (.slice ga' t.n gc')).setCell ⟨w.heap.size, 2, none⟩ (.bool t.ok) → KI w v t ad ga' gc' := by
  have hk := h.k.later hb
  have hlt := h.k.lt
  have hkf : ∀ o, w1.frozen? ⟨w.heap.size, o, none⟩ = false := fun o => (hb.frozen (p := ⟨w.heap.size, o, none⟩) hlt).trans (h.kf o)
  refine ⟨⟨hk, hkf⟩, fun v hv => ?_⟩
  have mv : Mov w.heap.size w1 v := by rw [hv]; exact mov3 _ _ _ _ _
  have hpl : Pl ad ga' (w.heap.size + 2) := h.pl.trans hp h.lo
  have s0' := cell_later hb h.s0
  refine ⟨by rw [hv]; exact KBox.put hk, fun o => by rw [hv]; simp [go_sem]; exact hkf o, hi.mov (hpl.apart hw (Nat.le_refl _) (by omega)) mv, hpl, mv.cell s0' (by simp only; omega), mv.cell (cell_later hb h.s1) (by simp only; omega), mv.cell (cell_later hb h.s2) (by simp only; omega), fun o => ?_, Nat.le_trans h.lo (Nat.le_trans hb.size mv.size), (h.be.trans (hb.mono h.be.size)).trans (mv.below (Nat.le_refl _) (Nat.le_trans h.be.size hb.size))⟩
  have lt := World.block_lt_of_cell? _ _ h.s0
  have e1 := (hb.frozen (p := ⟨w.heap.size + 1, o, none⟩) lt).trans (h.sf o)
  exact (World.frozen?_of_block (mv.2.2.2.2 (w.heap.size + 1) (World.block_lt_of_cell? _ _ s0') (by omega))).trans e1
set_option maxRecDepth 100000 in
set_option maxHeartbeats 2000000 in
theorem l7Same_any (s : KS) (ad : Option Addr) (cap : Nat) (la : Option Addr) (nl cl : Nat) (L : List Int) (lb : Option Addr) (cm : Nat) (M : List Int) (w : World) (hk : KOk s) (hi : KIn w s ad cap) (hdL : IntsAt w la nl (at0 L)) (hdM : IntsAt w lb nl (at0 M)) (hL : L.length = nl) (hM : M.length = nl) (hl : nl ≤ 100) (mL : MkL s L) (mM : MkL s M) :
    Calls Tryd.prog 29 #[.agg #[.int .i64 s.m, .slice ad s.n cap, .bool s.ok], .slice la nl cl, .slice lb nl cm] w fun e w' => KPost (foldK (sameR 1) s (1) L M nl) ad w.heap.size e w' ∧ Below w.heap.size w w' := by
  have HGD : Hid (∀ i, i ≤ nl → Good s (foldK (sameR 1) s (1) L M i)) := fun i hi => foldK_good (sameR_good (by omega)) hk (Mk.one hk) mL mM i (by omega) (by omega)
  have HI := hide hi
  have HL := hide hdL
  have HM := hide hdM
  have HmL := hide mL
  have HmM := hide mM
  have HeL := hide hL
  have HeM := hide hM
  have h0 : Hid (KI w ((w.alloc (.cells #[.int .i64 s.m, .slice ad s.n cap, .bool s.ok] 43)).alloc (.cells #[.int .i64 0, .slice none 0 0, .bool false] 43)) s ad ad cap) := by
    have b3 : Below w.heap.size w ((w.alloc (.cells #[.int .i64 s.m, .slice ad s.n cap, .bool s.ok] 43)).alloc (.cells #[.int .i64 0, .slice none 0 0, .bool false] 43)) := ((Below.refl _ _).alloc (Nat.le_refl _) _).alloc (by simp) _
    exact ⟨⟨by simp [go_sem], by simp [go_sem], by simp [go_sem]⟩, fun o => by simp [go_sem], hi.later b3, Pl.refl _ _, by simp [go_sem], by simp [go_sem], by simp [go_sem], fun o => by simp [go_sem], by simp, b3⟩
  clear hk hi hdL hdM mL mM hL hM
  go_enter Tryd.func29, Tryd.ntmps29
  go_wp2
  go_loopw [9, 8] (fun i k wr => ∃ j : Nat, j ≤ nl ∧ i = .int .i64 j ∧ k = .int .i64 (foldK (sameR 1) s (1) L M j).2 ∧ ∃ ga gc, KI w wr (foldK (sameR 1) s (1) L M j).1 ad ga gc) (fun i _ _ => nl - (intOf i).toNat)
  case atStart => exact ⟨0, by omega, rfl, rfl, ad, cap, unhide h0⟩
  case round =>
    obtain ⟨j, hj, rfl, rfl, ga, gc, hI⟩ := hrel
    have HR := hide hI
    have HGj := unhide HGD j hj
    by_cases hlt : j < nl
    · obtain ⟨bL, oL, rfl, lL, dL0⟩ := at0_in (unhide HL) hlt
      obtain ⟨bM, oM, rfl, lM, dM0⟩ := at0_in (unhide HM) hlt
      have mx := ((unhide HmL) j (by rw [unhide HeL]; exact hlt)).le HGj.2.2
      have my := ((unhide HmM) j (by rw [unhide HeM]; exact hlt)).le HGj.2.2
      have HN : Hid (foldK (sameR 1) s (1) L M (j + 1) = sameR 1 (foldK (sameR 1) s (1) L M j).1 (foldK (sameR 1) s (1) L M j).2 (at0 L j) (at0 M j)) := rfl
      have gS := HGj.1
      have mC := HGj.2.1
      clear hI HGj
      generalize at0 L j = x at *
      generalize at0 M j = y at *
      generalize (foldK (sameR 1) s (1) L M j).1 = S at *
      generalize (foldK (sameR 1) s (1) L M j).2 = C at *
      have Clo := mC.1
      have Chi := mC.2.1
      obtain ⟨u1, hu1⟩ : ∃ u, u = xorK 1 S x y := ⟨_, rfl⟩
      have g1 : Good S u1 := by rw [hu1]; exact xorK_good (by omega) gS mx my
      obtain ⟨u2, hu2⟩ : ∃ u, u = andK 1 u1.1 C (-u1.2) := ⟨_, rfl⟩
      have g2 : Good u1.1 u2 := by rw [hu2]; exact andK_good (by omega) g1.1 (mC.le g1.2.2) g1.2.1.neg
      have HN2 : Hid (foldK (sameR 1) s (1) L M (j + 1) = u2) := by rw [unhide HN, hu2, hu1]; rfl
      have HU1 := hide hu1
      have HU2 := hide hu2
      have ub1 := g1.2.1.1
      have uc1 := g1.2.1.2.1
      have ub2 := g2.2.1.1
      have uc2 := g2.2.1.2.1
      clear hu1 hu2 HN
      have HC1 : Hid (∀ w', KIn w' S ga gc → Calls Tryd.prog 43 #[.agg #[.int .i64 S.m, .slice ga S.n gc, .bool S.ok], .int .i64 x, .int .i64 y] w' fun e w'' => KPost u1 ga w'.heap.size e w'' ∧ Below w'.heap.size w' w'') := fun w' hw' => by have h := l7Xor_any S ga gc x y w' gS hw' mx my; rw [← unhide HU1] at h; exact h
      obtain ⟨kp0, kp1, kp2⟩ := (unhide HR).k
      have kq0 := (unhide HR).kf 0
      have kq1 := (unhide HR).kf 1
      have kq2 := (unhide HR).kf 2
      have kl := (unhide HR).k.lt
      have dL := ((unhide HR).be.cell (p := ⟨bL, oL + j, none⟩) lL).trans dL0
      have dM := ((unhide HR).be.cell (p := ⟨bM, oM + j, none⟩) lM).trans dM0
      go_wp2
      refine wp_region_held_drew (S := fun w' => w'.cell? ⟨bL, oL + j, none⟩ = some (.int .i64 x) ∧ w'.cell? ⟨bM, oM + j, none⟩ = some (.int .i64 y)) (by kernel_rfl) ?_ (fun hHeld => ?_)
      · exact ⟨dL, dM⟩
      refine wpAnyH_take (i := 1) (v := ?_) rfl (by kernel_rfl) (by kernel_rfl) (by kernel_rfl) (fun _ _ _ h => h) (Or.inl ⟨by rfl, ?_⟩) (by assumption) ?_
      rotate_left
      · (intro w hSw; (try dsimp only at hSw); first | (go_simp; done) | (go_simp; with_reducible rfl))
      try simp only [List.getElem_toArray, List.getElem_cons_succ, List.getElem_cons_zero, Act.put, List.setIfInBounds_toArray, List.set_cons_zero, List.set_cons_succ]
      refine wpAnyH_take (i := 2) (v := ?_) rfl (by kernel_rfl) (by kernel_rfl) (by kernel_rfl) (fun _ _ _ h => h) (Or.inl ⟨by rfl, ?_⟩) (by assumption) ?_
      rotate_left
      · (intro w hSw; (try dsimp only at hSw); first | (go_simp; done) | (go_simp; with_reducible rfl))
      try simp only [List.getElem_toArray, List.getElem_cons_succ, List.getElem_cons_zero, Act.put, List.setIfInBounds_toArray, List.set_cons_zero, List.set_cons_succ]
      refine wpAnyH_take (i := 3) (v := ?_) rfl (by kernel_rfl) (by kernel_rfl) (by kernel_rfl) (fun _ _ _ h => h) (Or.inl ⟨by rfl, ?_⟩) (by assumption) ?_
      rotate_left
      · (intro w hSw; (try dsimp only at hSw); first | (go_simp; done) | (go_simp; with_reducible rfl))
      try simp only [List.getElem_toArray, List.getElem_cons_succ, List.getElem_cons_zero, Act.put, List.setIfInBounds_toArray, List.set_cons_zero, List.set_cons_succ]
      refine wpAnyH_take (i := 4) (v := ?_) rfl (by kernel_rfl) (by kernel_rfl) (by kernel_rfl) (fun _ _ _ h => h) (Or.inl ⟨by rfl, ?_⟩) (by assumption) ?_
      rotate_left
      · (intro w hSw; (try dsimp only at hSw); first | (go_simp; done) | (go_simp; with_reducible rfl))
      try simp only [List.getElem_toArray, List.getElem_cons_succ, List.getElem_cons_zero, Act.put, List.setIfInBounds_toArray, List.set_cons_zero, List.set_cons_succ]
      refine wpAnyH_take (i := 5) (v := ?_) rfl (by kernel_rfl) (by kernel_rfl) (by kernel_rfl) (fun _ _ _ h => h) (Or.inl ⟨by rfl, ?_⟩) (by assumption) ?_
      rotate_left
      · (intro w hSw; (try dsimp only at hSw); first | (go_simp; done) | (go_simp; with_reducible rfl))
      try simp only [List.getElem_toArray, List.getElem_cons_succ, List.getElem_cons_zero, Act.put, List.setIfInBounds_toArray, List.set_cons_zero, List.set_cons_succ]
      refine wpAnyH_take (i := 6) (v := ?_) rfl (by kernel_rfl) (by kernel_rfl) (by kernel_rfl) (fun _ _ _ h => h) (Or.inl ⟨by rfl, ?_⟩) (by assumption) ?_
      rotate_left
      · (intro w hSw; (try dsimp only at hSw); first | (go_simp; done) | (go_simp; with_reducible rfl))
      try simp only [List.getElem_toArray, List.getElem_cons_succ, List.getElem_cons_zero, Act.put, List.setIfInBounds_toArray, List.set_cons_zero, List.set_cons_succ]
      refine wpAnyH_take (i := 7) (v := ?_) rfl (by kernel_rfl) (by kernel_rfl) (by kernel_rfl) (fun _ _ _ h => h) (Or.inl ⟨by rfl, ?_⟩) (by assumption) ?_
      rotate_left
      · (intro w hSw; (try dsimp only at hSw); first | (go_simp; done) | (go_simp; with_reducible rfl))
      try simp only [List.getElem_toArray, List.getElem_cons_succ, List.getElem_cons_zero, Act.put, List.setIfInBounds_toArray, List.set_cons_zero, List.set_cons_succ]
      refine wpAnyH_take (i := 8) (v := ?_) rfl (by kernel_rfl) (by kernel_rfl) (by kernel_rfl) (fun _ _ _ h => h) (Or.inl ⟨by rfl, ?_⟩) (by assumption) ?_
      rotate_left
      · (intro w hSw; (try dsimp only at hSw); first | (go_simp; done) | (go_simp; with_reducible rfl))
      try simp only [List.getElem_toArray, List.getElem_cons_succ, List.getElem_cons_zero, Act.put, List.setIfInBounds_toArray, List.set_cons_zero, List.set_cons_succ]
      refine wpAnyH_ready (rs := [0]) (by kernel_rfl) (by simp) ?_
      refine AllReadyH.cons rfl (fun K hK => ?_) AllReadyH.nil
      go_simp
      refine hK.out _ _ ?_ (fun hHeld => ?_)
      · exact ⟨dL, dM⟩
      clear hK K
      try simp only [List.getElem_toArray, List.getElem_cons_succ, List.getElem_cons_zero, Act.put, List.setIfInBounds_toArray, List.set_cons_zero, List.set_cons_succ]
      refine wpAnyH_ready (rs := [9]) (by kernel_rfl) (by simp) ?_
      refine AllReadyH.cons rfl (fun K hK => ?_) AllReadyH.nil
      go_simp
      refine (unhide HC1 _ (by first | exact (unhide HR).i | exact (unhide HR).drew.i)).mono ?_
      rintro e w1 ⟨⟨ga1, gc1, rfl, hi1, pl1⟩, b1⟩
      have hcl := (KI.call (by first | exact unhide HR | exact (unhide HR).drew) b1 hi1 pl1 (unhide HI).2.2.2)
      obtain ⟨⟨⟨kp0, kp1, kp2⟩, kf⟩, hput⟩ := hcl
      have kq0 := kf 0
      have kq1 := kf 1
      have kq2 := kf 2
      have HP1 := hide hput
      replace dL := cell_later b1 (by exact dL)
      replace dM := cell_later b1 (by exact dM)
      have lg1 : w.heap.size < w1.heap.size := World.block_lt_of_cell? _ _ kp0
      clear hput kf b1 hi1 pl1
      go_wp2_with fail
      refine hK.out _ _ ?_ (fun hHeld => ?_)
      · exact ⟨dL, dM⟩
      clear hK K
      try simp only [List.getElem_toArray, List.getElem_cons_succ, List.getElem_cons_zero, Act.put, List.setIfInBounds_toArray, List.set_cons_zero, List.set_cons_succ]
      refine wpAnyH_take (i := 10) (v := ?_) rfl (by kernel_rfl) (by kernel_rfl) (by kernel_rfl) (fun _ _ _ h => h) (Or.inl ⟨by rfl, ?_⟩) (by assumption) ?_
      rotate_left
      · (intro w hSw; (try dsimp only at hSw); first | (go_simp; done) | (go_simp; with_reducible rfl))
      try simp only [List.getElem_toArray, List.getElem_cons_succ, List.getElem_cons_zero, Act.put, List.setIfInBounds_toArray, List.set_cons_zero, List.set_cons_succ]
      refine wpAnyH_take (i := 11) (v := ?_) rfl (by kernel_rfl) (by kernel_rfl) (by kernel_rfl) (fun _ _ _ h => h) (Or.inl ⟨by rfl, ?_⟩) (by assumption) ?_
      rotate_left
      · (intro w hSw; (try dsimp only at hSw); first | (go_simp; done) | (go_simp; with_reducible rfl))
      try simp only [List.getElem_toArray, List.getElem_cons_succ, List.getElem_cons_zero, Act.put, List.setIfInBounds_toArray, List.set_cons_zero, List.set_cons_succ]
      refine wpAnyH_take (i := 12) (v := ?_) rfl (by kernel_rfl) (by kernel_rfl) (by kernel_rfl) (fun _ _ _ h => h) (Or.inl ⟨by rfl, ?_⟩) (by assumption) ?_
      rotate_left
      · (intro w hSw; (try dsimp only at hSw); first | (go_simp; done) | (go_simp; with_reducible rfl))
      try simp only [List.getElem_toArray, List.getElem_cons_succ, List.getElem_cons_zero, Act.put, List.setIfInBounds_toArray, List.set_cons_zero, List.set_cons_succ]
      refine wpAnyH_ready (rs := [13]) (by kernel_rfl) (by simp) ?_
      refine AllReadyH.cons rfl (fun K hK => ?_) AllReadyH.nil
      go_simp
      refine hK.out _ _ ?_ (fun hHeld => ?_)
      · exact ⟨by rw [World.cell?_setCell_other _ _ _ _ (by simp <;> omega), World.cell?_setCell_other _ _ _ _ (by simp <;> omega), World.cell?_setCell_other _ _ _ _ (by simp <;> omega)]; exact dL, by rw [World.cell?_setCell_other _ _ _ _ (by simp <;> omega), World.cell?_setCell_other _ _ _ _ (by simp <;> omega), World.cell?_setCell_other _ _ _ _ (by simp <;> omega)]; exact dM⟩
      clear hK K
      try simp only [List.getElem_toArray, List.getElem_cons_succ, List.getElem_cons_zero, Act.put, List.setIfInBounds_toArray, List.set_cons_zero, List.set_cons_succ]
      refine wpAnyH_ready (rs := [14]) (by kernel_rfl) (by simp) ?_
      refine AllReadyH.cons rfl (fun K hK => ?_) AllReadyH.nil
      go_simp
      refine hK.out _ _ ?_ (fun hHeld => ?_)
      · exact ⟨by rw [World.cell?_setCell_other _ _ _ _ (by simp <;> omega), World.cell?_setCell_other _ _ _ _ (by simp <;> omega), World.cell?_setCell_other _ _ _ _ (by simp <;> omega)]; exact dL, by rw [World.cell?_setCell_other _ _ _ _ (by simp <;> omega), World.cell?_setCell_other _ _ _ _ (by simp <;> omega), World.cell?_setCell_other _ _ _ _ (by simp <;> omega)]; exact dM⟩
      clear hK K
      try simp only [List.getElem_toArray, List.getElem_cons_succ, List.getElem_cons_zero, Act.put, List.setIfInBounds_toArray, List.set_cons_zero, List.set_cons_succ]
      refine wpAnyH_done (by kernel_rfl) ?_ _
      have lg2 := lg1
      clear lg1 lg2
      obtain ⟨v1, hv1⟩ : ∃ v, v = ((w1.setCell ⟨w.heap.size, 0, none⟩ (.int .i64 u1.1.m)).setCell ⟨w.heap.size, 1, none⟩ (.slice ga1 u1.1.n gc1)).setCell ⟨w.heap.size, 2, none⟩ (.bool u1.1.ok) := ⟨_, rfl⟩
      replace HR := hide (unhide HP1 v1 hv1)
      rw [← hv1]
      clear hv1 kp0 kp1 kp2 kq0 kq1 kq2 dL dM kl
      have HC2 : Hid (∀ w', KIn w' u1.1 ga1 gc1 → Calls Tryd.prog 44 #[.agg #[.int .i64 u1.1.m, .slice ga1 u1.1.n gc1, .bool u1.1.ok], .int .i64 C, .int .i64 (-u1.2)] w' fun e w'' => KPost u2 ga1 w'.heap.size e w'' ∧ Below w'.heap.size w' w'') := fun w' hw' => by have h := l7And_any u1.1 ga1 gc1 C (-u1.2) w' g1.1 hw' (mC.le g1.2.2) g1.2.1.neg; rw [← unhide HU2] at h; exact h
      obtain ⟨kp0, kp1, kp2⟩ := (unhide HR).k
      have kq0 := (unhide HR).kf 0
      have kq1 := (unhide HR).kf 1
      have kq2 := (unhide HR).kf 2
      have kl := (unhide HR).k.lt
      have dL := ((unhide HR).be.cell (p := ⟨bL, oL + j, none⟩) lL).trans dL0
      have dM := ((unhide HR).be.cell (p := ⟨bM, oM + j, none⟩) lM).trans dM0
      go_wp2_with fail
      refine (unhide HC2 _ (by first | exact (unhide HR).i | exact (unhide HR).drew.i)).mono ?_
      rintro e w2 ⟨⟨ga2, gc2, rfl, hi1, pl1⟩, b1⟩
      have hcl := (KI.call (by first | exact unhide HR | exact (unhide HR).drew) b1 hi1 pl1 (unhide HI).2.2.2)
      obtain ⟨⟨⟨kp0, kp1, kp2⟩, kf⟩, hput⟩ := hcl
      have kq0 := kf 0
      have kq1 := kf 1
      have kq2 := kf 2
      have HP2 := hide hput
      clear hput kf b1 hi1 pl1
      clear dL dM
      obtain ⟨v2, hv2⟩ : ∃ v, v = ((w2.setCell ⟨w.heap.size, 0, none⟩ (.int .i64 u2.1.m)).setCell ⟨w.heap.size, 1, none⟩ (.slice ga2 u2.1.n gc2)).setCell ⟨w.heap.size, 2, none⟩ (.bool u2.1.ok) := ⟨_, rfl⟩
      replace HR := hide (unhide HP2 v2 hv2)
      go_wp2_with fail
      rw [← hv2]
      clear hv2 kp0 kp1 kp2 kq0 kq1 kq2 kl
      go_roundw
      case rel => exact ⟨j + 1, by omega, by go_num, by rw [unhide HN2], ga2, gc2, by rw [unhide HN2]; exact unhide HR⟩
      case measure => simp [intOf]; omega
    · have ej : j = nl := by omega
      subst ej
      obtain ⟨q, hq⟩ : ∃ q, q = foldK (sameR 1) s (1) L M j := ⟨_, rfl⟩
      rw [← hq] at hI HR
      have HQ := hide hq
      have HQ2 : Hid ((foldK (sameR 1) s (1) L M j).2 = q.2) := by show _ = _; rw [hq]
      clear hq
      obtain ⟨kp0, kp1, kp2⟩ := hI.k
      have kl := hI.k.lt
      have s0 := hI.s0
      have s1 := hI.s1
      have s2 := hI.s2
      have f0 := hI.sf 0
      have f1 := hI.sf 1
      have f2 := hI.sf 2
      have be := hI.be
      clear hI
      rw [unhide HQ2]
      go_wp2
      refine bodyPost_ret (v := .tuple #[.agg #[.int .i64 q.1.m, .slice ga q.1.n gc, .bool q.1.ok], .int .i64 q.2]) (by simp [results, Tryd.results29, go_sem, s0, s1, s2]) rfl ?_
      rw [← unhide HQ]
      have mv := mov3 wr (w.heap.size + 1) (.int .i64 q.1.m) (.slice ga q.1.n gc) (.bool q.1.ok)
      exact ⟨⟨ga, gc, rfl, (unhide HR).i.mov ((unhide HR).pl.apart (unhide HI).2.2.2 (by omega) (by omega)) mv, (unhide HR).pl.mono (by omega)⟩, bel3 be (by omega) _ _ _⟩
set_option maxRecDepth 100000 in
set_option maxHeartbeats 2000000 in
theorem l7Less_any (s : KS) (ad : Option Addr) (cap : Nat) (la : Option Addr) (nl cl : Nat) (L : List Int) (lb : Option Addr) (cm : Nat) (M : List Int) (w : World) (hk : KOk s) (hi : KIn w s ad cap) (hdL : IntsAt w la nl (at0 L)) (hdM : IntsAt w lb nl (at0 M)) (hL : L.length = nl) (hM : M.length = nl) (hl : nl ≤ 100) (mL : MkL s L) (mM : MkL s M) :
    Calls Tryd.prog 30 #[.agg #[.int .i64 s.m, .slice ad s.n cap, .bool s.ok], .slice la nl cl, .slice lb nl cm] w fun e w' => KPost (foldK (lessR 1) s (-1) L M nl) ad w.heap.size e w' ∧ Below w.heap.size w w' := by
  have HGD : Hid (∀ i, i ≤ nl → Good s (foldK (lessR 1) s (-1) L M i)) := fun i hi => foldK_good (lessR_good (by omega)) hk (Mk.not hk) mL mM i (by omega) (by omega)
  have HI := hide hi
  have HL := hide hdL
  have HM := hide hdM
  have HmL := hide mL
  have HmM := hide mM
  have HeL := hide hL
  have HeM := hide hM
  have h0 : Hid (KI w ((w.alloc (.cells #[.int .i64 s.m, .slice ad s.n cap, .bool s.ok] 43)).alloc (.cells #[.int .i64 0, .slice none 0 0, .bool false] 43)) s ad ad cap) := by
    have b3 : Below w.heap.size w ((w.alloc (.cells #[.int .i64 s.m, .slice ad s.n cap, .bool s.ok] 43)).alloc (.cells #[.int .i64 0, .slice none 0 0, .bool false] 43)) := ((Below.refl _ _).alloc (Nat.le_refl _) _).alloc (by simp) _
    exact ⟨⟨by simp [go_sem], by simp [go_sem], by simp [go_sem]⟩, fun o => by simp [go_sem], hi.later b3, Pl.refl _ _, by simp [go_sem], by simp [go_sem], by simp [go_sem], fun o => by simp [go_sem], by simp, b3⟩
  clear hk hi hdL hdM mL mM hL hM
  go_enter Tryd.func30, Tryd.ntmps30
  go_wp2
  go_loopw [9, 8] (fun i k wr => ∃ j : Nat, j ≤ nl ∧ i = .int .i64 j ∧ k = .int .i64 (foldK (lessR 1) s (-1) L M j).2 ∧ ∃ ga gc, KI w wr (foldK (lessR 1) s (-1) L M j).1 ad ga gc) (fun i _ _ => nl - (intOf i).toNat)
  case atStart => exact ⟨0, by omega, rfl, rfl, ad, cap, unhide h0⟩
  case round =>
    obtain ⟨j, hj, rfl, rfl, ga, gc, hI⟩ := hrel
    have HR := hide hI
    have HGj := unhide HGD j hj
    by_cases hlt : j < nl
    · obtain ⟨bL, oL, rfl, lL, dL0⟩ := at0_in (unhide HL) hlt
      obtain ⟨bM, oM, rfl, lM, dM0⟩ := at0_in (unhide HM) hlt
      have mx := ((unhide HmL) j (by rw [unhide HeL]; exact hlt)).le HGj.2.2
      have my := ((unhide HmM) j (by rw [unhide HeM]; exact hlt)).le HGj.2.2
      have HN : Hid (foldK (lessR 1) s (-1) L M (j + 1) = lessR 1 (foldK (lessR 1) s (-1) L M j).1 (foldK (lessR 1) s (-1) L M j).2 (at0 L j) (at0 M j)) := rfl
      have gS := HGj.1
      have mC := HGj.2.1
      clear hI HGj
      generalize at0 L j = x at *
      generalize at0 M j = y at *
      generalize (foldK (lessR 1) s (-1) L M j).1 = S at *
      generalize (foldK (lessR 1) s (-1) L M j).2 = C at *
      have Clo := mC.1
      have Chi := mC.2.1
      obtain ⟨u1, hu1⟩ : ∃ u, u = xorK 1 S x y := ⟨_, rfl⟩
      have g1 : Good S u1 := by rw [hu1]; exact xorK_good (by omega) gS mx my
      obtain ⟨u2, hu2⟩ : ∃ u, u = oneK 1 u1.1 u1.2 y C := ⟨_, rfl⟩
      have g2 : Good u1.1 u2 := by rw [hu2]; exact oneK_good (by omega) g1.1 g1.2.1 (my.le g1.2.2) (mC.le g1.2.2)
      have HN2 : Hid (foldK (lessR 1) s (-1) L M (j + 1) = u2) := by rw [unhide HN, hu2, hu1]; rfl
      have HU1 := hide hu1
      have HU2 := hide hu2
      have ub1 := g1.2.1.1
      have uc1 := g1.2.1.2.1
      have ub2 := g2.2.1.1
      have uc2 := g2.2.1.2.1
      clear hu1 hu2 HN
      have HC1 : Hid (∀ w', KIn w' S ga gc → Calls Tryd.prog 43 #[.agg #[.int .i64 S.m, .slice ga S.n gc, .bool S.ok], .int .i64 x, .int .i64 y] w' fun e w'' => KPost u1 ga w'.heap.size e w'' ∧ Below w'.heap.size w' w'') := fun w' hw' => by have h := l7Xor_any S ga gc x y w' gS hw' mx my; rw [← unhide HU1] at h; exact h
      obtain ⟨kp0, kp1, kp2⟩ := (unhide HR).k
      have kq0 := (unhide HR).kf 0
      have kq1 := (unhide HR).kf 1
      have kq2 := (unhide HR).kf 2
      have kl := (unhide HR).k.lt
      have dL := ((unhide HR).be.cell (p := ⟨bL, oL + j, none⟩) lL).trans dL0
      have dM := ((unhide HR).be.cell (p := ⟨bM, oM + j, none⟩) lM).trans dM0
      go_wp2
      refine wp_region_held_drew (S := fun w' => w'.cell? ⟨bL, oL + j, none⟩ = some (.int .i64 x) ∧ w'.cell? ⟨bM, oM + j, none⟩ = some (.int .i64 y)) (by kernel_rfl) ?_ (fun hHeld => ?_)
      · exact ⟨dL, dM⟩
      refine wpAnyH_take (i := 1) (v := ?_) rfl (by kernel_rfl) (by kernel_rfl) (by kernel_rfl) (fun _ _ _ h => h) (Or.inl ⟨by rfl, ?_⟩) (by assumption) ?_
      rotate_left
      · (intro w hSw; (try dsimp only at hSw); first | (go_simp; done) | (go_simp; with_reducible rfl))
      try simp only [List.getElem_toArray, List.getElem_cons_succ, List.getElem_cons_zero, Act.put, List.setIfInBounds_toArray, List.set_cons_zero, List.set_cons_succ]
      refine wpAnyH_take (i := 2) (v := ?_) rfl (by kernel_rfl) (by kernel_rfl) (by kernel_rfl) (fun _ _ _ h => h) (Or.inl ⟨by rfl, ?_⟩) (by assumption) ?_
      rotate_left
      · (intro w hSw; (try dsimp only at hSw); first | (go_simp; done) | (go_simp; with_reducible rfl))
      try simp only [List.getElem_toArray, List.getElem_cons_succ, List.getElem_cons_zero, Act.put, List.setIfInBounds_toArray, List.set_cons_zero, List.set_cons_succ]
      refine wpAnyH_take (i := 3) (v := ?_) rfl (by kernel_rfl) (by kernel_rfl) (by kernel_rfl) (fun _ _ _ h => h) (Or.inl ⟨by rfl, ?_⟩) (by assumption) ?_
      rotate_left
      · (intro w hSw; (try dsimp only at hSw); first | (go_simp; done) | (go_simp; with_reducible rfl))
      try simp only [List.getElem_toArray, List.getElem_cons_succ, List.getElem_cons_zero, Act.put, List.setIfInBounds_toArray, List.set_cons_zero, List.set_cons_succ]
      refine wpAnyH_take (i := 4) (v := ?_) rfl (by kernel_rfl) (by kernel_rfl) (by kernel_rfl) (fun _ _ _ h => h) (Or.inl ⟨by rfl, ?_⟩) (by assumption) ?_
      rotate_left
      · (intro w hSw; (try dsimp only at hSw); first | (go_simp; done) | (go_simp; with_reducible rfl))
      try simp only [List.getElem_toArray, List.getElem_cons_succ, List.getElem_cons_zero, Act.put, List.setIfInBounds_toArray, List.set_cons_zero, List.set_cons_succ]
      refine wpAnyH_take (i := 5) (v := ?_) rfl (by kernel_rfl) (by kernel_rfl) (by kernel_rfl) (fun _ _ _ h => h) (Or.inl ⟨by rfl, ?_⟩) (by assumption) ?_
      rotate_left
      · (intro w hSw; (try dsimp only at hSw); first | (go_simp; done) | (go_simp; with_reducible rfl))
      try simp only [List.getElem_toArray, List.getElem_cons_succ, List.getElem_cons_zero, Act.put, List.setIfInBounds_toArray, List.set_cons_zero, List.set_cons_succ]
      refine wpAnyH_take (i := 6) (v := ?_) rfl (by kernel_rfl) (by kernel_rfl) (by kernel_rfl) (fun _ _ _ h => h) (Or.inl ⟨by rfl, ?_⟩) (by assumption) ?_
      rotate_left
      · (intro w hSw; (try dsimp only at hSw); first | (go_simp; done) | (go_simp; with_reducible rfl))
      try simp only [List.getElem_toArray, List.getElem_cons_succ, List.getElem_cons_zero, Act.put, List.setIfInBounds_toArray, List.set_cons_zero, List.set_cons_succ]
      refine wpAnyH_take (i := 7) (v := ?_) rfl (by kernel_rfl) (by kernel_rfl) (by kernel_rfl) (fun _ _ _ h => h) (Or.inl ⟨by rfl, ?_⟩) (by assumption) ?_
      rotate_left
      · (intro w hSw; (try dsimp only at hSw); first | (go_simp; done) | (go_simp; with_reducible rfl))
      try simp only [List.getElem_toArray, List.getElem_cons_succ, List.getElem_cons_zero, Act.put, List.setIfInBounds_toArray, List.set_cons_zero, List.set_cons_succ]
      refine wpAnyH_take (i := 8) (v := ?_) rfl (by kernel_rfl) (by kernel_rfl) (by kernel_rfl) (fun _ _ _ h => h) (Or.inl ⟨by rfl, ?_⟩) (by assumption) ?_
      rotate_left
      · (intro w hSw; (try dsimp only at hSw); first | (go_simp; done) | (go_simp; with_reducible rfl))
      try simp only [List.getElem_toArray, List.getElem_cons_succ, List.getElem_cons_zero, Act.put, List.setIfInBounds_toArray, List.set_cons_zero, List.set_cons_succ]
      refine wpAnyH_ready (rs := [0]) (by kernel_rfl) (by simp) ?_
      refine AllReadyH.cons rfl (fun K hK => ?_) AllReadyH.nil
      go_simp
      refine hK.out _ _ ?_ (fun hHeld => ?_)
      · exact ⟨dL, dM⟩
      clear hK K
      try simp only [List.getElem_toArray, List.getElem_cons_succ, List.getElem_cons_zero, Act.put, List.setIfInBounds_toArray, List.set_cons_zero, List.set_cons_succ]
      refine wpAnyH_ready (rs := [9]) (by kernel_rfl) (by simp) ?_
      refine AllReadyH.cons rfl (fun K hK => ?_) AllReadyH.nil
      go_simp
      refine (unhide HC1 _ (by first | exact (unhide HR).i | exact (unhide HR).drew.i)).mono ?_
      rintro e w1 ⟨⟨ga1, gc1, rfl, hi1, pl1⟩, b1⟩
      have hcl := (KI.call (by first | exact unhide HR | exact (unhide HR).drew) b1 hi1 pl1 (unhide HI).2.2.2)
      obtain ⟨⟨⟨kp0, kp1, kp2⟩, kf⟩, hput⟩ := hcl
      have kq0 := kf 0
      have kq1 := kf 1
      have kq2 := kf 2
      have HP1 := hide hput
      replace dL := cell_later b1 (by exact dL)
      replace dM := cell_later b1 (by exact dM)
      have lg1 : w.heap.size < w1.heap.size := World.block_lt_of_cell? _ _ kp0
      clear hput kf b1 hi1 pl1
      go_wp2_with fail
      refine hK.out _ _ ?_ (fun hHeld => ?_)
      · exact ⟨dL, dM⟩
      clear hK K
      try simp only [List.getElem_toArray, List.getElem_cons_succ, List.getElem_cons_zero, Act.put, List.setIfInBounds_toArray, List.set_cons_zero, List.set_cons_succ]
      refine wpAnyH_take (i := 10) (v := ?_) rfl (by kernel_rfl) (by kernel_rfl) (by kernel_rfl) (fun _ _ _ h => h) (Or.inl ⟨by rfl, ?_⟩) (by assumption) ?_
      rotate_left
      · (intro w hSw; (try dsimp only at hSw); first | (go_simp; done) | (go_simp; with_reducible rfl))
      try simp only [List.getElem_toArray, List.getElem_cons_succ, List.getElem_cons_zero, Act.put, List.setIfInBounds_toArray, List.set_cons_zero, List.set_cons_succ]
      refine wpAnyH_take (i := 11) (v := ?_) rfl (by kernel_rfl) (by kernel_rfl) (by kernel_rfl) (fun _ _ _ h => h) (Or.inl ⟨by rfl, ?_⟩) (by assumption) ?_
      rotate_left
      · (intro w hSw; (try dsimp only at hSw); first | (go_simp; done) | (go_simp; with_reducible rfl))
      try simp only [List.getElem_toArray, List.getElem_cons_succ, List.getElem_cons_zero, Act.put, List.setIfInBounds_toArray, List.set_cons_zero, List.set_cons_succ]
      refine wpAnyH_take (i := 12) (v := ?_) rfl (by kernel_rfl) (by kernel_rfl) (by kernel_rfl) (fun _ _ _ h => h) (Or.inl ⟨by rfl, ?_⟩) (by assumption) ?_
      rotate_left
      · (intro w hSw; (try dsimp only at hSw); first | (go_simp; done) | (go_simp; with_reducible rfl))
      try simp only [List.getElem_toArray, List.getElem_cons_succ, List.getElem_cons_zero, Act.put, List.setIfInBounds_toArray, List.set_cons_zero, List.set_cons_succ]
      refine wpAnyH_ready (rs := [13]) (by kernel_rfl) (by simp) ?_
      refine AllReadyH.cons rfl (fun K hK => ?_) AllReadyH.nil
      go_simp
      refine hK.out _ _ ?_ (fun hHeld => ?_)
      · exact ⟨by rw [World.cell?_setCell_other _ _ _ _ (by simp <;> omega), World.cell?_setCell_other _ _ _ _ (by simp <;> omega), World.cell?_setCell_other _ _ _ _ (by simp <;> omega)]; exact dL, by rw [World.cell?_setCell_other _ _ _ _ (by simp <;> omega), World.cell?_setCell_other _ _ _ _ (by simp <;> omega), World.cell?_setCell_other _ _ _ _ (by simp <;> omega)]; exact dM⟩
      clear hK K
      try simp only [List.getElem_toArray, List.getElem_cons_succ, List.getElem_cons_zero, Act.put, List.setIfInBounds_toArray, List.set_cons_zero, List.set_cons_succ]
      refine wpAnyH_ready (rs := [14]) (by kernel_rfl) (by simp) ?_
      refine AllReadyH.cons rfl (fun K hK => ?_) AllReadyH.nil
      go_simp
      refine hK.out _ _ ?_ (fun hHeld => ?_)
      · exact ⟨by rw [World.cell?_setCell_other _ _ _ _ (by simp <;> omega), World.cell?_setCell_other _ _ _ _ (by simp <;> omega), World.cell?_setCell_other _ _ _ _ (by simp <;> omega)]; exact dL, by rw [World.cell?_setCell_other _ _ _ _ (by simp <;> omega), World.cell?_setCell_other _ _ _ _ (by simp <;> omega), World.cell?_setCell_other _ _ _ _ (by simp <;> omega)]; exact dM⟩
      clear hK K
      try simp only [List.getElem_toArray, List.getElem_cons_succ, List.getElem_cons_zero, Act.put, List.setIfInBounds_toArray, List.set_cons_zero, List.set_cons_succ]
      refine wpAnyH_done (by kernel_rfl) ?_ _
      have lg2 := lg1
      clear lg1 lg2
      obtain ⟨v1, hv1⟩ : ∃ v, v = ((w1.setCell ⟨w.heap.size, 0, none⟩ (.int .i64 u1.1.m)).setCell ⟨w.heap.size, 1, none⟩ (.slice ga1 u1.1.n gc1)).setCell ⟨w.heap.size, 2, none⟩ (.bool u1.1.ok) := ⟨_, rfl⟩
      replace HR := hide (unhide HP1 v1 hv1)
      rw [← hv1]
      clear hv1 kp0 kp1 kp2 kq0 kq1 kq2 dL dM kl
      have HC2 : Hid (∀ w', KIn w' u1.1 ga1 gc1 → Calls Tryd.prog 45 #[.agg #[.int .i64 u1.1.m, .slice ga1 u1.1.n gc1, .bool u1.1.ok], .int .i64 u1.2, .int .i64 y, .int .i64 C] w' fun e w'' => KPost u2 ga1 w'.heap.size e w'' ∧ Below w'.heap.size w' w'') := fun w' hw' => by have h := l7One_any u1.1 ga1 gc1 u1.2 y C w' g1.1 hw' g1.2.1 (my.le g1.2.2) (mC.le g1.2.2); rw [← unhide HU2] at h; exact h
      obtain ⟨kp0, kp1, kp2⟩ := (unhide HR).k
      have kq0 := (unhide HR).kf 0
      have kq1 := (unhide HR).kf 1
      have kq2 := (unhide HR).kf 2
      have kl := (unhide HR).k.lt
      have dL := ((unhide HR).be.cell (p := ⟨bL, oL + j, none⟩) lL).trans dL0
      have dM := ((unhide HR).be.cell (p := ⟨bM, oM + j, none⟩) lM).trans dM0
      go_wp2
      refine wp_region_held_drew (S := fun w' => w'.cell? ⟨bL, oL + j, none⟩ = some (.int .i64 x) ∧ w'.cell? ⟨bM, oM + j, none⟩ = some (.int .i64 y)) (by kernel_rfl) ?_ (fun hHeld => ?_)
      · exact ⟨dL, dM⟩
      refine wpAnyH_take (i := 1) (v := ?_) rfl (by kernel_rfl) (by kernel_rfl) (by kernel_rfl) (fun _ _ _ h => h) (Or.inl ⟨by rfl, ?_⟩) (by assumption) ?_
      rotate_left
      · (intro w hSw; (try dsimp only at hSw); first | (go_simp; done) | (go_simp; with_reducible rfl))
      try simp only [List.getElem_toArray, List.getElem_cons_succ, List.getElem_cons_zero, Act.put, List.setIfInBounds_toArray, List.set_cons_zero, List.set_cons_succ]
      refine wpAnyH_take (i := 2) (v := ?_) rfl (by kernel_rfl) (by kernel_rfl) (by kernel_rfl) (fun _ _ _ h => h) (Or.inl ⟨by rfl, ?_⟩) (by assumption) ?_
      rotate_left
      · (intro w hSw; (try dsimp only at hSw); first | (go_simp; done) | (go_simp; with_reducible rfl))
      try simp only [List.getElem_toArray, List.getElem_cons_succ, List.getElem_cons_zero, Act.put, List.setIfInBounds_toArray, List.set_cons_zero, List.set_cons_succ]
      refine wpAnyH_take (i := 3) (v := ?_) rfl (by kernel_rfl) (by kernel_rfl) (by kernel_rfl) (fun _ _ _ h => h) (Or.inl ⟨by rfl, ?_⟩) (by assumption) ?_
      rotate_left
      · (intro w hSw; (try dsimp only at hSw); first | (go_simp; done) | (go_simp; with_reducible rfl))
      try simp only [List.getElem_toArray, List.getElem_cons_succ, List.getElem_cons_zero, Act.put, List.setIfInBounds_toArray, List.set_cons_zero, List.set_cons_succ]
      refine wpAnyH_take (i := 4) (v := ?_) rfl (by kernel_rfl) (by kernel_rfl) (by kernel_rfl) (fun _ _ _ h => h) (Or.inl ⟨by rfl, ?_⟩) (by assumption) ?_
      rotate_left
      · (intro w hSw; (try dsimp only at hSw); first | (go_simp; done) | (go_simp; with_reducible rfl))
      try simp only [List.getElem_toArray, List.getElem_cons_succ, List.getElem_cons_zero, Act.put, List.setIfInBounds_toArray, List.set_cons_zero, List.set_cons_succ]
      refine wpAnyH_take (i := 5) (v := ?_) rfl (by kernel_rfl) (by kernel_rfl) (by kernel_rfl) (fun _ _ _ h => h) (Or.inl ⟨by rfl, ?_⟩) (by assumption) ?_
      rotate_left
      · (intro w hSw; (try dsimp only at hSw); first | (go_simp; done) | (go_simp; with_reducible rfl))
      try simp only [List.getElem_toArray, List.getElem_cons_succ, List.getElem_cons_zero, Act.put, List.setIfInBounds_toArray, List.set_cons_zero, List.set_cons_succ]
      refine wpAnyH_take (i := 6) (v := ?_) rfl (by kernel_rfl) (by kernel_rfl) (by kernel_rfl) (fun _ _ _ h => h) (Or.inl ⟨by rfl, ?_⟩) (by assumption) ?_
      rotate_left
      · (intro w hSw; (try dsimp only at hSw); first | (go_simp; done) | (go_simp; with_reducible rfl))
      try simp only [List.getElem_toArray, List.getElem_cons_succ, List.getElem_cons_zero, Act.put, List.setIfInBounds_toArray, List.set_cons_zero, List.set_cons_succ]
      refine wpAnyH_ready (rs := [0]) (by kernel_rfl) (by simp) ?_
      refine AllReadyH.cons rfl (fun K hK => ?_) AllReadyH.nil
      go_simp
      refine hK.out _ _ ?_ (fun hHeld => ?_)
      · exact ⟨dL, dM⟩
      clear hK K
      try simp only [List.getElem_toArray, List.getElem_cons_succ, List.getElem_cons_zero, Act.put, List.setIfInBounds_toArray, List.set_cons_zero, List.set_cons_succ]
      refine wpAnyH_ready (rs := [7]) (by kernel_rfl) (by simp) ?_
      refine AllReadyH.cons rfl (fun K hK => ?_) AllReadyH.nil
      go_simp
      refine (unhide HC2 _ (by first | exact (unhide HR).i | exact (unhide HR).drew.i)).mono ?_
      rintro e w2 ⟨⟨ga2, gc2, rfl, hi1, pl1⟩, b1⟩
      have hcl := (KI.call (by first | exact unhide HR | exact (unhide HR).drew) b1 hi1 pl1 (unhide HI).2.2.2)
      obtain ⟨⟨⟨kp0, kp1, kp2⟩, kf⟩, hput⟩ := hcl
      have kq0 := kf 0
      have kq1 := kf 1
      have kq2 := kf 2
      have HP2 := hide hput
      replace dL := cell_later b1 (by exact dL)
      replace dM := cell_later b1 (by exact dM)
      have lg1 : w.heap.size < w2.heap.size := World.block_lt_of_cell? _ _ kp0
      clear hput kf b1 hi1 pl1
      go_wp2_with fail
      refine hK.out _ _ ?_ (fun hHeld => ?_)
      · exact ⟨dL, dM⟩
      clear hK K
      try simp only [List.getElem_toArray, List.getElem_cons_succ, List.getElem_cons_zero, Act.put, List.setIfInBounds_toArray, List.set_cons_zero, List.set_cons_succ]
      refine wpAnyH_take (i := 8) (v := ?_) rfl (by kernel_rfl) (by kernel_rfl) (by kernel_rfl) (fun _ _ _ h => h) (Or.inl ⟨by rfl, ?_⟩) (by assumption) ?_
      rotate_left
      · (intro w hSw; (try dsimp only at hSw); first | (go_simp; done) | (go_simp; with_reducible rfl))
      try simp only [List.getElem_toArray, List.getElem_cons_succ, List.getElem_cons_zero, Act.put, List.setIfInBounds_toArray, List.set_cons_zero, List.set_cons_succ]
      refine wpAnyH_take (i := 9) (v := ?_) rfl (by kernel_rfl) (by kernel_rfl) (by kernel_rfl) (fun _ _ _ h => h) (Or.inl ⟨by rfl, ?_⟩) (by assumption) ?_
      rotate_left
      · (intro w hSw; (try dsimp only at hSw); first | (go_simp; done) | (go_simp; with_reducible rfl))
      try simp only [List.getElem_toArray, List.getElem_cons_succ, List.getElem_cons_zero, Act.put, List.setIfInBounds_toArray, List.set_cons_zero, List.set_cons_succ]
      refine wpAnyH_take (i := 10) (v := ?_) rfl (by kernel_rfl) (by kernel_rfl) (by kernel_rfl) (fun _ _ _ h => h) (Or.inl ⟨by rfl, ?_⟩) (by assumption) ?_
      rotate_left
      · (intro w hSw; (try dsimp only at hSw); first | (go_simp; done) | (go_simp; with_reducible rfl))
      try simp only [List.getElem_toArray, List.getElem_cons_succ, List.getElem_cons_zero, Act.put, List.setIfInBounds_toArray, List.set_cons_zero, List.set_cons_succ]
      refine wpAnyH_ready (rs := [11]) (by kernel_rfl) (by simp) ?_
      refine AllReadyH.cons rfl (fun K hK => ?_) AllReadyH.nil
      go_simp
      refine hK.out _ _ ?_ (fun hHeld => ?_)
      · exact ⟨by rw [World.cell?_setCell_other _ _ _ _ (by simp <;> omega), World.cell?_setCell_other _ _ _ _ (by simp <;> omega), World.cell?_setCell_other _ _ _ _ (by simp <;> omega)]; exact dL, by rw [World.cell?_setCell_other _ _ _ _ (by simp <;> omega), World.cell?_setCell_other _ _ _ _ (by simp <;> omega), World.cell?_setCell_other _ _ _ _ (by simp <;> omega)]; exact dM⟩
      clear hK K
      try simp only [List.getElem_toArray, List.getElem_cons_succ, List.getElem_cons_zero, Act.put, List.setIfInBounds_toArray, List.set_cons_zero, List.set_cons_succ]
      refine wpAnyH_ready (rs := [12]) (by kernel_rfl) (by simp) ?_
      refine AllReadyH.cons rfl (fun K hK => ?_) AllReadyH.nil
      go_simp
      refine hK.out _ _ ?_ (fun hHeld => ?_)
      · exact ⟨by rw [World.cell?_setCell_other _ _ _ _ (by simp <;> omega), World.cell?_setCell_other _ _ _ _ (by simp <;> omega), World.cell?_setCell_other _ _ _ _ (by simp <;> omega)]; exact dL, by rw [World.cell?_setCell_other _ _ _ _ (by simp <;> omega), World.cell?_setCell_other _ _ _ _ (by simp <;> omega), World.cell?_setCell_other _ _ _ _ (by simp <;> omega)]; exact dM⟩
      clear hK K
      try simp only [List.getElem_toArray, List.getElem_cons_succ, List.getElem_cons_zero, Act.put, List.setIfInBounds_toArray, List.set_cons_zero, List.set_cons_succ]
      refine wpAnyH_done (by kernel_rfl) ?_ _
      have lg2 := lg1
      clear lg1 lg2
      obtain ⟨v2, hv2⟩ : ∃ v, v = ((w2.setCell ⟨w.heap.size, 0, none⟩ (.int .i64 u2.1.m)).setCell ⟨w.heap.size, 1, none⟩ (.slice ga2 u2.1.n gc2)).setCell ⟨w.heap.size, 2, none⟩ (.bool u2.1.ok) := ⟨_, rfl⟩
      replace HR := hide (unhide HP2 v2 hv2)
      rw [← hv2]
      clear hv2 kp0 kp1 kp2 kq0 kq1 kq2 dL dM kl
      go_wp2_with fail
      go_roundw
      case rel => exact ⟨j + 1, by omega, by go_num, by rw [unhide HN2], ga2, gc2, by rw [unhide HN2]; exact unhide HR⟩
      case measure => simp [intOf]; omega
    · have ej : j = nl := by omega
      subst ej
      obtain ⟨q, hq⟩ : ∃ q, q = foldK (lessR 1) s (-1) L M j := ⟨_, rfl⟩
      rw [← hq] at hI HR
      have HQ := hide hq
      have HQ2 : Hid ((foldK (lessR 1) s (-1) L M j).2 = q.2) := by show _ = _; rw [hq]
      clear hq
      obtain ⟨kp0, kp1, kp2⟩ := hI.k
      have kl := hI.k.lt
      have s0 := hI.s0
      have s1 := hI.s1
      have s2 := hI.s2
      have f0 := hI.sf 0
      have f1 := hI.sf 1
      have f2 := hI.sf 2
      have be := hI.be
      clear hI
      rw [unhide HQ2]
      go_wp2
      refine bodyPost_ret (v := .tuple #[.agg #[.int .i64 q.1.m, .slice ga q.1.n gc, .bool q.1.ok], .int .i64 q.2]) (by simp [results, Tryd.results30, go_sem, s0, s1, s2]) rfl ?_
      rw [← unhide HQ]
      have mv := mov3 wr (w.heap.size + 1) (.int .i64 q.1.m) (.slice ga q.1.n gc) (.bool q.1.ok)
      exact ⟨⟨ga, gc, rfl, (unhide HR).i.mov ((unhide HR).pl.apart (unhide HI).2.2.2 (by omega) (by omega)) mv, (unhide HR).pl.mono (by omega)⟩, bel3 be (by omega) _ _ _⟩
end Go.Proofs.YtnjjobompjoigaaDoor
