/- BitsCmp of the program. -/
import Derived.Test.YtnjjobompjoigaaDoorCpU
import Derived.Test.YtnjjobompjoigaaDoorRngA
namespace Go.Proofs.YtnjjobompjoigaaDoor
open Go.ChangeShapes Go.WideShapes Go.ChangeAt Go.RowKit Go.Joins
set_option linter.unusedVariables false
set_option maxRecDepth 100000
set_option linter.unusedSimpArgs false

/-- What the program hands back, in memory of its own: the mark is the list's one number, or 0. -/
def ICPost (r : BR) (base : Nat) (e : Ending) (w' : World) : Prop := ∃ a cap, e = .returned (.tuple #[.agg #[.int .i64 r.m, .slice a r.n cap], .int .i64 (at0 r.L 0)]) ∧ GtsAt w' a r.n r.G ∧ OwnG w' base a r.n
theorem nil_IC (base : Nat) (w' : World) : ICPost nilB base (.returned (.tuple #[.agg #[.int .i64 0, .slice none 0 0], .int .i64 0])) w' := ⟨none, 0, rfl, Or.inl rfl, Or.inl rfl⟩
set_option maxRecDepth 100000 in
set_option maxHeartbeats 2000000 in
theorem iBitsCmp_any (m : Int) (ad : Option Addr) (n cap : Nat) (G : Nat → Gt) (op : Int) (la : Option Addr) (nl cl : Nat) (L : List Int) (lb : Option Addr) (nm cm : Nat) (M : List Int) (base : Nat) (aF aR : Addr) (w : World) (hd : GtsAt w ad n G) (hw : WG n G) (hsp : ∃ p, ad = some p ∧ p.spot = none) (hn : n ≤ 1048576)
    (hdL : IntsAt w la nl (at0 L)) (hdM : IntsAt w lb nm (at0 M)) (hL : L.length = nl) (hM : M.length = nm) (hl : nl ≤ 1048576) (hm : nm ≤ 1048576) (hWL : ∀ i, i < nl → W64 (at0 L i)) (hWM : ∀ i, i < nm → W64 (at0 M i)) (hs : Sent w base aF aR) (hbase : base ≤ w.heap.size) :
    Calls Tryd.prog 8 #[.agg #[.int .i64 m, .slice ad n cap], .int .i64 op, .slice la nl cl, .slice lb nm cm] w fun e w' => ICPost (cmpBR m n G op L M) w.heap.size e w' ∧ Below w.heap.size w w' := by
  obtain ⟨wz, hwz⟩ : ∃ wz, wz = (w.alloc (.cells #[.int .i64 m, .slice ad n cap] 29)).alloc (.cells #[.int .i64 0, .slice none 0 0] 29) := ⟨_, rfl⟩
  have BL : Below w.heap.size w wz := by rw [hwz]; exact ((Below.refl _ _).alloc (Nat.le_refl _) _).alloc (by simp) _
  have p0 : wz.cell? ⟨w.heap.size, 0, none⟩ = some (.int .i64 m) := by rw [hwz]; simp [go_sem]
  have p1 : wz.cell? ⟨w.heap.size, 1, none⟩ = some (.slice ad n cap) := by rw [hwz]; simp [go_sem]
  have s0 : wz.cell? ⟨w.heap.size + 1, 0, none⟩ = some (.int .i64 0) := by rw [hwz]; simp [go_sem]
  have s1 : wz.cell? ⟨w.heap.size + 1, 1, none⟩ = some (.slice none 0 0) := by rw [hwz]; simp [go_sem]
  have f0 : wz.frozen? ⟨w.heap.size + 1, 0, none⟩ = false := by rw [hwz]; simp [go_sem]
  have f1 : wz.frozen? ⟨w.heap.size + 1, 1, none⟩ = false := by rw [hwz]; simp [go_sem]
  have lz : wz.heap.size = w.heap.size + 2 := by rw [hwz]; simp
  have hsz : Sent wz wz.heap.size aF aR := by have h := hs.below BL hbase; exact ⟨h.f, h.r, by have := h.b; omega⟩
  have HNB := hide (newB_any m ad n cap G wz.heap.size aF aR wz (hd.later BL) hw hsp hn hsz (Nat.le_refl _))
  have HDL := hide hdL
  have HDM := hide hdM
  have HL := hide hL
  have HM := hide hM
  have HWL := hide hWL
  have HWM := hide hWM
  have f := hsz.f
  have HSZ := hide hsz
  have HZ := hide hwz
  clear hd hwz hw hsp hdL hdM hL hM hWL hWM hs hsz
  go_enter Tryd.func8, Tryd.ntmps8
  go_wp2_with fail
  rw [← unhide HZ]
  refine (unhide HNB).mono ?_
  rintro e w1 ⟨⟨bb, rfl, lbb, lbb', ⟨hP, gb, B, g, hB⟩ | ⟨hP, v, q1⟩⟩, b1⟩
  · have HB := hide hB
    have HS1 := hide ((unhide HSZ).below b1 (Nat.le_refl _))
    have l1 := b1.size
    replace f0 := (b1.frozen (p := ⟨w.heap.size + 1, 0, none⟩) (World.block_lt_of_cell? _ _ s0)).trans f0
    replace f1 := (b1.frozen (p := ⟨w.heap.size + 1, 1, none⟩) (World.block_lt_of_cell? _ _ s1)).trans f1
    replace s0 := cell_later b1 s0
    replace s1 := cell_later b1 s1
    replace f := cell_later b1 f
    replace BL := BL.trans (b1.mono BL.size)
    clear hB b1 p0 p1
    have HTA := hide (takeG_any wz.heap.size bb gb B g aF aR m n G la nl cl L w1 (unhide HB) (unhide HS1) (by omega) hP ((unhide HDL).later BL) (unhide HL) hl (unhide HWL))
    go_wp2_with fail
    refine (unhide HTA).mono ?_
    rintro e w3 (⟨hRa, rfl, lra, ira, b3⟩ | ⟨hRa, rfl, ⟨v, q1⟩, o3⟩)
    · have HB3 := hide ((unhide HB).later b3)
      have HS3 := hide ((unhide HS1).below b3 (by omega))
      have l3 := b3.size
      replace f0 := (b3.frozen (p := ⟨w.heap.size + 1, 0, none⟩) (World.block_lt_of_cell? _ _ s0)).trans f0
      replace f1 := (b3.frozen (p := ⟨w.heap.size + 1, 1, none⟩) (World.block_lt_of_cell? _ _ s1)).trans f1
      replace s0 := cell_later b3 s0
      replace s1 := cell_later b3 s1
      replace f := cell_later b3 f
      replace BL := BL.trans (b3.mono BL.size)
      have HTB := hide (takeG_any wz.heap.size bb gb B g aF aR m n G lb nm cm M w3 (unhide HB3) (unhide HS3) (by omega) hP ((unhide HDM).later BL) (unhide HM) hm (unhide HWM))
      have HIA := hide ira
      clear b3 ira
      go_wp2_with fail
      refine (unhide HTB).mono ?_
      rintro e w4 (⟨hRb, rfl, lrb, irb, b4⟩ | ⟨hRb, rfl, ⟨v, q1⟩, o4⟩)
      · have HB4 := hide ((unhide HB3).later b4)
        have HS4 := hide ((unhide HS3).below b4 (by omega))
        have l4 := b4.size
        replace HIA := hide ((unhide HIA).later b4)
        replace f0 := (b4.frozen (p := ⟨w.heap.size + 1, 0, none⟩) (World.block_lt_of_cell? _ _ s0)).trans f0
        replace f1 := (b4.frozen (p := ⟨w.heap.size + 1, 1, none⟩) (World.block_lt_of_cell? _ _ s1)).trans f1
        replace s0 := cell_later b4 s0
        replace s1 := cell_later b4 s1
        replace f := cell_later b4 f
        replace BL := BL.trans (b4.mono BL.size)
        have h4a : nl ≤ 4 := by rw [← unhide HL]; exact hRa.2.2
        have h4c : 1 ≤ nl := by rw [← unhide HL]; exact hRa.2.1
        have h4b : nm ≤ 4 := by rw [← unhide HM]; exact hRb.2.2
        have lgs := (unhide HB).lg
        have lbs := (unhide HB).lt
        have ns : ∀ k, w1.heap.size ≤ k → ¬ S4 bb gb B g k := fun k h1 h2 => by rcases h2 with e | e | e | e <;> omega
        have HTC := hide (cmpG_any wz.heap.size bb gb B g aF aR (kS m n G) rfl op w1.heap.size nl nl w3.heap.size nm nm L M w4 (unhide HB4) (unhide HS4) (by omega) (kS_ok hP) (unhide HL) (unhide HM) h4c (by omega) (by omega) (Nat.le_refl _) (Nat.le_refl _) (unhide HIA) irb ⟨ns _ (by omega), by omega⟩ ⟨ns _ (by omega), by omega⟩ (hRa.mk hP) (hRb.mk hP))
        clear b4 irb ns
        go_wp2_with fail
        refine (unhide HTC).mono ?_
        rintro e w5 (⟨⟨hE, hop⟩, row, rfl, lr1, lr2, g', hRP⟩ | ⟨hE, rfl, ⟨v, q1⟩, o5⟩)
        · subst hE
          have HN := hide (cmpBR_yes (m := m) (n := n) (G := G) (op := op) (L := L) (M := M) ⟨hP, hRa, hRb, by rw [unhide HL, unhide HM], by omega, by omega⟩)
          rw [cmpBR_z] at HN
          obtain ⟨q, hqq⟩ : ∃ q, q = cmpK 0 op (kS m n G) L M := ⟨_, rfl⟩
          rw [← hqq] at HN hRP
          clear hqq
          have HRP := hide hRP
          have hR' := hRP
          have o5 := hRP.o
          have ns : ∀ k, k < wz.heap.size → ¬ S4 bb gb B g k := fun k h1 h2 => by have := (unhide HB).low k h2; omega
          have sl := World.block_lt_of_cell? _ _ s0
          have zl := World.block_lt_of_cell? _ _ f
          replace f0 := (o5.frozen (p := ⟨w.heap.size + 1, 0, none⟩) sl (ns _ (by simp only; omega))).trans f0
          replace f1 := (o5.frozen (p := ⟨w.heap.size + 1, 1, none⟩) sl (ns _ (by simp only; omega))).trans f1
          replace s0 := o5.cell s0 (ns _ (by simp only; omega))
          replace s1 := o5.cell s1 (ns _ (by simp only; omega))
          replace f := o5.cell f (ns _ (by simp only; omega))
          replace BL := BL.trans (o5.lower (base := w.heap.size) (fun k hk => by have := (unhide HB).low k hk; omega) BL.size)
          clear sl zl
          have lw5 := o5.size
          have HO5 := hide o5
          clear o5 ns hRP
          cases hok : q.1.ok
          · have HN' : Hid (cmpBR m n G op L M = nilB) := (unhide HN).trans (brK_no hok)
            clear HN
            have HN := HN'
            have q1 := hR'.b.f0 hok
            clear hR'
            go_wp2_with fail
            refine (toldB_any bb aR _ _ _ _ q1).mono ?_
            rintro e wl ⟨rfl, bl⟩
            replace f0 := (bl.frozen (p := ⟨w.heap.size + 1, 0, none⟩) (World.block_lt_of_cell? _ _ s0)).trans f0
            replace f1 := (bl.frozen (p := ⟨w.heap.size + 1, 1, none⟩) (World.block_lt_of_cell? _ _ s1)).trans f1
            replace s0 := cell_later bl s0
            replace s1 := cell_later bl s1
            replace BL := BL.trans (bl.mono BL.size)
            clear bl
            have sl := World.block_lt_of_cell? _ _ s0
            have sl1 := World.block_lt_of_cell? _ _ s1
            simp only at sl sl1
            go_wp2
            refine bodyPost_ret (v := .tuple #[.agg #[.int .i64 0, .slice none 0 0], .int .i64 0]) (by simp [results, Tryd.results8, go_sem, s0, s1, sl]) rfl ?_
            rw [unhide HN]
            exact ⟨nil_IC _ _, (BL.trans ((mov2c wl (w.heap.size + 1) _ _).below (by omega) BL.size)).alloc (Nat.le_trans BL.size (mov2c wl (w.heap.size + 1) _ _).size) _⟩
          · have HN' : Hid (cmpBR m n G op L M = ⟨q.1.m, q.1.n, q.1.G, [q.2]⟩) := (unhide HN).trans (brK_yes hok)
            have HC := hide (toldG_any wz.heap.size bb gb B g' aR q.1 row 1 1 [q.2] w5 hR'.b hok hR'.i hR'.m.1 (by omega) (by omega))
            clear hR'
            go_wp2_with fail
            refine (unhide HC).mono ?_
            rintro e w6 ⟨c6, rfl, hG6, hI6, hM6, b6⟩
            replace f0 := (b6.frozen (p := ⟨w.heap.size + 1, 0, none⟩) (World.block_lt_of_cell? _ _ s0)).trans f0
            replace f1 := (b6.frozen (p := ⟨w.heap.size + 1, 1, none⟩) (World.block_lt_of_cell? _ _ s1)).trans f1
            replace s0 := cell_later b6 s0
            replace s1 := cell_later b6 s1
            replace BL := BL.trans (b6.mono BL.size)
            have sl := World.block_lt_of_cell? _ _ s0
            have lo6 := own_base hG6.2.1
            have lg6 := (own_cap hG6.2.1).2
            have hgl : g' < w5.heap.size := (unhide HRP).b.lg.1
            have im := hI6 0 (by omega)
            have lm := hM6.1
            obtain ⟨wv, hwv⟩ : ∃ x, x = w6.alloc (.cells #[.int .i64 q.1.m, .slice (some ⟨g', 0, none⟩) q.1.n c6] 29) := ⟨_, rfl⟩
            have bv : Below w6.heap.size w6 wv := by rw [hwv]; exact (Below.refl _ _).alloc (Nat.le_refl _) _
            have v0 : wv.cell? ⟨w6.heap.size, 0, none⟩ = some (.int .i64 q.1.m) := by rw [hwv]; simp [go_sem]
            have v1 : wv.cell? ⟨w6.heap.size, 1, none⟩ = some (.slice (some ⟨g', 0, none⟩) q.1.n c6) := by rw [hwv]; simp [go_sem]
            replace f0 := (bv.frozen (p := ⟨w.heap.size + 1, 0, none⟩) (World.block_lt_of_cell? _ _ s0)).trans f0
            replace f1 := (bv.frozen (p := ⟨w.heap.size + 1, 1, none⟩) (World.block_lt_of_cell? _ _ s1)).trans f1
            replace s0 := cell_later bv s0
            replace s1 := cell_later bv s1
            replace im := cell_later bv im
            replace BL := BL.trans (bv.mono BL.size)
            replace im : wv.cell? ⟨w5.heap.size + 1, 0, none⟩ = some (.int .i64 q.2) := by simpa [at0] using im
            have HG6 := hide (show GtsAt wv (some ⟨g', 0, none⟩) q.1.n q.1.G ∧ (g' < w6.heap.size ∧ Made wv g' (q.1.n * 3)) from ⟨(own_gtsAt hG6.2.1).later bv, lg6, (own_made hG6.2.1).later bv⟩)
            have bvs := bv.size
            have HWV := hide hwv
            clear hwv bv hG6 hI6 hM6 b6
            go_wp2_with fail
            rw [← unhide HWV]
            obtain ⟨Z, hZ⟩ : ∃ x, x = w6.heap.size := ⟨_, rfl⟩
            rw [← hZ] at v0 v1 ⊢
            obtain ⟨Y, hY⟩ : ∃ x, x = w5.heap.size + 1 := ⟨_, rfl⟩
            rw [← hY] at im ⊢
            have zne : w.heap.size + 1 ≠ Z ∧ w.heap.size + 1 ≠ Y ∧ w.heap.size ≤ g' ∧ w.heap.size + 2 ≤ g' ∧ w.heap.size + 1 < wv.heap.size := by have := bvs; omega
            clear hZ hY bvs
            go_wp2
            refine wp_region_held_drew (S := fun w' => (w'.cell? ⟨Z, 0, none⟩ = some (.int .i64 q.1.m) ∧ w'.cell? ⟨Z, 1, none⟩ = some (.slice (some ⟨g', 0, none⟩) q.1.n c6)) ∧ w'.cell? ⟨Y, 0, none⟩ = some (.int .i64 q.2)) (by kernel_rfl) ?_ (fun hHeld => ?_)
            · exact ⟨⟨v0, v1⟩, im⟩
            refine wpAnyH_take (i := 0) (v := ?_) rfl (by kernel_rfl) (by kernel_rfl) (by kernel_rfl) (fun _ _ _ h => h) (Or.inl ⟨by rfl, ?_⟩) (by assumption) ?_
            rotate_left
            · (intro w hSw; (try dsimp only at hSw); first | (go_simp; done) | (go_simp; with_reducible rfl))
            try simp only [List.getElem_toArray, List.getElem_cons_succ, List.getElem_cons_zero, Act.put, List.setIfInBounds_toArray, List.set_cons_zero, List.set_cons_succ]
            refine wpAnyH_take (i := 1) (v := ?_) rfl (by kernel_rfl) (by kernel_rfl) (by kernel_rfl) (fun _ _ _ h => h) (Or.inl ⟨by rfl, ?_⟩) (by assumption) ?_
            rotate_left
            · (intro w hSw; (try dsimp only at hSw); first | (go_simp; done) | (go_simp; with_reducible rfl))
            try simp only [List.getElem_toArray, List.getElem_cons_succ, List.getElem_cons_zero, Act.put, List.setIfInBounds_toArray, List.set_cons_zero, List.set_cons_succ]
            refine wpAnyH_take (i := 2) (v := ?_) rfl (by kernel_rfl) (by kernel_rfl) (by kernel_rfl) (fun _ _ _ h => h) (Or.inl ⟨by rfl, ?_⟩) (by assumption) ?_
            rotate_left
            · (intro w hSw; (try dsimp only at hSw); first | (go_simp; done) | (go_simp; with_reducible rfl))
            try simp only [List.getElem_toArray, List.getElem_cons_succ, List.getElem_cons_zero, Act.put, List.setIfInBounds_toArray, List.set_cons_zero, List.set_cons_succ]
            refine wpAnyH_take (i := 3) (v := ?_) rfl (by kernel_rfl) (by kernel_rfl) (by kernel_rfl) (fun _ _ _ h => h) (Or.inl ⟨by rfl, ?_⟩) (by assumption) ?_
            rotate_left
            · (intro w hSw; (try dsimp only at hSw); first | (go_simp; done) | (go_simp; with_reducible rfl))
            try simp only [List.getElem_toArray, List.getElem_cons_succ, List.getElem_cons_zero, Act.put, List.setIfInBounds_toArray, List.set_cons_zero, List.set_cons_succ]
            refine wpAnyH_ready (rs := [4]) (by kernel_rfl) (by simp) ?_
            refine AllReadyH.cons rfl (fun K hK => ?_) AllReadyH.nil
            go_simp
            refine hK.out _ _ ?_ (fun hHeld => ?_)
            · exact ⟨⟨(by show World.cell? (World.setCell (World.setCell wv ⟨w.heap.size + 1, 0, none⟩ _) ⟨w.heap.size + 1, 1, none⟩ _) _ = _; rw [World.cell?_setCell_other _ _ _ _ (by simp only [ne_eq, Addr.mk.injEq, not_and]; intro h; omega), World.cell?_setCell_other _ _ _ _ (by simp only [ne_eq, Addr.mk.injEq, not_and]; intro h; omega)]; exact v0), (by show World.cell? (World.setCell (World.setCell wv ⟨w.heap.size + 1, 0, none⟩ _) ⟨w.heap.size + 1, 1, none⟩ _) _ = _; rw [World.cell?_setCell_other _ _ _ _ (by simp only [ne_eq, Addr.mk.injEq, not_and]; intro h; omega), World.cell?_setCell_other _ _ _ _ (by simp only [ne_eq, Addr.mk.injEq, not_and]; intro h; omega)]; exact v1)⟩, (by show World.cell? (World.setCell (World.setCell wv ⟨w.heap.size + 1, 0, none⟩ _) ⟨w.heap.size + 1, 1, none⟩ _) _ = _; rw [World.cell?_setCell_other _ _ _ _ (by simp only [ne_eq, Addr.mk.injEq, not_and]; intro h; omega), World.cell?_setCell_other _ _ _ _ (by simp only [ne_eq, Addr.mk.injEq, not_and]; intro h; omega)]; exact im)⟩
            clear hK K
            try simp only [List.getElem_toArray, List.getElem_cons_succ, List.getElem_cons_zero, Act.put, List.setIfInBounds_toArray, List.set_cons_zero, List.set_cons_succ]
            refine wpAnyH_ready (rs := [5]) (by kernel_rfl) (by simp) ?_
            refine AllReadyH.cons rfl (fun K hK => ?_) AllReadyH.nil
            go_simp
            refine hK.out _ _ ?_ (fun hHeld => ?_)
            · exact ⟨⟨(by show World.cell? (World.setCell (World.setCell wv ⟨w.heap.size + 1, 0, none⟩ _) ⟨w.heap.size + 1, 1, none⟩ _) _ = _; rw [World.cell?_setCell_other _ _ _ _ (by simp only [ne_eq, Addr.mk.injEq, not_and]; intro h; omega), World.cell?_setCell_other _ _ _ _ (by simp only [ne_eq, Addr.mk.injEq, not_and]; intro h; omega)]; exact v0), (by show World.cell? (World.setCell (World.setCell wv ⟨w.heap.size + 1, 0, none⟩ _) ⟨w.heap.size + 1, 1, none⟩ _) _ = _; rw [World.cell?_setCell_other _ _ _ _ (by simp only [ne_eq, Addr.mk.injEq, not_and]; intro h; omega), World.cell?_setCell_other _ _ _ _ (by simp only [ne_eq, Addr.mk.injEq, not_and]; intro h; omega)]; exact v1)⟩, (by show World.cell? (World.setCell (World.setCell wv ⟨w.heap.size + 1, 0, none⟩ _) ⟨w.heap.size + 1, 1, none⟩ _) _ = _; rw [World.cell?_setCell_other _ _ _ _ (by simp only [ne_eq, Addr.mk.injEq, not_and]; intro h; omega), World.cell?_setCell_other _ _ _ _ (by simp only [ne_eq, Addr.mk.injEq, not_and]; intro h; omega)]; exact im)⟩
            clear hK K
            try simp only [List.getElem_toArray, List.getElem_cons_succ, List.getElem_cons_zero, Act.put, List.setIfInBounds_toArray, List.set_cons_zero, List.set_cons_succ]
            refine wpAnyH_done (by kernel_rfl) ?_ _
            go_wp2
            refine bodyPost_ret (v := .tuple #[.agg #[.int .i64 q.1.m, .slice (some ⟨g', 0, none⟩) q.1.n c6], .int .i64 q.2]) (by simp [results, Tryd.results8, go_sem, s0, s1]) rfl ?_
            rw [unhide HN']
            have mv : Mov (w.heap.size + 1) wv ((wv.setCell ⟨w.heap.size + 1, 0, none⟩ (.int .i64 q.1.m)).setCell ⟨w.heap.size + 1, 1, none⟩ (.slice (some ⟨g', 0, none⟩) q.1.n c6)) := mov2c _ _ _ _
            have hgn : w.heap.size + 1 ≠ g' := by omega
            exact ⟨⟨some ⟨g', 0, none⟩, c6, rfl, (unhide HG6).1.mov2 (by omega) mv, Or.inr ⟨g', rfl, by omega, (unhide HG6).2.2.mov mv (by omega)⟩⟩, (by first | exact BL.trans (mv.below (by omega) BL.size) | exact BL.drew.trans (Mov.below mv (by omega) BL.size))⟩
        · have ns : ∀ k, k < wz.heap.size → ¬ S4 bb gb B g k := fun k h1 h2 => by have := (unhide HB).low k h2; omega
          have sl := World.block_lt_of_cell? _ _ s0
          have zl := World.block_lt_of_cell? _ _ f
          replace f0 := (o5.frozen (p := ⟨w.heap.size + 1, 0, none⟩) sl (ns _ (by simp only; omega))).trans f0
          replace f1 := (o5.frozen (p := ⟨w.heap.size + 1, 1, none⟩) sl (ns _ (by simp only; omega))).trans f1
          replace s0 := o5.cell s0 (ns _ (by simp only; omega))
          replace s1 := o5.cell s1 (ns _ (by simp only; omega))
          replace f := o5.cell f (ns _ (by simp only; omega))
          replace BL := BL.trans (o5.lower (base := w.heap.size) (fun k hk => by have := (unhide HB).low k hk; omega) BL.size)
          clear sl zl
          clear o5 ns
          have HN := hide (cmpBR_no (m := m) (n := n) (G := G) (op := op) (L := L) (M := M) (fun h => hE (by have := h.2.2.2.1; rw [unhide HL, unhide HM] at this; exact ⟨this, by have := h.2.2.2.2; omega⟩)))
          go_wp2_with fail
          refine (toldB_any bb v _ _ _ _ q1).mono ?_
          rintro e wl ⟨rfl, bl⟩
          replace f0 := (bl.frozen (p := ⟨w.heap.size + 1, 0, none⟩) (World.block_lt_of_cell? _ _ s0)).trans f0
          replace f1 := (bl.frozen (p := ⟨w.heap.size + 1, 1, none⟩) (World.block_lt_of_cell? _ _ s1)).trans f1
          replace s0 := cell_later bl s0
          replace s1 := cell_later bl s1
          replace BL := BL.trans (bl.mono BL.size)
          clear bl
          have sl := World.block_lt_of_cell? _ _ s0
          have sl1 := World.block_lt_of_cell? _ _ s1
          simp only at sl sl1
          go_wp2
          refine bodyPost_ret (v := .tuple #[.agg #[.int .i64 0, .slice none 0 0], .int .i64 0]) (by simp [results, Tryd.results8, go_sem, s0, s1, sl]) rfl ?_
          rw [unhide HN]
          exact ⟨nil_IC _ _, (BL.trans ((mov2c wl (w.heap.size + 1) _ _).below (by omega) BL.size)).alloc (Nat.le_trans BL.size (mov2c wl (w.heap.size + 1) _ _).size) _⟩
      · have ns : ∀ k, k < wz.heap.size → ¬ S4 bb gb B g k := fun k h1 h2 => by have := (unhide HB).low k h2; omega
        have sl := World.block_lt_of_cell? _ _ s0
        have zl := World.block_lt_of_cell? _ _ f
        replace f0 := (o4.frozen (p := ⟨w.heap.size + 1, 0, none⟩) sl (ns _ (by simp only; omega))).trans f0
        replace f1 := (o4.frozen (p := ⟨w.heap.size + 1, 1, none⟩) sl (ns _ (by simp only; omega))).trans f1
        replace s0 := o4.cell s0 (ns _ (by simp only; omega))
        replace s1 := o4.cell s1 (ns _ (by simp only; omega))
        replace f := o4.cell f (ns _ (by simp only; omega))
        replace BL := BL.trans (o4.lower (base := w.heap.size) (fun k hk => by have := (unhide HB).low k hk; omega) BL.size)
        clear sl zl
        clear o4 ns
        have HN := hide (cmpBR_no (m := m) (n := n) (G := G) (op := op) (L := L) (M := M) (fun h => hRb h.2.2.1))
        go_wp2_with fail
        refine (cmpB_any bb v aF op _ _ _ _ _ _ _ q1 f (by omega) (by omega)).mono ?_
        rintro e w4 ⟨rfl, rfl⟩
        go_wp2_with fail
        refine (toldB_any bb v _ _ _ _ q1).mono ?_
        rintro e wl ⟨rfl, bl⟩
        replace f0 := (bl.frozen (p := ⟨w.heap.size + 1, 0, none⟩) (World.block_lt_of_cell? _ _ s0)).trans f0
        replace f1 := (bl.frozen (p := ⟨w.heap.size + 1, 1, none⟩) (World.block_lt_of_cell? _ _ s1)).trans f1
        replace s0 := cell_later bl s0
        replace s1 := cell_later bl s1
        replace BL := BL.trans (bl.mono BL.size)
        clear bl
        have sl := World.block_lt_of_cell? _ _ s0
        have sl1 := World.block_lt_of_cell? _ _ s1
        simp only at sl sl1
        go_wp2
        refine bodyPost_ret (v := .tuple #[.agg #[.int .i64 0, .slice none 0 0], .int .i64 0]) (by simp [results, Tryd.results8, go_sem, s0, s1, sl]) rfl ?_
        rw [unhide HN]
        exact ⟨nil_IC _ _, (BL.trans ((mov2c wl (w.heap.size + 1) _ _).below (by omega) BL.size)).alloc (Nat.le_trans BL.size (mov2c wl (w.heap.size + 1) _ _).size) _⟩
    · have ns : ∀ k, k < wz.heap.size → ¬ S4 bb gb B g k := fun k h1 h2 => by have := (unhide HB).low k h2; omega
      have sl := World.block_lt_of_cell? _ _ s0
      have zl := World.block_lt_of_cell? _ _ f
      replace f0 := (o3.frozen (p := ⟨w.heap.size + 1, 0, none⟩) sl (ns _ (by simp only; omega))).trans f0
      replace f1 := (o3.frozen (p := ⟨w.heap.size + 1, 1, none⟩) sl (ns _ (by simp only; omega))).trans f1
      replace s0 := o3.cell s0 (ns _ (by simp only; omega))
      replace s1 := o3.cell s1 (ns _ (by simp only; omega))
      replace f := o3.cell f (ns _ (by simp only; omega))
      replace BL := BL.trans (o3.lower (base := w.heap.size) (fun k hk => by have := (unhide HB).low k hk; omega) BL.size)
      clear sl zl
      clear o3 ns
      have HN := hide (cmpBR_no (m := m) (n := n) (G := G) (op := op) (L := L) (M := M) (fun h => hRa h.2.1))
      go_wp2_with fail
      refine (takeB_any bb v aF _ nm _ _ q1 f hm).mono ?_
      rintro e w3 ⟨rfl, rfl⟩
      go_wp2_with fail
      refine (cmpB_any bb v aF op _ _ _ _ _ _ _ q1 f (by omega) (by omega)).mono ?_
      rintro e w3 ⟨rfl, rfl⟩
      go_wp2_with fail
      refine (toldB_any bb v _ _ _ _ q1).mono ?_
      rintro e wl ⟨rfl, bl⟩
      replace f0 := (bl.frozen (p := ⟨w.heap.size + 1, 0, none⟩) (World.block_lt_of_cell? _ _ s0)).trans f0
      replace f1 := (bl.frozen (p := ⟨w.heap.size + 1, 1, none⟩) (World.block_lt_of_cell? _ _ s1)).trans f1
      replace s0 := cell_later bl s0
      replace s1 := cell_later bl s1
      replace BL := BL.trans (bl.mono BL.size)
      clear bl
      have sl := World.block_lt_of_cell? _ _ s0
      have sl1 := World.block_lt_of_cell? _ _ s1
      simp only at sl sl1
      go_wp2
      refine bodyPost_ret (v := .tuple #[.agg #[.int .i64 0, .slice none 0 0], .int .i64 0]) (by simp [results, Tryd.results8, go_sem, s0, s1, sl]) rfl ?_
      rw [unhide HN]
      exact ⟨nil_IC _ _, (BL.trans ((mov2c wl (w.heap.size + 1) _ _).below (by omega) BL.size)).alloc (Nat.le_trans BL.size (mov2c wl (w.heap.size + 1) _ _).size) _⟩
  · replace f0 := (b1.frozen (p := ⟨w.heap.size + 1, 0, none⟩) (World.block_lt_of_cell? _ _ s0)).trans f0
    replace f1 := (b1.frozen (p := ⟨w.heap.size + 1, 1, none⟩) (World.block_lt_of_cell? _ _ s1)).trans f1
    replace s0 := cell_later b1 s0
    replace s1 := cell_later b1 s1
    replace f := cell_later b1 f
    replace BL := BL.trans (b1.mono BL.size)
    clear b1 p0 p1
    have HN := hide (cmpBR_no (m := m) (n := n) (G := G) (op := op) (L := L) (M := M) (fun h => by have := h.1; rw [hP] at this; cases this))
    go_wp2_with fail
    refine (takeB_any bb v aF _ nl _ _ q1 f hl).mono ?_
    rintro e w1 ⟨rfl, rfl⟩
    go_wp2_with fail
    refine (takeB_any bb v aF _ nm _ _ q1 f hm).mono ?_
    rintro e w1 ⟨rfl, rfl⟩
    go_wp2_with fail
    refine (cmpB_any bb v aF op _ _ _ _ _ _ _ q1 f (by omega) (by omega)).mono ?_
    rintro e w1 ⟨rfl, rfl⟩
    go_wp2_with fail
    refine (toldB_any bb v _ _ _ _ q1).mono ?_
    rintro e wl ⟨rfl, bl⟩
    replace f0 := (bl.frozen (p := ⟨w.heap.size + 1, 0, none⟩) (World.block_lt_of_cell? _ _ s0)).trans f0
    replace f1 := (bl.frozen (p := ⟨w.heap.size + 1, 1, none⟩) (World.block_lt_of_cell? _ _ s1)).trans f1
    replace s0 := cell_later bl s0
    replace s1 := cell_later bl s1
    replace BL := BL.trans (bl.mono BL.size)
    clear bl
    have sl := World.block_lt_of_cell? _ _ s0
    have sl1 := World.block_lt_of_cell? _ _ s1
    simp only at sl sl1
    go_wp2
    refine bodyPost_ret (v := .tuple #[.agg #[.int .i64 0, .slice none 0 0], .int .i64 0]) (by simp [results, Tryd.results8, go_sem, s0, s1, sl]) rfl ?_
    rw [unhide HN]
    exact ⟨nil_IC _ _, (BL.trans ((mov2c wl (w.heap.size + 1) _ _).below (by omega) BL.size)).alloc (Nat.le_trans BL.size (mov2c wl (w.heap.size + 1) _ _).size) _⟩
end Go.Proofs.YtnjjobompjoigaaDoor
