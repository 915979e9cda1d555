/- What is asked of two numbers, of the model. -/
import Derived.Test.YtnjjobompjoigaaDoorCpS
import Derived.Test.YtnjjobompjoigaaDoorCpA
namespace Go.Proofs.YtnjjobompjoigaaDoor
open Go.ChangeShapes Go.WideShapes Go.ChangeAt Go.RowKit Go.Joins
set_option linter.unusedVariables false
set_option maxRecDepth 100000
set_option linter.unusedSimpArgs false

theorem World.lt_of_heap {w : World} {g : Nat} {o : Obj} (h : w.heap[g]? = some o) : g < w.heap.size := (Array.getElem?_eq_some_iff.1 h).1
theorem KI.later {w wr w' : World} {s : KS} {ad ga : Option Addr} {gc : Nat} (h : KI w wr s ad ga gc) (hb : Below wr.heap.size wr w') : KI w w' s ad ga gc :=
  ⟨h.k.later hb, fun o => (hb.frozen (p := ⟨w.heap.size, o, none⟩) h.k.lt).trans (h.kf o), h.i.later hb, h.pl, cell_later hb h.s0, cell_later hb h.s1, cell_later hb h.s2, fun o => (hb.frozen (p := ⟨w.heap.size + 1, o, none⟩) (show w.heap.size + 1 < wr.heap.size from World.block_lt_of_cell? _ _ h.s0)).trans (h.sf o), Nat.le_trans h.lo hb.size, h.be.trans (hb.mono h.be.size)⟩
set_option maxRecDepth 100000 in
set_option maxHeartbeats 4000000 in
theorem l7Cmp_any (s : KS) (ad : Option Addr) (cap : Nat) (op : Int) (la : Option Addr) (nl cl : Nat) (L : List Int) (lb : Option Addr) (cm : Nat) (M : List Int) (w : World) (hk : KOk s) (hi : KIn w s ad cap) (o1 : 15 ≤ op) (o2 : op ≤ 17) (hdL : IntsAt w la nl (at0 L)) (hdM : IntsAt w lb nl (at0 M)) (hL : L.length = nl) (hM : M.length = nl) (h1 : 1 ≤ nl) (hl : nl ≤ 100) (hcl : nl ≤ cl) (hcm : nl ≤ cm) (mL : MkL s L) (mM : MkL s M) :
    Calls Tryd.prog 17 #[.agg #[.int .i64 s.m, .slice ad s.n cap, .bool s.ok], .int .i64 op, .slice la nl cl, .slice lb nl cm] w fun e w' => KPost (cmpK 1 op s L M) ad w.heap.size e w' ∧ Below w.heap.size w w' := by
  obtain ⟨wz, hwz⟩ : ∃ wz, wz = (w.alloc (.cells #[.int .i64 s.m, .slice ad s.n cap, .bool s.ok] 43)).alloc (.cells #[.int .i64 0, .slice none 0 0, .bool false] 43) := ⟨_, rfl⟩
  have BZ : Below w.heap.size w wz := by rw [hwz]; exact ((Below.refl _ _).alloc (Nat.le_refl _) _).alloc (by simp) _
  have h0 : KI w wz s ad ad cap := ⟨by rw [hwz]; exact ⟨by simp [go_sem], by simp [go_sem], by simp [go_sem]⟩, fun o => by rw [hwz]; simp [go_sem], hi.later BZ, Pl.refl _ _, by rw [hwz]; simp [go_sem], by rw [hwz]; simp [go_sem], by rw [hwz]; simp [go_sem], fun o => by rw [hwz]; simp [go_sem], by rw [hwz]; simp, BZ⟩
  have HK := hide hk
  have HI := hide hi
  have HDL := hide (hdL.later BZ)
  have HDM := hide (hdM.later BZ)
  have HL := hide hL
  have HM := hide hM
  have HmL := hide mL
  have HmM := hide mM
  have HZ0 := hide hwz
  have H0 := hide h0
  clear hk hi hdL hdM hL hM mL mM hwz BZ
  obtain ⟨⟨kp0, kp1, kp2⟩, kf, _, _, s0, s1, s2, sf, lo, _⟩ := h0
  have kq0 := kf 0
  have kq1 := kf 1
  have kq2 := kf 2
  have f0 := sf 0
  have f1 := sf 1
  have f2 := sf 2
  clear kf sf
  have lo9 := lo
  by_cases e15 : op = 15
  · subst e15
    rw [show cmpK 1 15 s L M = foldK (sameR 1) s 1 L M nl from by rw [← unhide HL]; rfl]
    obtain ⟨u, hu⟩ : ∃ u, u = foldK (sameR 1) s 1 L M nl := ⟨_, rfl⟩
    rw [← hu]
    have HU := hide hu
    clear hu
    go_enter Tryd.func17, Tryd.ntmps17
    go_wp2_with fail
    rw [← unhide HZ0]
    clear kp0 kp1 kp2 kq0 kq1 kq2 s0 s1 s2 f0 f1 f2
    have HC := hide (l7Same_any s ad cap la nl cl L lb cm M wz (unhide HK) (unhide H0).i (unhide HDL) (unhide HDM) (unhide HL) (unhide HM) hl (unhide HmL) (unhide HmM))
    rw [← unhide HU] at HC
    refine (unhide HC).mono ?_
    rintro e w5 ⟨⟨a5, c5, rfl, hi5, pl5⟩, b5⟩
    have hI5 := KI.later (unhide H0) b5
    obtain ⟨⟨kp0, kp1, kp2⟩, _, _, _, s0, s1, s2, sf, lo, be⟩ := hI5
    have f0 := sf 0
    have f1 := sf 1
    have f2 := sf 2
    have HI5 := hide hi5
    have HPL := hide (Pl.mono (b := w.heap.size + 2) pl5 (by first | exact lo9 | exact Nat.le_trans lo9 (unhide HB).size))
    clear hi5 pl5 b5
    go_wp2
    refine bodyPost_ret (v := .tuple #[.agg #[.int .i64 u.1.m, .slice a5 u.1.n c5, .bool u.1.ok], .int .i64 u.2]) (by simp [results, Tryd.results17, go_sem, s0, s1, s2]) rfl ?_
    have mv := mov3 w5 (w.heap.size + 1) (.int .i64 u.1.m) (.slice a5 u.1.n c5) (.bool u.1.ok)
    exact ⟨⟨a5, c5, rfl, (unhide HI5).mov ((unhide HPL).apart (unhide HI).2.2.2 (by omega) (by omega)) mv, (unhide HPL).mono (by omega)⟩, bel3 be (by omega) _ _ _⟩
  · by_cases e16 : op = 16
    · subst e16
      rw [show cmpK 1 16 s L M = foldK (lessR 1) s (-1) L M nl from by rw [← unhide HL]; rfl]
      obtain ⟨u, hu⟩ : ∃ u, u = foldK (lessR 1) s (-1) L M nl := ⟨_, rfl⟩
      rw [← hu]
      have HU := hide hu
      clear hu
      go_enter Tryd.func17, Tryd.ntmps17
      go_wp2_with fail
      rw [← unhide HZ0]
      clear kp0 kp1 kp2 kq0 kq1 kq2 s0 s1 s2 f0 f1 f2
      have HC := hide (l7Less_any s ad cap la nl cl L lb cm M wz (unhide HK) (unhide H0).i (unhide HDL) (unhide HDM) (unhide HL) (unhide HM) hl (unhide HmL) (unhide HmM))
      rw [← unhide HU] at HC
      refine (unhide HC).mono ?_
      rintro e w5 ⟨⟨a5, c5, rfl, hi5, pl5⟩, b5⟩
      have hI5 := KI.later (unhide H0) b5
      obtain ⟨⟨kp0, kp1, kp2⟩, _, _, _, s0, s1, s2, sf, lo, be⟩ := hI5
      have f0 := sf 0
      have f1 := sf 1
      have f2 := sf 2
      have HI5 := hide hi5
      have HPL := hide (Pl.mono (b := w.heap.size + 2) pl5 (by first | exact lo9 | exact Nat.le_trans lo9 (unhide HB).size))
      clear hi5 pl5 b5
      go_wp2
      refine bodyPost_ret (v := .tuple #[.agg #[.int .i64 u.1.m, .slice a5 u.1.n c5, .bool u.1.ok], .int .i64 u.2]) (by simp [results, Tryd.results17, go_sem, s0, s1, s2]) rfl ?_
      have mv := mov3 w5 (w.heap.size + 1) (.int .i64 u.1.m) (.slice a5 u.1.n c5) (.bool u.1.ok)
      exact ⟨⟨a5, c5, rfl, (unhide HI5).mov ((unhide HPL).apart (unhide HI).2.2.2 (by omega) (by omega)) mv, (unhide HPL).mono (by omega)⟩, bel3 be (by omega) _ _ _⟩
    · obtain rfl : op = 17 := by omega
      obtain ⟨q, rfl⟩ : ∃ q, nl = q + 1 := ⟨nl - 1, by omega⟩
      have hki : ((q + 1 : Nat) : Int) - 1 = (q : Int) := by omega
      have hwi : IntKind.i64.wrap (q : Int) = (q : Int) := by rw [IntKind.wrap_i64]; omega
      obtain ⟨bL, oL, rfl, lL, dL⟩ := (unhide HDL).resolve_left (by omega)
      obtain ⟨bM, oM, rfl, lM, dM⟩ := (unhide HDM).resolve_left (by omega)
      have wtL : ∀ i, i < q + 1 → wz.cell? ⟨bL, oL + i, none⟩ = some (.int .i64 (at0 L i)) ∧ bL < wz.heap.size := fun i hi => ⟨dL i hi, lL⟩
      have wtM : ∀ i, i < q + 1 → wz.cell? ⟨bM, oM + i, none⟩ = some (.int .i64 (at0 M i)) ∧ bM < wz.heap.size := fun i hi => ⟨dM i hi, lM⟩
      have lnL := unhide HL
      have lnM := unhide HM
      have tkL : (List.take q L).length = q := by rw [List.length_take]; omega
      have tkM : (List.take q M).length = q := by rw [List.length_take]; omega
      have e17 : cmpK 1 17 s L M = foldK (lessR 1) s (-1) (topL L M) (topL M L) (q + 1) := by rw [← lnL]; rfl
      have HTL : Hid (List.take q L ++ [at0 M q] = topL L M) := by show _ = _; unfold topL; rw [lnL]; rfl
      have HTM : Hid (List.take q M ++ [at0 L q] = topL M L) := by show _ = _; unfold topL; rw [lnM]; rfl
      have HGL : Hid ((topL L M).length = q + 1 ∧ (topL M L).length = q + 1 ∧ MkL s (topL L M) ∧ MkL s (topL M L)) := ⟨(topL_len (by omega)).trans lnL, (topL_len (by omega)).trans lnM, (unhide HmL).top (unhide HmM) (by omega) (by omega), (unhide HmM).top (unhide HmL) (by omega) (by omega)⟩
      obtain ⟨ya, hya⟩ : ∃ y, y = at0 M q := ⟨_, rfl⟩
      obtain ⟨yb, hyb⟩ : ∃ y, y = at0 L q := ⟨_, rfl⟩
      have dy : wz.cell? ⟨bM, oM + q, none⟩ = some (.int .i64 ya) := by rw [hya]; exact (wtM q (by omega)).1
      have HYB : Hid (wz.cell? ⟨bL, oL + q, none⟩ = some (.int .i64 yb)) := by rw [hyb]; exact (wtL q (by omega)).1
      rw [← hya] at HTL
      rw [← hyb] at HTM
      clear hya hyb dL dM
      rw [e17]
      obtain ⟨u, hu⟩ : ∃ u, u = foldK (lessR 1) s (-1) (topL L M) (topL M L) (q + 1) := ⟨_, rfl⟩
      rw [← hu]
      have HU := hide hu
      clear hu
      have hqa : q ≤ cl := by omega
      have hqb : q ≤ cm := by omega
      have hqi : (q : Int) < (q : Int) + 1 := by omega
      go_enter Tryd.func17, Tryd.ntmps17
      go_wp2_with fail
      rw [← unhide HZ0]
      clear kp0 kp1 kp2 kq0 kq1 kq2 s0 s1 s2 f0 f1 f2
      try simp only [hki, hwi]
      refine wp_region_held_drew (S := fun w' => w'.cell? ⟨bM, oM + q, none⟩ = some (.int .i64 ya)) (by kernel_rfl) ?_ (fun hHeld => ?_)
      · exact dy
      obtain ⟨wda, hwda⟩ : ∃ x, x = wz.drew := ⟨_, rfl⟩
      have HBa : Hid (Below wz.heap.size wz wda) := by show _; rw [hwda]; exact (Below.refl _ _).drew
      replace dy : wda.cell? ⟨bM, oM + q, none⟩ = some (.int .i64 ya) := by rw [hwda]; exact dy
      rw [← hwda]
      clear hwda
      refine wpAnyH_take (i := 1) (v := ?_) rfl (by kernel_rfl) (by kernel_rfl) (by kernel_rfl) (fun _ _ _ h => h) (Or.inl ⟨by rfl, ?_⟩) (by assumption) ?_
      rotate_left
      · (intro w hSw; (try dsimp only at hSw); first | (go_simp; done) | (go_simp; with_reducible rfl))
      try simp only [List.getElem_toArray, List.getElem_cons_succ, List.getElem_cons_zero, Act.put, List.setIfInBounds_toArray, List.set_cons_zero, List.set_cons_succ]
      refine wpAnyH_take (i := 2) (v := ?_) rfl (by kernel_rfl) (by kernel_rfl) (by kernel_rfl) (fun _ _ _ h => h) (Or.inl ⟨by rfl, ?_⟩) (by assumption) ?_
      rotate_left
      · (intro w hSw; (try dsimp only at hSw); first | (go_simp; done) | (go_simp; with_reducible rfl))
      try simp only [List.getElem_toArray, List.getElem_cons_succ, List.getElem_cons_zero, Act.put, List.setIfInBounds_toArray, List.set_cons_zero, List.set_cons_succ]
      refine wpAnyH_take (i := 3) (v := ?_) rfl (by kernel_rfl) (by kernel_rfl) (by kernel_rfl) (fun _ _ _ h => h) (Or.inl ⟨by rfl, ?_⟩) (by assumption) ?_
      rotate_left
      · (intro w hSw; (try dsimp only at hSw); first | (go_simp; done) | (go_simp; with_reducible rfl))
      try simp only [List.getElem_toArray, List.getElem_cons_succ, List.getElem_cons_zero, Act.put, List.setIfInBounds_toArray, List.set_cons_zero, List.set_cons_succ]
      refine wpAnyH_take (i := 5) (v := ?_) rfl (by kernel_rfl) (by kernel_rfl) (by kernel_rfl) (fun _ _ _ h => h) (Or.inl ⟨by rfl, ?_⟩) (by assumption) ?_
      rotate_left
      · (intro w hSw; (try dsimp only at hSw); first | (go_simp; done) | (go_simp; with_reducible rfl))
      try simp only [List.getElem_toArray, List.getElem_cons_succ, List.getElem_cons_zero, Act.put, List.setIfInBounds_toArray, List.set_cons_zero, List.set_cons_succ]
      refine wpAnyH_take (i := 6) (v := ?_) rfl (by kernel_rfl) (by kernel_rfl) (by kernel_rfl) (fun _ _ _ h => h) (Or.inl ⟨by rfl, ?_⟩) (by assumption) ?_
      rotate_left
      · (intro w hSw; (try dsimp only at hSw); first | (go_simp; done) | (go_simp; with_reducible rfl))
      try simp only [List.getElem_toArray, List.getElem_cons_succ, List.getElem_cons_zero, Act.put, List.setIfInBounds_toArray, List.set_cons_zero, List.set_cons_succ]
      refine wpAnyH_take (i := 7) (v := ?_) rfl (by kernel_rfl) (by kernel_rfl) (by kernel_rfl) (fun _ _ _ h => h) (Or.inl ⟨by rfl, ?_⟩) (by assumption) ?_
      rotate_left
      · (intro w hSw; (try dsimp only at hSw); first | (go_simp; done) | (go_simp; with_reducible rfl))
      try simp only [List.getElem_toArray, List.getElem_cons_succ, List.getElem_cons_zero, Act.put, List.setIfInBounds_toArray, List.set_cons_zero, List.set_cons_succ]
      refine wpAnyH_take (i := 8) (v := ?_) rfl (by kernel_rfl) (by kernel_rfl) (by kernel_rfl) (fun _ _ _ h => h) (Or.inl ⟨by rfl, ?_⟩) (by assumption) ?_
      rotate_left
      · (intro w hSw; (try dsimp only at hSw); first | (go_simp; done) | (go_simp; with_reducible rfl))
      try simp only [List.getElem_toArray, List.getElem_cons_succ, List.getElem_cons_zero, Act.put, List.setIfInBounds_toArray, List.set_cons_zero, List.set_cons_succ]
      refine wpAnyH_ready (rs := [0, 9]) (by kernel_rfl) (by simp) ?_
      refine AllReadyH.cons rfl (fun K hK => ?_) (AllReadyH.cons rfl (fun K hK => ?_) AllReadyH.nil)
      · go_simp
        obtain ⟨v0a, hv0a⟩ : ∃ x, x = wda.alloc (.cells #[] 3) := ⟨_, rfl⟩
        have b0 : Below wda.heap.size wda v0a := by rw [hv0a]; exact (Below.refl _ _).alloc (Nat.le_refl _) _
        have l0 : wda.heap.size < v0a.heap.size := by rw [hv0a]; simp
        have lz0 : wz.heap.size ≤ wda.heap.size := (unhide HBa).size
        have HXa : Hid (v0a.ownsRow wz.heap.size 3 1 (.slice (some ⟨wda.heap.size, 0, none⟩) 0 0) 0 (icells [])) := by rw [hv0a]; exact own_mono (own_new wda 3 1) lz0
        have HBa := hide ((unhide HBa).trans (b0.mono (unhide HBa).size))
        replace dy := cell_later b0 dy
        rw [← hv0a]
        obtain ⟨Xa, hXa⟩ : ∃ x, x = wda.heap.size := ⟨_, rfl⟩
        rw [← hXa] at HXa  ⊢
        have lxa : wz.heap.size ≤ Xa ∧ Xa < v0a.heap.size := by omega
        clear hv0a b0 l0 lz0 hXa
        refine hK.out _ _ ?_ (fun hHeld => ?_)
        · exact dy
        clear hK K
        try simp only [List.getElem_toArray, List.getElem_cons_succ, List.getElem_cons_zero, Act.put, List.setIfInBounds_toArray, List.set_cons_zero, List.set_cons_succ]
        refine wpAnyH_ready (rs := [4, 9]) (by kernel_rfl) (by simp) ?_
        refine AllReadyH.cons rfl (fun K hK => ?_) (AllReadyH.cons rfl (fun K hK => ?_) AllReadyH.nil)
        · apply step_ints (hT := lsInt) (L := []) (M := List.take q L) (base := wz.heap.size)
          case hgd => rfl
          case ho => rfl
          case hs => rfl
          case hown => exact unhide HXa
          case hbase => exact (unhide HBa).size
          case hx => rfl
          case hM => exact tkL
          case hi => exact fun i hi => (by rw [at0_take hi (by rw [lnL]; omega)]; exact ((unhide HBa).cell (p := ⟨bL, oL + i, none⟩) (wtL i (by omega)).2).trans (wtL i (by omega)).1)
          case hl => omega
          case' h => intro ga ca v4a o4 gr4 at4 lt4
          simp only [Nat.zero_add, List.nil_append] at o4 ⊢
          have HOa := hide o4
          have HBa := hide ((unhide HBa).trans ((mov_of_grown gr4).below lxa.1 (unhide HBa).size))
          replace dy := (mov_of_grown gr4).cell dy (by have := lxa.1; simp only; omega)
          clear o4 gr4 at4 lt4 HXa lxa
          refine hK.out _ _ ?_ (fun hHeld => ?_)
          · exact dy
          clear hK K
          try simp only [List.getElem_toArray, List.getElem_cons_succ, List.getElem_cons_zero, Act.put, List.setIfInBounds_toArray, List.set_cons_zero, List.set_cons_succ]
          refine wpAnyH_ready (rs := [9]) (by kernel_rfl) (by simp) ?_
          refine AllReadyH.cons rfl (fun K hK => ?_) AllReadyH.nil
          go_simp
          obtain ⟨v9a, hv9a⟩ : ∃ x, x = v4a.alloc (.cells #[.int .i64 ya] 3) := ⟨_, rfl⟩
          have b9 : Below v4a.heap.size v4a v9a := by rw [hv9a]; exact (Below.refl _ _).alloc (Nat.le_refl _) _
          have l9 : v4a.heap.size < v9a.heap.size := by rw [hv9a]; simp
          have lz9 : wz.heap.size ≤ v4a.heap.size := (unhide HBa).size
          have HZa : Hid (Ints v9a v4a.heap.size 0 1 (at0 [ya])) := fun i hi => by (obtain rfl : i = 0 := by omega); rw [hv9a]; simp [go_sem, at0]
          have nza : v4a.heap.size ≠ ga := by have := (own_cap (unhide HOa)).2; omega
          have HOa := hide (World.ownsRow.kept (w' := v9a) (unhide HOa) (grown_below b9) (by simp [Value.ownBlock]))
          have HBa := hide ((unhide HBa).trans (b9.mono (unhide HBa).size))
          replace dy := cell_later b9 dy
          rw [← hv9a]
          obtain ⟨Za, hZa⟩ : ∃ x, x = v4a.heap.size := ⟨_, rfl⟩
          rw [← hZa] at HZa nza ⊢
          have lZa : Za < v9a.heap.size := by omega
          clear hv9a b9 l9 lz9 hZa
          refine hK.out _ _ ?_ (fun hHeld => ?_)
          · exact dy
          clear hK K
          try simp only [List.getElem_toArray, List.getElem_cons_succ, List.getElem_cons_zero, Act.put, List.setIfInBounds_toArray, List.set_cons_zero, List.set_cons_succ]
          refine wpAnyH_ready (rs := [10]) (by kernel_rfl) (by simp) ?_
          refine AllReadyH.cons rfl (fun K hK => ?_) AllReadyH.nil
          apply step_ints (hT := lsInt) (L := List.take q L) (M := [ya]) (base := wz.heap.size)
          case hgd => rfl
          case ho => rfl
          case hs => rfl
          case hown => exact unhide HOa
          case hbase => exact (unhide HBa).size
          case hx => rfl
          case hM => rfl
          case hi => exact unhide HZa
          case hl => omega
          case' h => intro Ga Ca v10a o10 gr10 at10 lt10
          have lg := own_base (unhide HOa)
          have HRa := hide o10
          have HBa := hide ((unhide HBa).trans ((mov_of_grown gr10).below lg (unhide HBa).size))
          replace dy := (mov_of_grown gr10).cell dy (by simp only; omega)
          clear o10 gr10 at10 lt10 lg HOa HZa nza lZa
          refine hK.out _ _ ?_ (fun hHeld => ?_)
          · exact dy
          clear hK K
          try simp only [List.getElem_toArray, List.getElem_cons_succ, List.getElem_cons_zero, Act.put, List.setIfInBounds_toArray, List.set_cons_zero, List.set_cons_succ]
          refine wpAnyH_ready (rs := [11]) (by kernel_rfl) (by simp) ?_
          refine AllReadyH.cons rfl (fun K hK => ?_) AllReadyH.nil
          go_simp
          refine hK.out _ _ ?_ (fun hHeld => ?_)
          · exact dy
          clear hK K
          try simp only [List.getElem_toArray, List.getElem_cons_succ, List.getElem_cons_zero, Act.put, List.setIfInBounds_toArray, List.set_cons_zero, List.set_cons_succ]
          refine wpAnyH_done (by kernel_rfl) ?_ _
          clear dy
          have lLb : bL < v10a.heap.size := Nat.lt_of_lt_of_le lL (unhide HBa).size
          have dy := ((unhide HBa).cell (p := ⟨bL, oL + q, none⟩) (wtL q (by omega)).2).trans (unhide HYB)
          have wtM2 : ∀ i, i < q + 1 → v10a.cell? ⟨bM, oM + i, none⟩ = some (.int .i64 (at0 M i)) ∧ bM < v10a.heap.size := fun i hi => ⟨((unhide HBa).cell (p := ⟨bM, oM + i, none⟩) (wtM i hi).2).trans (wtM i hi).1, Nat.lt_of_lt_of_le (wtM i hi).2 (unhide HBa).size⟩
          go_wp2
          refine wp_region_held_drew (S := fun w' => w'.cell? ⟨bL, oL + q, none⟩ = some (.int .i64 yb)) (by kernel_rfl) ?_ (fun hHeld => ?_)
          · exact dy
          obtain ⟨wdb, hwdb⟩ : ∃ x, x = v10a.drew := ⟨_, rfl⟩
          have HBb : Hid (Below v10a.heap.size v10a wdb) := by show _; rw [hwdb]; exact (Below.refl _ _).drew
          replace dy : wdb.cell? ⟨bL, oL + q, none⟩ = some (.int .i64 yb) := by rw [hwdb]; exact dy
          rw [← hwdb]
          clear hwdb
          refine wpAnyH_take (i := 1) (v := ?_) rfl (by kernel_rfl) (by kernel_rfl) (by kernel_rfl) (fun _ _ _ h => h) (Or.inl ⟨by rfl, ?_⟩) (by assumption) ?_
          rotate_left
          · (intro w hSw; (try dsimp only at hSw); first | (go_simp; done) | (go_simp; with_reducible rfl))
          try simp only [List.getElem_toArray, List.getElem_cons_succ, List.getElem_cons_zero, Act.put, List.setIfInBounds_toArray, List.set_cons_zero, List.set_cons_succ]
          refine wpAnyH_take (i := 2) (v := ?_) rfl (by kernel_rfl) (by kernel_rfl) (by kernel_rfl) (fun _ _ _ h => h) (Or.inl ⟨by rfl, ?_⟩) (by assumption) ?_
          rotate_left
          · (intro w hSw; (try dsimp only at hSw); first | (go_simp; done) | (go_simp; with_reducible rfl))
          try simp only [List.getElem_toArray, List.getElem_cons_succ, List.getElem_cons_zero, Act.put, List.setIfInBounds_toArray, List.set_cons_zero, List.set_cons_succ]
          refine wpAnyH_take (i := 3) (v := ?_) rfl (by kernel_rfl) (by kernel_rfl) (by kernel_rfl) (fun _ _ _ h => h) (Or.inl ⟨by rfl, ?_⟩) (by assumption) ?_
          rotate_left
          · (intro w hSw; (try dsimp only at hSw); first | (go_simp; done) | (go_simp; with_reducible rfl))
          try simp only [List.getElem_toArray, List.getElem_cons_succ, List.getElem_cons_zero, Act.put, List.setIfInBounds_toArray, List.set_cons_zero, List.set_cons_succ]
          refine wpAnyH_take (i := 5) (v := ?_) rfl (by kernel_rfl) (by kernel_rfl) (by kernel_rfl) (fun _ _ _ h => h) (Or.inl ⟨by rfl, ?_⟩) (by assumption) ?_
          rotate_left
          · (intro w hSw; (try dsimp only at hSw); first | (go_simp; done) | (go_simp; with_reducible rfl))
          try simp only [List.getElem_toArray, List.getElem_cons_succ, List.getElem_cons_zero, Act.put, List.setIfInBounds_toArray, List.set_cons_zero, List.set_cons_succ]
          refine wpAnyH_take (i := 6) (v := ?_) rfl (by kernel_rfl) (by kernel_rfl) (by kernel_rfl) (fun _ _ _ h => h) (Or.inl ⟨by rfl, ?_⟩) (by assumption) ?_
          rotate_left
          · (intro w hSw; (try dsimp only at hSw); first | (go_simp; done) | (go_simp; with_reducible rfl))
          try simp only [List.getElem_toArray, List.getElem_cons_succ, List.getElem_cons_zero, Act.put, List.setIfInBounds_toArray, List.set_cons_zero, List.set_cons_succ]
          refine wpAnyH_take (i := 7) (v := ?_) rfl (by kernel_rfl) (by kernel_rfl) (by kernel_rfl) (fun _ _ _ h => h) (Or.inl ⟨by rfl, ?_⟩) (by assumption) ?_
          rotate_left
          · (intro w hSw; (try dsimp only at hSw); first | (go_simp; done) | (go_simp; with_reducible rfl))
          try simp only [List.getElem_toArray, List.getElem_cons_succ, List.getElem_cons_zero, Act.put, List.setIfInBounds_toArray, List.set_cons_zero, List.set_cons_succ]
          refine wpAnyH_take (i := 8) (v := ?_) rfl (by kernel_rfl) (by kernel_rfl) (by kernel_rfl) (fun _ _ _ h => h) (Or.inl ⟨by rfl, ?_⟩) (by assumption) ?_
          rotate_left
          · (intro w hSw; (try dsimp only at hSw); first | (go_simp; done) | (go_simp; with_reducible rfl))
          try simp only [List.getElem_toArray, List.getElem_cons_succ, List.getElem_cons_zero, Act.put, List.setIfInBounds_toArray, List.set_cons_zero, List.set_cons_succ]
          refine wpAnyH_ready (rs := [0, 9]) (by kernel_rfl) (by simp) ?_
          refine AllReadyH.cons rfl (fun K hK => ?_) (AllReadyH.cons rfl (fun K hK => ?_) AllReadyH.nil)
          · go_simp
            obtain ⟨v0b, hv0b⟩ : ∃ x, x = wdb.alloc (.cells #[] 3) := ⟨_, rfl⟩
            have b0 : Below wdb.heap.size wdb v0b := by rw [hv0b]; exact (Below.refl _ _).alloc (Nat.le_refl _) _
            have l0 : wdb.heap.size < v0b.heap.size := by rw [hv0b]; simp
            have lz0 : v10a.heap.size ≤ wdb.heap.size := (unhide HBb).size
            have HXb : Hid (v0b.ownsRow v10a.heap.size 3 1 (.slice (some ⟨wdb.heap.size, 0, none⟩) 0 0) 0 (icells [])) := by rw [hv0b]; exact own_mono (own_new wdb 3 1) lz0
            have HBb := hide ((unhide HBb).trans (b0.mono (unhide HBb).size))
            replace dy := cell_later b0 dy
            rw [← hv0b]
            obtain ⟨Xb, hXb⟩ : ∃ x, x = wdb.heap.size := ⟨_, rfl⟩
            rw [← hXb] at HXb  ⊢
            have lxb : v10a.heap.size ≤ Xb ∧ Xb < v0b.heap.size := by omega
            clear hv0b b0 l0 lz0 hXb
            refine hK.out _ _ ?_ (fun hHeld => ?_)
            · exact dy
            clear hK K
            try simp only [List.getElem_toArray, List.getElem_cons_succ, List.getElem_cons_zero, Act.put, List.setIfInBounds_toArray, List.set_cons_zero, List.set_cons_succ]
            refine wpAnyH_ready (rs := [4, 9]) (by kernel_rfl) (by simp) ?_
            refine AllReadyH.cons rfl (fun K hK => ?_) (AllReadyH.cons rfl (fun K hK => ?_) AllReadyH.nil)
            · apply step_ints (hT := lsInt) (L := []) (M := List.take q M) (base := v10a.heap.size)
              case hgd => rfl
              case ho => rfl
              case hs => rfl
              case hown => exact unhide HXb
              case hbase => exact (unhide HBb).size
              case hx => rfl
              case hM => exact tkM
              case hi => exact fun i hi => (by rw [at0_take hi (by rw [lnM]; omega)]; exact ((unhide HBb).cell (p := ⟨bM, oM + i, none⟩) (wtM2 i (by omega)).2).trans (wtM2 i (by omega)).1)
              case hl => omega
              case' h => intro gb cb v4b o4 gr4 at4 lt4
              simp only [Nat.zero_add, List.nil_append] at o4 ⊢
              have HOb := hide o4
              have HBb := hide ((unhide HBb).trans ((mov_of_grown gr4).below lxb.1 (unhide HBb).size))
              replace dy := (mov_of_grown gr4).cell dy (by have := lxb.1; simp only; omega)
              clear o4 gr4 at4 lt4 HXb lxb
              refine hK.out _ _ ?_ (fun hHeld => ?_)
              · exact dy
              clear hK K
              try simp only [List.getElem_toArray, List.getElem_cons_succ, List.getElem_cons_zero, Act.put, List.setIfInBounds_toArray, List.set_cons_zero, List.set_cons_succ]
              refine wpAnyH_ready (rs := [9]) (by kernel_rfl) (by simp) ?_
              refine AllReadyH.cons rfl (fun K hK => ?_) AllReadyH.nil
              go_simp
              obtain ⟨v9b, hv9b⟩ : ∃ x, x = v4b.alloc (.cells #[.int .i64 yb] 3) := ⟨_, rfl⟩
              have b9 : Below v4b.heap.size v4b v9b := by rw [hv9b]; exact (Below.refl _ _).alloc (Nat.le_refl _) _
              have l9 : v4b.heap.size < v9b.heap.size := by rw [hv9b]; simp
              have lz9 : v10a.heap.size ≤ v4b.heap.size := (unhide HBb).size
              have HZb : Hid (Ints v9b v4b.heap.size 0 1 (at0 [yb])) := fun i hi => by (obtain rfl : i = 0 := by omega); rw [hv9b]; simp [go_sem, at0]
              have nzb : v4b.heap.size ≠ gb := by have := (own_cap (unhide HOb)).2; omega
              have HOb := hide (World.ownsRow.kept (w' := v9b) (unhide HOb) (grown_below b9) (by simp [Value.ownBlock]))
              have HBb := hide ((unhide HBb).trans (b9.mono (unhide HBb).size))
              replace dy := cell_later b9 dy
              rw [← hv9b]
              obtain ⟨Zb, hZb⟩ : ∃ x, x = v4b.heap.size := ⟨_, rfl⟩
              rw [← hZb] at HZb nzb ⊢
              have lZb : Zb < v9b.heap.size := by omega
              clear hv9b b9 l9 lz9 hZb
              refine hK.out _ _ ?_ (fun hHeld => ?_)
              · exact dy
              clear hK K
              try simp only [List.getElem_toArray, List.getElem_cons_succ, List.getElem_cons_zero, Act.put, List.setIfInBounds_toArray, List.set_cons_zero, List.set_cons_succ]
              refine wpAnyH_ready (rs := [10]) (by kernel_rfl) (by simp) ?_
              refine AllReadyH.cons rfl (fun K hK => ?_) AllReadyH.nil
              apply step_ints (hT := lsInt) (L := List.take q M) (M := [yb]) (base := v10a.heap.size)
              case hgd => rfl
              case ho => rfl
              case hs => rfl
              case hown => exact unhide HOb
              case hbase => exact (unhide HBb).size
              case hx => rfl
              case hM => rfl
              case hi => exact unhide HZb
              case hl => omega
              case' h => intro Gb Cb v10b o10 gr10 at10 lt10
              have lg := own_base (unhide HOb)
              have HRb := hide o10
              have HBb := hide ((unhide HBb).trans ((mov_of_grown gr10).below lg (unhide HBb).size))
              replace dy := (mov_of_grown gr10).cell dy (by simp only; omega)
              clear o10 gr10 at10 lt10 lg HOb HZb nzb lZb
              refine hK.out _ _ ?_ (fun hHeld => ?_)
              · exact dy
              clear hK K
              try simp only [List.getElem_toArray, List.getElem_cons_succ, List.getElem_cons_zero, Act.put, List.setIfInBounds_toArray, List.set_cons_zero, List.set_cons_succ]
              refine wpAnyH_ready (rs := [11]) (by kernel_rfl) (by simp) ?_
              refine AllReadyH.cons rfl (fun K hK => ?_) AllReadyH.nil
              go_simp
              refine hK.out _ _ ?_ (fun hHeld => ?_)
              · exact dy
              clear hK K
              try simp only [List.getElem_toArray, List.getElem_cons_succ, List.getElem_cons_zero, Act.put, List.setIfInBounds_toArray, List.set_cons_zero, List.set_cons_succ]
              refine wpAnyH_done (by kernel_rfl) ?_ _
              clear dy
              have HRa2 := hide (World.ownsRow.kept (w' := v10b) (unhide HRa) (grown_below (unhide HBb)) (by simp [Value.ownBlock]))
              have HB := hide ((unhide HBa).trans ((unhide HBb).mono (unhide HBa).size))
              have hIw := KI.later (unhide H0) (unhide HB)
              obtain ⟨kp0, kp1, kp2⟩ := hIw.k
              have kq0 := hIw.kf 0
              have kq1 := hIw.kf 1
              have kq2 := hIw.kf 2
              have HIW := hide hIw
              clear hIw
              go_wp2_with fail
              clear kp0 kp1 kp2 kq0 kq1 kq2
              have HC := hide (l7Less_any s ad cap (some ⟨Ga, 0, none⟩) (q + 1) Ca (topL L M) (some ⟨Gb, 0, none⟩) Cb (topL M L) v10b (unhide HK) (unhide HIW).i (own_at (by rw [← unhide HTL]; exact unhide HRa2)) (own_at (by rw [← unhide HTM]; exact unhide HRb)) (unhide HGL).1 (unhide HGL).2.1 hl (unhide HGL).2.2.1 (unhide HGL).2.2.2)
              rw [← unhide HU] at HC
              refine (unhide HC).mono ?_
              rintro e w5 ⟨⟨a5, c5, rfl, hi5, pl5⟩, b5⟩
              have hI5 := KI.later (unhide HIW) b5
              obtain ⟨⟨kp0, kp1, kp2⟩, _, _, _, s0, s1, s2, sf, lo, be⟩ := hI5
              have f0 := sf 0
              have f1 := sf 1
              have f2 := sf 2
              have HI5 := hide hi5
              have HPL := hide (Pl.mono (b := w.heap.size + 2) pl5 (by first | exact lo9 | exact Nat.le_trans lo9 (unhide HB).size))
              clear hi5 pl5 b5
              go_wp2
              refine bodyPost_ret (v := .tuple #[.agg #[.int .i64 u.1.m, .slice a5 u.1.n c5, .bool u.1.ok], .int .i64 u.2]) (by simp [results, Tryd.results17, go_sem, s0, s1, s2]) rfl ?_
              have mv := mov3 w5 (w.heap.size + 1) (.int .i64 u.1.m) (.slice a5 u.1.n c5) (.bool u.1.ok)
              exact ⟨⟨a5, c5, rfl, (unhide HI5).mov ((unhide HPL).apart (unhide HI).2.2.2 (by omega) (by omega)) mv, (unhide HPL).mono (by omega)⟩, bel3 be (by omega) _ _ _⟩
            · go_simp
              obtain ⟨v9b, hv9b⟩ : ∃ x, x = v0b.alloc (.cells #[.int .i64 yb] 3) := ⟨_, rfl⟩
              have b9 : Below v0b.heap.size v0b v9b := by rw [hv9b]; exact (Below.refl _ _).alloc (Nat.le_refl _) _
              have l9 : v0b.heap.size < v9b.heap.size := by rw [hv9b]; simp
              have lz9 : v10a.heap.size ≤ v0b.heap.size := (unhide HBb).size
              have HZb : Hid (Ints v9b v0b.heap.size 0 1 (at0 [yb])) := fun i hi => by (obtain rfl : i = 0 := by omega); rw [hv9b]; simp [go_sem, at0]
              have HXb := hide (World.ownsRow.kept (w' := v9b) (unhide HXb) (grown_below b9) (by simp [Value.ownBlock]))
              have nzb : v0b.heap.size ≠ Xb := by omega
              have HBb := hide ((unhide HBb).trans (b9.mono (unhide HBb).size))
              replace dy := cell_later b9 dy
              rw [← hv9b]
              obtain ⟨Zb, hZb⟩ : ∃ x, x = v0b.heap.size := ⟨_, rfl⟩
              rw [← hZb] at HZb nzb ⊢
              have lZb : Zb < v9b.heap.size := by omega
              clear hv9b b9 l9 lz9 hZb
              replace lxb : v10a.heap.size ≤ Xb ∧ Xb < v9b.heap.size := ⟨lxb.1, (own_cap (unhide HXb)).2⟩
              refine hK.out _ _ ?_ (fun hHeld => ?_)
              · exact dy
              clear hK K
              try simp only [List.getElem_toArray, List.getElem_cons_succ, List.getElem_cons_zero, Act.put, List.setIfInBounds_toArray, List.set_cons_zero, List.set_cons_succ]
              refine wpAnyH_ready (rs := [4]) (by kernel_rfl) (by simp) ?_
              refine AllReadyH.cons rfl (fun K hK => ?_) AllReadyH.nil
              apply step_ints (hT := lsInt) (L := []) (M := List.take q M) (base := v10a.heap.size)
              case hgd => rfl
              case ho => rfl
              case hs => rfl
              case hown => exact unhide HXb
              case hbase => exact (unhide HBb).size
              case hx => rfl
              case hM => exact tkM
              case hi => exact fun i hi => (by rw [at0_take hi (by rw [lnM]; omega)]; exact ((unhide HBb).cell (p := ⟨bM, oM + i, none⟩) (wtM2 i (by omega)).2).trans (wtM2 i (by omega)).1)
              case hl => omega
              case' h => intro gb cb v4b o4 gr4 at4 lt4
              simp only [Nat.zero_add, List.nil_append] at o4 ⊢
              have HOb := hide o4
              have HBb := hide ((unhide HBb).trans ((mov_of_grown gr4).below lxb.1 (unhide HBb).size))
              replace dy := (mov_of_grown gr4).cell dy (by have := lxb.1; simp only; omega)
              have HZb : Hid (Ints v4b Zb 0 1 (at0 [yb])) := fun i hi => (mov_of_grown gr4).cell (unhide HZb i hi) nzb
              replace nzb : Zb ≠ gb := by rcases at4 with e | e <;> omega
              replace lZb : Zb < v4b.heap.size := Nat.lt_of_lt_of_le lZb gr4.size
              clear o4 gr4 at4 lt4 HXb lxb
              refine hK.out _ _ ?_ (fun hHeld => ?_)
              · exact dy
              clear hK K
              try simp only [List.getElem_toArray, List.getElem_cons_succ, List.getElem_cons_zero, Act.put, List.setIfInBounds_toArray, List.set_cons_zero, List.set_cons_succ]
              refine wpAnyH_ready (rs := [10]) (by kernel_rfl) (by simp) ?_
              refine AllReadyH.cons rfl (fun K hK => ?_) AllReadyH.nil
              apply step_ints (hT := lsInt) (L := List.take q M) (M := [yb]) (base := v10a.heap.size)
              case hgd => rfl
              case ho => rfl
              case hs => rfl
              case hown => exact unhide HOb
              case hbase => exact (unhide HBb).size
              case hx => rfl
              case hM => rfl
              case hi => exact unhide HZb
              case hl => omega
              case' h => intro Gb Cb v10b o10 gr10 at10 lt10
              have lg := own_base (unhide HOb)
              have HRb := hide o10
              have HBb := hide ((unhide HBb).trans ((mov_of_grown gr10).below lg (unhide HBb).size))
              replace dy := (mov_of_grown gr10).cell dy (by simp only; omega)
              clear o10 gr10 at10 lt10 lg HOb HZb nzb lZb
              refine hK.out _ _ ?_ (fun hHeld => ?_)
              · exact dy
              clear hK K
              try simp only [List.getElem_toArray, List.getElem_cons_succ, List.getElem_cons_zero, Act.put, List.setIfInBounds_toArray, List.set_cons_zero, List.set_cons_succ]
              refine wpAnyH_ready (rs := [11]) (by kernel_rfl) (by simp) ?_
              refine AllReadyH.cons rfl (fun K hK => ?_) AllReadyH.nil
              go_simp
              refine hK.out _ _ ?_ (fun hHeld => ?_)
              · exact dy
              clear hK K
              try simp only [List.getElem_toArray, List.getElem_cons_succ, List.getElem_cons_zero, Act.put, List.setIfInBounds_toArray, List.set_cons_zero, List.set_cons_succ]
              refine wpAnyH_done (by kernel_rfl) ?_ _
              clear dy
              have HRa2 := hide (World.ownsRow.kept (w' := v10b) (unhide HRa) (grown_below (unhide HBb)) (by simp [Value.ownBlock]))
              have HB := hide ((unhide HBa).trans ((unhide HBb).mono (unhide HBa).size))
              have hIw := KI.later (unhide H0) (unhide HB)
              obtain ⟨kp0, kp1, kp2⟩ := hIw.k
              have kq0 := hIw.kf 0
              have kq1 := hIw.kf 1
              have kq2 := hIw.kf 2
              have HIW := hide hIw
              clear hIw
              go_wp2_with fail
              clear kp0 kp1 kp2 kq0 kq1 kq2
              have HC := hide (l7Less_any s ad cap (some ⟨Ga, 0, none⟩) (q + 1) Ca (topL L M) (some ⟨Gb, 0, none⟩) Cb (topL M L) v10b (unhide HK) (unhide HIW).i (own_at (by rw [← unhide HTL]; exact unhide HRa2)) (own_at (by rw [← unhide HTM]; exact unhide HRb)) (unhide HGL).1 (unhide HGL).2.1 hl (unhide HGL).2.2.1 (unhide HGL).2.2.2)
              rw [← unhide HU] at HC
              refine (unhide HC).mono ?_
              rintro e w5 ⟨⟨a5, c5, rfl, hi5, pl5⟩, b5⟩
              have hI5 := KI.later (unhide HIW) b5
              obtain ⟨⟨kp0, kp1, kp2⟩, _, _, _, s0, s1, s2, sf, lo, be⟩ := hI5
              have f0 := sf 0
              have f1 := sf 1
              have f2 := sf 2
              have HI5 := hide hi5
              have HPL := hide (Pl.mono (b := w.heap.size + 2) pl5 (by first | exact lo9 | exact Nat.le_trans lo9 (unhide HB).size))
              clear hi5 pl5 b5
              go_wp2
              refine bodyPost_ret (v := .tuple #[.agg #[.int .i64 u.1.m, .slice a5 u.1.n c5, .bool u.1.ok], .int .i64 u.2]) (by simp [results, Tryd.results17, go_sem, s0, s1, s2]) rfl ?_
              have mv := mov3 w5 (w.heap.size + 1) (.int .i64 u.1.m) (.slice a5 u.1.n c5) (.bool u.1.ok)
              exact ⟨⟨a5, c5, rfl, (unhide HI5).mov ((unhide HPL).apart (unhide HI).2.2.2 (by omega) (by omega)) mv, (unhide HPL).mono (by omega)⟩, bel3 be (by omega) _ _ _⟩
          · go_simp
            obtain ⟨v9b, hv9b⟩ : ∃ x, x = wdb.alloc (.cells #[.int .i64 yb] 3) := ⟨_, rfl⟩
            have b9 : Below wdb.heap.size wdb v9b := by rw [hv9b]; exact (Below.refl _ _).alloc (Nat.le_refl _) _
            have l9 : wdb.heap.size < v9b.heap.size := by rw [hv9b]; simp
            have lz9 : v10a.heap.size ≤ wdb.heap.size := (unhide HBb).size
            have HZb : Hid (Ints v9b wdb.heap.size 0 1 (at0 [yb])) := fun i hi => by (obtain rfl : i = 0 := by omega); rw [hv9b]; simp [go_sem, at0]
            have HBb := hide ((unhide HBb).trans (b9.mono (unhide HBb).size))
            replace dy := cell_later b9 dy
            rw [← hv9b]
            obtain ⟨Zb, hZb⟩ : ∃ x, x = wdb.heap.size := ⟨_, rfl⟩
            rw [← hZb] at HZb  ⊢
            have lZb : Zb < v9b.heap.size := by omega
            clear hv9b b9 l9 lz9 hZb
            refine hK.out _ _ ?_ (fun hHeld => ?_)
            · exact dy
            clear hK K
            try simp only [List.getElem_toArray, List.getElem_cons_succ, List.getElem_cons_zero, Act.put, List.setIfInBounds_toArray, List.set_cons_zero, List.set_cons_succ]
            refine wpAnyH_ready (rs := [0]) (by kernel_rfl) (by simp) ?_
            refine AllReadyH.cons rfl (fun K hK => ?_) AllReadyH.nil
            go_simp
            obtain ⟨v0b, hv0b⟩ : ∃ x, x = v9b.alloc (.cells #[] 3) := ⟨_, rfl⟩
            have b0 : Below v9b.heap.size v9b v0b := by rw [hv0b]; exact (Below.refl _ _).alloc (Nat.le_refl _) _
            have l0 : v9b.heap.size < v0b.heap.size := by rw [hv0b]; simp
            have lz0 : v10a.heap.size ≤ v9b.heap.size := (unhide HBb).size
            have HXb : Hid (v0b.ownsRow v10a.heap.size 3 1 (.slice (some ⟨v9b.heap.size, 0, none⟩) 0 0) 0 (icells [])) := by rw [hv0b]; exact own_mono (own_new v9b 3 1) lz0
            have HZb := hide ((unhide HZb).later b0)
            have nzb : Zb ≠ v9b.heap.size := by omega
            replace lZb : Zb < v0b.heap.size := by omega
            have HBb := hide ((unhide HBb).trans (b0.mono (unhide HBb).size))
            replace dy := cell_later b0 dy
            rw [← hv0b]
            obtain ⟨Xb, hXb⟩ : ∃ x, x = v9b.heap.size := ⟨_, rfl⟩
            rw [← hXb] at HXb nzb ⊢
            have lxb : v10a.heap.size ≤ Xb ∧ Xb < v0b.heap.size := by omega
            clear hv0b b0 l0 lz0 hXb
            refine hK.out _ _ ?_ (fun hHeld => ?_)
            · exact dy
            clear hK K
            try simp only [List.getElem_toArray, List.getElem_cons_succ, List.getElem_cons_zero, Act.put, List.setIfInBounds_toArray, List.set_cons_zero, List.set_cons_succ]
            refine wpAnyH_ready (rs := [4]) (by kernel_rfl) (by simp) ?_
            refine AllReadyH.cons rfl (fun K hK => ?_) AllReadyH.nil
            apply step_ints (hT := lsInt) (L := []) (M := List.take q M) (base := v10a.heap.size)
            case hgd => rfl
            case ho => rfl
            case hs => rfl
            case hown => exact unhide HXb
            case hbase => exact (unhide HBb).size
            case hx => rfl
            case hM => exact tkM
            case hi => exact fun i hi => (by rw [at0_take hi (by rw [lnM]; omega)]; exact ((unhide HBb).cell (p := ⟨bM, oM + i, none⟩) (wtM2 i (by omega)).2).trans (wtM2 i (by omega)).1)
            case hl => omega
            case' h => intro gb cb v4b o4 gr4 at4 lt4
            simp only [Nat.zero_add, List.nil_append] at o4 ⊢
            have HOb := hide o4
            have HBb := hide ((unhide HBb).trans ((mov_of_grown gr4).below lxb.1 (unhide HBb).size))
            replace dy := (mov_of_grown gr4).cell dy (by have := lxb.1; simp only; omega)
            have HZb : Hid (Ints v4b Zb 0 1 (at0 [yb])) := fun i hi => (mov_of_grown gr4).cell (unhide HZb i hi) nzb
            replace nzb : Zb ≠ gb := by rcases at4 with e | e <;> omega
            replace lZb : Zb < v4b.heap.size := Nat.lt_of_lt_of_le lZb gr4.size
            clear o4 gr4 at4 lt4 HXb lxb
            refine hK.out _ _ ?_ (fun hHeld => ?_)
            · exact dy
            clear hK K
            try simp only [List.getElem_toArray, List.getElem_cons_succ, List.getElem_cons_zero, Act.put, List.setIfInBounds_toArray, List.set_cons_zero, List.set_cons_succ]
            refine wpAnyH_ready (rs := [10]) (by kernel_rfl) (by simp) ?_
            refine AllReadyH.cons rfl (fun K hK => ?_) AllReadyH.nil
            apply step_ints (hT := lsInt) (L := List.take q M) (M := [yb]) (base := v10a.heap.size)
            case hgd => rfl
            case ho => rfl
            case hs => rfl
            case hown => exact unhide HOb
            case hbase => exact (unhide HBb).size
            case hx => rfl
            case hM => rfl
            case hi => exact unhide HZb
            case hl => omega
            case' h => intro Gb Cb v10b o10 gr10 at10 lt10
            have lg := own_base (unhide HOb)
            have HRb := hide o10
            have HBb := hide ((unhide HBb).trans ((mov_of_grown gr10).below lg (unhide HBb).size))
            replace dy := (mov_of_grown gr10).cell dy (by simp only; omega)
            clear o10 gr10 at10 lt10 lg HOb HZb nzb lZb
            refine hK.out _ _ ?_ (fun hHeld => ?_)
            · exact dy
            clear hK K
            try simp only [List.getElem_toArray, List.getElem_cons_succ, List.getElem_cons_zero, Act.put, List.setIfInBounds_toArray, List.set_cons_zero, List.set_cons_succ]
            refine wpAnyH_ready (rs := [11]) (by kernel_rfl) (by simp) ?_
            refine AllReadyH.cons rfl (fun K hK => ?_) AllReadyH.nil
            go_simp
            refine hK.out _ _ ?_ (fun hHeld => ?_)
            · exact dy
            clear hK K
            try simp only [List.getElem_toArray, List.getElem_cons_succ, List.getElem_cons_zero, Act.put, List.setIfInBounds_toArray, List.set_cons_zero, List.set_cons_succ]
            refine wpAnyH_done (by kernel_rfl) ?_ _
            clear dy
            have HRa2 := hide (World.ownsRow.kept (w' := v10b) (unhide HRa) (grown_below (unhide HBb)) (by simp [Value.ownBlock]))
            have HB := hide ((unhide HBa).trans ((unhide HBb).mono (unhide HBa).size))
            have hIw := KI.later (unhide H0) (unhide HB)
            obtain ⟨kp0, kp1, kp2⟩ := hIw.k
            have kq0 := hIw.kf 0
            have kq1 := hIw.kf 1
            have kq2 := hIw.kf 2
            have HIW := hide hIw
            clear hIw
            go_wp2_with fail
            clear kp0 kp1 kp2 kq0 kq1 kq2
            have HC := hide (l7Less_any s ad cap (some ⟨Ga, 0, none⟩) (q + 1) Ca (topL L M) (some ⟨Gb, 0, none⟩) Cb (topL M L) v10b (unhide HK) (unhide HIW).i (own_at (by rw [← unhide HTL]; exact unhide HRa2)) (own_at (by rw [← unhide HTM]; exact unhide HRb)) (unhide HGL).1 (unhide HGL).2.1 hl (unhide HGL).2.2.1 (unhide HGL).2.2.2)
            rw [← unhide HU] at HC
            refine (unhide HC).mono ?_
            rintro e w5 ⟨⟨a5, c5, rfl, hi5, pl5⟩, b5⟩
            have hI5 := KI.later (unhide HIW) b5
            obtain ⟨⟨kp0, kp1, kp2⟩, _, _, _, s0, s1, s2, sf, lo, be⟩ := hI5
            have f0 := sf 0
            have f1 := sf 1
            have f2 := sf 2
            have HI5 := hide hi5
            have HPL := hide (Pl.mono (b := w.heap.size + 2) pl5 (by first | exact lo9 | exact Nat.le_trans lo9 (unhide HB).size))
            clear hi5 pl5 b5
            go_wp2
            refine bodyPost_ret (v := .tuple #[.agg #[.int .i64 u.1.m, .slice a5 u.1.n c5, .bool u.1.ok], .int .i64 u.2]) (by simp [results, Tryd.results17, go_sem, s0, s1, s2]) rfl ?_
            have mv := mov3 w5 (w.heap.size + 1) (.int .i64 u.1.m) (.slice a5 u.1.n c5) (.bool u.1.ok)
            exact ⟨⟨a5, c5, rfl, (unhide HI5).mov ((unhide HPL).apart (unhide HI).2.2.2 (by omega) (by omega)) mv, (unhide HPL).mono (by omega)⟩, bel3 be (by omega) _ _ _⟩
        · go_simp
          obtain ⟨v9a, hv9a⟩ : ∃ x, x = v0a.alloc (.cells #[.int .i64 ya] 3) := ⟨_, rfl⟩
          have b9 : Below v0a.heap.size v0a v9a := by rw [hv9a]; exact (Below.refl _ _).alloc (Nat.le_refl _) _
          have l9 : v0a.heap.size < v9a.heap.size := by rw [hv9a]; simp
          have lz9 : wz.heap.size ≤ v0a.heap.size := (unhide HBa).size
          have HZa : Hid (Ints v9a v0a.heap.size 0 1 (at0 [ya])) := fun i hi => by (obtain rfl : i = 0 := by omega); rw [hv9a]; simp [go_sem, at0]
          have HXa := hide (World.ownsRow.kept (w' := v9a) (unhide HXa) (grown_below b9) (by simp [Value.ownBlock]))
          have nza : v0a.heap.size ≠ Xa := by omega
          have HBa := hide ((unhide HBa).trans (b9.mono (unhide HBa).size))
          replace dy := cell_later b9 dy
          rw [← hv9a]
          obtain ⟨Za, hZa⟩ : ∃ x, x = v0a.heap.size := ⟨_, rfl⟩
          rw [← hZa] at HZa nza ⊢
          have lZa : Za < v9a.heap.size := by omega
          clear hv9a b9 l9 lz9 hZa
          replace lxa : wz.heap.size ≤ Xa ∧ Xa < v9a.heap.size := ⟨lxa.1, (own_cap (unhide HXa)).2⟩
          refine hK.out _ _ ?_ (fun hHeld => ?_)
          · exact dy
          clear hK K
          try simp only [List.getElem_toArray, List.getElem_cons_succ, List.getElem_cons_zero, Act.put, List.setIfInBounds_toArray, List.set_cons_zero, List.set_cons_succ]
          refine wpAnyH_ready (rs := [4]) (by kernel_rfl) (by simp) ?_
          refine AllReadyH.cons rfl (fun K hK => ?_) AllReadyH.nil
          apply step_ints (hT := lsInt) (L := []) (M := List.take q L) (base := wz.heap.size)
          case hgd => rfl
          case ho => rfl
          case hs => rfl
          case hown => exact unhide HXa
          case hbase => exact (unhide HBa).size
          case hx => rfl
          case hM => exact tkL
          case hi => exact fun i hi => (by rw [at0_take hi (by rw [lnL]; omega)]; exact ((unhide HBa).cell (p := ⟨bL, oL + i, none⟩) (wtL i (by omega)).2).trans (wtL i (by omega)).1)
          case hl => omega
          case' h => intro ga ca v4a o4 gr4 at4 lt4
          simp only [Nat.zero_add, List.nil_append] at o4 ⊢
          have HOa := hide o4
          have HBa := hide ((unhide HBa).trans ((mov_of_grown gr4).below lxa.1 (unhide HBa).size))
          replace dy := (mov_of_grown gr4).cell dy (by have := lxa.1; simp only; omega)
          have HZa : Hid (Ints v4a Za 0 1 (at0 [ya])) := fun i hi => (mov_of_grown gr4).cell (unhide HZa i hi) nza
          replace nza : Za ≠ ga := by rcases at4 with e | e <;> omega
          replace lZa : Za < v4a.heap.size := Nat.lt_of_lt_of_le lZa gr4.size
          clear o4 gr4 at4 lt4 HXa lxa
          refine hK.out _ _ ?_ (fun hHeld => ?_)
          · exact dy
          clear hK K
          try simp only [List.getElem_toArray, List.getElem_cons_succ, List.getElem_cons_zero, Act.put, List.setIfInBounds_toArray, List.set_cons_zero, List.set_cons_succ]
          refine wpAnyH_ready (rs := [10]) (by kernel_rfl) (by simp) ?_
          refine AllReadyH.cons rfl (fun K hK => ?_) AllReadyH.nil
          apply step_ints (hT := lsInt) (L := List.take q L) (M := [ya]) (base := wz.heap.size)
          case hgd => rfl
          case ho => rfl
          case hs => rfl
          case hown => exact unhide HOa
          case hbase => exact (unhide HBa).size
          case hx => rfl
          case hM => rfl
          case hi => exact unhide HZa
          case hl => omega
          case' h => intro Ga Ca v10a o10 gr10 at10 lt10
          have lg := own_base (unhide HOa)
          have HRa := hide o10
          have HBa := hide ((unhide HBa).trans ((mov_of_grown gr10).below lg (unhide HBa).size))
          replace dy := (mov_of_grown gr10).cell dy (by simp only; omega)
          clear o10 gr10 at10 lt10 lg HOa HZa nza lZa
          refine hK.out _ _ ?_ (fun hHeld => ?_)
          · exact dy
          clear hK K
          try simp only [List.getElem_toArray, List.getElem_cons_succ, List.getElem_cons_zero, Act.put, List.setIfInBounds_toArray, List.set_cons_zero, List.set_cons_succ]
          refine wpAnyH_ready (rs := [11]) (by kernel_rfl) (by simp) ?_
          refine AllReadyH.cons rfl (fun K hK => ?_) AllReadyH.nil
          go_simp
          refine hK.out _ _ ?_ (fun hHeld => ?_)
          · exact dy
          clear hK K
          try simp only [List.getElem_toArray, List.getElem_cons_succ, List.getElem_cons_zero, Act.put, List.setIfInBounds_toArray, List.set_cons_zero, List.set_cons_succ]
          refine wpAnyH_done (by kernel_rfl) ?_ _
          clear dy
          have lLb : bL < v10a.heap.size := Nat.lt_of_lt_of_le lL (unhide HBa).size
          have dy := ((unhide HBa).cell (p := ⟨bL, oL + q, none⟩) (wtL q (by omega)).2).trans (unhide HYB)
          have wtM2 : ∀ i, i < q + 1 → v10a.cell? ⟨bM, oM + i, none⟩ = some (.int .i64 (at0 M i)) ∧ bM < v10a.heap.size := fun i hi => ⟨((unhide HBa).cell (p := ⟨bM, oM + i, none⟩) (wtM i hi).2).trans (wtM i hi).1, Nat.lt_of_lt_of_le (wtM i hi).2 (unhide HBa).size⟩
          go_wp2
          refine wp_region_held_drew (S := fun w' => w'.cell? ⟨bL, oL + q, none⟩ = some (.int .i64 yb)) (by kernel_rfl) ?_ (fun hHeld => ?_)
          · exact dy
          obtain ⟨wdb, hwdb⟩ : ∃ x, x = v10a.drew := ⟨_, rfl⟩
          have HBb : Hid (Below v10a.heap.size v10a wdb) := by show _; rw [hwdb]; exact (Below.refl _ _).drew
          replace dy : wdb.cell? ⟨bL, oL + q, none⟩ = some (.int .i64 yb) := by rw [hwdb]; exact dy
          rw [← hwdb]
          clear hwdb
          refine wpAnyH_take (i := 1) (v := ?_) rfl (by kernel_rfl) (by kernel_rfl) (by kernel_rfl) (fun _ _ _ h => h) (Or.inl ⟨by rfl, ?_⟩) (by assumption) ?_
          rotate_left
          · (intro w hSw; (try dsimp only at hSw); first | (go_simp; done) | (go_simp; with_reducible rfl))
          try simp only [List.getElem_toArray, List.getElem_cons_succ, List.getElem_cons_zero, Act.put, List.setIfInBounds_toArray, List.set_cons_zero, List.set_cons_succ]
          refine wpAnyH_take (i := 2) (v := ?_) rfl (by kernel_rfl) (by kernel_rfl) (by kernel_rfl) (fun _ _ _ h => h) (Or.inl ⟨by rfl, ?_⟩) (by assumption) ?_
          rotate_left
          · (intro w hSw; (try dsimp only at hSw); first | (go_simp; done) | (go_simp; with_reducible rfl))
          try simp only [List.getElem_toArray, List.getElem_cons_succ, List.getElem_cons_zero, Act.put, List.setIfInBounds_toArray, List.set_cons_zero, List.set_cons_succ]
          refine wpAnyH_take (i := 3) (v := ?_) rfl (by kernel_rfl) (by kernel_rfl) (by kernel_rfl) (fun _ _ _ h => h) (Or.inl ⟨by rfl, ?_⟩) (by assumption) ?_
          rotate_left
          · (intro w hSw; (try dsimp only at hSw); first | (go_simp; done) | (go_simp; with_reducible rfl))
          try simp only [List.getElem_toArray, List.getElem_cons_succ, List.getElem_cons_zero, Act.put, List.setIfInBounds_toArray, List.set_cons_zero, List.set_cons_succ]
          refine wpAnyH_take (i := 5) (v := ?_) rfl (by kernel_rfl) (by kernel_rfl) (by kernel_rfl) (fun _ _ _ h => h) (Or.inl ⟨by rfl, ?_⟩) (by assumption) ?_
          rotate_left
          · (intro w hSw; (try dsimp only at hSw); first | (go_simp; done) | (go_simp; with_reducible rfl))
          try simp only [List.getElem_toArray, List.getElem_cons_succ, List.getElem_cons_zero, Act.put, List.setIfInBounds_toArray, List.set_cons_zero, List.set_cons_succ]
          refine wpAnyH_take (i := 6) (v := ?_) rfl (by kernel_rfl) (by kernel_rfl) (by kernel_rfl) (fun _ _ _ h => h) (Or.inl ⟨by rfl, ?_⟩) (by assumption) ?_
          rotate_left
          · (intro w hSw; (try dsimp only at hSw); first | (go_simp; done) | (go_simp; with_reducible rfl))
          try simp only [List.getElem_toArray, List.getElem_cons_succ, List.getElem_cons_zero, Act.put, List.setIfInBounds_toArray, List.set_cons_zero, List.set_cons_succ]
          refine wpAnyH_take (i := 7) (v := ?_) rfl (by kernel_rfl) (by kernel_rfl) (by kernel_rfl) (fun _ _ _ h => h) (Or.inl ⟨by rfl, ?_⟩) (by assumption) ?_
          rotate_left
          · (intro w hSw; (try dsimp only at hSw); first | (go_simp; done) | (go_simp; with_reducible rfl))
          try simp only [List.getElem_toArray, List.getElem_cons_succ, List.getElem_cons_zero, Act.put, List.setIfInBounds_toArray, List.set_cons_zero, List.set_cons_succ]
          refine wpAnyH_take (i := 8) (v := ?_) rfl (by kernel_rfl) (by kernel_rfl) (by kernel_rfl) (fun _ _ _ h => h) (Or.inl ⟨by rfl, ?_⟩) (by assumption) ?_
          rotate_left
          · (intro w hSw; (try dsimp only at hSw); first | (go_simp; done) | (go_simp; with_reducible rfl))
          try simp only [List.getElem_toArray, List.getElem_cons_succ, List.getElem_cons_zero, Act.put, List.setIfInBounds_toArray, List.set_cons_zero, List.set_cons_succ]
          refine wpAnyH_ready (rs := [0, 9]) (by kernel_rfl) (by simp) ?_
          refine AllReadyH.cons rfl (fun K hK => ?_) (AllReadyH.cons rfl (fun K hK => ?_) AllReadyH.nil)
          · go_simp
            obtain ⟨v0b, hv0b⟩ : ∃ x, x = wdb.alloc (.cells #[] 3) := ⟨_, rfl⟩
            have b0 : Below wdb.heap.size wdb v0b := by rw [hv0b]; exact (Below.refl _ _).alloc (Nat.le_refl _) _
            have l0 : wdb.heap.size < v0b.heap.size := by rw [hv0b]; simp
            have lz0 : v10a.heap.size ≤ wdb.heap.size := (unhide HBb).size
            have HXb : Hid (v0b.ownsRow v10a.heap.size 3 1 (.slice (some ⟨wdb.heap.size, 0, none⟩) 0 0) 0 (icells [])) := by rw [hv0b]; exact own_mono (own_new wdb 3 1) lz0
            have HBb := hide ((unhide HBb).trans (b0.mono (unhide HBb).size))
            replace dy := cell_later b0 dy
            rw [← hv0b]
            obtain ⟨Xb, hXb⟩ : ∃ x, x = wdb.heap.size := ⟨_, rfl⟩
            rw [← hXb] at HXb  ⊢
            have lxb : v10a.heap.size ≤ Xb ∧ Xb < v0b.heap.size := by omega
            clear hv0b b0 l0 lz0 hXb
            refine hK.out _ _ ?_ (fun hHeld => ?_)
            · exact dy
            clear hK K
            try simp only [List.getElem_toArray, List.getElem_cons_succ, List.getElem_cons_zero, Act.put, List.setIfInBounds_toArray, List.set_cons_zero, List.set_cons_succ]
            refine wpAnyH_ready (rs := [4, 9]) (by kernel_rfl) (by simp) ?_
            refine AllReadyH.cons rfl (fun K hK => ?_) (AllReadyH.cons rfl (fun K hK => ?_) AllReadyH.nil)
            · apply step_ints (hT := lsInt) (L := []) (M := List.take q M) (base := v10a.heap.size)
              case hgd => rfl
              case ho => rfl
              case hs => rfl
              case hown => exact unhide HXb
              case hbase => exact (unhide HBb).size
              case hx => rfl
              case hM => exact tkM
              case hi => exact fun i hi => (by rw [at0_take hi (by rw [lnM]; omega)]; exact ((unhide HBb).cell (p := ⟨bM, oM + i, none⟩) (wtM2 i (by omega)).2).trans (wtM2 i (by omega)).1)
              case hl => omega
              case' h => intro gb cb v4b o4 gr4 at4 lt4
              simp only [Nat.zero_add, List.nil_append] at o4 ⊢
              have HOb := hide o4
              have HBb := hide ((unhide HBb).trans ((mov_of_grown gr4).below lxb.1 (unhide HBb).size))
              replace dy := (mov_of_grown gr4).cell dy (by have := lxb.1; simp only; omega)
              clear o4 gr4 at4 lt4 HXb lxb
              refine hK.out _ _ ?_ (fun hHeld => ?_)
              · exact dy
              clear hK K
              try simp only [List.getElem_toArray, List.getElem_cons_succ, List.getElem_cons_zero, Act.put, List.setIfInBounds_toArray, List.set_cons_zero, List.set_cons_succ]
              refine wpAnyH_ready (rs := [9]) (by kernel_rfl) (by simp) ?_
              refine AllReadyH.cons rfl (fun K hK => ?_) AllReadyH.nil
              go_simp
              obtain ⟨v9b, hv9b⟩ : ∃ x, x = v4b.alloc (.cells #[.int .i64 yb] 3) := ⟨_, rfl⟩
              have b9 : Below v4b.heap.size v4b v9b := by rw [hv9b]; exact (Below.refl _ _).alloc (Nat.le_refl _) _
              have l9 : v4b.heap.size < v9b.heap.size := by rw [hv9b]; simp
              have lz9 : v10a.heap.size ≤ v4b.heap.size := (unhide HBb).size
              have HZb : Hid (Ints v9b v4b.heap.size 0 1 (at0 [yb])) := fun i hi => by (obtain rfl : i = 0 := by omega); rw [hv9b]; simp [go_sem, at0]
              have nzb : v4b.heap.size ≠ gb := by have := (own_cap (unhide HOb)).2; omega
              have HOb := hide (World.ownsRow.kept (w' := v9b) (unhide HOb) (grown_below b9) (by simp [Value.ownBlock]))
              have HBb := hide ((unhide HBb).trans (b9.mono (unhide HBb).size))
              replace dy := cell_later b9 dy
              rw [← hv9b]
              obtain ⟨Zb, hZb⟩ : ∃ x, x = v4b.heap.size := ⟨_, rfl⟩
              rw [← hZb] at HZb nzb ⊢
              have lZb : Zb < v9b.heap.size := by omega
              clear hv9b b9 l9 lz9 hZb
              refine hK.out _ _ ?_ (fun hHeld => ?_)
              · exact dy
              clear hK K
              try simp only [List.getElem_toArray, List.getElem_cons_succ, List.getElem_cons_zero, Act.put, List.setIfInBounds_toArray, List.set_cons_zero, List.set_cons_succ]
              refine wpAnyH_ready (rs := [10]) (by kernel_rfl) (by simp) ?_
              refine AllReadyH.cons rfl (fun K hK => ?_) AllReadyH.nil
              apply step_ints (hT := lsInt) (L := List.take q M) (M := [yb]) (base := v10a.heap.size)
              case hgd => rfl
              case ho => rfl
              case hs => rfl
              case hown => exact unhide HOb
              case hbase => exact (unhide HBb).size
              case hx => rfl
              case hM => rfl
              case hi => exact unhide HZb
              case hl => omega
              case' h => intro Gb Cb v10b o10 gr10 at10 lt10
              have lg := own_base (unhide HOb)
              have HRb := hide o10
              have HBb := hide ((unhide HBb).trans ((mov_of_grown gr10).below lg (unhide HBb).size))
              replace dy := (mov_of_grown gr10).cell dy (by simp only; omega)
              clear o10 gr10 at10 lt10 lg HOb HZb nzb lZb
              refine hK.out _ _ ?_ (fun hHeld => ?_)
              · exact dy
              clear hK K
              try simp only [List.getElem_toArray, List.getElem_cons_succ, List.getElem_cons_zero, Act.put, List.setIfInBounds_toArray, List.set_cons_zero, List.set_cons_succ]
              refine wpAnyH_ready (rs := [11]) (by kernel_rfl) (by simp) ?_
              refine AllReadyH.cons rfl (fun K hK => ?_) AllReadyH.nil
              go_simp
              refine hK.out _ _ ?_ (fun hHeld => ?_)
              · exact dy
              clear hK K
              try simp only [List.getElem_toArray, List.getElem_cons_succ, List.getElem_cons_zero, Act.put, List.setIfInBounds_toArray, List.set_cons_zero, List.set_cons_succ]
              refine wpAnyH_done (by kernel_rfl) ?_ _
              clear dy
              have HRa2 := hide (World.ownsRow.kept (w' := v10b) (unhide HRa) (grown_below (unhide HBb)) (by simp [Value.ownBlock]))
              have HB := hide ((unhide HBa).trans ((unhide HBb).mono (unhide HBa).size))
              have hIw := KI.later (unhide H0) (unhide HB)
              obtain ⟨kp0, kp1, kp2⟩ := hIw.k
              have kq0 := hIw.kf 0
              have kq1 := hIw.kf 1
              have kq2 := hIw.kf 2
              have HIW := hide hIw
              clear hIw
              go_wp2_with fail
              clear kp0 kp1 kp2 kq0 kq1 kq2
              have HC := hide (l7Less_any s ad cap (some ⟨Ga, 0, none⟩) (q + 1) Ca (topL L M) (some ⟨Gb, 0, none⟩) Cb (topL M L) v10b (unhide HK) (unhide HIW).i (own_at (by rw [← unhide HTL]; exact unhide HRa2)) (own_at (by rw [← unhide HTM]; exact unhide HRb)) (unhide HGL).1 (unhide HGL).2.1 hl (unhide HGL).2.2.1 (unhide HGL).2.2.2)
              rw [← unhide HU] at HC
              refine (unhide HC).mono ?_
              rintro e w5 ⟨⟨a5, c5, rfl, hi5, pl5⟩, b5⟩
              have hI5 := KI.later (unhide HIW) b5
              obtain ⟨⟨kp0, kp1, kp2⟩, _, _, _, s0, s1, s2, sf, lo, be⟩ := hI5
              have f0 := sf 0
              have f1 := sf 1
              have f2 := sf 2
              have HI5 := hide hi5
              have HPL := hide (Pl.mono (b := w.heap.size + 2) pl5 (by first | exact lo9 | exact Nat.le_trans lo9 (unhide HB).size))
              clear hi5 pl5 b5
              go_wp2
              refine bodyPost_ret (v := .tuple #[.agg #[.int .i64 u.1.m, .slice a5 u.1.n c5, .bool u.1.ok], .int .i64 u.2]) (by simp [results, Tryd.results17, go_sem, s0, s1, s2]) rfl ?_
              have mv := mov3 w5 (w.heap.size + 1) (.int .i64 u.1.m) (.slice a5 u.1.n c5) (.bool u.1.ok)
              exact ⟨⟨a5, c5, rfl, (unhide HI5).mov ((unhide HPL).apart (unhide HI).2.2.2 (by omega) (by omega)) mv, (unhide HPL).mono (by omega)⟩, bel3 be (by omega) _ _ _⟩
            · go_simp
              obtain ⟨v9b, hv9b⟩ : ∃ x, x = v0b.alloc (.cells #[.int .i64 yb] 3) := ⟨_, rfl⟩
              have b9 : Below v0b.heap.size v0b v9b := by rw [hv9b]; exact (Below.refl _ _).alloc (Nat.le_refl _) _
              have l9 : v0b.heap.size < v9b.heap.size := by rw [hv9b]; simp
              have lz9 : v10a.heap.size ≤ v0b.heap.size := (unhide HBb).size
              have HZb : Hid (Ints v9b v0b.heap.size 0 1 (at0 [yb])) := fun i hi => by (obtain rfl : i = 0 := by omega); rw [hv9b]; simp [go_sem, at0]
              have HXb := hide (World.ownsRow.kept (w' := v9b) (unhide HXb) (grown_below b9) (by simp [Value.ownBlock]))
              have nzb : v0b.heap.size ≠ Xb := by omega
              have HBb := hide ((unhide HBb).trans (b9.mono (unhide HBb).size))
              replace dy := cell_later b9 dy
              rw [← hv9b]
              obtain ⟨Zb, hZb⟩ : ∃ x, x = v0b.heap.size := ⟨_, rfl⟩
              rw [← hZb] at HZb nzb ⊢
              have lZb : Zb < v9b.heap.size := by omega
              clear hv9b b9 l9 lz9 hZb
              replace lxb : v10a.heap.size ≤ Xb ∧ Xb < v9b.heap.size := ⟨lxb.1, (own_cap (unhide HXb)).2⟩
              refine hK.out _ _ ?_ (fun hHeld => ?_)
              · exact dy
              clear hK K
              try simp only [List.getElem_toArray, List.getElem_cons_succ, List.getElem_cons_zero, Act.put, List.setIfInBounds_toArray, List.set_cons_zero, List.set_cons_succ]
              refine wpAnyH_ready (rs := [4]) (by kernel_rfl) (by simp) ?_
              refine AllReadyH.cons rfl (fun K hK => ?_) AllReadyH.nil
              apply step_ints (hT := lsInt) (L := []) (M := List.take q M) (base := v10a.heap.size)
              case hgd => rfl
              case ho => rfl
              case hs => rfl
              case hown => exact unhide HXb
              case hbase => exact (unhide HBb).size
              case hx => rfl
              case hM => exact tkM
              case hi => exact fun i hi => (by rw [at0_take hi (by rw [lnM]; omega)]; exact ((unhide HBb).cell (p := ⟨bM, oM + i, none⟩) (wtM2 i (by omega)).2).trans (wtM2 i (by omega)).1)
              case hl => omega
              case' h => intro gb cb v4b o4 gr4 at4 lt4
              simp only [Nat.zero_add, List.nil_append] at o4 ⊢
              have HOb := hide o4
              have HBb := hide ((unhide HBb).trans ((mov_of_grown gr4).below lxb.1 (unhide HBb).size))
              replace dy := (mov_of_grown gr4).cell dy (by have := lxb.1; simp only; omega)
              have HZb : Hid (Ints v4b Zb 0 1 (at0 [yb])) := fun i hi => (mov_of_grown gr4).cell (unhide HZb i hi) nzb
              replace nzb : Zb ≠ gb := by rcases at4 with e | e <;> omega
              replace lZb : Zb < v4b.heap.size := Nat.lt_of_lt_of_le lZb gr4.size
              clear o4 gr4 at4 lt4 HXb lxb
              refine hK.out _ _ ?_ (fun hHeld => ?_)
              · exact dy
              clear hK K
              try simp only [List.getElem_toArray, List.getElem_cons_succ, List.getElem_cons_zero, Act.put, List.setIfInBounds_toArray, List.set_cons_zero, List.set_cons_succ]
              refine wpAnyH_ready (rs := [10]) (by kernel_rfl) (by simp) ?_
              refine AllReadyH.cons rfl (fun K hK => ?_) AllReadyH.nil
              apply step_ints (hT := lsInt) (L := List.take q M) (M := [yb]) (base := v10a.heap.size)
              case hgd => rfl
              case ho => rfl
              case hs => rfl
              case hown => exact unhide HOb
              case hbase => exact (unhide HBb).size
              case hx => rfl
              case hM => rfl
              case hi => exact unhide HZb
              case hl => omega
              case' h => intro Gb Cb v10b o10 gr10 at10 lt10
              have lg := own_base (unhide HOb)
              have HRb := hide o10
              have HBb := hide ((unhide HBb).trans ((mov_of_grown gr10).below lg (unhide HBb).size))
              replace dy := (mov_of_grown gr10).cell dy (by simp only; omega)
              clear o10 gr10 at10 lt10 lg HOb HZb nzb lZb
              refine hK.out _ _ ?_ (fun hHeld => ?_)
              · exact dy
              clear hK K
              try simp only [List.getElem_toArray, List.getElem_cons_succ, List.getElem_cons_zero, Act.put, List.setIfInBounds_toArray, List.set_cons_zero, List.set_cons_succ]
              refine wpAnyH_ready (rs := [11]) (by kernel_rfl) (by simp) ?_
              refine AllReadyH.cons rfl (fun K hK => ?_) AllReadyH.nil
              go_simp
              refine hK.out _ _ ?_ (fun hHeld => ?_)
              · exact dy
              clear hK K
              try simp only [List.getElem_toArray, List.getElem_cons_succ, List.getElem_cons_zero, Act.put, List.setIfInBounds_toArray, List.set_cons_zero, List.set_cons_succ]
              refine wpAnyH_done (by kernel_rfl) ?_ _
              clear dy
              have HRa2 := hide (World.ownsRow.kept (w' := v10b) (unhide HRa) (grown_below (unhide HBb)) (by simp [Value.ownBlock]))
              have HB := hide ((unhide HBa).trans ((unhide HBb).mono (unhide HBa).size))
              have hIw := KI.later (unhide H0) (unhide HB)
              obtain ⟨kp0, kp1, kp2⟩ := hIw.k
              have kq0 := hIw.kf 0
              have kq1 := hIw.kf 1
              have kq2 := hIw.kf 2
              have HIW := hide hIw
              clear hIw
              go_wp2_with fail
              clear kp0 kp1 kp2 kq0 kq1 kq2
              have HC := hide (l7Less_any s ad cap (some ⟨Ga, 0, none⟩) (q + 1) Ca (topL L M) (some ⟨Gb, 0, none⟩) Cb (topL M L) v10b (unhide HK) (unhide HIW).i (own_at (by rw [← unhide HTL]; exact unhide HRa2)) (own_at (by rw [← unhide HTM]; exact unhide HRb)) (unhide HGL).1 (unhide HGL).2.1 hl (unhide HGL).2.2.1 (unhide HGL).2.2.2)
              rw [← unhide HU] at HC
              refine (unhide HC).mono ?_
              rintro e w5 ⟨⟨a5, c5, rfl, hi5, pl5⟩, b5⟩
              have hI5 := KI.later (unhide HIW) b5
              obtain ⟨⟨kp0, kp1, kp2⟩, _, _, _, s0, s1, s2, sf, lo, be⟩ := hI5
              have f0 := sf 0
              have f1 := sf 1
              have f2 := sf 2
              have HI5 := hide hi5
              have HPL := hide (Pl.mono (b := w.heap.size + 2) pl5 (by first | exact lo9 | exact Nat.le_trans lo9 (unhide HB).size))
              clear hi5 pl5 b5
              go_wp2
              refine bodyPost_ret (v := .tuple #[.agg #[.int .i64 u.1.m, .slice a5 u.1.n c5, .bool u.1.ok], .int .i64 u.2]) (by simp [results, Tryd.results17, go_sem, s0, s1, s2]) rfl ?_
              have mv := mov3 w5 (w.heap.size + 1) (.int .i64 u.1.m) (.slice a5 u.1.n c5) (.bool u.1.ok)
              exact ⟨⟨a5, c5, rfl, (unhide HI5).mov ((unhide HPL).apart (unhide HI).2.2.2 (by omega) (by omega)) mv, (unhide HPL).mono (by omega)⟩, bel3 be (by omega) _ _ _⟩
          · go_simp
            obtain ⟨v9b, hv9b⟩ : ∃ x, x = wdb.alloc (.cells #[.int .i64 yb] 3) := ⟨_, rfl⟩
            have b9 : Below wdb.heap.size wdb v9b := by rw [hv9b]; exact (Below.refl _ _).alloc (Nat.le_refl _) _
            have l9 : wdb.heap.size < v9b.heap.size := by rw [hv9b]; simp
            have lz9 : v10a.heap.size ≤ wdb.heap.size := (unhide HBb).size
            have HZb : Hid (Ints v9b wdb.heap.size 0 1 (at0 [yb])) := fun i hi => by (obtain rfl : i = 0 := by omega); rw [hv9b]; simp [go_sem, at0]
            have HBb := hide ((unhide HBb).trans (b9.mono (unhide HBb).size))
            replace dy := cell_later b9 dy
            rw [← hv9b]
            obtain ⟨Zb, hZb⟩ : ∃ x, x = wdb.heap.size := ⟨_, rfl⟩
            rw [← hZb] at HZb  ⊢
            have lZb : Zb < v9b.heap.size := by omega
            clear hv9b b9 l9 lz9 hZb
            refine hK.out _ _ ?_ (fun hHeld => ?_)
            · exact dy
            clear hK K
            try simp only [List.getElem_toArray, List.getElem_cons_succ, List.getElem_cons_zero, Act.put, List.setIfInBounds_toArray, List.set_cons_zero, List.set_cons_succ]
            refine wpAnyH_ready (rs := [0]) (by kernel_rfl) (by simp) ?_
            refine AllReadyH.cons rfl (fun K hK => ?_) AllReadyH.nil
            go_simp
            obtain ⟨v0b, hv0b⟩ : ∃ x, x = v9b.alloc (.cells #[] 3) := ⟨_, rfl⟩
            have b0 : Below v9b.heap.size v9b v0b := by rw [hv0b]; exact (Below.refl _ _).alloc (Nat.le_refl _) _
            have l0 : v9b.heap.size < v0b.heap.size := by rw [hv0b]; simp
            have lz0 : v10a.heap.size ≤ v9b.heap.size := (unhide HBb).size
            have HXb : Hid (v0b.ownsRow v10a.heap.size 3 1 (.slice (some ⟨v9b.heap.size, 0, none⟩) 0 0) 0 (icells [])) := by rw [hv0b]; exact own_mono (own_new v9b 3 1) lz0
            have HZb := hide ((unhide HZb).later b0)
            have nzb : Zb ≠ v9b.heap.size := by omega
            replace lZb : Zb < v0b.heap.size := by omega
            have HBb := hide ((unhide HBb).trans (b0.mono (unhide HBb).size))
            replace dy := cell_later b0 dy
            rw [← hv0b]
            obtain ⟨Xb, hXb⟩ : ∃ x, x = v9b.heap.size := ⟨_, rfl⟩
            rw [← hXb] at HXb nzb ⊢
            have lxb : v10a.heap.size ≤ Xb ∧ Xb < v0b.heap.size := by omega
            clear hv0b b0 l0 lz0 hXb
            refine hK.out _ _ ?_ (fun hHeld => ?_)
            · exact dy
            clear hK K
            try simp only [List.getElem_toArray, List.getElem_cons_succ, List.getElem_cons_zero, Act.put, List.setIfInBounds_toArray, List.set_cons_zero, List.set_cons_succ]
            refine wpAnyH_ready (rs := [4]) (by kernel_rfl) (by simp) ?_
            refine AllReadyH.cons rfl (fun K hK => ?_) AllReadyH.nil
            apply step_ints (hT := lsInt) (L := []) (M := List.take q M) (base := v10a.heap.size)
            case hgd => rfl
            case ho => rfl
            case hs => rfl
            case hown => exact unhide HXb
            case hbase => exact (unhide HBb).size
            case hx => rfl
            case hM => exact tkM
            case hi => exact fun i hi => (by rw [at0_take hi (by rw [lnM]; omega)]; exact ((unhide HBb).cell (p := ⟨bM, oM + i, none⟩) (wtM2 i (by omega)).2).trans (wtM2 i (by omega)).1)
            case hl => omega
            case' h => intro gb cb v4b o4 gr4 at4 lt4
            simp only [Nat.zero_add, List.nil_append] at o4 ⊢
            have HOb := hide o4
            have HBb := hide ((unhide HBb).trans ((mov_of_grown gr4).below lxb.1 (unhide HBb).size))
            replace dy := (mov_of_grown gr4).cell dy (by have := lxb.1; simp only; omega)
            have HZb : Hid (Ints v4b Zb 0 1 (at0 [yb])) := fun i hi => (mov_of_grown gr4).cell (unhide HZb i hi) nzb
            replace nzb : Zb ≠ gb := by rcases at4 with e | e <;> omega
            replace lZb : Zb < v4b.heap.size := Nat.lt_of_lt_of_le lZb gr4.size
            clear o4 gr4 at4 lt4 HXb lxb
            refine hK.out _ _ ?_ (fun hHeld => ?_)
            · exact dy
            clear hK K
            try simp only [List.getElem_toArray, List.getElem_cons_succ, List.getElem_cons_zero, Act.put, List.setIfInBounds_toArray, List.set_cons_zero, List.set_cons_succ]
            refine wpAnyH_ready (rs := [10]) (by kernel_rfl) (by simp) ?_
            refine AllReadyH.cons rfl (fun K hK => ?_) AllReadyH.nil
            apply step_ints (hT := lsInt) (L := List.take q M) (M := [yb]) (base := v10a.heap.size)
            case hgd => rfl
            case ho => rfl
            case hs => rfl
            case hown => exact unhide HOb
            case hbase => exact (unhide HBb).size
            case hx => rfl
            case hM => rfl
            case hi => exact unhide HZb
            case hl => omega
            case' h => intro Gb Cb v10b o10 gr10 at10 lt10
            have lg := own_base (unhide HOb)
            have HRb := hide o10
            have HBb := hide ((unhide HBb).trans ((mov_of_grown gr10).below lg (unhide HBb).size))
            replace dy := (mov_of_grown gr10).cell dy (by simp only; omega)
            clear o10 gr10 at10 lt10 lg HOb HZb nzb lZb
            refine hK.out _ _ ?_ (fun hHeld => ?_)
            · exact dy
            clear hK K
            try simp only [List.getElem_toArray, List.getElem_cons_succ, List.getElem_cons_zero, Act.put, List.setIfInBounds_toArray, List.set_cons_zero, List.set_cons_succ]
            refine wpAnyH_ready (rs := [11]) (by kernel_rfl) (by simp) ?_
            refine AllReadyH.cons rfl (fun K hK => ?_) AllReadyH.nil
            go_simp
            refine hK.out _ _ ?_ (fun hHeld => ?_)
            · exact dy
            clear hK K
            try simp only [List.getElem_toArray, List.getElem_cons_succ, List.getElem_cons_zero, Act.put, List.setIfInBounds_toArray, List.set_cons_zero, List.set_cons_succ]
            refine wpAnyH_done (by kernel_rfl) ?_ _
            clear dy
            have HRa2 := hide (World.ownsRow.kept (w' := v10b) (unhide HRa) (grown_below (unhide HBb)) (by simp [Value.ownBlock]))
            have HB := hide ((unhide HBa).trans ((unhide HBb).mono (unhide HBa).size))
            have hIw := KI.later (unhide H0) (unhide HB)
            obtain ⟨kp0, kp1, kp2⟩ := hIw.k
            have kq0 := hIw.kf 0
            have kq1 := hIw.kf 1
            have kq2 := hIw.kf 2
            have HIW := hide hIw
            clear hIw
            go_wp2_with fail
            clear kp0 kp1 kp2 kq0 kq1 kq2
            have HC := hide (l7Less_any s ad cap (some ⟨Ga, 0, none⟩) (q + 1) Ca (topL L M) (some ⟨Gb, 0, none⟩) Cb (topL M L) v10b (unhide HK) (unhide HIW).i (own_at (by rw [← unhide HTL]; exact unhide HRa2)) (own_at (by rw [← unhide HTM]; exact unhide HRb)) (unhide HGL).1 (unhide HGL).2.1 hl (unhide HGL).2.2.1 (unhide HGL).2.2.2)
            rw [← unhide HU] at HC
            refine (unhide HC).mono ?_
            rintro e w5 ⟨⟨a5, c5, rfl, hi5, pl5⟩, b5⟩
            have hI5 := KI.later (unhide HIW) b5
            obtain ⟨⟨kp0, kp1, kp2⟩, _, _, _, s0, s1, s2, sf, lo, be⟩ := hI5
            have f0 := sf 0
            have f1 := sf 1
            have f2 := sf 2
            have HI5 := hide hi5
            have HPL := hide (Pl.mono (b := w.heap.size + 2) pl5 (by first | exact lo9 | exact Nat.le_trans lo9 (unhide HB).size))
            clear hi5 pl5 b5
            go_wp2
            refine bodyPost_ret (v := .tuple #[.agg #[.int .i64 u.1.m, .slice a5 u.1.n c5, .bool u.1.ok], .int .i64 u.2]) (by simp [results, Tryd.results17, go_sem, s0, s1, s2]) rfl ?_
            have mv := mov3 w5 (w.heap.size + 1) (.int .i64 u.1.m) (.slice a5 u.1.n c5) (.bool u.1.ok)
            exact ⟨⟨a5, c5, rfl, (unhide HI5).mov ((unhide HPL).apart (unhide HI).2.2.2 (by omega) (by omega)) mv, (unhide HPL).mono (by omega)⟩, bel3 be (by omega) _ _ _⟩
      · go_simp
        obtain ⟨v9a, hv9a⟩ : ∃ x, x = wda.alloc (.cells #[.int .i64 ya] 3) := ⟨_, rfl⟩
        have b9 : Below wda.heap.size wda v9a := by rw [hv9a]; exact (Below.refl _ _).alloc (Nat.le_refl _) _
        have l9 : wda.heap.size < v9a.heap.size := by rw [hv9a]; simp
        have lz9 : wz.heap.size ≤ wda.heap.size := (unhide HBa).size
        have HZa : Hid (Ints v9a wda.heap.size 0 1 (at0 [ya])) := fun i hi => by (obtain rfl : i = 0 := by omega); rw [hv9a]; simp [go_sem, at0]
        have HBa := hide ((unhide HBa).trans (b9.mono (unhide HBa).size))
        replace dy := cell_later b9 dy
        rw [← hv9a]
        obtain ⟨Za, hZa⟩ : ∃ x, x = wda.heap.size := ⟨_, rfl⟩
        rw [← hZa] at HZa  ⊢
        have lZa : Za < v9a.heap.size := by omega
        clear hv9a b9 l9 lz9 hZa
        refine hK.out _ _ ?_ (fun hHeld => ?_)
        · exact dy
        clear hK K
        try simp only [List.getElem_toArray, List.getElem_cons_succ, List.getElem_cons_zero, Act.put, List.setIfInBounds_toArray, List.set_cons_zero, List.set_cons_succ]
        refine wpAnyH_ready (rs := [0]) (by kernel_rfl) (by simp) ?_
        refine AllReadyH.cons rfl (fun K hK => ?_) AllReadyH.nil
        go_simp
        obtain ⟨v0a, hv0a⟩ : ∃ x, x = v9a.alloc (.cells #[] 3) := ⟨_, rfl⟩
        have b0 : Below v9a.heap.size v9a v0a := by rw [hv0a]; exact (Below.refl _ _).alloc (Nat.le_refl _) _
        have l0 : v9a.heap.size < v0a.heap.size := by rw [hv0a]; simp
        have lz0 : wz.heap.size ≤ v9a.heap.size := (unhide HBa).size
        have HXa : Hid (v0a.ownsRow wz.heap.size 3 1 (.slice (some ⟨v9a.heap.size, 0, none⟩) 0 0) 0 (icells [])) := by rw [hv0a]; exact own_mono (own_new v9a 3 1) lz0
        have HZa := hide ((unhide HZa).later b0)
        have nza : Za ≠ v9a.heap.size := by omega
        replace lZa : Za < v0a.heap.size := by omega
        have HBa := hide ((unhide HBa).trans (b0.mono (unhide HBa).size))
        replace dy := cell_later b0 dy
        rw [← hv0a]
        obtain ⟨Xa, hXa⟩ : ∃ x, x = v9a.heap.size := ⟨_, rfl⟩
        rw [← hXa] at HXa nza ⊢
        have lxa : wz.heap.size ≤ Xa ∧ Xa < v0a.heap.size := by omega
        clear hv0a b0 l0 lz0 hXa
        refine hK.out _ _ ?_ (fun hHeld => ?_)
        · exact dy
        clear hK K
        try simp only [List.getElem_toArray, List.getElem_cons_succ, List.getElem_cons_zero, Act.put, List.setIfInBounds_toArray, List.set_cons_zero, List.set_cons_succ]
        refine wpAnyH_ready (rs := [4]) (by kernel_rfl) (by simp) ?_
        refine AllReadyH.cons rfl (fun K hK => ?_) AllReadyH.nil
        apply step_ints (hT := lsInt) (L := []) (M := List.take q L) (base := wz.heap.size)
        case hgd => rfl
        case ho => rfl
        case hs => rfl
        case hown => exact unhide HXa
        case hbase => exact (unhide HBa).size
        case hx => rfl
        case hM => exact tkL
        case hi => exact fun i hi => (by rw [at0_take hi (by rw [lnL]; omega)]; exact ((unhide HBa).cell (p := ⟨bL, oL + i, none⟩) (wtL i (by omega)).2).trans (wtL i (by omega)).1)
        case hl => omega
        case' h => intro ga ca v4a o4 gr4 at4 lt4
        simp only [Nat.zero_add, List.nil_append] at o4 ⊢
        have HOa := hide o4
        have HBa := hide ((unhide HBa).trans ((mov_of_grown gr4).below lxa.1 (unhide HBa).size))
        replace dy := (mov_of_grown gr4).cell dy (by have := lxa.1; simp only; omega)
        have HZa : Hid (Ints v4a Za 0 1 (at0 [ya])) := fun i hi => (mov_of_grown gr4).cell (unhide HZa i hi) nza
        replace nza : Za ≠ ga := by rcases at4 with e | e <;> omega
        replace lZa : Za < v4a.heap.size := Nat.lt_of_lt_of_le lZa gr4.size
        clear o4 gr4 at4 lt4 HXa lxa
        refine hK.out _ _ ?_ (fun hHeld => ?_)
        · exact dy
        clear hK K
        try simp only [List.getElem_toArray, List.getElem_cons_succ, List.getElem_cons_zero, Act.put, List.setIfInBounds_toArray, List.set_cons_zero, List.set_cons_succ]
        refine wpAnyH_ready (rs := [10]) (by kernel_rfl) (by simp) ?_
        refine AllReadyH.cons rfl (fun K hK => ?_) AllReadyH.nil
        apply step_ints (hT := lsInt) (L := List.take q L) (M := [ya]) (base := wz.heap.size)
        case hgd => rfl
        case ho => rfl
        case hs => rfl
        case hown => exact unhide HOa
        case hbase => exact (unhide HBa).size
        case hx => rfl
        case hM => rfl
        case hi => exact unhide HZa
        case hl => omega
        case' h => intro Ga Ca v10a o10 gr10 at10 lt10
        have lg := own_base (unhide HOa)
        have HRa := hide o10
        have HBa := hide ((unhide HBa).trans ((mov_of_grown gr10).below lg (unhide HBa).size))
        replace dy := (mov_of_grown gr10).cell dy (by simp only; omega)
        clear o10 gr10 at10 lt10 lg HOa HZa nza lZa
        refine hK.out _ _ ?_ (fun hHeld => ?_)
        · exact dy
        clear hK K
        try simp only [List.getElem_toArray, List.getElem_cons_succ, List.getElem_cons_zero, Act.put, List.setIfInBounds_toArray, List.set_cons_zero, List.set_cons_succ]
        refine wpAnyH_ready (rs := [11]) (by kernel_rfl) (by simp) ?_
        refine AllReadyH.cons rfl (fun K hK => ?_) AllReadyH.nil
        go_simp
        refine hK.out _ _ ?_ (fun hHeld => ?_)
        · exact dy
        clear hK K
        try simp only [List.getElem_toArray, List.getElem_cons_succ, List.getElem_cons_zero, Act.put, List.setIfInBounds_toArray, List.set_cons_zero, List.set_cons_succ]
        refine wpAnyH_done (by kernel_rfl) ?_ _
        clear dy
        have lLb : bL < v10a.heap.size := Nat.lt_of_lt_of_le lL (unhide HBa).size
        have dy := ((unhide HBa).cell (p := ⟨bL, oL + q, none⟩) (wtL q (by omega)).2).trans (unhide HYB)
        have wtM2 : ∀ i, i < q + 1 → v10a.cell? ⟨bM, oM + i, none⟩ = some (.int .i64 (at0 M i)) ∧ bM < v10a.heap.size := fun i hi => ⟨((unhide HBa).cell (p := ⟨bM, oM + i, none⟩) (wtM i hi).2).trans (wtM i hi).1, Nat.lt_of_lt_of_le (wtM i hi).2 (unhide HBa).size⟩
        go_wp2
        refine wp_region_held_drew (S := fun w' => w'.cell? ⟨bL, oL + q, none⟩ = some (.int .i64 yb)) (by kernel_rfl) ?_ (fun hHeld => ?_)
        · exact dy
        obtain ⟨wdb, hwdb⟩ : ∃ x, x = v10a.drew := ⟨_, rfl⟩
        have HBb : Hid (Below v10a.heap.size v10a wdb) := by show _; rw [hwdb]; exact (Below.refl _ _).drew
        replace dy : wdb.cell? ⟨bL, oL + q, none⟩ = some (.int .i64 yb) := by rw [hwdb]; exact dy
        rw [← hwdb]
        clear hwdb
        refine wpAnyH_take (i := 1) (v := ?_) rfl (by kernel_rfl) (by kernel_rfl) (by kernel_rfl) (fun _ _ _ h => h) (Or.inl ⟨by rfl, ?_⟩) (by assumption) ?_
        rotate_left
        · (intro w hSw; (try dsimp only at hSw); first | (go_simp; done) | (go_simp; with_reducible rfl))
        try simp only [List.getElem_toArray, List.getElem_cons_succ, List.getElem_cons_zero, Act.put, List.setIfInBounds_toArray, List.set_cons_zero, List.set_cons_succ]
        refine wpAnyH_take (i := 2) (v := ?_) rfl (by kernel_rfl) (by kernel_rfl) (by kernel_rfl) (fun _ _ _ h => h) (Or.inl ⟨by rfl, ?_⟩) (by assumption) ?_
        rotate_left
        · (intro w hSw; (try dsimp only at hSw); first | (go_simp; done) | (go_simp; with_reducible rfl))
        try simp only [List.getElem_toArray, List.getElem_cons_succ, List.getElem_cons_zero, Act.put, List.setIfInBounds_toArray, List.set_cons_zero, List.set_cons_succ]
        refine wpAnyH_take (i := 3) (v := ?_) rfl (by kernel_rfl) (by kernel_rfl) (by kernel_rfl) (fun _ _ _ h => h) (Or.inl ⟨by rfl, ?_⟩) (by assumption) ?_
        rotate_left
        · (intro w hSw; (try dsimp only at hSw); first | (go_simp; done) | (go_simp; with_reducible rfl))
        try simp only [List.getElem_toArray, List.getElem_cons_succ, List.getElem_cons_zero, Act.put, List.setIfInBounds_toArray, List.set_cons_zero, List.set_cons_succ]
        refine wpAnyH_take (i := 5) (v := ?_) rfl (by kernel_rfl) (by kernel_rfl) (by kernel_rfl) (fun _ _ _ h => h) (Or.inl ⟨by rfl, ?_⟩) (by assumption) ?_
        rotate_left
        · (intro w hSw; (try dsimp only at hSw); first | (go_simp; done) | (go_simp; with_reducible rfl))
        try simp only [List.getElem_toArray, List.getElem_cons_succ, List.getElem_cons_zero, Act.put, List.setIfInBounds_toArray, List.set_cons_zero, List.set_cons_succ]
        refine wpAnyH_take (i := 6) (v := ?_) rfl (by kernel_rfl) (by kernel_rfl) (by kernel_rfl) (fun _ _ _ h => h) (Or.inl ⟨by rfl, ?_⟩) (by assumption) ?_
        rotate_left
        · (intro w hSw; (try dsimp only at hSw); first | (go_simp; done) | (go_simp; with_reducible rfl))
        try simp only [List.getElem_toArray, List.getElem_cons_succ, List.getElem_cons_zero, Act.put, List.setIfInBounds_toArray, List.set_cons_zero, List.set_cons_succ]
        refine wpAnyH_take (i := 7) (v := ?_) rfl (by kernel_rfl) (by kernel_rfl) (by kernel_rfl) (fun _ _ _ h => h) (Or.inl ⟨by rfl, ?_⟩) (by assumption) ?_
        rotate_left
        · (intro w hSw; (try dsimp only at hSw); first | (go_simp; done) | (go_simp; with_reducible rfl))
        try simp only [List.getElem_toArray, List.getElem_cons_succ, List.getElem_cons_zero, Act.put, List.setIfInBounds_toArray, List.set_cons_zero, List.set_cons_succ]
        refine wpAnyH_take (i := 8) (v := ?_) rfl (by kernel_rfl) (by kernel_rfl) (by kernel_rfl) (fun _ _ _ h => h) (Or.inl ⟨by rfl, ?_⟩) (by assumption) ?_
        rotate_left
        · (intro w hSw; (try dsimp only at hSw); first | (go_simp; done) | (go_simp; with_reducible rfl))
        try simp only [List.getElem_toArray, List.getElem_cons_succ, List.getElem_cons_zero, Act.put, List.setIfInBounds_toArray, List.set_cons_zero, List.set_cons_succ]
        refine wpAnyH_ready (rs := [0, 9]) (by kernel_rfl) (by simp) ?_
        refine AllReadyH.cons rfl (fun K hK => ?_) (AllReadyH.cons rfl (fun K hK => ?_) AllReadyH.nil)
        · go_simp
          obtain ⟨v0b, hv0b⟩ : ∃ x, x = wdb.alloc (.cells #[] 3) := ⟨_, rfl⟩
          have b0 : Below wdb.heap.size wdb v0b := by rw [hv0b]; exact (Below.refl _ _).alloc (Nat.le_refl _) _
          have l0 : wdb.heap.size < v0b.heap.size := by rw [hv0b]; simp
          have lz0 : v10a.heap.size ≤ wdb.heap.size := (unhide HBb).size
          have HXb : Hid (v0b.ownsRow v10a.heap.size 3 1 (.slice (some ⟨wdb.heap.size, 0, none⟩) 0 0) 0 (icells [])) := by rw [hv0b]; exact own_mono (own_new wdb 3 1) lz0
          have HBb := hide ((unhide HBb).trans (b0.mono (unhide HBb).size))
          replace dy := cell_later b0 dy
          rw [← hv0b]
          obtain ⟨Xb, hXb⟩ : ∃ x, x = wdb.heap.size := ⟨_, rfl⟩
          rw [← hXb] at HXb  ⊢
          have lxb : v10a.heap.size ≤ Xb ∧ Xb < v0b.heap.size := by omega
          clear hv0b b0 l0 lz0 hXb
          refine hK.out _ _ ?_ (fun hHeld => ?_)
          · exact dy
          clear hK K
          try simp only [List.getElem_toArray, List.getElem_cons_succ, List.getElem_cons_zero, Act.put, List.setIfInBounds_toArray, List.set_cons_zero, List.set_cons_succ]
          refine wpAnyH_ready (rs := [4, 9]) (by kernel_rfl) (by simp) ?_
          refine AllReadyH.cons rfl (fun K hK => ?_) (AllReadyH.cons rfl (fun K hK => ?_) AllReadyH.nil)
          · apply step_ints (hT := lsInt) (L := []) (M := List.take q M) (base := v10a.heap.size)
            case hgd => rfl
            case ho => rfl
            case hs => rfl
            case hown => exact unhide HXb
            case hbase => exact (unhide HBb).size
            case hx => rfl
            case hM => exact tkM
            case hi => exact fun i hi => (by rw [at0_take hi (by rw [lnM]; omega)]; exact ((unhide HBb).cell (p := ⟨bM, oM + i, none⟩) (wtM2 i (by omega)).2).trans (wtM2 i (by omega)).1)
            case hl => omega
            case' h => intro gb cb v4b o4 gr4 at4 lt4
            simp only [Nat.zero_add, List.nil_append] at o4 ⊢
            have HOb := hide o4
            have HBb := hide ((unhide HBb).trans ((mov_of_grown gr4).below lxb.1 (unhide HBb).size))
            replace dy := (mov_of_grown gr4).cell dy (by have := lxb.1; simp only; omega)
            clear o4 gr4 at4 lt4 HXb lxb
            refine hK.out _ _ ?_ (fun hHeld => ?_)
            · exact dy
            clear hK K
            try simp only [List.getElem_toArray, List.getElem_cons_succ, List.getElem_cons_zero, Act.put, List.setIfInBounds_toArray, List.set_cons_zero, List.set_cons_succ]
            refine wpAnyH_ready (rs := [9]) (by kernel_rfl) (by simp) ?_
            refine AllReadyH.cons rfl (fun K hK => ?_) AllReadyH.nil
            go_simp
            obtain ⟨v9b, hv9b⟩ : ∃ x, x = v4b.alloc (.cells #[.int .i64 yb] 3) := ⟨_, rfl⟩
            have b9 : Below v4b.heap.size v4b v9b := by rw [hv9b]; exact (Below.refl _ _).alloc (Nat.le_refl _) _
            have l9 : v4b.heap.size < v9b.heap.size := by rw [hv9b]; simp
            have lz9 : v10a.heap.size ≤ v4b.heap.size := (unhide HBb).size
            have HZb : Hid (Ints v9b v4b.heap.size 0 1 (at0 [yb])) := fun i hi => by (obtain rfl : i = 0 := by omega); rw [hv9b]; simp [go_sem, at0]
            have nzb : v4b.heap.size ≠ gb := by have := (own_cap (unhide HOb)).2; omega
            have HOb := hide (World.ownsRow.kept (w' := v9b) (unhide HOb) (grown_below b9) (by simp [Value.ownBlock]))
            have HBb := hide ((unhide HBb).trans (b9.mono (unhide HBb).size))
            replace dy := cell_later b9 dy
            rw [← hv9b]
            obtain ⟨Zb, hZb⟩ : ∃ x, x = v4b.heap.size := ⟨_, rfl⟩
            rw [← hZb] at HZb nzb ⊢
            have lZb : Zb < v9b.heap.size := by omega
            clear hv9b b9 l9 lz9 hZb
            refine hK.out _ _ ?_ (fun hHeld => ?_)
            · exact dy
            clear hK K
            try simp only [List.getElem_toArray, List.getElem_cons_succ, List.getElem_cons_zero, Act.put, List.setIfInBounds_toArray, List.set_cons_zero, List.set_cons_succ]
            refine wpAnyH_ready (rs := [10]) (by kernel_rfl) (by simp) ?_
            refine AllReadyH.cons rfl (fun K hK => ?_) AllReadyH.nil
            apply step_ints (hT := lsInt) (L := List.take q M) (M := [yb]) (base := v10a.heap.size)
            case hgd => rfl
            case ho => rfl
            case hs => rfl
            case hown => exact unhide HOb
            case hbase => exact (unhide HBb).size
            case hx => rfl
            case hM => rfl
            case hi => exact unhide HZb
            case hl => omega
            case' h => intro Gb Cb v10b o10 gr10 at10 lt10
            have lg := own_base (unhide HOb)
            have HRb := hide o10
            have HBb := hide ((unhide HBb).trans ((mov_of_grown gr10).below lg (unhide HBb).size))
            replace dy := (mov_of_grown gr10).cell dy (by simp only; omega)
            clear o10 gr10 at10 lt10 lg HOb HZb nzb lZb
            refine hK.out _ _ ?_ (fun hHeld => ?_)
            · exact dy
            clear hK K
            try simp only [List.getElem_toArray, List.getElem_cons_succ, List.getElem_cons_zero, Act.put, List.setIfInBounds_toArray, List.set_cons_zero, List.set_cons_succ]
            refine wpAnyH_ready (rs := [11]) (by kernel_rfl) (by simp) ?_
            refine AllReadyH.cons rfl (fun K hK => ?_) AllReadyH.nil
            go_simp
            refine hK.out _ _ ?_ (fun hHeld => ?_)
            · exact dy
            clear hK K
            try simp only [List.getElem_toArray, List.getElem_cons_succ, List.getElem_cons_zero, Act.put, List.setIfInBounds_toArray, List.set_cons_zero, List.set_cons_succ]
            refine wpAnyH_done (by kernel_rfl) ?_ _
            clear dy
            have HRa2 := hide (World.ownsRow.kept (w' := v10b) (unhide HRa) (grown_below (unhide HBb)) (by simp [Value.ownBlock]))
            have HB := hide ((unhide HBa).trans ((unhide HBb).mono (unhide HBa).size))
            have hIw := KI.later (unhide H0) (unhide HB)
            obtain ⟨kp0, kp1, kp2⟩ := hIw.k
            have kq0 := hIw.kf 0
            have kq1 := hIw.kf 1
            have kq2 := hIw.kf 2
            have HIW := hide hIw
            clear hIw
            go_wp2_with fail
            clear kp0 kp1 kp2 kq0 kq1 kq2
            have HC := hide (l7Less_any s ad cap (some ⟨Ga, 0, none⟩) (q + 1) Ca (topL L M) (some ⟨Gb, 0, none⟩) Cb (topL M L) v10b (unhide HK) (unhide HIW).i (own_at (by rw [← unhide HTL]; exact unhide HRa2)) (own_at (by rw [← unhide HTM]; exact unhide HRb)) (unhide HGL).1 (unhide HGL).2.1 hl (unhide HGL).2.2.1 (unhide HGL).2.2.2)
            rw [← unhide HU] at HC
            refine (unhide HC).mono ?_
            rintro e w5 ⟨⟨a5, c5, rfl, hi5, pl5⟩, b5⟩
            have hI5 := KI.later (unhide HIW) b5
            obtain ⟨⟨kp0, kp1, kp2⟩, _, _, _, s0, s1, s2, sf, lo, be⟩ := hI5
            have f0 := sf 0
            have f1 := sf 1
            have f2 := sf 2
            have HI5 := hide hi5
            have HPL := hide (Pl.mono (b := w.heap.size + 2) pl5 (by first | exact lo9 | exact Nat.le_trans lo9 (unhide HB).size))
            clear hi5 pl5 b5
            go_wp2
            refine bodyPost_ret (v := .tuple #[.agg #[.int .i64 u.1.m, .slice a5 u.1.n c5, .bool u.1.ok], .int .i64 u.2]) (by simp [results, Tryd.results17, go_sem, s0, s1, s2]) rfl ?_
            have mv := mov3 w5 (w.heap.size + 1) (.int .i64 u.1.m) (.slice a5 u.1.n c5) (.bool u.1.ok)
            exact ⟨⟨a5, c5, rfl, (unhide HI5).mov ((unhide HPL).apart (unhide HI).2.2.2 (by omega) (by omega)) mv, (unhide HPL).mono (by omega)⟩, bel3 be (by omega) _ _ _⟩
          · go_simp
            obtain ⟨v9b, hv9b⟩ : ∃ x, x = v0b.alloc (.cells #[.int .i64 yb] 3) := ⟨_, rfl⟩
            have b9 : Below v0b.heap.size v0b v9b := by rw [hv9b]; exact (Below.refl _ _).alloc (Nat.le_refl _) _
            have l9 : v0b.heap.size < v9b.heap.size := by rw [hv9b]; simp
            have lz9 : v10a.heap.size ≤ v0b.heap.size := (unhide HBb).size
            have HZb : Hid (Ints v9b v0b.heap.size 0 1 (at0 [yb])) := fun i hi => by (obtain rfl : i = 0 := by omega); rw [hv9b]; simp [go_sem, at0]
            have HXb := hide (World.ownsRow.kept (w' := v9b) (unhide HXb) (grown_below b9) (by simp [Value.ownBlock]))
            have nzb : v0b.heap.size ≠ Xb := by omega
            have HBb := hide ((unhide HBb).trans (b9.mono (unhide HBb).size))
            replace dy := cell_later b9 dy
            rw [← hv9b]
            obtain ⟨Zb, hZb⟩ : ∃ x, x = v0b.heap.size := ⟨_, rfl⟩
            rw [← hZb] at HZb nzb ⊢
            have lZb : Zb < v9b.heap.size := by omega
            clear hv9b b9 l9 lz9 hZb
            replace lxb : v10a.heap.size ≤ Xb ∧ Xb < v9b.heap.size := ⟨lxb.1, (own_cap (unhide HXb)).2⟩
            refine hK.out _ _ ?_ (fun hHeld => ?_)
            · exact dy
            clear hK K
            try simp only [List.getElem_toArray, List.getElem_cons_succ, List.getElem_cons_zero, Act.put, List.setIfInBounds_toArray, List.set_cons_zero, List.set_cons_succ]
            refine wpAnyH_ready (rs := [4]) (by kernel_rfl) (by simp) ?_
            refine AllReadyH.cons rfl (fun K hK => ?_) AllReadyH.nil
            apply step_ints (hT := lsInt) (L := []) (M := List.take q M) (base := v10a.heap.size)
            case hgd => rfl
            case ho => rfl
            case hs => rfl
            case hown => exact unhide HXb
            case hbase => exact (unhide HBb).size
            case hx => rfl
            case hM => exact tkM
            case hi => exact fun i hi => (by rw [at0_take hi (by rw [lnM]; omega)]; exact ((unhide HBb).cell (p := ⟨bM, oM + i, none⟩) (wtM2 i (by omega)).2).trans (wtM2 i (by omega)).1)
            case hl => omega
            case' h => intro gb cb v4b o4 gr4 at4 lt4
            simp only [Nat.zero_add, List.nil_append] at o4 ⊢
            have HOb := hide o4
            have HBb := hide ((unhide HBb).trans ((mov_of_grown gr4).below lxb.1 (unhide HBb).size))
            replace dy := (mov_of_grown gr4).cell dy (by have := lxb.1; simp only; omega)
            have HZb : Hid (Ints v4b Zb 0 1 (at0 [yb])) := fun i hi => (mov_of_grown gr4).cell (unhide HZb i hi) nzb
            replace nzb : Zb ≠ gb := by rcases at4 with e | e <;> omega
            replace lZb : Zb < v4b.heap.size := Nat.lt_of_lt_of_le lZb gr4.size
            clear o4 gr4 at4 lt4 HXb lxb
            refine hK.out _ _ ?_ (fun hHeld => ?_)
            · exact dy
            clear hK K
            try simp only [List.getElem_toArray, List.getElem_cons_succ, List.getElem_cons_zero, Act.put, List.setIfInBounds_toArray, List.set_cons_zero, List.set_cons_succ]
            refine wpAnyH_ready (rs := [10]) (by kernel_rfl) (by simp) ?_
            refine AllReadyH.cons rfl (fun K hK => ?_) AllReadyH.nil
            apply step_ints (hT := lsInt) (L := List.take q M) (M := [yb]) (base := v10a.heap.size)
            case hgd => rfl
            case ho => rfl
            case hs => rfl
            case hown => exact unhide HOb
            case hbase => exact (unhide HBb).size
            case hx => rfl
            case hM => rfl
            case hi => exact unhide HZb
            case hl => omega
            case' h => intro Gb Cb v10b o10 gr10 at10 lt10
            have lg := own_base (unhide HOb)
            have HRb := hide o10
            have HBb := hide ((unhide HBb).trans ((mov_of_grown gr10).below lg (unhide HBb).size))
            replace dy := (mov_of_grown gr10).cell dy (by simp only; omega)
            clear o10 gr10 at10 lt10 lg HOb HZb nzb lZb
            refine hK.out _ _ ?_ (fun hHeld => ?_)
            · exact dy
            clear hK K
            try simp only [List.getElem_toArray, List.getElem_cons_succ, List.getElem_cons_zero, Act.put, List.setIfInBounds_toArray, List.set_cons_zero, List.set_cons_succ]
            refine wpAnyH_ready (rs := [11]) (by kernel_rfl) (by simp) ?_
            refine AllReadyH.cons rfl (fun K hK => ?_) AllReadyH.nil
            go_simp
            refine hK.out _ _ ?_ (fun hHeld => ?_)
            · exact dy
            clear hK K
            try simp only [List.getElem_toArray, List.getElem_cons_succ, List.getElem_cons_zero, Act.put, List.setIfInBounds_toArray, List.set_cons_zero, List.set_cons_succ]
            refine wpAnyH_done (by kernel_rfl) ?_ _
            clear dy
            have HRa2 := hide (World.ownsRow.kept (w' := v10b) (unhide HRa) (grown_below (unhide HBb)) (by simp [Value.ownBlock]))
            have HB := hide ((unhide HBa).trans ((unhide HBb).mono (unhide HBa).size))
            have hIw := KI.later (unhide H0) (unhide HB)
            obtain ⟨kp0, kp1, kp2⟩ := hIw.k
            have kq0 := hIw.kf 0
            have kq1 := hIw.kf 1
            have kq2 := hIw.kf 2
            have HIW := hide hIw
            clear hIw
            go_wp2_with fail
            clear kp0 kp1 kp2 kq0 kq1 kq2
            have HC := hide (l7Less_any s ad cap (some ⟨Ga, 0, none⟩) (q + 1) Ca (topL L M) (some ⟨Gb, 0, none⟩) Cb (topL M L) v10b (unhide HK) (unhide HIW).i (own_at (by rw [← unhide HTL]; exact unhide HRa2)) (own_at (by rw [← unhide HTM]; exact unhide HRb)) (unhide HGL).1 (unhide HGL).2.1 hl (unhide HGL).2.2.1 (unhide HGL).2.2.2)
            rw [← unhide HU] at HC
            refine (unhide HC).mono ?_
            rintro e w5 ⟨⟨a5, c5, rfl, hi5, pl5⟩, b5⟩
            have hI5 := KI.later (unhide HIW) b5
            obtain ⟨⟨kp0, kp1, kp2⟩, _, _, _, s0, s1, s2, sf, lo, be⟩ := hI5
            have f0 := sf 0
            have f1 := sf 1
            have f2 := sf 2
            have HI5 := hide hi5
            have HPL := hide (Pl.mono (b := w.heap.size + 2) pl5 (by first | exact lo9 | exact Nat.le_trans lo9 (unhide HB).size))
            clear hi5 pl5 b5
            go_wp2
            refine bodyPost_ret (v := .tuple #[.agg #[.int .i64 u.1.m, .slice a5 u.1.n c5, .bool u.1.ok], .int .i64 u.2]) (by simp [results, Tryd.results17, go_sem, s0, s1, s2]) rfl ?_
            have mv := mov3 w5 (w.heap.size + 1) (.int .i64 u.1.m) (.slice a5 u.1.n c5) (.bool u.1.ok)
            exact ⟨⟨a5, c5, rfl, (unhide HI5).mov ((unhide HPL).apart (unhide HI).2.2.2 (by omega) (by omega)) mv, (unhide HPL).mono (by omega)⟩, bel3 be (by omega) _ _ _⟩
        · go_simp
          obtain ⟨v9b, hv9b⟩ : ∃ x, x = wdb.alloc (.cells #[.int .i64 yb] 3) := ⟨_, rfl⟩
          have b9 : Below wdb.heap.size wdb v9b := by rw [hv9b]; exact (Below.refl _ _).alloc (Nat.le_refl _) _
          have l9 : wdb.heap.size < v9b.heap.size := by rw [hv9b]; simp
          have lz9 : v10a.heap.size ≤ wdb.heap.size := (unhide HBb).size
          have HZb : Hid (Ints v9b wdb.heap.size 0 1 (at0 [yb])) := fun i hi => by (obtain rfl : i = 0 := by omega); rw [hv9b]; simp [go_sem, at0]
          have HBb := hide ((unhide HBb).trans (b9.mono (unhide HBb).size))
          replace dy := cell_later b9 dy
          rw [← hv9b]
          obtain ⟨Zb, hZb⟩ : ∃ x, x = wdb.heap.size := ⟨_, rfl⟩
          rw [← hZb] at HZb  ⊢
          have lZb : Zb < v9b.heap.size := by omega
          clear hv9b b9 l9 lz9 hZb
          refine hK.out _ _ ?_ (fun hHeld => ?_)
          · exact dy
          clear hK K
          try simp only [List.getElem_toArray, List.getElem_cons_succ, List.getElem_cons_zero, Act.put, List.setIfInBounds_toArray, List.set_cons_zero, List.set_cons_succ]
          refine wpAnyH_ready (rs := [0]) (by kernel_rfl) (by simp) ?_
          refine AllReadyH.cons rfl (fun K hK => ?_) AllReadyH.nil
          go_simp
          obtain ⟨v0b, hv0b⟩ : ∃ x, x = v9b.alloc (.cells #[] 3) := ⟨_, rfl⟩
          have b0 : Below v9b.heap.size v9b v0b := by rw [hv0b]; exact (Below.refl _ _).alloc (Nat.le_refl _) _
          have l0 : v9b.heap.size < v0b.heap.size := by rw [hv0b]; simp
          have lz0 : v10a.heap.size ≤ v9b.heap.size := (unhide HBb).size
          have HXb : Hid (v0b.ownsRow v10a.heap.size 3 1 (.slice (some ⟨v9b.heap.size, 0, none⟩) 0 0) 0 (icells [])) := by rw [hv0b]; exact own_mono (own_new v9b 3 1) lz0
          have HZb := hide ((unhide HZb).later b0)
          have nzb : Zb ≠ v9b.heap.size := by omega
          replace lZb : Zb < v0b.heap.size := by omega
          have HBb := hide ((unhide HBb).trans (b0.mono (unhide HBb).size))
          replace dy := cell_later b0 dy
          rw [← hv0b]
          obtain ⟨Xb, hXb⟩ : ∃ x, x = v9b.heap.size := ⟨_, rfl⟩
          rw [← hXb] at HXb nzb ⊢
          have lxb : v10a.heap.size ≤ Xb ∧ Xb < v0b.heap.size := by omega
          clear hv0b b0 l0 lz0 hXb
          refine hK.out _ _ ?_ (fun hHeld => ?_)
          · exact dy
          clear hK K
          try simp only [List.getElem_toArray, List.getElem_cons_succ, List.getElem_cons_zero, Act.put, List.setIfInBounds_toArray, List.set_cons_zero, List.set_cons_succ]
          refine wpAnyH_ready (rs := [4]) (by kernel_rfl) (by simp) ?_
          refine AllReadyH.cons rfl (fun K hK => ?_) AllReadyH.nil
          apply step_ints (hT := lsInt) (L := []) (M := List.take q M) (base := v10a.heap.size)
          case hgd => rfl
          case ho => rfl
          case hs => rfl
          case hown => exact unhide HXb
          case hbase => exact (unhide HBb).size
          case hx => rfl
          case hM => exact tkM
          case hi => exact fun i hi => (by rw [at0_take hi (by rw [lnM]; omega)]; exact ((unhide HBb).cell (p := ⟨bM, oM + i, none⟩) (wtM2 i (by omega)).2).trans (wtM2 i (by omega)).1)
          case hl => omega
          case' h => intro gb cb v4b o4 gr4 at4 lt4
          simp only [Nat.zero_add, List.nil_append] at o4 ⊢
          have HOb := hide o4
          have HBb := hide ((unhide HBb).trans ((mov_of_grown gr4).below lxb.1 (unhide HBb).size))
          replace dy := (mov_of_grown gr4).cell dy (by have := lxb.1; simp only; omega)
          have HZb : Hid (Ints v4b Zb 0 1 (at0 [yb])) := fun i hi => (mov_of_grown gr4).cell (unhide HZb i hi) nzb
          replace nzb : Zb ≠ gb := by rcases at4 with e | e <;> omega
          replace lZb : Zb < v4b.heap.size := Nat.lt_of_lt_of_le lZb gr4.size
          clear o4 gr4 at4 lt4 HXb lxb
          refine hK.out _ _ ?_ (fun hHeld => ?_)
          · exact dy
          clear hK K
          try simp only [List.getElem_toArray, List.getElem_cons_succ, List.getElem_cons_zero, Act.put, List.setIfInBounds_toArray, List.set_cons_zero, List.set_cons_succ]
          refine wpAnyH_ready (rs := [10]) (by kernel_rfl) (by simp) ?_
          refine AllReadyH.cons rfl (fun K hK => ?_) AllReadyH.nil
          apply step_ints (hT := lsInt) (L := List.take q M) (M := [yb]) (base := v10a.heap.size)
          case hgd => rfl
          case ho => rfl
          case hs => rfl
          case hown => exact unhide HOb
          case hbase => exact (unhide HBb).size
          case hx => rfl
          case hM => rfl
          case hi => exact unhide HZb
          case hl => omega
          case' h => intro Gb Cb v10b o10 gr10 at10 lt10
          have lg := own_base (unhide HOb)
          have HRb := hide o10
          have HBb := hide ((unhide HBb).trans ((mov_of_grown gr10).below lg (unhide HBb).size))
          replace dy := (mov_of_grown gr10).cell dy (by simp only; omega)
          clear o10 gr10 at10 lt10 lg HOb HZb nzb lZb
          refine hK.out _ _ ?_ (fun hHeld => ?_)
          · exact dy
          clear hK K
          try simp only [List.getElem_toArray, List.getElem_cons_succ, List.getElem_cons_zero, Act.put, List.setIfInBounds_toArray, List.set_cons_zero, List.set_cons_succ]
          refine wpAnyH_ready (rs := [11]) (by kernel_rfl) (by simp) ?_
          refine AllReadyH.cons rfl (fun K hK => ?_) AllReadyH.nil
          go_simp
          refine hK.out _ _ ?_ (fun hHeld => ?_)
          · exact dy
          clear hK K
          try simp only [List.getElem_toArray, List.getElem_cons_succ, List.getElem_cons_zero, Act.put, List.setIfInBounds_toArray, List.set_cons_zero, List.set_cons_succ]
          refine wpAnyH_done (by kernel_rfl) ?_ _
          clear dy
          have HRa2 := hide (World.ownsRow.kept (w' := v10b) (unhide HRa) (grown_below (unhide HBb)) (by simp [Value.ownBlock]))
          have HB := hide ((unhide HBa).trans ((unhide HBb).mono (unhide HBa).size))
          have hIw := KI.later (unhide H0) (unhide HB)
          obtain ⟨kp0, kp1, kp2⟩ := hIw.k
          have kq0 := hIw.kf 0
          have kq1 := hIw.kf 1
          have kq2 := hIw.kf 2
          have HIW := hide hIw
          clear hIw
          go_wp2_with fail
          clear kp0 kp1 kp2 kq0 kq1 kq2
          have HC := hide (l7Less_any s ad cap (some ⟨Ga, 0, none⟩) (q + 1) Ca (topL L M) (some ⟨Gb, 0, none⟩) Cb (topL M L) v10b (unhide HK) (unhide HIW).i (own_at (by rw [← unhide HTL]; exact unhide HRa2)) (own_at (by rw [← unhide HTM]; exact unhide HRb)) (unhide HGL).1 (unhide HGL).2.1 hl (unhide HGL).2.2.1 (unhide HGL).2.2.2)
          rw [← unhide HU] at HC
          refine (unhide HC).mono ?_
          rintro e w5 ⟨⟨a5, c5, rfl, hi5, pl5⟩, b5⟩
          have hI5 := KI.later (unhide HIW) b5
          obtain ⟨⟨kp0, kp1, kp2⟩, _, _, _, s0, s1, s2, sf, lo, be⟩ := hI5
          have f0 := sf 0
          have f1 := sf 1
          have f2 := sf 2
          have HI5 := hide hi5
          have HPL := hide (Pl.mono (b := w.heap.size + 2) pl5 (by first | exact lo9 | exact Nat.le_trans lo9 (unhide HB).size))
          clear hi5 pl5 b5
          go_wp2
          refine bodyPost_ret (v := .tuple #[.agg #[.int .i64 u.1.m, .slice a5 u.1.n c5, .bool u.1.ok], .int .i64 u.2]) (by simp [results, Tryd.results17, go_sem, s0, s1, s2]) rfl ?_
          have mv := mov3 w5 (w.heap.size + 1) (.int .i64 u.1.m) (.slice a5 u.1.n c5) (.bool u.1.ok)
          exact ⟨⟨a5, c5, rfl, (unhide HI5).mov ((unhide HPL).apart (unhide HI).2.2.2 (by omega) (by omega)) mv, (unhide HPL).mono (by omega)⟩, bel3 be (by omega) _ _ _⟩
end Go.Proofs.YtnjjobompjoigaaDoor
