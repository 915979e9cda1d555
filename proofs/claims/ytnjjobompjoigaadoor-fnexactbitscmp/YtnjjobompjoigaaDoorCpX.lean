/- BitsCmp of the model. -/
import Derived.Test.YtnjjobompjoigaaDoorCpT
import Derived.Test.YtnjjobompjoigaaDoorBkV
namespace Go.Proofs.YtnjjobompjoigaaDoor
open Go.ChangeShapes Go.WideShapes Go.ChangeAt Go.RowKit Go.Joins
set_option linter.unusedVariables false
set_option maxRecDepth 100000
set_option linter.unusedSimpArgs false

/-- What the model hands back: the mark is the list's one number, or 0. -/
def SCPost (r : BR) (base : Nat) (e : Ending) (w' : World) : Prop := ∃ a cap, e = .returned (.tuple #[.agg #[.int .i64 r.m, .slice a r.n cap], .int .i64 (at0 r.L 0)]) ∧ GtsAt w' a r.n r.G ∧ Lo a r.n base
set_option maxRecDepth 100000 in
set_option maxHeartbeats 2000000 in
theorem sBitsCmp_any (m : Int) (ad : Option Addr) (n cap : Nat) (G : Nat → Gt) (op : Int) (la : Option Addr) (nl cl : Nat) (L : List Int) (lb : Option Addr) (nm cm : Nat) (M : List Int) (w : World) (hd : GtsAt w ad n G) (hw : WG n G) (hnn : ad = none → n = 0 ∧ cap = 0) (hspot : ∀ p, ad = some p → p.spot = none) (hlow : ∀ p, ad = some p → p.block < w.heap.size) (hn : n ≤ 1048576)
    (hdL : IntsAt w la nl (at0 L)) (hdM : IntsAt w lb nm (at0 M)) (hL : L.length = nl) (hM : M.length = nm) (hl : nl ≤ 1048576) (hm : nm ≤ 1048576) (hcl : nl ≤ cl) (hcm : nm ≤ cm) :
    Calls Tryd.prog 5 #[.agg #[.int .i64 m, .slice ad n cap], .int .i64 op, .slice la nl cl, .slice lb nm cm] w fun e w' => SCPost (cmpBR m n G op L M) w.heap.size e w' ∧ Below w.heap.size w w' := by
  obtain ⟨wz, hwz⟩ : ∃ wz, wz = (w.alloc (.cells #[.int .i64 m, .slice ad n cap] 29)).alloc (.cells #[.int .i64 0, .slice none 0 0] 29) := ⟨_, rfl⟩
  have BL : Below w.heap.size w wz := by rw [hwz]; exact ((Below.refl _ _).alloc (Nat.le_refl _) _).alloc (by simp) _
  have p0 : wz.cell? ⟨w.heap.size, 0, none⟩ = some (.int .i64 m) := by rw [hwz]; simp [go_sem]
  have p1 : wz.cell? ⟨w.heap.size, 1, none⟩ = some (.slice ad n cap) := by rw [hwz]; simp [go_sem]
  have s0 : wz.cell? ⟨w.heap.size + 1, 0, none⟩ = some (.int .i64 0) := by rw [hwz]; simp [go_sem]
  have s1 : wz.cell? ⟨w.heap.size + 1, 1, none⟩ = some (.slice none 0 0) := by rw [hwz]; simp [go_sem]
  have f0 : wz.frozen? ⟨w.heap.size + 1, 0, none⟩ = false := by rw [hwz]; simp [go_sem]
  have f1 : wz.frozen? ⟨w.heap.size + 1, 1, none⟩ = false := by rw [hwz]; simp [go_sem]
  have lo : w.heap.size + 2 ≤ wz.heap.size := by rw [hwz]; simp
  have HI0 : Hid (KIn w (kS m n G) ad cap) := ⟨hd, hnn, hspot, hlow⟩
  have HW := hide hw
  have HDL := hide hdL
  have HDM := hide hdM
  have HL := hide hL
  have HM := hide hM
  have HZ := hide hwz
  clear hd hwz hw hnn hspot hlow hdL hdM hL hM
  go_enter Tryd.func5, Tryd.ntmps5
  go_wp2_with fail
  rw [← unhide HZ]
  refine (sNetOk_any m ad n cap G _ ((unhide HI0).1.later BL) (unhide HW) hn).mono ?_
  rintro e w1 ⟨rfl, b1⟩
  replace p0 := cell_later b1 p0
  replace p1 := cell_later b1 p1
  replace f0 := (b1.frozen (p := ⟨w.heap.size + 1, 0, none⟩) (World.block_lt_of_cell? _ _ s0)).trans f0
  replace f1 := (b1.frozen (p := ⟨w.heap.size + 1, 1, none⟩) (World.block_lt_of_cell? _ _ s1)).trans f1
  replace s0 := cell_later b1 s0
  replace s1 := cell_later b1 s1
  replace lo := Nat.le_trans lo b1.size
  replace BL := BL.trans (b1.mono BL.size)
  clear b1
  cases hP : netB m n G
  · have HN := hide (cmpBR_no (m := m) (n := n) (G := G) (op := op) (L := L) (M := M) (fun h => by have := h.1; rw [hP] at this; cases this))
    have e1 : w.heap.size + 1 < w1.heap.size := by omega
    go_wp2
    refine bodyPost_ret (v := .tuple #[.agg #[.int .i64 0, .slice none 0 0], .int .i64 0]) (by simp [results, Tryd.results5, go_sem, s0, s1, e1]) rfl ?_
    rw [unhide HN]
    exact ⟨⟨none, 0, by simp [nilB, at0], Or.inl rfl, Or.inl rfl⟩, (BL.trans ((mov2c w1 (w.heap.size + 1) _ _).below (by omega) BL.size))⟩
  · obtain ⟨hm0, hm1, hn6, _⟩ := netB_iff.1 hP
    go_wp2_with fail
    refine (l7Right_any m ad n cap la nl cl L _ hm0 hm1 hn6 ((unhide HDL).later BL) (unhide HL) hl).mono ?_
    rintro e w2 ⟨rfl, b2⟩
    replace p0 := cell_later b2 p0
    replace p1 := cell_later b2 p1
    replace f0 := (b2.frozen (p := ⟨w.heap.size + 1, 0, none⟩) (World.block_lt_of_cell? _ _ s0)).trans f0
    replace f1 := (b2.frozen (p := ⟨w.heap.size + 1, 1, none⟩) (World.block_lt_of_cell? _ _ s1)).trans f1
    replace s0 := cell_later b2 s0
    replace s1 := cell_later b2 s1
    replace lo := Nat.le_trans lo b2.size
    replace BL := BL.trans (b2.mono BL.size)
    clear b2
    cases hA : rgtB m n L
    · have HN := hide (cmpBR_no (m := m) (n := n) (G := G) (op := op) (L := L) (M := M) (fun h => by have := rgtB_yes h.2.1; rw [hA] at this; cases this))
      have e1 : w.heap.size + 1 < w2.heap.size := by omega
      go_wp2
      refine bodyPost_ret (v := .tuple #[.agg #[.int .i64 0, .slice none 0 0], .int .i64 0]) (by simp [results, Tryd.results5, go_sem, s0, s1, e1]) rfl ?_
      rw [unhide HN]
      exact ⟨⟨none, 0, by simp [nilB, at0], Or.inl rfl, Or.inl rfl⟩, (BL.trans ((mov2c w2 (w.heap.size + 1) _ _).below (by omega) BL.size))⟩
    · have hA' := rgtB_iff.1 hA
      go_wp2_with fail
      refine (l7Right_any m ad n cap lb nm cm M _ hm0 hm1 hn6 ((unhide HDM).later BL) (unhide HM) hm).mono ?_
      rintro e w3 ⟨rfl, b3⟩
      replace p0 := cell_later b3 p0
      replace p1 := cell_later b3 p1
      replace f0 := (b3.frozen (p := ⟨w.heap.size + 1, 0, none⟩) (World.block_lt_of_cell? _ _ s0)).trans f0
      replace f1 := (b3.frozen (p := ⟨w.heap.size + 1, 1, none⟩) (World.block_lt_of_cell? _ _ s1)).trans f1
      replace s0 := cell_later b3 s0
      replace s1 := cell_later b3 s1
      replace lo := Nat.le_trans lo b3.size
      replace BL := BL.trans (b3.mono BL.size)
      clear b3
      cases hB : rgtB m n M
      · have HN := hide (cmpBR_no (m := m) (n := n) (G := G) (op := op) (L := L) (M := M) (fun h => by have := rgtB_yes h.2.2.1; rw [hB] at this; cases this))
        have e1 : w.heap.size + 1 < w3.heap.size := by omega
        go_wp2
        refine bodyPost_ret (v := .tuple #[.agg #[.int .i64 0, .slice none 0 0], .int .i64 0]) (by simp [results, Tryd.results5, go_sem, s0, s1, e1]) rfl ?_
        rw [unhide HN]
        exact ⟨⟨none, 0, by simp [nilB, at0], Or.inl rfl, Or.inl rfl⟩, (BL.trans ((mov2c w3 (w.heap.size + 1) _ _).below (by omega) BL.size))⟩
      · have hB' := rgtB_iff.1 hB
        have h1 : 1 ≤ nl := by rw [← unhide HL]; exact hA'.2.1
        have h4 : nl ≤ 4 := by rw [← unhide HL]; exact hA'.2.2
        by_cases hE : nl = nm
        · subst hE
          by_cases o1 : op < 15
          · have k1 : decide (op < 15) = true := by simp [o1]
            have HN := hide (cmpBR_no (m := m) (n := n) (G := G) (op := op) (L := L) (M := M) (fun h => by have := h.2.2.2.2.1; omega))
            have e1 : w.heap.size + 1 < w3.heap.size := by omega
            go_wp2
            refine bodyPost_ret (v := .tuple #[.agg #[.int .i64 0, .slice none 0 0], .int .i64 0]) (by simp [results, Tryd.results5, go_sem, s0, s1, e1]) rfl ?_
            rw [unhide HN]
            exact ⟨⟨none, 0, by simp [nilB, at0], Or.inl rfl, Or.inl rfl⟩, (BL.trans ((mov2c w3 (w.heap.size + 1) _ _).below (by omega) BL.size))⟩
          · have k1 : decide (op < 15) = false := by simp; omega
            by_cases o2 : op > 17
            · have k2 : decide (op > 17) = true := by simp; omega
              have HN := hide (cmpBR_no (m := m) (n := n) (G := G) (op := op) (L := L) (M := M) (fun h => by have := h.2.2.2.2.2; omega))
              have e1 : w.heap.size + 1 < w3.heap.size := by omega
              go_wp2
              refine bodyPost_ret (v := .tuple #[.agg #[.int .i64 0, .slice none 0 0], .int .i64 0]) (by simp [results, Tryd.results5, go_sem, s0, s1, e1]) rfl ?_
              rw [unhide HN]
              exact ⟨⟨none, 0, by simp [nilB, at0], Or.inl rfl, Or.inl rfl⟩, (BL.trans ((mov2c w3 (w.heap.size + 1) _ _).below (by omega) BL.size))⟩
            · have k2 : decide (op > 17) = false := by simp; omega
              have o1' : ¬ op < 15 := o1
              have hN := cmpBR_yes (m := m) (n := n) (G := G) (op := op) (L := L) (M := M) ⟨hP, hA', hB', by rw [unhide HL, unhide HM], by omega, by omega⟩
              have hc := l7Cmp_any (kS m n G) ad cap op la nl cl L lb cm M w3 (kS_ok hP) ((unhide HI0).later BL) (by omega) (by omega) ((unhide HDL).later BL) ((unhide HDM).later BL) (unhide HL) (unhide HM) h1 (by omega) hcl hcm (hA'.mk hP) (hB'.mk hP)
              have hk6 : (cmpK 1 op (kS m n G) L M).1.n ≤ 600 := (cmpK_good (by omega) (kS_ok hP) (hA'.mk hP) (hB'.mk hP) (by rw [unhide HL, unhide HM]) (by rw [unhide HL]; exact h1)).1.2.2.1
              obtain ⟨u, hu⟩ : ∃ u, u = cmpK 1 op (kS m n G) L M := ⟨_, rfl⟩
              rw [← hu] at hN hc hk6
              have HC := hide hc
              have HN0 := hide hN
              clear hc hN hu hA' hB' hP hA hB
              go_wp2_with fail
              refine (unhide HC).mono ?_
              rintro e w5 ⟨⟨a5, c5, rfl, hi5, pl5⟩, b5⟩
              replace p0 := cell_later b5 p0
              replace p1 := cell_later b5 p1
              replace f0 := (b5.frozen (p := ⟨w.heap.size + 1, 0, none⟩) (World.block_lt_of_cell? _ _ s0)).trans f0
              replace f1 := (b5.frozen (p := ⟨w.heap.size + 1, 1, none⟩) (World.block_lt_of_cell? _ _ s1)).trans f1
              replace s0 := cell_later b5 s0
              replace s1 := cell_later b5 s1
              replace lo := Nat.le_trans lo b5.size
              replace BL := BL.trans (b5.mono BL.size)
              clear b5
              have HI5 := hide hi5
              clear hi5 pl5
              cases hok : u.1.ok
              · have HN : Hid (cmpBR m n G op L M = nilB) := (unhide HN0).trans (brK_no hok)
                have e1 : w.heap.size + 1 < w5.heap.size := by omega
                go_wp2
                refine bodyPost_ret (v := .tuple #[.agg #[.int .i64 0, .slice none 0 0], .int .i64 0]) (by simp [results, Tryd.results5, go_sem, s0, s1, e1]) rfl ?_
                rw [unhide HN]
                exact ⟨⟨none, 0, by simp [nilB, at0], Or.inl rfl, Or.inl rfl⟩, (BL.trans ((mov2c w5 (w.heap.size + 1) _ _).below (by omega) BL.size)).alloc (Nat.le_trans BL.size (mov2c w5 (w.heap.size + 1) _ _).size) _⟩
              · have HN : Hid (cmpBR m n G op L M = ⟨u.1.m, u.1.n, u.1.G, [u.2]⟩) := (unhide HN0).trans (brK_yes hok)
                obtain ⟨wv, hwv⟩ : ∃ x, x = w5.alloc (.cells #[.int .i64 u.1.m, .slice a5 u.1.n c5, .bool true] 43) := ⟨_, rfl⟩
                have bv : Below w5.heap.size w5 wv := by rw [hwv]; exact (Below.refl _ _).alloc (Nat.le_refl _) _
                have HWV := hide hwv
                have HB := hide bv
                clear hwv
                go_wp2_with fail
                rw [← unhide HWV]
                replace p0 := cell_later bv p0
                replace p1 := cell_later bv p1
                replace f0 := (bv.frozen (p := ⟨w.heap.size + 1, 0, none⟩) (World.block_lt_of_cell? _ _ s0)).trans f0
                replace f1 := (bv.frozen (p := ⟨w.heap.size + 1, 1, none⟩) (World.block_lt_of_cell? _ _ s1)).trans f1
                replace s0 := cell_later bv s0
                replace s1 := cell_later bv s1
                replace lo := Nat.le_trans lo bv.size
                replace BL := BL.trans (bv.mono BL.size)
                clear bv
                refine (l6Fresh_any u.1.m a5 u.1.n c5 u.1.G wv ((unhide HI5).1.later (unhide HB)) (unhide HI5).2.1 (unhide HI5).2.2.1 (by omega)).mono ?_
                rintro e w6 ⟨g6, c6, rfl, hg6, lg6, b6⟩
                have lw6 : w.heap.size + 2 ≤ g6 := Nat.le_trans lo lg6
                replace p0 := cell_later b6 p0
                replace p1 := cell_later b6 p1
                replace f0 := (b6.frozen (p := ⟨w.heap.size + 1, 0, none⟩) (World.block_lt_of_cell? _ _ s0)).trans f0
                replace f1 := (b6.frozen (p := ⟨w.heap.size + 1, 1, none⟩) (World.block_lt_of_cell? _ _ s1)).trans f1
                replace s0 := cell_later b6 s0
                replace s1 := cell_later b6 s1
                replace lo := Nat.le_trans lo b6.size
                replace BL := BL.trans (b6.mono BL.size)
                clear b6
                have HG6 := hide hg6
                clear hg6 lg6
                go_wp2
                refine bodyPost_ret (v := .tuple #[.agg #[.int .i64 u.1.m, .slice (some ⟨g6, 0, none⟩) u.1.n c6], .int .i64 u.2]) (by simp [results, Tryd.results5, go_sem, s0, s1]) rfl ?_
                rw [unhide HN]
                have mv := mov2c w6 (w.heap.size + 1) (.int .i64 u.1.m) (.slice (some ⟨g6, 0, none⟩) u.1.n c6)
                have la6 : Lo (some ⟨g6, 0, none⟩) u.1.n (w.heap.size + 2) := Or.inr (fun b off e => by cases e; exact lw6)
                exact ⟨⟨some ⟨g6, 0, none⟩, c6, rfl, (unhide HG6).apart (la6.ne (B := w.heap.size + 1) (by omega)) mv, la6.mono (by omega)⟩, BL.trans (mv.below (by omega) BL.size)⟩
        · have k0 : ((nl : Int) != (nm : Int)) = true := by simp; omega
          have HN := hide (cmpBR_no (m := m) (n := n) (G := G) (op := op) (L := L) (M := M) (fun h => hE (by have := h.2.2.2.1; rw [unhide HL, unhide HM] at this; exact this)))
          have e1 : w.heap.size + 1 < w3.heap.size := by omega
          go_wp2
          refine bodyPost_ret (v := .tuple #[.agg #[.int .i64 0, .slice none 0 0], .int .i64 0]) (by simp [results, Tryd.results5, go_sem, s0, s1, e1]) rfl ?_
          rw [unhide HN]
          exact ⟨⟨none, 0, by simp [nilB, at0], Or.inl rfl, Or.inl rfl⟩, (BL.trans ((mov2c w3 (w.heap.size + 1) _ _).below (by omega) BL.size))⟩
end Go.Proofs.YtnjjobompjoigaaDoor
