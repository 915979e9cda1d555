/- The clauses of a net, of both sides. -/
import Derived.Test.YtoglplpchjcpoaaCnS
import Derived.Test.YtoglplpchjcpoaaNokC
import Derived.Test.YtoglplpchjcpoaaNvM
namespace Go.Proofs.Ytoglplpchjcpoaa
open Go.ChangeShapes Go.WideShapes Go.ChangeAt Go.RowKit Go.Joins
set_option linter.unusedVariables false
set_option linter.unusedSimpArgs false

/-- What NetCnf hands back. -/
def NcPost (m : Int) (n : Nat) (G : Nat → Gt) (base : Nat) (e : Ending) (w' : World) : Prop := (netB m n G = true ∧ CnPost (1 + m + n) (netL m G n) base e w') ∨ (netB m n G = false ∧ e = .returned (.agg #[.int .i64 0, .slice none 0 0]))
theorem netP_bd {m : Int} {n : Nat} {G : Nat → Gt} (h : NetP m n G) : ∀ i, i < n → (-700 ≤ (G i).a ∧ (G i).a ≤ 700) ∧ -700 ≤ (G i).b ∧ (G i).b ≤ 700 := fun i hi => by
  obtain ⟨h0, h1, h2, h3⟩ := h
  have q := (h3 i hi).1
  unfold GmP at q
  simp only [absI] at q
  omega
theorem Fr.from {w0 w1 w : World} {T m : Nat} {P : List Qc} (h : Fr w1 w T m P) (hb : Below w0.heap.size w0 w1) : Fr w0 w T m P := ⟨h.l, h.v, fun j hj => (h.c j hj).mono hb.size, h.d, Nat.le_trans hb.size h.t, hb.trans (h.b.mono hb.size)⟩
set_option maxHeartbeats 1000000 in
theorem sNetCnf_any (m : Int) (ad : Option Addr) (n cap : Nat) (G : Nat → Gt) (w : World) (hd : GtsAt w ad n G) (hw : WG n G) (hn : n ≤ 1048576) :
    Calls Try.prog 5 #[.agg #[.int .i64 m, .slice ad n cap]] w fun e w' => NcPost m n G w.heap.size e w' ∧ Below w.heap.size w w' := by
  obtain ⟨wz, hwz⟩ : ∃ wz, wz = (w.alloc (.cells #[.int .i64 m, .slice ad n cap] 32)).alloc (.cells #[.int .i64 0, .slice none 0 0] 28) := ⟨_, rfl⟩
  have BL : Below w.heap.size w wz := by rw [hwz]; exact ((Below.refl _ _).alloc (Nat.le_refl _) _).alloc (by simp) _
  have p0 : wz.cell? ⟨w.heap.size, 0, none⟩ = some (.int .i64 m) := by rw [hwz]; simp [go_sem]
  have p1 : wz.cell? ⟨w.heap.size, 1, none⟩ = some (.slice ad n cap) := by rw [hwz]; simp [go_sem]
  have s0 : wz.cell? ⟨w.heap.size + 1, 0, none⟩ = some (.int .i64 0) := by rw [hwz]; simp [go_sem]
  have s1 : wz.cell? ⟨w.heap.size + 1, 1, none⟩ = some (.slice none 0 0) := by rw [hwz]; simp [go_sem]
  have f0 : wz.frozen? ⟨w.heap.size + 1, 0, none⟩ = false := by rw [hwz]; simp [go_sem]
  have f1 : wz.frozen? ⟨w.heap.size + 1, 1, none⟩ = false := by rw [hwz]; simp [go_sem]
  have lz : w.heap.size + 1 < wz.heap.size := by rw [hwz]; simp
  have HD := hide (hd.later BL)
  have HW := hide hw
  have HZ := hide hwz
  clear hd hw hwz
  go_enter Try.func5, Try.ntmps5
  go_wp2_with fail
  rw [← unhide HZ]
  refine (sNetOk_any m ad n cap G wz (unhide HD) (unhide HW) hn).mono ?_
  rintro e w1 ⟨rfl, b1⟩
  have l1 := b1.size
  replace p0 := cell_later b1 p0
  replace p1 := cell_later b1 p1
  replace f0 := (b1.frozen (p := ⟨w.heap.size + 1, 0, none⟩) lz).trans f0
  replace f1 := (b1.frozen (p := ⟨w.heap.size + 1, 1, none⟩) lz).trans f1
  replace s0 := cell_later b1 s0
  replace s1 := cell_later b1 s1
  replace BL := BL.trans (b1.mono BL.size)
  have HD1 := hide ((unhide HD).later b1)
  clear b1
  cases hP : netB m n G
  · go_wp2
    refine bodyPost_ret (v := .agg #[.int .i64 0, .slice none 0 0]) (by simp [results, Try.results5, go_sem, s0, s1]) rfl ?_
    exact ⟨Or.inr ⟨hP, rfl⟩, BL.trans ((mov2x w1 (w.heap.size + 1) _ _).below (by omega) BL.size)⟩
  · have hp := netB_iff.1 hP
    have HC := hide (l6Cnf_any m ad n cap G w1 (unhide HD1) hp.1 hp.2.1 hp.2.2.1 (netP_bd hp))
    have HPP := hide hP
    clear hp hP
    go_wp2_with fail
    refine (unhide HC).mono ?_
    rintro e w2 ⟨⟨g, nn, cp, Q, rfl, hcr, hQ⟩, b2⟩
    have lz2 : w.heap.size + 1 < w1.heap.size := by omega
    replace f0 := (b2.frozen (p := ⟨w.heap.size + 1, 0, none⟩) lz2).trans f0
    replace f1 := (b2.frozen (p := ⟨w.heap.size + 1, 1, none⟩) lz2).trans f1
    replace s0 := cell_later b2 s0
    replace s1 := cell_later b2 s1
    replace BL := BL.trans (b2.mono BL.size)
    have HCR := hide hcr
    have HQ := hide hQ
    clear hcr hQ b2
    go_wp2
    refine bodyPost_ret (v := .agg #[.int .i64 (1 + m + n), .slice (some ⟨g, 0, none⟩) nn cp]) (by simp [results, Try.results5, go_sem, s0, s1]) rfl ?_
    have mv := mov2x w2 (w.heap.size + 1) (.int .i64 (1 + m + n)) (.slice (some ⟨g, 0, none⟩) nn cp)
    exact ⟨Or.inl ⟨unhide HPP, g, nn, cp, Q, rfl, ((unhide HCR).mov mv (by omega)).mono (by omega), unhide HQ⟩, BL.trans (mv.below (by omega) BL.size)⟩
set_option maxHeartbeats 1000000 in
theorem gateClauses_any (x : Bool) (a b k : Int) (w : World) (ha : -700 ≤ a ∧ a ≤ 700) (hb : -700 ≤ b ∧ b ≤ 700) (hk : -1000 ≤ k ∧ k ≤ 1000) :
    Calls Try.prog 19 #[.agg #[.bool x, .int .i64 a, .int .i64 b], .int .i64 k] w fun e w' => ∃ T m P, e = .returned (.slice (some ⟨T, 0, none⟩) m m) ∧ Fr w w' T m P ∧ P.map Prod.snd = gateL ⟨x, a, b⟩ k ∧ m ≤ 4 := by
  obtain ⟨wb, hwb⟩ : ∃ wb, wb = w.alloc (.cells #[.bool x, .int .i64 a, .int .i64 b] 45) := ⟨_, rfl⟩
  have BL : Below w.heap.size w wb := by rw [hwb]; exact (Below.refl _ _).alloc (Nat.le_refl _) _
  have g0 : wb.cell? ⟨w.heap.size, 0, none⟩ = some (.bool x) := by rw [hwb]; simp [go_sem]
  have g1 : wb.cell? ⟨w.heap.size, 1, none⟩ = some (.int .i64 a) := by rw [hwb]; simp [go_sem]
  have g2 : wb.cell? ⟨w.heap.size, 2, none⟩ = some (.int .i64 b) := by rw [hwb]; simp [go_sem]
  have hwk : IntKind.i64.wrap (-k) = -k := by rw [IntKind.wrap_i64]; omega
  have hwa : IntKind.i64.wrap (-a) = -a := by rw [IntKind.wrap_i64]; omega
  have hwbb : IntKind.i64.wrap (-b) = -b := by rw [IntKind.wrap_i64]; omega
  have HWB := hide hwb
  clear hwb
  cases x
  all_goals go_enter Try.func19, Try.ntmps19
  all_goals go_wp2
  all_goals rw [← unhide HWB]
  all_goals go_region
  all_goals go_wp2
  all_goals go_ret
  all_goals (first | exact ⟨_, 3, _, rfl, (fr_and wb.drew a b k).from BL.drew, rfl, by omega⟩ | exact ⟨_, 4, _, rfl, (fr_xor wb.drew a b k).from BL.drew, rfl, by omega⟩)
set_option maxRecDepth 100000 in
set_option maxHeartbeats 2000000 in
theorem iNetCnf_any (m : Int) (ad : Option Addr) (n cap : Nat) (G : Nat → Gt) (w : World) (hd : GtsAt w ad n G) (hw : WG n G) (hn : n ≤ 1048576) :
    Calls Try.prog 7 #[.agg #[.int .i64 m, .slice ad n cap]] w fun e w' => NcPost m n G w.heap.size e w' ∧ Below w.heap.size w w' := by
  obtain ⟨wz, hwz⟩ : ∃ wz, wz = (w.alloc (.cells #[.int .i64 m, .slice ad n cap] 32)).alloc (.cells #[.int .i64 0, .slice none 0 0] 28) := ⟨_, rfl⟩
  have BL : Below w.heap.size w wz := by rw [hwz]; exact ((Below.refl _ _).alloc (Nat.le_refl _) _).alloc (by simp) _
  have p0 : wz.cell? ⟨w.heap.size, 0, none⟩ = some (.int .i64 m) := by rw [hwz]; simp [go_sem]
  have p1 : wz.cell? ⟨w.heap.size, 1, none⟩ = some (.slice ad n cap) := by rw [hwz]; simp [go_sem]
  have s0 : wz.cell? ⟨w.heap.size + 1, 0, none⟩ = some (.int .i64 0) := by rw [hwz]; simp [go_sem]
  have s1 : wz.cell? ⟨w.heap.size + 1, 1, none⟩ = some (.slice none 0 0) := by rw [hwz]; simp [go_sem]
  have sf : ∀ o, wz.frozen? ⟨w.heap.size + 1, o, none⟩ = false := fun o => by rw [hwz]; simp [go_sem]
  have lz : w.heap.size + 1 < wz.heap.size := by rw [hwz]; simp
  have HD0 := hide hd
  have HD := hide (hd.later BL)
  have HW := hide hw
  have HZ := hide hwz
  have f0 := sf 0
  have f1 := sf 1
  clear hd hw hwz
  go_enter Try.func7, Try.ntmps7
  go_wp2_with fail
  rw [← unhide HZ]
  refine (iNetOk_any m ad n cap G wz (unhide HD) (unhide HW) hn).mono ?_
  rintro e w9 ⟨rfl, b1⟩
  have l1 := b1.size
  replace p0 := cell_later b1 p0
  replace p1 := cell_later b1 p1
  replace f0 := (b1.frozen (p := ⟨w.heap.size + 1, 0, none⟩) lz).trans f0
  replace f1 := (b1.frozen (p := ⟨w.heap.size + 1, 1, none⟩) lz).trans f1
  replace sf : ∀ o, w9.frozen? ⟨w.heap.size + 1, o, none⟩ = false := fun o => (b1.frozen (p := ⟨w.heap.size + 1, o, none⟩) lz).trans (sf o)
  replace s0 := cell_later b1 s0
  replace s1 := cell_later b1 s1
  replace BL := BL.trans (b1.mono BL.size)
  have lz9 : w.heap.size + 1 < w9.heap.size := by omega
  clear b1
  cases hP : netB m n G
  · clear sf
    go_wp2
    refine bodyPost_ret (v := .agg #[.int .i64 0, .slice none 0 0]) (by simp [results, Try.results7, go_sem, s0, s1]) rfl ?_
    exact ⟨Or.inr ⟨hP, rfl⟩, BL.trans ((mov2x w9 (w.heap.size + 1) _ _).below (by omega) BL.size)⟩
  · obtain ⟨hm0, hm1, hn6, _⟩ := netB_iff.1 hP
    have HG := hide (netP_bd (netB_iff.1 hP))
    have HPP := hide hP
    clear hP hn
    go_wp2_with fail
    refine (netMany_any m ad n cap w9 hm0 hm1 (by omega)).mono ?_
    rintro e w1 ⟨rfl, b1⟩
    have l1 := b1.size
    replace p0 := cell_later b1 p0
    replace p1 := cell_later b1 p1
    replace sf : ∀ o, w1.frozen? ⟨w.heap.size + 1, o, none⟩ = false := fun o => (b1.frozen (p := ⟨w.heap.size + 1, o, none⟩) lz9).trans (sf o)
    replace s0 := cell_later b1 s0
    replace s1 := cell_later b1 s1
    replace BL := BL.trans (b1.mono BL.size)
    clear b1 f0 f1
    have h0 : Hid (CI w (((w1.alloc (.cells #[.int .i64 1] 3)).alloc (.cells #[.slice (some ⟨w1.heap.size, 0, none⟩) 1 1] 43)).alloc (.cells #[.int .i64 (1 + m + n), .slice (some ⟨w1.heap.size + 1, 0, none⟩) 1 1] 28)) (w1.heap.size + 1 + 1) (w1.heap.size + 1) 1 1 [(w1.heap.size, [1])] m ad n cap G (1 + m + n)) := by
      have b3 := alloc_bel (alloc_bel (alloc_up w1 (.cells #[.int .i64 1] 3)) (.cells #[.slice (some ⟨w1.heap.size, 0, none⟩) 1 1] 43)) (.cells #[.int .i64 (1 + m + n), .slice (some ⟨w1.heap.size + 1, 0, none⟩) 1 1] 28)
      have hl : w.heap.size + 1 < w1.heap.size := World.block_lt_of_cell? _ _ s0
      refine ⟨cell_later b3 p0, cell_later b3 p1, cell_later b3 s0, cell_later b3 s1, fun o => (b3.frozen (p := ⟨w.heap.size + 1, o, none⟩) hl).trans (sf o), by simp [go_sem], by simp [go_sem], by simp [go_sem], by omega, ⟨((Cr.one w1).later (alloc_up _ _)).mono (by omega), by omega, fun i hi => ?_⟩, BL.trans (b3.mono BL.size)⟩
      obtain rfl : i = 0 := by omega
      show w1.heap.size ≠ w1.heap.size + 1 + 1
      omega
    have q1 := (unhide h0).p1
    clear p0 p1 s0 s1 sf l1 BL
    go_wp2
    go_loopw [18] (fun i wr => ∃ j : Nat, j ≤ n ∧ i = .int .i64 j ∧ ∃ g nn cp Q, CI w wr (w1.heap.size + 1 + 1) g nn cp Q m ad n cap G (1 + m + n) ∧ nn ≤ 1 + 4 * j ∧ Q.map Prod.snd = netL m G j) (fun i _ => n - (intOf i).toNat)
    case atStart => exact ⟨0, by omega, rfl, _, _, _, _, unhide h0, by omega, rfl⟩
    case round =>
      obtain ⟨j, hj, rfl, g, nn, cp, Q, hI, hnn, hQ⟩ := hrel
      have HQ := hide hQ
      by_cases hlt : j < n
      · obtain ⟨ab, off, rfl, lab, hgt⟩ := (unhide HD0).resolve_left (by omega)
        obtain ⟨c0, c1, c2⟩ := hgt j hlt
        have g0 := (hI.be.cell (p := ⟨ab, off + j * 3, none⟩) lab).trans c0
        have g1 := (hI.be.cell (p := ⟨ab, off + j * 3 + 1, none⟩) lab).trans c1
        have g2 := (hI.be.cell (p := ⟨ab, off + j * 3 + 2, none⟩) lab).trans c2
        obtain ⟨⟨ga0, ga1⟩, gb0, gb1⟩ := unhide HG j hlt
        have HN : Hid (netL m G (j + 1) = netL m G j ++ gateL (G j) (2 + m + j)) := rfl
        generalize G j = q at *
        obtain ⟨qx, qa, qb⟩ := q
        simp only at ga0 ga1 gb0 gb1 g0 g1 g2 c0 c1 c2
        have hw3 : IntKind.i64.wrap (2 + m + (j : Int)) = 2 + m + (j : Int) := by rw [IntKind.wrap_i64]; omega
        clear hQ hgt c0 c1 c2
        obtain ⟨wv, hwv⟩ : ∃ x, x = wr.alloc (.cells #[.bool qx, .int .i64 qa, .int .i64 qb] 45) := ⟨_, rfl⟩
        have bv : Below wr.heap.size wr wv := by rw [hwv]; exact alloc_up _ _
        have v0 : wv.cell? ⟨wr.heap.size, 0, none⟩ = some (.bool qx) := by rw [hwv]; simp [go_sem]
        have v1 : wv.cell? ⟨wr.heap.size, 1, none⟩ = some (.int .i64 qa) := by rw [hwv]; simp [go_sem]
        have v2 : wv.cell? ⟨wr.heap.size, 2, none⟩ = some (.int .i64 qb) := by rw [hwv]; simp [go_sem]
        have HIv := hide (hI.later bv)
        have zlt : wr.heap.size < wv.heap.size := by rw [hwv]; simp
        have HWV := hide hwv
        have lgg := (own_cap hI.cr.1.o).2
        have lxx := hI.xlt
        have lww := hI.be.size
        clear hI hwv bv
        go_wp2_with fail
        rw [← unhide HWV]
        clear g0 g1 g2
        obtain ⟨Z, hZ⟩ : ∃ z, z = wr.heap.size := ⟨_, rfl⟩
        have zg : wr.heap.size ≠ g := by omega
        have zx : wr.heap.size ≠ w1.heap.size + 1 + 1 := by omega
        rw [← hZ] at v0 v1 v2 zlt zg zx ⊢
        clear hZ lgg lxx
        obtain ⟨X, hX⟩ : ∃ z, z = w1.heap.size + 1 + 1 := ⟨_, rfl⟩
        rw [← hX] at HIv zx ⊢
        have wx := (unhide HIv).xl
        have HXX := hide hX
        clear hX
        have kp0 := (unhide HIv).p0
        have kp1 := (unhide HIv).p1
        have kx0 := (unhide HIv).x0
        have kx1 := (unhide HIv).x1
        refine wp_region_held_drew (S := fun w' => (w'.cell? ⟨Z, 0, none⟩ = some (.bool qx) ∧ w'.cell? ⟨Z, 1, none⟩ = some (.int .i64 qa) ∧ w'.cell? ⟨Z, 2, none⟩ = some (.int .i64 qb)) ∧ w'.cell? ⟨w.heap.size, 0, none⟩ = some (.int .i64 m) ∧ w'.cell? ⟨w.heap.size, 1, none⟩ = some (.slice (some ⟨ab, off, none⟩) n cap)) (by kernel_rfl) ?_ (fun hHeld => ?_)
        · exact ⟨⟨v0, v1, v2⟩, kp0, kp1⟩
        refine wpAnyH_take (i := 0) (v := ?_) rfl (by kernel_rfl) (by kernel_rfl) (by kernel_rfl) (fun _ _ _ h => h) (Or.inl ⟨by rfl, ?_⟩) (by assumption) ?_
        rotate_left
        · (intro w hSw; (try dsimp only at hSw); first | (go_simp; done) | (go_simp; with_reducible rfl))
        try simp only [List.getElem_toArray, List.getElem_cons_succ, List.getElem_cons_zero, Act.put, List.setIfInBounds_toArray, List.set_cons_zero, List.set_cons_succ]
        refine wpAnyH_take (i := 2) (v := ?_) rfl (by kernel_rfl) (by kernel_rfl) (by kernel_rfl) (fun _ _ _ h => h) (Or.inl ⟨by rfl, ?_⟩) (by assumption) ?_
        rotate_left
        · (intro w hSw; (try dsimp only at hSw); first | (go_simp; done) | (go_simp; with_reducible rfl))
        try simp only [List.getElem_toArray, List.getElem_cons_succ, List.getElem_cons_zero, Act.put, List.setIfInBounds_toArray, List.set_cons_zero, List.set_cons_succ]
        refine wpAnyH_take (i := 3) (v := ?_) rfl (by kernel_rfl) (by kernel_rfl) (by kernel_rfl) (fun _ _ _ h => h) (Or.inl ⟨by rfl, ?_⟩) (by assumption) ?_
        rotate_left
        · (intro w hSw; (try dsimp only at hSw); first | (go_simp; done) | (go_simp; with_reducible rfl))
        try simp only [List.getElem_toArray, List.getElem_cons_succ, List.getElem_cons_zero, Act.put, List.setIfInBounds_toArray, List.set_cons_zero, List.set_cons_succ]
        refine wpAnyH_take (i := 5) (v := ?_) rfl (by kernel_rfl) (by kernel_rfl) (by kernel_rfl) (fun _ _ _ h => h) (Or.inl ⟨by rfl, ?_⟩) (by assumption) ?_
        rotate_left
        · (intro w hSw; (try dsimp only at hSw); first | (go_simp; done) | (go_simp; with_reducible rfl))
        try simp only [List.getElem_toArray, List.getElem_cons_succ, List.getElem_cons_zero, Act.put, List.setIfInBounds_toArray, List.set_cons_zero, List.set_cons_succ]
        refine wpAnyH_ready (rs := [1, 4]) (by kernel_rfl) (by simp) ?_
        refine AllReadyH.cons rfl (fun K hK => ?_) (AllReadyH.cons rfl (fun K hK => ?_) AllReadyH.nil)
        · go_simp
          refine hK.out _ _ ?_ (fun hHeld => ?_)
          · exact ⟨⟨v0, v1, v2⟩, kp0, kp1⟩
          clear hK K
          try simp only [List.getElem_toArray, List.getElem_cons_succ, List.getElem_cons_zero, Act.put, List.setIfInBounds_toArray, List.set_cons_zero, List.set_cons_succ]
          refine wpAnyH_ready (rs := [4]) (by kernel_rfl) (by simp) ?_
          refine AllReadyH.cons rfl (fun K hK => ?_) AllReadyH.nil
          go_simp
          refine (firstGate_any m (some ⟨ab, off, none⟩) n cap _ hm0 hm1).mono ?_
          rintro e w4 ⟨rfl, b4⟩
          have HI4 := hide ((unhide HIv).drew.later b4)
          have b4 : Below wv.heap.size wv w4 := (Below.refl _ _).drew.trans b4
          replace v0 := cell_later b4 v0
          replace v1 := cell_later b4 v1
          replace v2 := cell_later b4 v2
          replace kp0 := cell_later b4 kp0
          replace kp1 := cell_later b4 kp1
          replace kx0 := cell_later b4 kx0
          replace kx1 := cell_later b4 kx1
          clear b4
          go_wp2_with fail
          refine hK.out _ _ ?_ (fun hHeld => ?_)
          · exact ⟨⟨v0, v1, v2⟩, kp0, kp1⟩
          clear hK K
          try simp only [List.getElem_toArray, List.getElem_cons_succ, List.getElem_cons_zero, Act.put, List.setIfInBounds_toArray, List.set_cons_zero, List.set_cons_succ]
          refine wpAnyH_take (i := 6) (v := ?_) rfl (by kernel_rfl) (by kernel_rfl) (by kernel_rfl) (fun _ _ _ h => h) (Or.inl ⟨by rfl, ?_⟩) (by assumption) ?_
          rotate_left
          · (intro w hSw; (try dsimp only at hSw); first | (go_simp; done) | (go_simp; with_reducible rfl))
          try simp only [List.getElem_toArray, List.getElem_cons_succ, List.getElem_cons_zero, Act.put, List.setIfInBounds_toArray, List.set_cons_zero, List.set_cons_succ]
          refine wpAnyH_ready (rs := [7]) (by kernel_rfl) (by simp) ?_
          refine AllReadyH.cons rfl (fun K hK => ?_) AllReadyH.nil
          go_simp
          refine (gateClauses_any qx qa qb (2 + m + (j : Int)) w4 ⟨ga0, ga1⟩ ⟨gb0, gb1⟩ (by omega)).mono ?_
          rintro e w7 ⟨T, k, P, rfl, hFr, hPk, hk4⟩
          have b7 := hFr.b
          have HF := hide hFr
          have HPK := hide hPk
          replace v0 := cell_later b7 v0
          replace v1 := cell_later b7 v1
          replace v2 := cell_later b7 v2
          replace kp0 := cell_later b7 kp0
          replace kp1 := cell_later b7 kp1
          replace kx0 := cell_later b7 kx0
          replace kx1 := cell_later b7 kx1
          clear hFr hPk b7
          go_wp2_with fail
          refine hK.out _ _ ?_ (fun hHeld => ?_)
          · exact ⟨⟨v0, v1, v2⟩, kp0, kp1⟩
          clear hK K
          try simp only [List.getElem_toArray, List.getElem_cons_succ, List.getElem_cons_zero, Act.put, List.setIfInBounds_toArray, List.set_cons_zero, List.set_cons_succ]
          refine wpAnyH_ready (rs := [8]) (by kernel_rfl) (by simp) ?_
          refine AllReadyH.cons rfl (fun K hK => ?_) AllReadyH.nil
          obtain ⟨g', cp', w8, hrun, hcr, hmv, hbg, hsz⟩ := (unhide HI4).cr.app (unhide HI4).xlt (unhide HF) (Nat.le_trans (by have := (unhide HI4).xl; omega) (Nat.le_of_lt (unhide HI4).xlt)) (by omega) 26 k
          obtain ⟨⟨y1, yf, yl⟩, hI2⟩ := CI.step (unhide HI4) (unhide HF).b hmv hcr
          have HI2 := hide hI2
          apply step_app_ex (hr := hrun)
          case hgd => rfl
          case ho => rfl
          case hs => rfl
          case hx => rfl
          case' h => replace v0 := hmv.cell v0 zg
          replace v1 := hmv.cell v1 zg
          replace v2 := hmv.cell v2 zg
          replace kp0 := hmv.cell kp0 (by simp only; omega)
          replace kp1 := hmv.cell kp1 (by simp only; omega)
          have kx1 := y1
          clear hrun hcr hmv hI2
          refine hK.out _ _ ?_ (fun hHeld => ?_)
          · exact ⟨⟨v0, v1, v2⟩, kp0, kp1⟩
          clear hK K
          try simp only [List.getElem_toArray, List.getElem_cons_succ, List.getElem_cons_zero, Act.put, List.setIfInBounds_toArray, List.set_cons_zero, List.set_cons_succ]
          refine wpAnyH_take (i := 9) (v := ?_) rfl (by kernel_rfl) (by kernel_rfl) (by kernel_rfl) (fun _ _ _ h => h) (Or.inl ⟨by rfl, ?_⟩) (by assumption) ?_
          rotate_left
          · (intro w hSw; (try dsimp only at hSw); first | (go_simp; done) | (go_simp; with_reducible rfl))
          try simp only [List.getElem_toArray, List.getElem_cons_succ, List.getElem_cons_zero, Act.put, List.setIfInBounds_toArray, List.set_cons_zero, List.set_cons_succ]
          refine wpAnyH_ready (rs := [10]) (by kernel_rfl) (by simp) ?_
          refine AllReadyH.cons rfl (fun K hK => ?_) AllReadyH.nil
          go_simp
          refine hK.out _ _ ?_ (fun hHeld => ?_)
          · exact ⟨⟨by rw [World.cell?_setCell_other _ _ _ _ (by simp <;> omega)]; exact v0, by rw [World.cell?_setCell_other _ _ _ _ (by simp <;> omega)]; exact v1, by rw [World.cell?_setCell_other _ _ _ _ (by simp <;> omega)]; exact v2⟩, by rw [World.cell?_setCell_other _ _ _ _ (by simp <;> omega)]; exact kp0, by rw [World.cell?_setCell_other _ _ _ _ (by simp <;> omega)]; exact kp1⟩
          clear hK K
          try simp only [List.getElem_toArray, List.getElem_cons_succ, List.getElem_cons_zero, Act.put, List.setIfInBounds_toArray, List.set_cons_zero, List.set_cons_succ]
          refine wpAnyH_done (by kernel_rfl) ?_ _
          go_wp2
          have hX := unhide HXX
          subst hX
          go_roundw
          case rel => exact ⟨j + 1, by omega, by go_num, _, _, _, _, unhide HI2, by omega, by rw [unhide HN, List.map_append, unhide HQ, unhide HPK]⟩
          case measure => simp [intOf]; omega
        · go_simp
          refine (firstGate_any m (some ⟨ab, off, none⟩) n cap _ hm0 hm1).mono ?_
          rintro e w4 ⟨rfl, b4⟩
          have HI4 := hide ((unhide HIv).drew.later b4)
          have b4 : Below wv.heap.size wv w4 := (Below.refl _ _).drew.trans b4
          replace v0 := cell_later b4 v0
          replace v1 := cell_later b4 v1
          replace v2 := cell_later b4 v2
          replace kp0 := cell_later b4 kp0
          replace kp1 := cell_later b4 kp1
          replace kx0 := cell_later b4 kx0
          replace kx1 := cell_later b4 kx1
          clear b4
          go_wp2_with fail
          refine hK.out _ _ ?_ (fun hHeld => ?_)
          · exact ⟨⟨v0, v1, v2⟩, kp0, kp1⟩
          clear hK K
          try simp only [List.getElem_toArray, List.getElem_cons_succ, List.getElem_cons_zero, Act.put, List.setIfInBounds_toArray, List.set_cons_zero, List.set_cons_succ]
          refine wpAnyH_take (i := 6) (v := ?_) rfl (by kernel_rfl) (by kernel_rfl) (by kernel_rfl) (fun _ _ _ h => h) (Or.inl ⟨by rfl, ?_⟩) (by assumption) ?_
          rotate_left
          · (intro w hSw; (try dsimp only at hSw); first | (go_simp; done) | (go_simp; with_reducible rfl))
          try simp only [List.getElem_toArray, List.getElem_cons_succ, List.getElem_cons_zero, Act.put, List.setIfInBounds_toArray, List.set_cons_zero, List.set_cons_succ]
          refine wpAnyH_ready (rs := [1, 7]) (by kernel_rfl) (by simp) ?_
          refine AllReadyH.cons rfl (fun K hK => ?_) (AllReadyH.cons rfl (fun K hK => ?_) AllReadyH.nil)
          · go_simp
            refine hK.out _ _ ?_ (fun hHeld => ?_)
            · exact ⟨⟨v0, v1, v2⟩, kp0, kp1⟩
            clear hK K
            try simp only [List.getElem_toArray, List.getElem_cons_succ, List.getElem_cons_zero, Act.put, List.setIfInBounds_toArray, List.set_cons_zero, List.set_cons_succ]
            refine wpAnyH_ready (rs := [7]) (by kernel_rfl) (by simp) ?_
            refine AllReadyH.cons rfl (fun K hK => ?_) AllReadyH.nil
            go_simp
            refine (gateClauses_any qx qa qb (2 + m + (j : Int)) w4 ⟨ga0, ga1⟩ ⟨gb0, gb1⟩ (by omega)).mono ?_
            rintro e w7 ⟨T, k, P, rfl, hFr, hPk, hk4⟩
            have b7 := hFr.b
            have HF := hide hFr
            have HPK := hide hPk
            replace v0 := cell_later b7 v0
            replace v1 := cell_later b7 v1
            replace v2 := cell_later b7 v2
            replace kp0 := cell_later b7 kp0
            replace kp1 := cell_later b7 kp1
            replace kx0 := cell_later b7 kx0
            replace kx1 := cell_later b7 kx1
            clear hFr hPk b7
            go_wp2_with fail
            refine hK.out _ _ ?_ (fun hHeld => ?_)
            · exact ⟨⟨v0, v1, v2⟩, kp0, kp1⟩
            clear hK K
            try simp only [List.getElem_toArray, List.getElem_cons_succ, List.getElem_cons_zero, Act.put, List.setIfInBounds_toArray, List.set_cons_zero, List.set_cons_succ]
            refine wpAnyH_ready (rs := [8]) (by kernel_rfl) (by simp) ?_
            refine AllReadyH.cons rfl (fun K hK => ?_) AllReadyH.nil
            obtain ⟨g', cp', w8, hrun, hcr, hmv, hbg, hsz⟩ := (unhide HI4).cr.app (unhide HI4).xlt (unhide HF) (Nat.le_trans (by have := (unhide HI4).xl; omega) (Nat.le_of_lt (unhide HI4).xlt)) (by omega) 26 k
            obtain ⟨⟨y1, yf, yl⟩, hI2⟩ := CI.step (unhide HI4) (unhide HF).b hmv hcr
            have HI2 := hide hI2
            apply step_app_ex (hr := hrun)
            case hgd => rfl
            case ho => rfl
            case hs => rfl
            case hx => rfl
            case' h => replace v0 := hmv.cell v0 zg
            replace v1 := hmv.cell v1 zg
            replace v2 := hmv.cell v2 zg
            replace kp0 := hmv.cell kp0 (by simp only; omega)
            replace kp1 := hmv.cell kp1 (by simp only; omega)
            have kx1 := y1
            clear hrun hcr hmv hI2
            refine hK.out _ _ ?_ (fun hHeld => ?_)
            · exact ⟨⟨v0, v1, v2⟩, kp0, kp1⟩
            clear hK K
            try simp only [List.getElem_toArray, List.getElem_cons_succ, List.getElem_cons_zero, Act.put, List.setIfInBounds_toArray, List.set_cons_zero, List.set_cons_succ]
            refine wpAnyH_take (i := 9) (v := ?_) rfl (by kernel_rfl) (by kernel_rfl) (by kernel_rfl) (fun _ _ _ h => h) (Or.inl ⟨by rfl, ?_⟩) (by assumption) ?_
            rotate_left
            · (intro w hSw; (try dsimp only at hSw); first | (go_simp; done) | (go_simp; with_reducible rfl))
            try simp only [List.getElem_toArray, List.getElem_cons_succ, List.getElem_cons_zero, Act.put, List.setIfInBounds_toArray, List.set_cons_zero, List.set_cons_succ]
            refine wpAnyH_ready (rs := [10]) (by kernel_rfl) (by simp) ?_
            refine AllReadyH.cons rfl (fun K hK => ?_) AllReadyH.nil
            go_simp
            refine hK.out _ _ ?_ (fun hHeld => ?_)
            · exact ⟨⟨by rw [World.cell?_setCell_other _ _ _ _ (by simp <;> omega)]; exact v0, by rw [World.cell?_setCell_other _ _ _ _ (by simp <;> omega)]; exact v1, by rw [World.cell?_setCell_other _ _ _ _ (by simp <;> omega)]; exact v2⟩, by rw [World.cell?_setCell_other _ _ _ _ (by simp <;> omega)]; exact kp0, by rw [World.cell?_setCell_other _ _ _ _ (by simp <;> omega)]; exact kp1⟩
            clear hK K
            try simp only [List.getElem_toArray, List.getElem_cons_succ, List.getElem_cons_zero, Act.put, List.setIfInBounds_toArray, List.set_cons_zero, List.set_cons_succ]
            refine wpAnyH_done (by kernel_rfl) ?_ _
            go_wp2
            have hX := unhide HXX
            subst hX
            go_roundw
            case rel => exact ⟨j + 1, by omega, by go_num, _, _, _, _, unhide HI2, by omega, by rw [unhide HN, List.map_append, unhide HQ, unhide HPK]⟩
            case measure => simp [intOf]; omega
          · go_simp
            refine (gateClauses_any qx qa qb (2 + m + (j : Int)) w4 ⟨ga0, ga1⟩ ⟨gb0, gb1⟩ (by omega)).mono ?_
            rintro e w7 ⟨T, k, P, rfl, hFr, hPk, hk4⟩
            have b7 := hFr.b
            have HF := hide hFr
            have HPK := hide hPk
            replace v0 := cell_later b7 v0
            replace v1 := cell_later b7 v1
            replace v2 := cell_later b7 v2
            replace kp0 := cell_later b7 kp0
            replace kp1 := cell_later b7 kp1
            replace kx0 := cell_later b7 kx0
            replace kx1 := cell_later b7 kx1
            clear hFr hPk b7
            go_wp2_with fail
            refine hK.out _ _ ?_ (fun hHeld => ?_)
            · exact ⟨⟨v0, v1, v2⟩, kp0, kp1⟩
            clear hK K
            try simp only [List.getElem_toArray, List.getElem_cons_succ, List.getElem_cons_zero, Act.put, List.setIfInBounds_toArray, List.set_cons_zero, List.set_cons_succ]
            refine wpAnyH_ready (rs := [1]) (by kernel_rfl) (by simp) ?_
            refine AllReadyH.cons rfl (fun K hK => ?_) AllReadyH.nil
            go_simp
            refine hK.out _ _ ?_ (fun hHeld => ?_)
            · exact ⟨⟨v0, v1, v2⟩, kp0, kp1⟩
            clear hK K
            try simp only [List.getElem_toArray, List.getElem_cons_succ, List.getElem_cons_zero, Act.put, List.setIfInBounds_toArray, List.set_cons_zero, List.set_cons_succ]
            refine wpAnyH_ready (rs := [8]) (by kernel_rfl) (by simp) ?_
            refine AllReadyH.cons rfl (fun K hK => ?_) AllReadyH.nil
            obtain ⟨g', cp', w8, hrun, hcr, hmv, hbg, hsz⟩ := (unhide HI4).cr.app (unhide HI4).xlt (unhide HF) (Nat.le_trans (by have := (unhide HI4).xl; omega) (Nat.le_of_lt (unhide HI4).xlt)) (by omega) 26 k
            obtain ⟨⟨y1, yf, yl⟩, hI2⟩ := CI.step (unhide HI4) (unhide HF).b hmv hcr
            have HI2 := hide hI2
            apply step_app_ex (hr := hrun)
            case hgd => rfl
            case ho => rfl
            case hs => rfl
            case hx => rfl
            case' h => replace v0 := hmv.cell v0 zg
            replace v1 := hmv.cell v1 zg
            replace v2 := hmv.cell v2 zg
            replace kp0 := hmv.cell kp0 (by simp only; omega)
            replace kp1 := hmv.cell kp1 (by simp only; omega)
            have kx1 := y1
            clear hrun hcr hmv hI2
            refine hK.out _ _ ?_ (fun hHeld => ?_)
            · exact ⟨⟨v0, v1, v2⟩, kp0, kp1⟩
            clear hK K
            try simp only [List.getElem_toArray, List.getElem_cons_succ, List.getElem_cons_zero, Act.put, List.setIfInBounds_toArray, List.set_cons_zero, List.set_cons_succ]
            refine wpAnyH_take (i := 9) (v := ?_) rfl (by kernel_rfl) (by kernel_rfl) (by kernel_rfl) (fun _ _ _ h => h) (Or.inl ⟨by rfl, ?_⟩) (by assumption) ?_
            rotate_left
            · (intro w hSw; (try dsimp only at hSw); first | (go_simp; done) | (go_simp; with_reducible rfl))
            try simp only [List.getElem_toArray, List.getElem_cons_succ, List.getElem_cons_zero, Act.put, List.setIfInBounds_toArray, List.set_cons_zero, List.set_cons_succ]
            refine wpAnyH_ready (rs := [10]) (by kernel_rfl) (by simp) ?_
            refine AllReadyH.cons rfl (fun K hK => ?_) AllReadyH.nil
            go_simp
            refine hK.out _ _ ?_ (fun hHeld => ?_)
            · exact ⟨⟨by rw [World.cell?_setCell_other _ _ _ _ (by simp <;> omega)]; exact v0, by rw [World.cell?_setCell_other _ _ _ _ (by simp <;> omega)]; exact v1, by rw [World.cell?_setCell_other _ _ _ _ (by simp <;> omega)]; exact v2⟩, by rw [World.cell?_setCell_other _ _ _ _ (by simp <;> omega)]; exact kp0, by rw [World.cell?_setCell_other _ _ _ _ (by simp <;> omega)]; exact kp1⟩
            clear hK K
            try simp only [List.getElem_toArray, List.getElem_cons_succ, List.getElem_cons_zero, Act.put, List.setIfInBounds_toArray, List.set_cons_zero, List.set_cons_succ]
            refine wpAnyH_done (by kernel_rfl) ?_ _
            go_wp2
            have hX := unhide HXX
            subst hX
            go_roundw
            case rel => exact ⟨j + 1, by omega, by go_num, _, _, _, _, unhide HI2, by omega, by rw [unhide HN, List.map_append, unhide HQ, unhide HPK]⟩
            case measure => simp [intOf]; omega
      · have ej : j = n := by omega
        subst ej
        have HI := hide hI
        have s0 := hI.s0
        have s1 := hI.s1
        have f0 := hI.sf 0
        have f1 := hI.sf 1
        have x0 := hI.x0
        have x1 := hI.x1
        clear hI hQ
        go_wp2
        refine bodyPost_ret (v := .agg #[.int .i64 (1 + m + j), .slice (some ⟨g, 0, none⟩) nn cp]) (by simp [results, Try.results7, go_sem, s0, s1]) rfl ?_
        have mv := mov2x wr (w.heap.size + 1) (.int .i64 (1 + m + j)) (.slice (some ⟨g, 0, none⟩) nn cp)
        exact ⟨Or.inl ⟨unhide HPP, g, nn, cp, Q, rfl, ((unhide HI).cr.1.mov mv (by omega)).mono (by omega), unhide HQ⟩, (unhide HI).be.trans (mv.below (by omega) (unhide HI).be.size)⟩
end Go.Proofs.Ytoglplpchjcpoaa
