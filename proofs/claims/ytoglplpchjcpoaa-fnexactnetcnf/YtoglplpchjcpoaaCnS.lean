/- The clauses of a net, of the model. -/
import Derived.Test.YtoglplpchjcpoaaCnM
import Derived.Test.YtoglplpchjcpoaaNrA
namespace Go.Proofs.Ytoglplpchjcpoaa
open Go.ChangeShapes Go.WideShapes Go.ChangeAt Go.RowKit Go.Joins
set_option linter.unusedVariables false
set_option linter.unusedSimpArgs false

theorem frozen_mv {w w' : World} {R B o : Nat} (hm : Mov R w w') (hB : B < w.heap.size) (hn : B ≠ R) (h : w.frozen? ⟨B, o, none⟩ = false) : w'.frozen? ⟨B, o, none⟩ = false := (World.frozen?_of_block (hm.2.2.2.2 B hB hn)).trans h
theorem mov2x (w : World) (B : Nat) (u v : Value) : Mov B w ((w.setCell ⟨B, 0, none⟩ u).setCell ⟨B, 1, none⟩ v) := (Mov.set _ _ _).trans (Mov.set _ _ _)
/-- What a call that hands back clauses leaves behind: they are lists of their own. -/
def CnPost (M : Int) (L : List (List Int)) (base : Nat) (e : Ending) (w' : World) : Prop := ∃ g nn cp Q, e = .returned (.agg #[.int .i64 M, .slice (some ⟨g, 0, none⟩) nn cp]) ∧ Cr w' base g nn cp Q ∧ Q.map Prod.snd = L
/-- What lies at the start of a round: the net's box Y, the result's box Y + 1, the box X of the clauses, the gates. -/
structure CI (w wr : World) (X g nn cp : Nat) (Q : List Qc) (m : Int) (ad : Option Addr) (n cap : Nat) (G : Nat → Gt) (M : Int) : Prop where
  p0 : wr.cell? ⟨w.heap.size, 0, none⟩ = some (.int .i64 m)
  p1 : wr.cell? ⟨w.heap.size, 1, none⟩ = some (.slice ad n cap)
  s0 : wr.cell? ⟨w.heap.size + 1, 0, none⟩ = some (.int .i64 0)
  s1 : wr.cell? ⟨w.heap.size + 1, 1, none⟩ = some (.slice none 0 0)
  sf : ∀ o, wr.frozen? ⟨w.heap.size + 1, o, none⟩ = false
  x0 : wr.cell? ⟨X, 0, none⟩ = some (.int .i64 M)
  x1 : wr.cell? ⟨X, 1, none⟩ = some (.slice (some ⟨g, 0, none⟩) nn cp)
  xf : wr.frozen? ⟨X, 1, none⟩ = false
  xl : w.heap.size + 2 ≤ X
  cr : CrX wr (w.heap.size + 2) X g nn cp Q
  be : Below w.heap.size w wr
theorem CI.xlt {w wr : World} {X g nn cp : Nat} {Q : List Qc} {m : Int} {ad : Option Addr} {n cap : Nat} {G : Nat → Gt} {M : Int} (h : CI w wr X g nn cp Q m ad n cap G M) : X < wr.heap.size := World.block_lt_of_cell? _ _ h.x0
theorem CI.later {w wr w' : World} {X g nn cp : Nat} {Q : List Qc} {m : Int} {ad : Option Addr} {n cap : Nat} {G : Nat → Gt} {M : Int} (h : CI w wr X g nn cp Q m ad n cap G M) (hb : Below wr.heap.size wr w') : CI w w' X g nn cp Q m ad n cap G M :=
  ⟨cell_later hb h.p0, cell_later hb h.p1, cell_later hb h.s0, cell_later hb h.s1, fun o => (hb.frozen (p := ⟨w.heap.size + 1, o, none⟩) (show w.heap.size + 1 < wr.heap.size from World.block_lt_of_cell? _ _ h.s0)).trans (h.sf o), cell_later hb h.x0, cell_later hb h.x1, (hb.frozen (p := ⟨X, 1, none⟩) (show X < wr.heap.size from World.block_lt_of_cell? _ _ h.x0)).trans h.xf, h.xl, h.cr.later hb, h.be.trans (hb.mono h.be.size)⟩
theorem CI.drew {w wr : World} {X g nn cp : Nat} {Q : List Qc} {m : Int} {ad : Option Addr} {n cap : Nat} {G : Nat → Gt} {M : Int} (h : CI w wr X g nn cp Q m ad n cap G M) : CI w wr.drew X g nn cp Q m ad n cap G M := h.later (Below.refl _ _).drew
/-- Behind an append of clauses that have been laid down, and the store of the list. -/
theorem CI.step {w wr wa w' : World} {X g nn cp g' k cp' : Nat} {Q P : List Qc} {m : Int} {ad : Option Addr} {n cap : Nat} {G : Nat → Gt} {M : Int} (h : CI w wr X g nn cp Q m ad n cap G M) (hb : Below wr.heap.size wr wa) (hm : Mov g wa w') (hcr : CrX w' (w.heap.size + 2) X g' k cp' P) :
    (w'.cell? ⟨X, 1, none⟩ = some (.slice (some ⟨g, 0, none⟩) nn cp) ∧ w'.frozen? ⟨X, 1, none⟩ = false ∧ X < w'.heap.size) ∧ CI w (w'.setCell ⟨X, 1, none⟩ (.slice (some ⟨g', 0, none⟩) k cp')) X g' k cp' P m ad n cap G M := by
  have hg := own_base h.cr.1.o
  have hX := h.xlt
  have nx : X ≠ g := h.cr.2.1
  have k1 := hm.cell (cell_later hb h.x1) nx
  have lxa := Nat.lt_of_lt_of_le hX hb.size
  have kf : w'.frozen? ⟨X, 1, none⟩ = false := frozen_mv hm lxa nx ((hb.frozen (p := ⟨X, 1, none⟩) hX).trans h.xf)
  have ms : Mov X w' (w'.setCell ⟨X, 1, none⟩ (.slice (some ⟨g', 0, none⟩) k cp')) := Mov.set _ _ _
  have sl := World.block_lt_of_cell? _ _ h.s0
  have c1 : ∀ {p : Addr} {v : Value}, wr.cell? p = some v → p.block ≠ g → p.block ≠ X → (w'.setCell ⟨X, 1, none⟩ (.slice (some ⟨g', 0, none⟩) k cp')).cell? p = some v := fun hc h1 h2 => ms.cell (hm.cell (cell_later hb hc) h1) h2
  have xl := h.xl
  have sla := Nat.lt_of_lt_of_le sl hb.size
  simp only at sl sla
  have bw : Below w.heap.size w w' := (h.be.trans (hb.mono h.be.size)).trans (hm.below (by omega) (Nat.le_trans h.be.size hb.size))
  refine ⟨⟨k1, kf, Nat.lt_of_lt_of_le lxa hm.size⟩, c1 h.p0 (by simp only; omega) (by simp only; omega), c1 h.p1 (by simp only; omega) (by simp only; omega), c1 h.s0 (by simp only; omega) (by simp only; omega), c1 h.s1 (by simp only; omega) (by simp only; omega), fun o => frozen_mv ms (Nat.lt_of_lt_of_le sla hm.size) (by omega) (frozen_mv hm sla (by omega) ((hb.frozen (p := ⟨w.heap.size + 1, o, none⟩) sl).trans (h.sf o))), ?_, World.cell?_setCell_same _ _ _ k1, ?_, xl, hcr.mov ms, bw.trans (ms.below (by omega) bw.size)⟩
  · rw [World.cell?_setCell_other _ _ _ _ (by simp)]
    exact hm.cell (cell_later hb h.x0) nx
  · simp [go_sem]; exact kf
set_option maxRecDepth 100000 in
set_option maxHeartbeats 2000000 in
theorem l6Cnf_any (m : Int) (ad : Option Addr) (n cap : Nat) (G : Nat → Gt) (w : World) (hd : GtsAt w ad n G) (hm0 : 0 ≤ m) (hm1 : m ≤ 8) (hn : n ≤ 600) (hg : ∀ i, i < n → (-700 ≤ (G i).a ∧ (G i).a ≤ 700) ∧ -700 ≤ (G i).b ∧ (G i).b ≤ 700) :
    Calls Try.prog 15 #[.agg #[.int .i64 m, .slice ad n cap]] w fun e w' => CnPost (1 + m + n) (netL m G n) w.heap.size e w' ∧ Below w.heap.size w w' := by
  obtain ⟨wz, hwz⟩ : ∃ wz, wz = (w.alloc (.cells #[.int .i64 m, .slice ad n cap] 32)).alloc (.cells #[.int .i64 0, .slice none 0 0] 28) := ⟨_, rfl⟩
  have BL : Below w.heap.size w wz := by rw [hwz]; exact ((Below.refl _ _).alloc (Nat.le_refl _) _).alloc (by simp) _
  have p0 : wz.cell? ⟨w.heap.size, 0, none⟩ = some (.int .i64 m) := by rw [hwz]; simp [go_sem]
  have p1 : wz.cell? ⟨w.heap.size, 1, none⟩ = some (.slice ad n cap) := by rw [hwz]; simp [go_sem]
  have s0 : wz.cell? ⟨w.heap.size + 1, 0, none⟩ = some (.int .i64 0) := by rw [hwz]; simp [go_sem]
  have s1 : wz.cell? ⟨w.heap.size + 1, 1, none⟩ = some (.slice none 0 0) := by rw [hwz]; simp [go_sem]
  have sf : ∀ o, wz.frozen? ⟨w.heap.size + 1, o, none⟩ = false := fun o => by rw [hwz]; simp [go_sem]
  have lz : wz.heap.size = w.heap.size + 2 := by rw [hwz]; simp
  have HD := hide hd
  have HG := hide hg
  have HZ := hide hwz
  clear hd hg hwz
  go_enter Try.func15, Try.ntmps15
  go_wp2_with fail
  rw [← unhide HZ]
  refine (l6Many_any m ad n cap wz hm0 hm1 (by omega)).mono ?_
  rintro e w1 ⟨rfl, b1⟩
  have l1 := b1.size
  replace p0 := cell_later b1 p0
  replace p1 := cell_later b1 p1
  replace sf : ∀ o, w1.frozen? ⟨w.heap.size + 1, o, none⟩ = false := fun o => (b1.frozen (p := ⟨w.heap.size + 1, o, none⟩) (show w.heap.size + 1 < wz.heap.size by omega)).trans (sf o)
  replace s0 := cell_later b1 s0
  replace s1 := cell_later b1 s1
  replace BL := BL.trans (b1.mono BL.size)
  clear b1
  have h0 : Hid (CI w (((w1.alloc (.cells #[.int .i64 1] 3)).alloc (.cells #[.slice (some ⟨w1.heap.size, 0, none⟩) 1 1] 43)).alloc (.cells #[.int .i64 (1 + m + n), .slice (some ⟨w1.heap.size + 1, 0, none⟩) 1 1] 28)) (w1.heap.size + 2) (w1.heap.size + 1) 1 1 [(w1.heap.size, [1])] m ad n cap G (1 + m + n)) := by
    have b3 := alloc_bel (alloc_bel (alloc_up w1 (.cells #[.int .i64 1] 3)) (.cells #[.slice (some ⟨w1.heap.size, 0, none⟩) 1 1] 43)) (.cells #[.int .i64 (1 + m + n), .slice (some ⟨w1.heap.size + 1, 0, none⟩) 1 1] 28)
    have hl : w.heap.size + 1 < w1.heap.size := World.block_lt_of_cell? _ _ s0
    refine ⟨cell_later b3 p0, cell_later b3 p1, cell_later b3 s0, cell_later b3 s1, fun o => (b3.frozen (p := ⟨w.heap.size + 1, o, none⟩) hl).trans (sf o), by simp [go_sem], by simp [go_sem], by simp [go_sem], by omega, ⟨((Cr.one w1).later (alloc_up _ _)).mono (by omega), by omega, fun i hi => ?_⟩, BL.trans (b3.mono BL.size)⟩
    obtain rfl : i = 0 := by omega
    show w1.heap.size ≠ w1.heap.size + 2
    omega
  clear p0 p1 s0 s1 sf l1 BL
  go_wp2
  go_loopw [4] (fun i wr => ∃ j : Nat, j ≤ n ∧ i = .int .i64 j ∧ ∃ g nn cp Q, CI w wr (w1.heap.size + 2) g nn cp Q m ad n cap G (1 + m + n) ∧ nn ≤ 1 + 4 * j ∧ Q.map Prod.snd = netL m G j) (fun i _ => n - (intOf i).toNat)
  case atStart => exact ⟨0, by omega, rfl, _, _, _, _, unhide h0, by omega, rfl⟩
  case round =>
    obtain ⟨j, hj, rfl, g, nn, cp, Q, hI, hnn, hQ⟩ := hrel
    have HI := hide hI
    have HQ := hide hQ
    have p0 := hI.p0
    have p1 := hI.p1
    have x0 := hI.x0
    have x1 := hI.x1
    have xf := hI.xf
    by_cases hlt : j < n
    · obtain ⟨ab, off, rfl, lab, hgt⟩ := (unhide HD).resolve_left (by omega)
      obtain ⟨c0, c1, c2⟩ := hgt j hlt
      have g0 := (hI.be.cell (p := ⟨ab, off + j * 3, none⟩) lab).trans c0
      have g1 := (hI.be.cell (p := ⟨ab, off + j * 3 + 1, none⟩) lab).trans c1
      have g2 := (hI.be.cell (p := ⟨ab, off + j * 3 + 2, none⟩) lab).trans c2
      obtain ⟨⟨ga0, ga1⟩, gb0, gb1⟩ := unhide HG j hlt
      have HN : Hid (netL m G (j + 1) = netL m G j ++ gateL (G j) (2 + m + j)) := rfl
      generalize G j = q at *
      obtain ⟨qx, qa, qb⟩ := q
      simp only at ga0 ga1 gb0 gb1 g0 g1 g2 c0 c1 c2
      have hw2 : IntKind.i64.wrap (2 + m) = 2 + m := by rw [IntKind.wrap_i64]; omega
      have hw3 : IntKind.i64.wrap (2 + m + (j : Int)) = 2 + m + (j : Int) := by rw [IntKind.wrap_i64]; omega
      have hwk : IntKind.i64.wrap (-(2 + m + (j : Int))) = -(2 + m + (j : Int)) := by rw [IntKind.wrap_i64]; omega
      have hwa : IntKind.i64.wrap (-qa) = -qa := by rw [IntKind.wrap_i64]; omega
      have hwb : IntKind.i64.wrap (-qb) = -qb := by rw [IntKind.wrap_i64]; omega
      clear hI hQ hgt c0 c1 c2
      cases qx
      · obtain ⟨g', cp', w2, hrun, hcr, hmv, hbg, hsz⟩ := (unhide HI).cr.app (unhide HI).xlt (fr_and wr qa qb (2 + m + (j : Int))) (Nat.le_trans (by have := (unhide HI).xl; omega) (Nat.le_of_lt (unhide HI).xlt)) (by omega) 26 3
        have HR := hide hrun
        obtain ⟨⟨y1, yf, yl⟩, hI2⟩ := CI.step (unhide HI) (fr_and wr qa qb (2 + m + (j : Int))).b hmv hcr
        have HI2 := hide hI2
        clear hrun hcr hmv hI2
        have xl := (unhide HI).xlt
        go_wp2_with (first | (at_builtin; refine wpList_append_run _ rfl (.tmp 71) (.tmp 86) 26 rfl _ _ _ _ rfl rfl (unhide HR) ?_))
        go_wp2
        go_roundw
        case rel => exact ⟨j + 1, by omega, by go_num, _, _, _, _, unhide HI2, by omega, by rw [unhide HN, List.map_append, unhide HQ]; rfl⟩
        case measure => simp [intOf]; omega
      · obtain ⟨g', cp', w2, hrun, hcr, hmv, hbg, hsz⟩ := (unhide HI).cr.app (unhide HI).xlt (fr_xor wr qa qb (2 + m + (j : Int))) (Nat.le_trans (by have := (unhide HI).xl; omega) (Nat.le_of_lt (unhide HI).xlt)) (by omega) 26 4
        have HR := hide hrun
        obtain ⟨⟨y1, yf, yl⟩, hI2⟩ := CI.step (unhide HI) (fr_xor wr qa qb (2 + m + (j : Int))).b hmv hcr
        have HI2 := hide hI2
        clear hrun hcr hmv hI2
        have xl := (unhide HI).xlt
        go_wp2_with (first | (at_builtin; refine wpList_append_run _ rfl (.tmp 44) (.tmp 67) 26 rfl _ _ _ _ rfl rfl (unhide HR) ?_))
        go_wp2
        go_roundw
        case rel => exact ⟨j + 1, by omega, by go_num, _, _, _, _, unhide HI2, by omega, by rw [unhide HN, List.map_append, unhide HQ]; rfl⟩
        case measure => simp [intOf]; omega
    · have ej : j = n := by omega
      subst ej
      have s0 := hI.s0
      have s1 := hI.s1
      have f0 := hI.sf 0
      have f1 := hI.sf 1
      clear hI hQ
      go_wp2
      refine bodyPost_ret (v := .agg #[.int .i64 (1 + m + j), .slice (some ⟨g, 0, none⟩) nn cp]) (by simp [results, Try.results15, go_sem, s0, s1]) rfl ?_
      have mv := mov2x wr (w.heap.size + 1) (.int .i64 (1 + m + j)) (.slice (some ⟨g, 0, none⟩) nn cp)
      exact ⟨⟨g, nn, cp, Q, rfl, ((unhide HI).cr.1.mov mv (by omega)).mono (by omega), unhide HQ⟩, (unhide HI).be.trans (mv.below (by omega) (unhide HI).be.size)⟩
end Go.Proofs.Ytoglplpchjcpoaa
