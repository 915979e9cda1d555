/- What the model's draws of marks and of nets return. -/
import Derived.Test.YtbfijmijhfbkdaaNrX
namespace Go.Proofs.Ytbfijmijhfbkdaa
open Go.ChangeShapes Go.WideShapes Go.ChangeAt Go.RowKit Go.Joins
set_option linter.unusedVariables false
set_option linter.unusedSimpArgs false

set_option maxHeartbeats 1000000 in
theorem pick_zero (R N : Nat) (n : Int) (w : World) (hR : Rd w R N) (hN : N ≤ 1000000) (n1 : n ≤ 0) :
    Calls Try.prog 28 #[.pointer (some ⟨R, 0, none⟩), .int .i64 n] w fun e w' => e = .returned (.int .i64 0) ∧ Rd w' R (N + 1) ∧ Mov R w w' := by
  obtain ⟨a, l, c, p, h0, h1, hf, hp, hl, hby⟩ := hR
  have HR := hide (Rd.step h0 h1 hf hp hl hby)
  have HM := hide (Mov.set (R := R) w 1 (.int .i64 ((p : Int) + 1)))
  have nb : decide (n < 1) = true := by simp; omega
  clear hby
  go_enter Try.func28, Try.ntmps28
  go_wp2
  go_ret
  exact ⟨rfl, unhide HR, unhide HM⟩
theorem pick_gen (R N : Nat) (n : Int) (w : World) (hR : Rd w R N) (hN : N ≤ 1000000) (n2 : n ≤ 1000000) :
    Calls Try.prog 28 #[.pointer (some ⟨R, 0, none⟩), .int .i64 n] w fun e w' => ∃ k : Int, e = .returned (.int .i64 k) ∧ 0 ≤ k ∧ (k < n ∨ k = 0) ∧ Rd w' R (N + 1) ∧ Mov R w w' := by
  by_cases h : 1 ≤ n
  · exact (pick_any R N n w hR hN h n2).mono fun e w' ⟨k, h1, h2, h3, h4, h5⟩ => ⟨k, h1, h2, Or.inl h3, h4, h5⟩
  · exact (pick_zero R N n w hR hN (by omega)).mono fun e w' ⟨h1, h4, h5⟩ => ⟨0, h1, by omega, Or.inr rfl, h4, h5⟩
set_option maxHeartbeats 400000 in
theorem many_gen (m : Int) (a : Option Addr) (n cap : Nat) (w : World) (hm0 : -1 ≤ m) (hm1 : m ≤ 9) (hn : n ≤ 1000) :
    Calls Try.prog 59 #[.agg #[.int .i64 m, .slice a n cap]] w fun e w' => e = .returned (.int .i64 (1 + m + n)) ∧ Below w.heap.size w w' := by
  go_enter Try.func59, Try.ntmps59
  go_wp2
  go_ret
  exact ⟨rfl, (by repeat (first | exact Below.refl _ _ | assumption | refine below_drewN ?_ _ | refine Below.drew ?_ | refine Below.alloc ?_ (by first | exact Nat.le_refl _ | exact Below.size (by assumption) | (simp; done) | (simp; omega)) _ | refine Below.setCell ?_ (by first | exact Nat.le_refl _ | exact Below.size (by assumption) | (simp; done) | (simp; omega)) _ | refine Below.trans ?_ (by assumption)))⟩
set_option maxHeartbeats 1000000 in
theorem l6Lit_any (R N : Nat) (m : Int) (ad : Option Addr) (n cap : Nat) (w : World) (hR : Rd w R N) (hN : N ≤ 900000) (hm0 : -1 ≤ m) (hm1 : m ≤ 9) (hn : n ≤ 1000) :
    Calls Try.prog 51 #[.pointer (some ⟨R, 0, none⟩), .agg #[.int .i64 m, .slice ad n cap]] w fun e w' => ∃ k : Int, e = .returned (.int .i64 k) ∧ (-2000 ≤ k ∧ k ≤ 2000) ∧ (0 ≤ m → mkP m n k = true) ∧ Rd w' R (N + 2) ∧ Mov R w w' := by
  obtain ⟨wz, hwz⟩ : ∃ wz, wz = w.alloc (.cells #[.int .i64 m, .slice ad n cap] 25) := ⟨_, rfl⟩
  have BZ : Below w.heap.size w wz := by rw [hwz]; exact (Below.refl _ _).alloc (Nat.le_refl _) _
  have p0 : wz.cell? ⟨w.heap.size, 0, none⟩ = some (.int .i64 m) := by rw [hwz]; simp [go_sem]
  have p1 : wz.cell? ⟨w.heap.size, 1, none⟩ = some (.slice ad n cap) := by rw [hwz]; simp [go_sem]
  have hRz := hR.below BZ
  have M1 : Mov R w wz := Mov.of BZ
  have HZ := hide hwz
  clear hwz hR
  go_enter Try.func51, Try.ntmps51
  go_wp2_with fail
  rw [← unhide HZ]
  refine (many_gen m ad n cap _ hm0 hm1 hn).mono ?_
  rintro e w1 ⟨rfl, b1⟩
  have R1 := hRz.below b1
  have M2 := M1.from b1
  clear b1 hRz M1 p0 p1 HZ BZ
  go_wp2_with fail
  refine (pick_gen R N (1 + m + n) _ R1 (by omega) (by omega)).mono ?_
  rintro e w2 ⟨k, rfl, k0, k1, R2, m2⟩
  have M3 := M2.trans m2
  clear R1 m2 M2
  go_wp2_with fail
  refine (pick_any R (N + 1) 2 _ R2 (by omega) (by omega) (by omega)).mono ?_
  rintro e w3 ⟨j, rfl, j0, j1, R3, m3⟩
  have M4 := M3.trans m3
  clear R2 m3 M3
  have hk : 0 ≤ m → k < 1 + m + n := fun h => by rcases k1 with h' | h' <;> omega
  have hk2 : k ≤ 1010 := by rcases k1 with h' | h' <;> omega
  have HK := hide hk
  clear hk k1
  by_cases hj : j = 0
  · subst hj
    go_wp2
    go_ret
    exact ⟨-(1 + k), rfl, by omega, fun h => by have := unhide HK h; unfold mkP; simp; omega, R3, M4⟩
  · have jb : (j == 0) = false := by simp [hj]
    go_wp2
    go_ret
    exact ⟨1 + k, rfl, by omega, fun h => by have := unhide HK h; unfold mkP; simp; omega, R3, M4⟩
/-- A net that is drawn: its box, the results' box, its gates, the reader. -/
structure NB (w0 wr : World) (R N B Y : Nat) (m : Int) (ad : Option Addr) (n cap : Nat) (G : Nat → Gt) : Prop where
  p0 : wr.cell? ⟨B, 0, none⟩ = some (.int .i64 m)
  p1 : wr.cell? ⟨B, 1, none⟩ = some (.slice ad n cap)
  pf : ∀ o, wr.frozen? ⟨B, o, none⟩ = false
  s0 : wr.cell? ⟨Y, 0, none⟩ = some (.int .i64 0)
  s1 : wr.cell? ⟨Y, 1, none⟩ = some (.slice none 0 0)
  sf : ∀ o, wr.frozen? ⟨Y, o, none⟩ = false
  gt : GtsAt wr ad n G
  nn : ad = none → n = 0 ∧ cap = 0
  sp : ∀ p, ad = some p → p.spot = none
  lo : ∀ p, ad = some p → p.block < wr.heap.size ∧ w0.heap.size ≤ p.block ∧ p.block ≠ R ∧ p.block ≠ B ∧ p.block ≠ Y
  wg : WG n G
  rd : Rd wr R N
  mv : Mov R w0 wr
  ne : B ≠ R ∧ Y ≠ R ∧ B ≠ Y ∧ w0.heap.size ≤ B ∧ w0.heap.size ≤ Y ∧ R < w0.heap.size
theorem NB.drew {w0 wr : World} {R N B Y : Nat} {m : Int} {ad : Option Addr} {n cap : Nat} {G : Nat → Gt} (h : NB w0 wr R N B Y m ad n cap G) : NB w0 wr.drew R N B Y m ad n cap G :=
  ⟨h.p0, h.p1, h.pf, h.s0, h.s1, h.sf, h.gt, h.nn, h.sp, h.lo, h.wg, h.rd, h.mv, h.ne⟩
theorem frozen_mov {w w' : World} {R B o : Nat} (hm : Mov R w w') (hB : B < w.heap.size) (hn : B ≠ R) (h : w.frozen? ⟨B, o, none⟩ = false) : w'.frozen? ⟨B, o, none⟩ = false :=
  (World.frozen?_of_block (w := w) (a := ⟨B, o, none⟩) (hm.2.2.2.2 B hB hn)).trans h
theorem NB.mov {w0 wr w' : World} {R N N' B Y : Nat} {m : Int} {ad : Option Addr} {n cap : Nat} {G : Nat → Gt} (h : NB w0 wr R N B Y m ad n cap G) (hm : Mov R wr w') (hR : Rd w' R N') : NB w0 w' R N' B Y m ad n cap G := by
  have hB := World.block_lt_of_cell? _ _ h.p0
  have hY := World.block_lt_of_cell? _ _ h.s0
  exact ⟨hm.cell h.p0 h.ne.1, hm.cell h.p1 h.ne.1, fun o => frozen_mov hm hB h.ne.1 (h.pf o), hm.cell h.s0 h.ne.2.1, hm.cell h.s1 h.ne.2.1, fun o => frozen_mov hm hY h.ne.2.1 (h.sf o), h.gt.apart (Or.inr (fun b off e => (h.lo _ e).2.2.1)) hm, h.nn, h.sp, fun p hp => ⟨Nat.lt_of_lt_of_le (h.lo p hp).1 hm.size, (h.lo p hp).2⟩, h.wg, hR, h.mv.trans hm, h.ne⟩
theorem NB.later {w0 wr w' : World} {R N B Y : Nat} {m : Int} {ad : Option Addr} {n cap : Nat} {G : Nat → Gt} (h : NB w0 wr R N B Y m ad n cap G) (hb : Below wr.heap.size wr w') : NB w0 w' R N B Y m ad n cap G := h.mov (Mov.of hb) (h.rd.below hb)
/-- Behind the store of a net into the box. -/
theorem NB.put {w0 wr : World} {R N B Y : Nat} {m : Int} {ad : Option Addr} {n cap : Nat} {G : Nat → Gt} {m' : Int} {ad' : Option Addr} {n' cap' : Nat} {G' : Nat → Gt} (h : NB w0 wr R N B Y m ad n cap G) (gt : GtsAt wr ad' n' G') (nn : ad' = none → n' = 0 ∧ cap' = 0) (sp : ∀ p, ad' = some p → p.spot = none) (lo : ∀ p, ad' = some p → p.block < wr.heap.size ∧ w0.heap.size ≤ p.block ∧ p.block ≠ R ∧ p.block ≠ B ∧ p.block ≠ Y) (wg : WG n' G') :
    NB w0 ((wr.setCell ⟨B, 0, none⟩ (.int .i64 m')).setCell ⟨B, 1, none⟩ (.slice ad' n' cap')) R N B Y m' ad' n' cap' G' := by
  have hv : Mov B wr ((wr.setCell ⟨B, 0, none⟩ (.int .i64 m')).setCell ⟨B, 1, none⟩ (.slice ad' n' cap')) := (Mov.set _ _ _).trans (Mov.set _ _ _)
  have hB := World.block_lt_of_cell? _ _ h.p0
  have hY := World.block_lt_of_cell? _ _ h.s0
  obtain ⟨q0, q1⟩ := setBox (m' := m') (v' := .slice ad' n' cap') h.p0 h.p1
  refine ⟨q0, q1, fun o => by simp [go_sem]; exact h.pf o, hv.cell h.s0 h.ne.2.2.1.symm, hv.cell h.s1 h.ne.2.2.1.symm, fun o => frozen_mov hv hY h.ne.2.2.1.symm (h.sf o), gt.apart (Or.inr (fun b off e => (lo _ e).2.2.2.1)) hv, nn, sp, fun p hp => ⟨Nat.lt_of_lt_of_le (lo p hp).1 hv.size, (lo p hp).2⟩, wg, h.rd.other hv ?_, ?_, h.ne⟩
  · have := h.ne; omega
  · exact (h.mv.setNew h.ne.2.2.2.1 _ _).setNew h.ne.2.2.2.1 _ _
theorem putR_wg {m : Int} {n : Nat} {G : Nat → Gt} {g : Gt} (hg : W64 g.a ∧ W64 g.b) (h : WG n G) (hn : n < 600) : (putR m n G g).m = m ∧ (putR m n G g).n ≤ n + 1 ∧ WG (putR m n G g).n (putR m n G g).G := by
  rcases firstO_ways (fun i => geq (G i) g) n with ⟨_, h'⟩ | ⟨i, hi, _, hg', hj⟩
  · rw [putR_new (fun j hj => geq_no.1 (h' j hj)) hn]
    refine ⟨rfl, Nat.le_refl _, fun i hi => ?_⟩
    by_cases e : i = n
    · subst e; simp only [snocG_at]; exact hg
    · have hlt : i < n := by simp only at hi; omega
      simp only [snocG_lt hlt]; exact h i hlt
  · rw [putR_at hi (geq_iff.1 hg') (fun j h => geq_no.1 (hj j h))]
    exact ⟨rfl, Nat.le_succ _, h⟩
theorem andR_wg {m : Int} {n : Nat} {G : Nat → Gt} {a b : Int} (ha : W64 a) (hb : W64 b) (h : WG n G) (hn : n < 600) : (andR m n G a b).m = m ∧ (andR m n G a b).n ≤ n + 1 ∧ WG (andR m n G a b).n (andR m n G a b).G := by
  unfold andR
  repeat' split
  all_goals first | exact ⟨rfl, Nat.le_succ _, h⟩ | exact putR_wg ⟨hb, ha⟩ h hn | exact putR_wg ⟨ha, hb⟩ h hn
theorem xorR_wg {m : Int} {n : Nat} {G : Nat → Gt} {a b : Int} (ha : -2000 ≤ a ∧ a ≤ 2000) (hb : -2000 ≤ b ∧ b ≤ 2000) (h : WG n G) (hn : n < 600) : (xorR m n G a b).m = m ∧ (xorR m n G a b).n ≤ n + 1 ∧ WG (xorR m n G a b).n (xorR m n G a b).G := by
  have wa : W64 (absI a) := by unfold W64 absI; split <;> omega
  have wb : W64 (absI b) := by unfold W64 absI; split <;> omega
  unfold xorR
  repeat' split
  all_goals first | exact ⟨rfl, Nat.le_succ _, h⟩ | exact putR_wg ⟨wb, wa⟩ h hn | exact putR_wg ⟨wa, wb⟩ h hn
theorem NB.rdm {w0 wr : World} {R N N' B Y : Nat} {m : Int} {ad : Option Addr} {n cap : Nat} {G : Nat → Gt} (h : NB w0 wr R N B Y m ad n cap G) (hN : N ≤ N') : NB w0 wr R N' B Y m ad n cap G :=
  ⟨h.p0, h.p1, h.pf, h.s0, h.s1, h.sf, h.gt, h.nn, h.sp, h.lo, h.wg, h.rd.mono hN, h.mv, h.ne⟩
set_option maxRecDepth 100000 in
set_option maxHeartbeats 8000000 in
theorem l6Net_any (R N : Nat) (most : Nat) (w : World) (hR : Rd w R N) (hN : N ≤ 800000) (h1 : 1 ≤ most) (h2 : most ≤ 20) :
    Calls Try.prog 27 #[.pointer (some ⟨R, 0, none⟩), .int .i64 (most : Int)] w fun e w' => ∃ m ad n cap G, e = .returned (.agg #[.int .i64 m, .slice ad n cap]) ∧ 0 ≤ m ∧ m ≤ 4 ∧ n ≤ most ∧ GtsAt w' ad n G ∧ (ad = none → n = 0 ∧ cap = 0) ∧ (∀ p, ad = some p → p.spot = none) ∧ (∀ p, ad = some p → p.block < w'.heap.size ∧ w.heap.size ≤ p.block) ∧ WG n G ∧ Rd w' R (N + 200) ∧ Mov R w w' := by
  obtain ⟨wz, hwz⟩ : ∃ wz, wz = w.alloc (.cells #[.int .i64 0, .slice none 0 0] 25) := ⟨_, rfl⟩
  have BZ : Below w.heap.size w wz := by rw [hwz]; exact (Below.refl _ _).alloc (Nat.le_refl _) _
  have s0 : wz.cell? ⟨w.heap.size, 0, none⟩ = some (.int .i64 0) := by rw [hwz]; simp [go_sem]
  have s1 : wz.cell? ⟨w.heap.size, 1, none⟩ = some (.slice none 0 0) := by rw [hwz]; simp [go_sem]
  have sf : ∀ o, wz.frozen? ⟨w.heap.size, o, none⟩ = false := fun o => by rw [hwz]; simp [go_sem]
  have hRz := hR.below BZ
  have rl := hR.lt
  have M1 : Mov R w wz := Mov.of BZ
  have HZ := hide hwz
  clear hwz hR
  go_enter Try.func27, Try.ntmps27
  go_wp2_with fail
  rw [← unhide HZ]
  refine (pick_any R N 5 _ hRz (by omega) (by omega) (by omega)).mono ?_
  rintro e w1 ⟨m, rfl, m0, m4, R1, v1⟩
  have zl := World.block_lt_of_cell? _ _ s0
  simp only at zl
  replace s0 := v1.cell s0 (by simp only; omega)
  replace s1 := v1.cell s1 (by simp only; omega)
  have sf1 : ∀ o, w1.frozen? ⟨w.heap.size, o, none⟩ = false := fun o => frozen_mov v1 zl (by omega) (sf o)
  have M2 := M1.trans v1
  have hs1 := M2.size
  have zl1 := World.block_lt_of_cell? _ _ s0
  simp only at zl1
  obtain ⟨B, hB⟩ : ∃ B, B = w1.heap.size := ⟨_, rfl⟩
  have h0 : Hid (NB w (w1.alloc (.cells #[.int .i64 m, .slice none 0 0] 25)) R (N + 1) B w.heap.size m none 0 0 (fun _ => ⟨false, 0, 0⟩)) := by
    have ba : Below w1.heap.size w1 (w1.alloc (.cells #[.int .i64 m, .slice none 0 0] 25)) := (Below.refl _ _).alloc (Nat.le_refl _) _
    rw [hB]
    exact ⟨by simp [go_sem], by simp [go_sem], fun o => by simp [go_sem], cell_later ba s0, cell_later ba s1, fun o => (ba.frozen (p := ⟨w.heap.size, o, none⟩) zl1).trans (sf1 o), Or.inl rfl, fun _ => ⟨rfl, rfl⟩, fun p h => (by cases h), fun p h => (by cases h), fun i hi => by omega, R1.below ba, M2.from ba, by have := R1.lt; omega⟩
  clear s0 s1 sf sf1 M2 M1 v1 R1 hRz HZ BZ
  go_wp2_with fail
  generalize hwb : w1.alloc (.cells #[.int .i64 m, .slice none 0 0] 25) = wb at *
  (try rw [← hB])
  clear hwb hB
  refine (pick_any R (N + 1) most _ (unhide h0).rd (by omega) (by omega) (by omega)).mono ?_
  rintro e w2 ⟨J, rfl, J0, J1, R2, v2⟩
  have h2 := hide ((unhide h0).mov v2 R2)
  obtain ⟨J, rfl⟩ := Int.eq_ofNat_of_zero_le J0
  obtain ⟨Y, hY⟩ : ∃ Y, Y = w.heap.size := ⟨_, rfl⟩
  rw [← hY] at h2 ⊢
  clear h0 v2 R2 hY zl zl1 hs1
  go_wp2
  go_loopw [6] (fun i wr => ∃ j : Nat, j ≤ J ∧ i = .int .i64 (j : Int) ∧ ∃ m ad n cap G, 0 ≤ m ∧ m ≤ 4 ∧ n + j ≤ J ∧ NB w wr R (N + 2 + 5 * (J - j)) B Y m ad n cap G) (fun i _ => (intOf i).toNat)
  case atStart => exact ⟨J, Nat.le_refl _, rfl, m, none, 0, 0, _, m0, by omega, by omega, (unhide h2).rdm (by omega)⟩
  case round =>
    obtain ⟨j, hj, rfl, m, ad, n, cap, G, m0, m4, hnj, hI⟩ := hrel
    have HR := hide hI
    clear hI
    cases j with
    | zero =>
      have kp0 := (unhide HR).p0
      have kp1 := (unhide HR).p1
      have ks0 := (unhide HR).s0
      have ks1 := (unhide HR).s1
      have kf0 := (unhide HR).sf 0
      have kf1 := (unhide HR).sf 1
      have hne := (unhide HR).ne.2.2.1
      have hgt := hide (unhide HR).gt
      have hb : decide (((0 : Nat) : Int) > 0) = false := by simp
      go_wp2
      refine bodyPost_ret (v := .agg #[.int .i64 m, .slice ad n cap]) (by simp [results, Try.results27, go_sem, ks0, ks1]) rfl ?_
      have hv : Mov Y wr ((wr.setCell ⟨Y, 0, none⟩ (.int .i64 m)).setCell ⟨Y, 1, none⟩ (.slice ad n cap)) := (Mov.set _ _ _).trans (Mov.set _ _ _)
      have hq := (unhide HR).ne
      exact ⟨m, ad, n, cap, G, rfl, m0, m4, by omega, (unhide HR).gt.apart (Or.inr (fun b off e => ((unhide HR).lo _ e).2.2.2.2)) hv, (unhide HR).nn, (unhide HR).sp, fun p hp => ⟨Nat.lt_of_lt_of_le ((unhide HR).lo p hp).1 hv.size, ((unhide HR).lo p hp).2.1⟩, (unhide HR).wg, ((unhide HR).rd.other hv (by omega)).mono (by omega), ((unhide HR).mv.setNew (by omega) _ _).setNew (by omega) _ _⟩
    | succ j =>
      have hb : decide (((j + 1 : Nat) : Int) > 0) = true := by simp <;> omega
      have kp0 := (unhide HR).p0
      have kp1 := (unhide HR).p1
      go_wp2_with fail
      refine (l6Lit_any R _ m ad n cap _ (unhide HR).rd (by omega) (by omega) (by omega) (by omega)).mono ?_
      rintro e w3 ⟨a, rfl, hA, ham, R3, M3⟩
      have HAM := hide (ham m0)
      have HR := hide ((unhide HR).mov M3 R3)
      clear M3 R3 ham kp0 kp1
      go_wp2_with fail
      refine (pick_any R _ 3 _ (unhide HR).rd (by omega) (by omega) (by omega)).mono ?_
      rintro e w4 ⟨q, rfl, q0, q1, R4, M4⟩
      have HR := hide ((unhide HR).mov M4 R4)
      clear M4 R4
      by_cases hq : q = 0
      · subst hq
        have kp0 := (unhide HR).p0
        have kp1 := (unhide HR).p1
        have kq0 := (unhide HR).pf 0
        have kq1 := (unhide HR).pf 1
        go_wp2
        refine wp_region_held_drew (S := fun _ => True) (by kernel_rfl) ?_ (fun hHeld => ?_)
        · trivial
        refine wpAnyH_take (i := 1) (v := ?_) rfl (by kernel_rfl) (by kernel_rfl) (by kernel_rfl) (fun _ _ _ h => h) (Or.inl ⟨by rfl, ?_⟩) (by assumption) ?_
        rotate_left
        · (intro w hSw; (try dsimp only at hSw); first | (go_simp; done) | (go_simp; with_reducible rfl))
        try simp only [List.getElem_toArray, List.getElem_cons_succ, List.getElem_cons_zero, Act.put, List.setIfInBounds_toArray, List.set_cons_zero, List.set_cons_succ]
        refine wpAnyH_take (i := 2) (v := ?_) rfl (by kernel_rfl) (by kernel_rfl) (by kernel_rfl) (fun _ _ _ h => h) (Or.inl ⟨by rfl, ?_⟩) (by assumption) ?_
        rotate_left
        · (intro w hSw; (try dsimp only at hSw); first | (go_simp; done) | (go_simp; with_reducible rfl))
        try simp only [List.getElem_toArray, List.getElem_cons_succ, List.getElem_cons_zero, Act.put, List.setIfInBounds_toArray, List.set_cons_zero, List.set_cons_succ]
        refine wpAnyH_ready (rs := [0, 3]) (by kernel_rfl) (by simp) ?_
        refine AllReadyH.cons rfl (fun K hK => ?_) (AllReadyH.cons rfl (fun K hK => ?_) AllReadyH.nil)
        · go_simp
          refine hK.out _ _ ?_ (fun hHeld => ?_)
          · trivial
          clear hK K
          try simp only [List.getElem_toArray, List.getElem_cons_succ, List.getElem_cons_zero, Act.put, List.setIfInBounds_toArray, List.set_cons_zero, List.set_cons_succ]
          refine wpAnyH_ready (rs := [3]) (by kernel_rfl) (by simp) ?_
          refine AllReadyH.cons rfl (fun K hK => ?_) AllReadyH.nil
          go_simp
          refine hK.out _ _ ?_ (fun hHeld => ?_)
          · trivial
          clear hK K
          try simp only [List.getElem_toArray, List.getElem_cons_succ, List.getElem_cons_zero, Act.put, List.setIfInBounds_toArray, List.set_cons_zero, List.set_cons_succ]
          refine wpAnyH_ready (rs := [4]) (by kernel_rfl) (by simp) ?_
          refine AllReadyH.cons rfl (fun K hK => ?_) AllReadyH.nil
          go_simp
          refine (l6Lit_any R _ m ad n cap _ (by exact (unhide HR).rd) (by omega) (by omega) (by omega) (by omega)).mono ?_
          rintro e w5 ⟨b, rfl, hB, hbm, R5, M5⟩
          clear kp0 kp1 kq0 kq1
          have HR := hide ((unhide HR).mov (by exact M5) R5)
          clear M5 R5
          have kp0 := (unhide HR).p0
          have kp1 := (unhide HR).p1
          have kq0 := (unhide HR).pf 0
          have kq1 := (unhide HR).pf 1
          go_wp2_with fail
          refine hK.out _ _ ?_ (fun hHeld => ?_)
          · trivial
          clear hK K
          try simp only [List.getElem_toArray, List.getElem_cons_succ, List.getElem_cons_zero, Act.put, List.setIfInBounds_toArray, List.set_cons_zero, List.set_cons_succ]
          refine wpAnyH_ready (rs := [5]) (by kernel_rfl) (by simp) ?_
          refine AllReadyH.cons rfl (fun K hK => ?_) AllReadyH.nil
          go_simp
          refine (l6Xor_any m ad n cap G a b _ (by exact (unhide HR).gt) (unhide HR).nn (unhide HR).sp (fun p hp => ((unhide HR).lo p hp).1) m0 (by omega) (by omega) (unhide HAM) (hbm m0)).mono ?_
          rintro e w6 ⟨⟨a6, c6, rfl, g6, nn6, sp6, pl6⟩, b6⟩
          clear kp0 kp1 kq0 kq1
          have w5s := (unhide HR).ne
          have lo5 := (unhide HR).lo
          have B5 := World.block_lt_of_cell? _ _ (unhide HR).p0
          have Y5 := World.block_lt_of_cell? _ _ (unhide HR).s0
          have R5 := (unhide HR).rd.lt
          have W5 := (unhide HR).mv.size
          have hw := xorR_wg hA hB (unhide HR).wg (show n < 600 by omega) (m := m)
          have HR := hide ((unhide HR).later b6)
          have lo6 : ∀ p, a6 = some p → p.block < w6.heap.size ∧ w.heap.size ≤ p.block ∧ p.block ≠ R ∧ p.block ≠ B ∧ p.block ≠ Y := fun p hp => by
            rcases pl6 with e | e | ⟨q, e, h1, h2⟩
            · rw [hp] at e; cases e
            · rw [hp] at e; have := lo5 p e.symm; exact ⟨Nat.lt_of_lt_of_le this.1 b6.size, this.2⟩
            · rw [hp] at e; cases e; simp only at B5 Y5 h1 h2 ⊢; (try simp at h1); omega
          have HP := hide ((unhide HR).put (m' := (xorR m n G a b).m) (cap' := c6) g6 nn6 sp6 lo6 hw.2.2)
          have HW1 := hide hw.1
          have HW2 := hide hw.2.1
          clear g6 nn6 sp6 pl6 b6 lo6 lo5 hw w5s B5 Y5 R5 W5
          have kp0 := (unhide HR).p0
          have kp1 := (unhide HR).p1
          have kq0 := (unhide HR).pf 0
          have kq1 := (unhide HR).pf 1
          generalize xorR m n G a b = r at *
          go_wp2_with fail
          refine hK.out _ _ ?_ (fun hHeld => ?_)
          · trivial
          clear hK K
          try simp only [List.getElem_toArray, List.getElem_cons_succ, List.getElem_cons_zero, Act.put, List.setIfInBounds_toArray, List.set_cons_zero, List.set_cons_succ]
          refine wpAnyH_take (i := 6) (v := ?_) rfl (by kernel_rfl) (by kernel_rfl) (by kernel_rfl) (fun _ _ _ h => h) (Or.inl ⟨by rfl, ?_⟩) (by assumption) ?_
          rotate_left
          · (intro w hSw; (try dsimp only at hSw); first | (go_simp; done) | (go_simp; with_reducible rfl))
          try simp only [List.getElem_toArray, List.getElem_cons_succ, List.getElem_cons_zero, Act.put, List.setIfInBounds_toArray, List.set_cons_zero, List.set_cons_succ]
          refine wpAnyH_take (i := 7) (v := ?_) rfl (by kernel_rfl) (by kernel_rfl) (by kernel_rfl) (fun _ _ _ h => h) (Or.inl ⟨by rfl, ?_⟩) (by assumption) ?_
          rotate_left
          · (intro w hSw; (try dsimp only at hSw); first | (go_simp; done) | (go_simp; with_reducible rfl))
          try simp only [List.getElem_toArray, List.getElem_cons_succ, List.getElem_cons_zero, Act.put, List.setIfInBounds_toArray, List.set_cons_zero, List.set_cons_succ]
          refine wpAnyH_take (i := 8) (v := ?_) rfl (by kernel_rfl) (by kernel_rfl) (by kernel_rfl) (fun _ _ _ h => h) (Or.inl ⟨by rfl, ?_⟩) (by assumption) ?_
          rotate_left
          · (intro w hSw; (try dsimp only at hSw); first | (go_simp; done) | (go_simp; with_reducible rfl))
          try simp only [List.getElem_toArray, List.getElem_cons_succ, List.getElem_cons_zero, Act.put, List.setIfInBounds_toArray, List.set_cons_zero, List.set_cons_succ]
          refine wpAnyH_ready (rs := [9]) (by kernel_rfl) (by simp) ?_
          refine AllReadyH.cons rfl (fun K hK => ?_) AllReadyH.nil
          go_simp
          refine hK.out _ _ ?_ (fun hHeld => ?_)
          · trivial
          clear hK K
          try simp only [List.getElem_toArray, List.getElem_cons_succ, List.getElem_cons_zero, Act.put, List.setIfInBounds_toArray, List.set_cons_zero, List.set_cons_succ]
          refine wpAnyH_done (by kernel_rfl) ?_ _
          clear kp0 kp1 kq0 kq1
          go_wp2
          go_roundw
          case rel => exact ⟨j, by omega, by go_num, r.m, a6, r.n, c6, r.G, by rw [unhide HW1]; exact m0, by rw [unhide HW1]; exact m4, by have := unhide HW2; omega, (by first | exact (unhide HP).drew.rdm (by omega) | exact (unhide HP).rdm (by omega))⟩
          case measure => simp [intOf] <;> omega
        · go_simp
          refine hK.out _ _ ?_ (fun hHeld => ?_)
          · trivial
          clear hK K
          try simp only [List.getElem_toArray, List.getElem_cons_succ, List.getElem_cons_zero, Act.put, List.setIfInBounds_toArray, List.set_cons_zero, List.set_cons_succ]
          refine wpAnyH_ready (rs := [0, 4]) (by kernel_rfl) (by simp) ?_
          refine AllReadyH.cons rfl (fun K hK => ?_) (AllReadyH.cons rfl (fun K hK => ?_) AllReadyH.nil)
          · go_simp
            refine hK.out _ _ ?_ (fun hHeld => ?_)
            · trivial
            clear hK K
            try simp only [List.getElem_toArray, List.getElem_cons_succ, List.getElem_cons_zero, Act.put, List.setIfInBounds_toArray, List.set_cons_zero, List.set_cons_succ]
            refine wpAnyH_ready (rs := [4]) (by kernel_rfl) (by simp) ?_
            refine AllReadyH.cons rfl (fun K hK => ?_) AllReadyH.nil
            go_simp
            refine (l6Lit_any R _ m ad n cap _ (by exact (unhide HR).rd) (by omega) (by omega) (by omega) (by omega)).mono ?_
            rintro e w5 ⟨b, rfl, hB, hbm, R5, M5⟩
            clear kp0 kp1 kq0 kq1
            have HR := hide ((unhide HR).mov (by exact M5) R5)
            clear M5 R5
            have kp0 := (unhide HR).p0
            have kp1 := (unhide HR).p1
            have kq0 := (unhide HR).pf 0
            have kq1 := (unhide HR).pf 1
            go_wp2_with fail
            refine hK.out _ _ ?_ (fun hHeld => ?_)
            · trivial
            clear hK K
            try simp only [List.getElem_toArray, List.getElem_cons_succ, List.getElem_cons_zero, Act.put, List.setIfInBounds_toArray, List.set_cons_zero, List.set_cons_succ]
            refine wpAnyH_ready (rs := [5]) (by kernel_rfl) (by simp) ?_
            refine AllReadyH.cons rfl (fun K hK => ?_) AllReadyH.nil
            go_simp
            refine (l6Xor_any m ad n cap G a b _ (by exact (unhide HR).gt) (unhide HR).nn (unhide HR).sp (fun p hp => ((unhide HR).lo p hp).1) m0 (by omega) (by omega) (unhide HAM) (hbm m0)).mono ?_
            rintro e w6 ⟨⟨a6, c6, rfl, g6, nn6, sp6, pl6⟩, b6⟩
            clear kp0 kp1 kq0 kq1
            have w5s := (unhide HR).ne
            have lo5 := (unhide HR).lo
            have B5 := World.block_lt_of_cell? _ _ (unhide HR).p0
            have Y5 := World.block_lt_of_cell? _ _ (unhide HR).s0
            have R5 := (unhide HR).rd.lt
            have W5 := (unhide HR).mv.size
            have hw := xorR_wg hA hB (unhide HR).wg (show n < 600 by omega) (m := m)
            have HR := hide ((unhide HR).later b6)
            have lo6 : ∀ p, a6 = some p → p.block < w6.heap.size ∧ w.heap.size ≤ p.block ∧ p.block ≠ R ∧ p.block ≠ B ∧ p.block ≠ Y := fun p hp => by
              rcases pl6 with e | e | ⟨q, e, h1, h2⟩
              · rw [hp] at e; cases e
              · rw [hp] at e; have := lo5 p e.symm; exact ⟨Nat.lt_of_lt_of_le this.1 b6.size, this.2⟩
              · rw [hp] at e; cases e; simp only at B5 Y5 h1 h2 ⊢; (try simp at h1); omega
            have HP := hide ((unhide HR).put (m' := (xorR m n G a b).m) (cap' := c6) g6 nn6 sp6 lo6 hw.2.2)
            have HW1 := hide hw.1
            have HW2 := hide hw.2.1
            clear g6 nn6 sp6 pl6 b6 lo6 lo5 hw w5s B5 Y5 R5 W5
            have kp0 := (unhide HR).p0
            have kp1 := (unhide HR).p1
            have kq0 := (unhide HR).pf 0
            have kq1 := (unhide HR).pf 1
            generalize xorR m n G a b = r at *
            go_wp2_with fail
            refine hK.out _ _ ?_ (fun hHeld => ?_)
            · trivial
            clear hK K
            try simp only [List.getElem_toArray, List.getElem_cons_succ, List.getElem_cons_zero, Act.put, List.setIfInBounds_toArray, List.set_cons_zero, List.set_cons_succ]
            refine wpAnyH_take (i := 6) (v := ?_) rfl (by kernel_rfl) (by kernel_rfl) (by kernel_rfl) (fun _ _ _ h => h) (Or.inl ⟨by rfl, ?_⟩) (by assumption) ?_
            rotate_left
            · (intro w hSw; (try dsimp only at hSw); first | (go_simp; done) | (go_simp; with_reducible rfl))
            try simp only [List.getElem_toArray, List.getElem_cons_succ, List.getElem_cons_zero, Act.put, List.setIfInBounds_toArray, List.set_cons_zero, List.set_cons_succ]
            refine wpAnyH_take (i := 7) (v := ?_) rfl (by kernel_rfl) (by kernel_rfl) (by kernel_rfl) (fun _ _ _ h => h) (Or.inl ⟨by rfl, ?_⟩) (by assumption) ?_
            rotate_left
            · (intro w hSw; (try dsimp only at hSw); first | (go_simp; done) | (go_simp; with_reducible rfl))
            try simp only [List.getElem_toArray, List.getElem_cons_succ, List.getElem_cons_zero, Act.put, List.setIfInBounds_toArray, List.set_cons_zero, List.set_cons_succ]
            refine wpAnyH_take (i := 8) (v := ?_) rfl (by kernel_rfl) (by kernel_rfl) (by kernel_rfl) (fun _ _ _ h => h) (Or.inl ⟨by rfl, ?_⟩) (by assumption) ?_
            rotate_left
            · (intro w hSw; (try dsimp only at hSw); first | (go_simp; done) | (go_simp; with_reducible rfl))
            try simp only [List.getElem_toArray, List.getElem_cons_succ, List.getElem_cons_zero, Act.put, List.setIfInBounds_toArray, List.set_cons_zero, List.set_cons_succ]
            refine wpAnyH_ready (rs := [9]) (by kernel_rfl) (by simp) ?_
            refine AllReadyH.cons rfl (fun K hK => ?_) AllReadyH.nil
            go_simp
            refine hK.out _ _ ?_ (fun hHeld => ?_)
            · trivial
            clear hK K
            try simp only [List.getElem_toArray, List.getElem_cons_succ, List.getElem_cons_zero, Act.put, List.setIfInBounds_toArray, List.set_cons_zero, List.set_cons_succ]
            refine wpAnyH_done (by kernel_rfl) ?_ _
            clear kp0 kp1 kq0 kq1
            go_wp2
            go_roundw
            case rel => exact ⟨j, by omega, by go_num, r.m, a6, r.n, c6, r.G, by rw [unhide HW1]; exact m0, by rw [unhide HW1]; exact m4, by have := unhide HW2; omega, (by first | exact (unhide HP).drew.rdm (by omega) | exact (unhide HP).rdm (by omega))⟩
            case measure => simp [intOf] <;> omega
          · go_simp
            refine (l6Lit_any R _ m ad n cap _ (by exact (unhide HR).rd) (by omega) (by omega) (by omega) (by omega)).mono ?_
            rintro e w5 ⟨b, rfl, hB, hbm, R5, M5⟩
            clear kp0 kp1 kq0 kq1
            have HR := hide ((unhide HR).mov (by exact M5) R5)
            clear M5 R5
            have kp0 := (unhide HR).p0
            have kp1 := (unhide HR).p1
            have kq0 := (unhide HR).pf 0
            have kq1 := (unhide HR).pf 1
            go_wp2_with fail
            refine hK.out _ _ ?_ (fun hHeld => ?_)
            · trivial
            clear hK K
            try simp only [List.getElem_toArray, List.getElem_cons_succ, List.getElem_cons_zero, Act.put, List.setIfInBounds_toArray, List.set_cons_zero, List.set_cons_succ]
            refine wpAnyH_ready (rs := [0]) (by kernel_rfl) (by simp) ?_
            refine AllReadyH.cons rfl (fun K hK => ?_) AllReadyH.nil
            go_simp
            refine hK.out _ _ ?_ (fun hHeld => ?_)
            · trivial
            clear hK K
            try simp only [List.getElem_toArray, List.getElem_cons_succ, List.getElem_cons_zero, Act.put, List.setIfInBounds_toArray, List.set_cons_zero, List.set_cons_succ]
            refine wpAnyH_ready (rs := [5]) (by kernel_rfl) (by simp) ?_
            refine AllReadyH.cons rfl (fun K hK => ?_) AllReadyH.nil
            go_simp
            refine (l6Xor_any m ad n cap G a b _ (by exact (unhide HR).gt) (unhide HR).nn (unhide HR).sp (fun p hp => ((unhide HR).lo p hp).1) m0 (by omega) (by omega) (unhide HAM) (hbm m0)).mono ?_
            rintro e w6 ⟨⟨a6, c6, rfl, g6, nn6, sp6, pl6⟩, b6⟩
            clear kp0 kp1 kq0 kq1
            have w5s := (unhide HR).ne
            have lo5 := (unhide HR).lo
            have B5 := World.block_lt_of_cell? _ _ (unhide HR).p0
            have Y5 := World.block_lt_of_cell? _ _ (unhide HR).s0
            have R5 := (unhide HR).rd.lt
            have W5 := (unhide HR).mv.size
            have hw := xorR_wg hA hB (unhide HR).wg (show n < 600 by omega) (m := m)
            have HR := hide ((unhide HR).later b6)
            have lo6 : ∀ p, a6 = some p → p.block < w6.heap.size ∧ w.heap.size ≤ p.block ∧ p.block ≠ R ∧ p.block ≠ B ∧ p.block ≠ Y := fun p hp => by
              rcases pl6 with e | e | ⟨q, e, h1, h2⟩
              · rw [hp] at e; cases e
              · rw [hp] at e; have := lo5 p e.symm; exact ⟨Nat.lt_of_lt_of_le this.1 b6.size, this.2⟩
              · rw [hp] at e; cases e; simp only at B5 Y5 h1 h2 ⊢; (try simp at h1); omega
            have HP := hide ((unhide HR).put (m' := (xorR m n G a b).m) (cap' := c6) g6 nn6 sp6 lo6 hw.2.2)
            have HW1 := hide hw.1
            have HW2 := hide hw.2.1
            clear g6 nn6 sp6 pl6 b6 lo6 lo5 hw w5s B5 Y5 R5 W5
            have kp0 := (unhide HR).p0
            have kp1 := (unhide HR).p1
            have kq0 := (unhide HR).pf 0
            have kq1 := (unhide HR).pf 1
            generalize xorR m n G a b = r at *
            go_wp2_with fail
            refine hK.out _ _ ?_ (fun hHeld => ?_)
            · trivial
            clear hK K
            try simp only [List.getElem_toArray, List.getElem_cons_succ, List.getElem_cons_zero, Act.put, List.setIfInBounds_toArray, List.set_cons_zero, List.set_cons_succ]
            refine wpAnyH_take (i := 6) (v := ?_) rfl (by kernel_rfl) (by kernel_rfl) (by kernel_rfl) (fun _ _ _ h => h) (Or.inl ⟨by rfl, ?_⟩) (by assumption) ?_
            rotate_left
            · (intro w hSw; (try dsimp only at hSw); first | (go_simp; done) | (go_simp; with_reducible rfl))
            try simp only [List.getElem_toArray, List.getElem_cons_succ, List.getElem_cons_zero, Act.put, List.setIfInBounds_toArray, List.set_cons_zero, List.set_cons_succ]
            refine wpAnyH_take (i := 7) (v := ?_) rfl (by kernel_rfl) (by kernel_rfl) (by kernel_rfl) (fun _ _ _ h => h) (Or.inl ⟨by rfl, ?_⟩) (by assumption) ?_
            rotate_left
            · (intro w hSw; (try dsimp only at hSw); first | (go_simp; done) | (go_simp; with_reducible rfl))
            try simp only [List.getElem_toArray, List.getElem_cons_succ, List.getElem_cons_zero, Act.put, List.setIfInBounds_toArray, List.set_cons_zero, List.set_cons_succ]
            refine wpAnyH_take (i := 8) (v := ?_) rfl (by kernel_rfl) (by kernel_rfl) (by kernel_rfl) (fun _ _ _ h => h) (Or.inl ⟨by rfl, ?_⟩) (by assumption) ?_
            rotate_left
            · (intro w hSw; (try dsimp only at hSw); first | (go_simp; done) | (go_simp; with_reducible rfl))
            try simp only [List.getElem_toArray, List.getElem_cons_succ, List.getElem_cons_zero, Act.put, List.setIfInBounds_toArray, List.set_cons_zero, List.set_cons_succ]
            refine wpAnyH_ready (rs := [9]) (by kernel_rfl) (by simp) ?_
            refine AllReadyH.cons rfl (fun K hK => ?_) AllReadyH.nil
            go_simp
            refine hK.out _ _ ?_ (fun hHeld => ?_)
            · trivial
            clear hK K
            try simp only [List.getElem_toArray, List.getElem_cons_succ, List.getElem_cons_zero, Act.put, List.setIfInBounds_toArray, List.set_cons_zero, List.set_cons_succ]
            refine wpAnyH_done (by kernel_rfl) ?_ _
            clear kp0 kp1 kq0 kq1
            go_wp2
            go_roundw
            case rel => exact ⟨j, by omega, by go_num, r.m, a6, r.n, c6, r.G, by rw [unhide HW1]; exact m0, by rw [unhide HW1]; exact m4, by have := unhide HW2; omega, (by first | exact (unhide HP).drew.rdm (by omega) | exact (unhide HP).rdm (by omega))⟩
            case measure => simp [intOf] <;> omega
      · have qb : (q == 0) = false := by simp [hq]
        have kp0 := (unhide HR).p0
        have kp1 := (unhide HR).p1
        have kq0 := (unhide HR).pf 0
        have kq1 := (unhide HR).pf 1
        go_wp2
        refine wp_region_held_drew (S := fun _ => True) (by kernel_rfl) ?_ (fun hHeld => ?_)
        · trivial
        refine wpAnyH_take (i := 1) (v := ?_) rfl (by kernel_rfl) (by kernel_rfl) (by kernel_rfl) (fun _ _ _ h => h) (Or.inl ⟨by rfl, ?_⟩) (by assumption) ?_
        rotate_left
        · (intro w hSw; (try dsimp only at hSw); first | (go_simp; done) | (go_simp; with_reducible rfl))
        try simp only [List.getElem_toArray, List.getElem_cons_succ, List.getElem_cons_zero, Act.put, List.setIfInBounds_toArray, List.set_cons_zero, List.set_cons_succ]
        refine wpAnyH_take (i := 2) (v := ?_) rfl (by kernel_rfl) (by kernel_rfl) (by kernel_rfl) (fun _ _ _ h => h) (Or.inl ⟨by rfl, ?_⟩) (by assumption) ?_
        rotate_left
        · (intro w hSw; (try dsimp only at hSw); first | (go_simp; done) | (go_simp; with_reducible rfl))
        try simp only [List.getElem_toArray, List.getElem_cons_succ, List.getElem_cons_zero, Act.put, List.setIfInBounds_toArray, List.set_cons_zero, List.set_cons_succ]
        refine wpAnyH_ready (rs := [0, 3]) (by kernel_rfl) (by simp) ?_
        refine AllReadyH.cons rfl (fun K hK => ?_) (AllReadyH.cons rfl (fun K hK => ?_) AllReadyH.nil)
        · go_simp
          refine hK.out _ _ ?_ (fun hHeld => ?_)
          · trivial
          clear hK K
          try simp only [List.getElem_toArray, List.getElem_cons_succ, List.getElem_cons_zero, Act.put, List.setIfInBounds_toArray, List.set_cons_zero, List.set_cons_succ]
          refine wpAnyH_ready (rs := [3]) (by kernel_rfl) (by simp) ?_
          refine AllReadyH.cons rfl (fun K hK => ?_) AllReadyH.nil
          go_simp
          refine hK.out _ _ ?_ (fun hHeld => ?_)
          · trivial
          clear hK K
          try simp only [List.getElem_toArray, List.getElem_cons_succ, List.getElem_cons_zero, Act.put, List.setIfInBounds_toArray, List.set_cons_zero, List.set_cons_succ]
          refine wpAnyH_ready (rs := [4]) (by kernel_rfl) (by simp) ?_
          refine AllReadyH.cons rfl (fun K hK => ?_) AllReadyH.nil
          go_simp
          refine (l6Lit_any R _ m ad n cap _ (by exact (unhide HR).rd) (by omega) (by omega) (by omega) (by omega)).mono ?_
          rintro e w5 ⟨b, rfl, hB, hbm, R5, M5⟩
          clear kp0 kp1 kq0 kq1
          have HR := hide ((unhide HR).mov (by exact M5) R5)
          clear M5 R5
          have kp0 := (unhide HR).p0
          have kp1 := (unhide HR).p1
          have kq0 := (unhide HR).pf 0
          have kq1 := (unhide HR).pf 1
          go_wp2_with fail
          refine hK.out _ _ ?_ (fun hHeld => ?_)
          · trivial
          clear hK K
          try simp only [List.getElem_toArray, List.getElem_cons_succ, List.getElem_cons_zero, Act.put, List.setIfInBounds_toArray, List.set_cons_zero, List.set_cons_succ]
          refine wpAnyH_ready (rs := [5]) (by kernel_rfl) (by simp) ?_
          refine AllReadyH.cons rfl (fun K hK => ?_) AllReadyH.nil
          go_simp
          refine (l6And_any m ad n cap G a b _ (by exact (unhide HR).gt) (unhide HR).nn (unhide HR).sp (fun p hp => ((unhide HR).lo p hp).1) m0 (by omega) (by omega) (unhide HAM) (hbm m0)).mono ?_
          rintro e w6 ⟨⟨a6, c6, rfl, g6, nn6, sp6, pl6⟩, b6⟩
          clear kp0 kp1 kq0 kq1
          have w5s := (unhide HR).ne
          have lo5 := (unhide HR).lo
          have B5 := World.block_lt_of_cell? _ _ (unhide HR).p0
          have Y5 := World.block_lt_of_cell? _ _ (unhide HR).s0
          have R5 := (unhide HR).rd.lt
          have W5 := (unhide HR).mv.size
          have hw := andR_wg (a := a) (b := b) (by unfold W64; omega) (by unfold W64; omega) (unhide HR).wg (show n < 600 by omega) (m := m)
          have HR := hide ((unhide HR).later b6)
          have lo6 : ∀ p, a6 = some p → p.block < w6.heap.size ∧ w.heap.size ≤ p.block ∧ p.block ≠ R ∧ p.block ≠ B ∧ p.block ≠ Y := fun p hp => by
            rcases pl6 with e | e | ⟨q, e, h1, h2⟩
            · rw [hp] at e; cases e
            · rw [hp] at e; have := lo5 p e.symm; exact ⟨Nat.lt_of_lt_of_le this.1 b6.size, this.2⟩
            · rw [hp] at e; cases e; simp only at B5 Y5 h1 h2 ⊢; (try simp at h1); omega
          have HP := hide ((unhide HR).put (m' := (andR m n G a b).m) (cap' := c6) g6 nn6 sp6 lo6 hw.2.2)
          have HW1 := hide hw.1
          have HW2 := hide hw.2.1
          clear g6 nn6 sp6 pl6 b6 lo6 lo5 hw w5s B5 Y5 R5 W5
          have kp0 := (unhide HR).p0
          have kp1 := (unhide HR).p1
          have kq0 := (unhide HR).pf 0
          have kq1 := (unhide HR).pf 1
          generalize andR m n G a b = r at *
          go_wp2_with fail
          refine hK.out _ _ ?_ (fun hHeld => ?_)
          · trivial
          clear hK K
          try simp only [List.getElem_toArray, List.getElem_cons_succ, List.getElem_cons_zero, Act.put, List.setIfInBounds_toArray, List.set_cons_zero, List.set_cons_succ]
          refine wpAnyH_take (i := 6) (v := ?_) rfl (by kernel_rfl) (by kernel_rfl) (by kernel_rfl) (fun _ _ _ h => h) (Or.inl ⟨by rfl, ?_⟩) (by assumption) ?_
          rotate_left
          · (intro w hSw; (try dsimp only at hSw); first | (go_simp; done) | (go_simp; with_reducible rfl))
          try simp only [List.getElem_toArray, List.getElem_cons_succ, List.getElem_cons_zero, Act.put, List.setIfInBounds_toArray, List.set_cons_zero, List.set_cons_succ]
          refine wpAnyH_take (i := 7) (v := ?_) rfl (by kernel_rfl) (by kernel_rfl) (by kernel_rfl) (fun _ _ _ h => h) (Or.inl ⟨by rfl, ?_⟩) (by assumption) ?_
          rotate_left
          · (intro w hSw; (try dsimp only at hSw); first | (go_simp; done) | (go_simp; with_reducible rfl))
          try simp only [List.getElem_toArray, List.getElem_cons_succ, List.getElem_cons_zero, Act.put, List.setIfInBounds_toArray, List.set_cons_zero, List.set_cons_succ]
          refine wpAnyH_take (i := 8) (v := ?_) rfl (by kernel_rfl) (by kernel_rfl) (by kernel_rfl) (fun _ _ _ h => h) (Or.inl ⟨by rfl, ?_⟩) (by assumption) ?_
          rotate_left
          · (intro w hSw; (try dsimp only at hSw); first | (go_simp; done) | (go_simp; with_reducible rfl))
          try simp only [List.getElem_toArray, List.getElem_cons_succ, List.getElem_cons_zero, Act.put, List.setIfInBounds_toArray, List.set_cons_zero, List.set_cons_succ]
          refine wpAnyH_ready (rs := [9]) (by kernel_rfl) (by simp) ?_
          refine AllReadyH.cons rfl (fun K hK => ?_) AllReadyH.nil
          go_simp
          refine hK.out _ _ ?_ (fun hHeld => ?_)
          · trivial
          clear hK K
          try simp only [List.getElem_toArray, List.getElem_cons_succ, List.getElem_cons_zero, Act.put, List.setIfInBounds_toArray, List.set_cons_zero, List.set_cons_succ]
          refine wpAnyH_done (by kernel_rfl) ?_ _
          clear kp0 kp1 kq0 kq1
          go_wp2
          go_roundw
          case rel => exact ⟨j, by omega, by go_num, r.m, a6, r.n, c6, r.G, by rw [unhide HW1]; exact m0, by rw [unhide HW1]; exact m4, by have := unhide HW2; omega, (by first | exact (unhide HP).drew.rdm (by omega) | exact (unhide HP).rdm (by omega))⟩
          case measure => simp [intOf] <;> omega
        · go_simp
          refine hK.out _ _ ?_ (fun hHeld => ?_)
          · trivial
          clear hK K
          try simp only [List.getElem_toArray, List.getElem_cons_succ, List.getElem_cons_zero, Act.put, List.setIfInBounds_toArray, List.set_cons_zero, List.set_cons_succ]
          refine wpAnyH_ready (rs := [0, 4]) (by kernel_rfl) (by simp) ?_
          refine AllReadyH.cons rfl (fun K hK => ?_) (AllReadyH.cons rfl (fun K hK => ?_) AllReadyH.nil)
          · go_simp
            refine hK.out _ _ ?_ (fun hHeld => ?_)
            · trivial
            clear hK K
            try simp only [List.getElem_toArray, List.getElem_cons_succ, List.getElem_cons_zero, Act.put, List.setIfInBounds_toArray, List.set_cons_zero, List.set_cons_succ]
            refine wpAnyH_ready (rs := [4]) (by kernel_rfl) (by simp) ?_
            refine AllReadyH.cons rfl (fun K hK => ?_) AllReadyH.nil
            go_simp
            refine (l6Lit_any R _ m ad n cap _ (by exact (unhide HR).rd) (by omega) (by omega) (by omega) (by omega)).mono ?_
            rintro e w5 ⟨b, rfl, hB, hbm, R5, M5⟩
            clear kp0 kp1 kq0 kq1
            have HR := hide ((unhide HR).mov (by exact M5) R5)
            clear M5 R5
            have kp0 := (unhide HR).p0
            have kp1 := (unhide HR).p1
            have kq0 := (unhide HR).pf 0
            have kq1 := (unhide HR).pf 1
            go_wp2_with fail
            refine hK.out _ _ ?_ (fun hHeld => ?_)
            · trivial
            clear hK K
            try simp only [List.getElem_toArray, List.getElem_cons_succ, List.getElem_cons_zero, Act.put, List.setIfInBounds_toArray, List.set_cons_zero, List.set_cons_succ]
            refine wpAnyH_ready (rs := [5]) (by kernel_rfl) (by simp) ?_
            refine AllReadyH.cons rfl (fun K hK => ?_) AllReadyH.nil
            go_simp
            refine (l6And_any m ad n cap G a b _ (by exact (unhide HR).gt) (unhide HR).nn (unhide HR).sp (fun p hp => ((unhide HR).lo p hp).1) m0 (by omega) (by omega) (unhide HAM) (hbm m0)).mono ?_
            rintro e w6 ⟨⟨a6, c6, rfl, g6, nn6, sp6, pl6⟩, b6⟩
            clear kp0 kp1 kq0 kq1
            have w5s := (unhide HR).ne
            have lo5 := (unhide HR).lo
            have B5 := World.block_lt_of_cell? _ _ (unhide HR).p0
            have Y5 := World.block_lt_of_cell? _ _ (unhide HR).s0
            have R5 := (unhide HR).rd.lt
            have W5 := (unhide HR).mv.size
            have hw := andR_wg (a := a) (b := b) (by unfold W64; omega) (by unfold W64; omega) (unhide HR).wg (show n < 600 by omega) (m := m)
            have HR := hide ((unhide HR).later b6)
            have lo6 : ∀ p, a6 = some p → p.block < w6.heap.size ∧ w.heap.size ≤ p.block ∧ p.block ≠ R ∧ p.block ≠ B ∧ p.block ≠ Y := fun p hp => by
              rcases pl6 with e | e | ⟨q, e, h1, h2⟩
              · rw [hp] at e; cases e
              · rw [hp] at e; have := lo5 p e.symm; exact ⟨Nat.lt_of_lt_of_le this.1 b6.size, this.2⟩
              · rw [hp] at e; cases e; simp only at B5 Y5 h1 h2 ⊢; (try simp at h1); omega
            have HP := hide ((unhide HR).put (m' := (andR m n G a b).m) (cap' := c6) g6 nn6 sp6 lo6 hw.2.2)
            have HW1 := hide hw.1
            have HW2 := hide hw.2.1
            clear g6 nn6 sp6 pl6 b6 lo6 lo5 hw w5s B5 Y5 R5 W5
            have kp0 := (unhide HR).p0
            have kp1 := (unhide HR).p1
            have kq0 := (unhide HR).pf 0
            have kq1 := (unhide HR).pf 1
            generalize andR m n G a b = r at *
            go_wp2_with fail
            refine hK.out _ _ ?_ (fun hHeld => ?_)
            · trivial
            clear hK K
            try simp only [List.getElem_toArray, List.getElem_cons_succ, List.getElem_cons_zero, Act.put, List.setIfInBounds_toArray, List.set_cons_zero, List.set_cons_succ]
            refine wpAnyH_take (i := 6) (v := ?_) rfl (by kernel_rfl) (by kernel_rfl) (by kernel_rfl) (fun _ _ _ h => h) (Or.inl ⟨by rfl, ?_⟩) (by assumption) ?_
            rotate_left
            · (intro w hSw; (try dsimp only at hSw); first | (go_simp; done) | (go_simp; with_reducible rfl))
            try simp only [List.getElem_toArray, List.getElem_cons_succ, List.getElem_cons_zero, Act.put, List.setIfInBounds_toArray, List.set_cons_zero, List.set_cons_succ]
            refine wpAnyH_take (i := 7) (v := ?_) rfl (by kernel_rfl) (by kernel_rfl) (by kernel_rfl) (fun _ _ _ h => h) (Or.inl ⟨by rfl, ?_⟩) (by assumption) ?_
            rotate_left
            · (intro w hSw; (try dsimp only at hSw); first | (go_simp; done) | (go_simp; with_reducible rfl))
            try simp only [List.getElem_toArray, List.getElem_cons_succ, List.getElem_cons_zero, Act.put, List.setIfInBounds_toArray, List.set_cons_zero, List.set_cons_succ]
            refine wpAnyH_take (i := 8) (v := ?_) rfl (by kernel_rfl) (by kernel_rfl) (by kernel_rfl) (fun _ _ _ h => h) (Or.inl ⟨by rfl, ?_⟩) (by assumption) ?_
            rotate_left
            · (intro w hSw; (try dsimp only at hSw); first | (go_simp; done) | (go_simp; with_reducible rfl))
            try simp only [List.getElem_toArray, List.getElem_cons_succ, List.getElem_cons_zero, Act.put, List.setIfInBounds_toArray, List.set_cons_zero, List.set_cons_succ]
            refine wpAnyH_ready (rs := [9]) (by kernel_rfl) (by simp) ?_
            refine AllReadyH.cons rfl (fun K hK => ?_) AllReadyH.nil
            go_simp
            refine hK.out _ _ ?_ (fun hHeld => ?_)
            · trivial
            clear hK K
            try simp only [List.getElem_toArray, List.getElem_cons_succ, List.getElem_cons_zero, Act.put, List.setIfInBounds_toArray, List.set_cons_zero, List.set_cons_succ]
            refine wpAnyH_done (by kernel_rfl) ?_ _
            clear kp0 kp1 kq0 kq1
            go_wp2
            go_roundw
            case rel => exact ⟨j, by omega, by go_num, r.m, a6, r.n, c6, r.G, by rw [unhide HW1]; exact m0, by rw [unhide HW1]; exact m4, by have := unhide HW2; omega, (by first | exact (unhide HP).drew.rdm (by omega) | exact (unhide HP).rdm (by omega))⟩
            case measure => simp [intOf] <;> omega
          · go_simp
            refine (l6Lit_any R _ m ad n cap _ (by exact (unhide HR).rd) (by omega) (by omega) (by omega) (by omega)).mono ?_
            rintro e w5 ⟨b, rfl, hB, hbm, R5, M5⟩
            clear kp0 kp1 kq0 kq1
            have HR := hide ((unhide HR).mov (by exact M5) R5)
            clear M5 R5
            have kp0 := (unhide HR).p0
            have kp1 := (unhide HR).p1
            have kq0 := (unhide HR).pf 0
            have kq1 := (unhide HR).pf 1
            go_wp2_with fail
            refine hK.out _ _ ?_ (fun hHeld => ?_)
            · trivial
            clear hK K
            try simp only [List.getElem_toArray, List.getElem_cons_succ, List.getElem_cons_zero, Act.put, List.setIfInBounds_toArray, List.set_cons_zero, List.set_cons_succ]
            refine wpAnyH_ready (rs := [0]) (by kernel_rfl) (by simp) ?_
            refine AllReadyH.cons rfl (fun K hK => ?_) AllReadyH.nil
            go_simp
            refine hK.out _ _ ?_ (fun hHeld => ?_)
            · trivial
            clear hK K
            try simp only [List.getElem_toArray, List.getElem_cons_succ, List.getElem_cons_zero, Act.put, List.setIfInBounds_toArray, List.set_cons_zero, List.set_cons_succ]
            refine wpAnyH_ready (rs := [5]) (by kernel_rfl) (by simp) ?_
            refine AllReadyH.cons rfl (fun K hK => ?_) AllReadyH.nil
            go_simp
            refine (l6And_any m ad n cap G a b _ (by exact (unhide HR).gt) (unhide HR).nn (unhide HR).sp (fun p hp => ((unhide HR).lo p hp).1) m0 (by omega) (by omega) (unhide HAM) (hbm m0)).mono ?_
            rintro e w6 ⟨⟨a6, c6, rfl, g6, nn6, sp6, pl6⟩, b6⟩
            clear kp0 kp1 kq0 kq1
            have w5s := (unhide HR).ne
            have lo5 := (unhide HR).lo
            have B5 := World.block_lt_of_cell? _ _ (unhide HR).p0
            have Y5 := World.block_lt_of_cell? _ _ (unhide HR).s0
            have R5 := (unhide HR).rd.lt
            have W5 := (unhide HR).mv.size
            have hw := andR_wg (a := a) (b := b) (by unfold W64; omega) (by unfold W64; omega) (unhide HR).wg (show n < 600 by omega) (m := m)
            have HR := hide ((unhide HR).later b6)
            have lo6 : ∀ p, a6 = some p → p.block < w6.heap.size ∧ w.heap.size ≤ p.block ∧ p.block ≠ R ∧ p.block ≠ B ∧ p.block ≠ Y := fun p hp => by
              rcases pl6 with e | e | ⟨q, e, h1, h2⟩
              · rw [hp] at e; cases e
              · rw [hp] at e; have := lo5 p e.symm; exact ⟨Nat.lt_of_lt_of_le this.1 b6.size, this.2⟩
              · rw [hp] at e; cases e; simp only at B5 Y5 h1 h2 ⊢; (try simp at h1); omega
            have HP := hide ((unhide HR).put (m' := (andR m n G a b).m) (cap' := c6) g6 nn6 sp6 lo6 hw.2.2)
            have HW1 := hide hw.1
            have HW2 := hide hw.2.1
            clear g6 nn6 sp6 pl6 b6 lo6 lo5 hw w5s B5 Y5 R5 W5
            have kp0 := (unhide HR).p0
            have kp1 := (unhide HR).p1
            have kq0 := (unhide HR).pf 0
            have kq1 := (unhide HR).pf 1
            generalize andR m n G a b = r at *
            go_wp2_with fail
            refine hK.out _ _ ?_ (fun hHeld => ?_)
            · trivial
            clear hK K
            try simp only [List.getElem_toArray, List.getElem_cons_succ, List.getElem_cons_zero, Act.put, List.setIfInBounds_toArray, List.set_cons_zero, List.set_cons_succ]
            refine wpAnyH_take (i := 6) (v := ?_) rfl (by kernel_rfl) (by kernel_rfl) (by kernel_rfl) (fun _ _ _ h => h) (Or.inl ⟨by rfl, ?_⟩) (by assumption) ?_
            rotate_left
            · (intro w hSw; (try dsimp only at hSw); first | (go_simp; done) | (go_simp; with_reducible rfl))
            try simp only [List.getElem_toArray, List.getElem_cons_succ, List.getElem_cons_zero, Act.put, List.setIfInBounds_toArray, List.set_cons_zero, List.set_cons_succ]
            refine wpAnyH_take (i := 7) (v := ?_) rfl (by kernel_rfl) (by kernel_rfl) (by kernel_rfl) (fun _ _ _ h => h) (Or.inl ⟨by rfl, ?_⟩) (by assumption) ?_
            rotate_left
            · (intro w hSw; (try dsimp only at hSw); first | (go_simp; done) | (go_simp; with_reducible rfl))
            try simp only [List.getElem_toArray, List.getElem_cons_succ, List.getElem_cons_zero, Act.put, List.setIfInBounds_toArray, List.set_cons_zero, List.set_cons_succ]
            refine wpAnyH_take (i := 8) (v := ?_) rfl (by kernel_rfl) (by kernel_rfl) (by kernel_rfl) (fun _ _ _ h => h) (Or.inl ⟨by rfl, ?_⟩) (by assumption) ?_
            rotate_left
            · (intro w hSw; (try dsimp only at hSw); first | (go_simp; done) | (go_simp; with_reducible rfl))
            try simp only [List.getElem_toArray, List.getElem_cons_succ, List.getElem_cons_zero, Act.put, List.setIfInBounds_toArray, List.set_cons_zero, List.set_cons_succ]
            refine wpAnyH_ready (rs := [9]) (by kernel_rfl) (by simp) ?_
            refine AllReadyH.cons rfl (fun K hK => ?_) AllReadyH.nil
            go_simp
            refine hK.out _ _ ?_ (fun hHeld => ?_)
            · trivial
            clear hK K
            try simp only [List.getElem_toArray, List.getElem_cons_succ, List.getElem_cons_zero, Act.put, List.setIfInBounds_toArray, List.set_cons_zero, List.set_cons_succ]
            refine wpAnyH_done (by kernel_rfl) ?_ _
            clear kp0 kp1 kq0 kq1
            go_wp2
            go_roundw
            case rel => exact ⟨j, by omega, by go_num, r.m, a6, r.n, c6, r.G, by rw [unhide HW1]; exact m0, by rw [unhide HW1]; exact m4, by have := unhide HW2; omega, (by first | exact (unhide HP).drew.rdm (by omega) | exact (unhide HP).rdm (by omega))⟩
            case measure => simp [intOf] <;> omega
end Go.Proofs.Ytbfijmijhfbkdaa
