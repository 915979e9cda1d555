/- What the model's draws of marks and of nets return. -/
import Derived.Test.YtmpiiilkaadhfaaDoorNrX
namespace Go.Proofs.YtmpiiilkaadhfaaDoor
open Go.ChangeShapes Go.WideShapes Go.ChangeAt Go.RowKit Go.Joins
set_option linter.unusedVariables false
set_option maxRecDepth 100000
set_option linter.unusedSimpArgs false

set_option maxRecDepth 100000 in
set_option maxHeartbeats 1000000 in
theorem pick_zero (R N : Nat) (n : Int) (w : World) (hR : Rd w R N) (hN : N ≤ 1000000) (n1 : n ≤ 0) :
    Calls Tryd.prog 52 #[.pointer (some ⟨R, 0, none⟩), .int .i64 n] w fun e w' => e = .returned (.int .i64 0) ∧ Rd w' R (N + 1) ∧ Mov R w w' := by
  obtain ⟨a, l, c, p, h0, h1, hf, hp, hl, hby⟩ := hR
  have HR := hide (Rd.step h0 h1 hf hp hl hby)
  have HM := hide (Mov.set (R := R) w 1 (.int .i64 ((p : Int) + 1)))
  have nb : decide (n < 1) = true := by simp; omega
  clear hby
  go_enter Tryd.func52, Tryd.ntmps52
  go_wp2
  go_ret
  exact ⟨rfl, unhide HR, unhide HM⟩
theorem pick_gen (R N : Nat) (n : Int) (w : World) (hR : Rd w R N) (hN : N ≤ 1000000) (n2 : n ≤ 1000000) :
    Calls Tryd.prog 52 #[.pointer (some ⟨R, 0, none⟩), .int .i64 n] w fun e w' => ∃ k : Int, e = .returned (.int .i64 k) ∧ 0 ≤ k ∧ (k < n ∨ k = 0) ∧ Rd w' R (N + 1) ∧ Mov R w w' := by
  by_cases h : 1 ≤ n
  · exact (pick_any R N n w hR hN h n2).mono fun e w' ⟨k, h1, h2, h3, h4, h5⟩ => ⟨k, h1, h2, Or.inl h3, h4, h5⟩
  · exact (pick_zero R N n w hR hN (by omega)).mono fun e w' ⟨h1, h4, h5⟩ => ⟨0, h1, by omega, Or.inr rfl, h4, h5⟩
set_option maxRecDepth 100000 in
set_option maxHeartbeats 400000 in
theorem many_gen (m : Int) (a : Option Addr) (n cap : Nat) (w : World) (hm0 : -1 ≤ m) (hm1 : m ≤ 9) (hn : n ≤ 1000) :
    Calls Tryd.prog 82 #[.agg #[.int .i64 m, .slice a n cap]] w fun e w' => e = .returned (.int .i64 (1 + m + n)) ∧ Below w.heap.size w w' := by
  go_enter Tryd.func82, Tryd.ntmps82
  go_wp2
  go_ret
  exact ⟨rfl, (by repeat (first | exact Below.refl _ _ | assumption | refine below_drewN ?_ _ | refine Below.drew ?_ | refine Below.alloc ?_ (by first | exact Nat.le_refl _ | exact Below.size (by assumption) | (simp; done) | (simp; omega)) _ | refine Below.setCell ?_ (by first | exact Nat.le_refl _ | exact Below.size (by assumption) | (simp; done) | (simp; omega)) _ | refine Below.trans ?_ (by assumption)))⟩
set_option maxRecDepth 100000 in
set_option maxHeartbeats 1000000 in
theorem l6Lit_any (R N : Nat) (m : Int) (ad : Option Addr) (n cap : Nat) (w : World) (hR : Rd w R N) (hN : N ≤ 900000) (hm0 : -1 ≤ m) (hm1 : m ≤ 9) (hn : n ≤ 1000) :
    Calls Tryd.prog 51 #[.pointer (some ⟨R, 0, none⟩), .agg #[.int .i64 m, .slice ad n cap]] w fun e w' => ∃ k : Int, e = .returned (.int .i64 k) ∧ (-2000 ≤ k ∧ k ≤ 2000) ∧ (0 ≤ m → mkP m n k = true) ∧ Rd w' R (N + 2) ∧ Mov R w w' := by
  obtain ⟨wz, hwz⟩ : ∃ wz, wz = w.alloc (.cells #[.int .i64 m, .slice ad n cap] 25) := ⟨_, rfl⟩
  have BZ : Below w.heap.size w wz := by rw [hwz]; exact (Below.refl _ _).alloc (Nat.le_refl _) _
  have p0 : wz.cell? ⟨w.heap.size, 0, none⟩ = some (.int .i64 m) := by rw [hwz]; simp [go_sem]
  have p1 : wz.cell? ⟨w.heap.size, 1, none⟩ = some (.slice ad n cap) := by rw [hwz]; simp [go_sem]
  have hRz := hR.below BZ
  have M1 : Mov R w wz := Mov.of BZ
  have HZ := hide hwz
  clear hwz hR
  go_enter Tryd.func51, Tryd.ntmps51
  go_wp2_with fail
  rw [← unhide HZ]
  refine (many_gen m ad n cap _ hm0 hm1 hn).mono ?_
  rintro e w1 ⟨rfl, b1⟩
  have R1 := hRz.below b1
  have M2 := M1.from b1
  clear b1 hRz M1 p0 p1 HZ BZ
  go_wp2_with fail
  refine (pick_gen R N (1 + m + n) _ R1 (by omega) (by omega)).mono ?_
  rintro e w2 ⟨k, rfl, k0, k1, R2, m2⟩
  have M3 := M2.trans m2
  clear R1 m2 M2
  go_wp2_with fail
  refine (pick_any R (N + 1) 2 _ R2 (by omega) (by omega) (by omega)).mono ?_
  rintro e w3 ⟨j, rfl, j0, j1, R3, m3⟩
  have M4 := M3.trans m3
  clear R2 m3 M3
  have hk : 0 ≤ m → k < 1 + m + n := fun h => by rcases k1 with h' | h' <;> omega
  have hk2 : k ≤ 1010 := by rcases k1 with h' | h' <;> omega
  have HK := hide hk
  clear hk k1
  by_cases hj : j = 0
  · subst hj
    go_wp2
    go_ret
    exact ⟨-(1 + k), rfl, by omega, fun h => by have := unhide HK h; unfold mkP; simp; omega, R3, M4⟩
  · have jb : (j == 0) = false := by simp [hj]
    go_wp2
    go_ret
    exact ⟨1 + k, rfl, by omega, fun h => by have := unhide HK h; unfold mkP; simp; omega, R3, M4⟩
/-- A net that is drawn: its box, the results' box, its gates, the reader. -/
structure NB (w0 wr : World) (R N B Y : Nat) (m : Int) (ad : Option Addr) (n cap : Nat) (G : Nat → Gt) : Prop where
  p0 : wr.cell? ⟨B, 0, none⟩ = some (.int .i64 m)
  p1 : wr.cell? ⟨B, 1, none⟩ = some (.slice ad n cap)
  pf : ∀ o, wr.frozen? ⟨B, o, none⟩ = false
  s0 : wr.cell? ⟨Y, 0, none⟩ = some (.int .i64 0)
  s1 : wr.cell? ⟨Y, 1, none⟩ = some (.slice none 0 0)
  sf : ∀ o, wr.frozen? ⟨Y, o, none⟩ = false
  gt : GtsAt wr ad n G
  nn : ad = none → n = 0 ∧ cap = 0
  sp : ∀ p, ad = some p → p.spot = none
  lo : ∀ p, ad = some p → p.block < wr.heap.size ∧ w0.heap.size ≤ p.block ∧ p.block ≠ R ∧ p.block ≠ B ∧ p.block ≠ Y
  wg : WG n G
  rd : Rd wr R N
  mv : Mov R w0 wr
  ne : B ≠ R ∧ Y ≠ R ∧ B ≠ Y ∧ w0.heap.size ≤ B ∧ w0.heap.size ≤ Y ∧ R < w0.heap.size
theorem NB.drew {w0 wr : World} {R N B Y : Nat} {m : Int} {ad : Option Addr} {n cap : Nat} {G : Nat → Gt} (h : NB w0 wr R N B Y m ad n cap G) : NB w0 wr.drew R N B Y m ad n cap G :=
  ⟨h.p0, h.p1, h.pf, h.s0, h.s1, h.sf, h.gt, h.nn, h.sp, h.lo, h.wg, h.rd, h.mv, h.ne⟩
theorem frozen_mov {w w' : World} {R B o : Nat} (hm : Mov R w w') (hB : B < w.heap.size) (hn : B ≠ R) (h : w.frozen? ⟨B, o, none⟩ = false) : w'.frozen? ⟨B, o, none⟩ = false :=
  (World.frozen?_of_block (w := w) (a := ⟨B, o, none⟩) (hm.2.2.2.2 B hB hn)).trans h
theorem NB.mov {w0 wr w' : World} {R N N' B Y : Nat} {m : Int} {ad : Option Addr} {n cap : Nat} {G : Nat → Gt} (h : NB w0 wr R N B Y m ad n cap G) (hm : Mov R wr w') (hR : Rd w' R N') : NB w0 w' R N' B Y m ad n cap G := by
  have hB := World.block_lt_of_cell? _ _ h.p0
  have hY := World.block_lt_of_cell? _ _ h.s0
  exact ⟨hm.cell h.p0 h.ne.1, hm.cell h.p1 h.ne.1, fun o => frozen_mov hm hB h.ne.1 (h.pf o), hm.cell h.s0 h.ne.2.1, hm.cell h.s1 h.ne.2.1, fun o => frozen_mov hm hY h.ne.2.1 (h.sf o), h.gt.apart (Or.inr (fun b off e => (h.lo _ e).2.2.1)) hm, h.nn, h.sp, fun p hp => ⟨Nat.lt_of_lt_of_le (h.lo p hp).1 hm.size, (h.lo p hp).2⟩, h.wg, hR, h.mv.trans hm, h.ne⟩
theorem NB.later {w0 wr w' : World} {R N B Y : Nat} {m : Int} {ad : Option Addr} {n cap : Nat} {G : Nat → Gt} (h : NB w0 wr R N B Y m ad n cap G) (hb : Below wr.heap.size wr w') : NB w0 w' R N B Y m ad n cap G := h.mov (Mov.of hb) (h.rd.below hb)
/-- Behind the store of a net into the box. -/
theorem NB.put {w0 wr : World} {R N B Y : Nat} {m : Int} {ad : Option Addr} {n cap : Nat} {G : Nat → Gt} {m' : Int} {ad' : Option Addr} {n' cap' : Nat} {G' : Nat → Gt} (h : NB w0 wr R N B Y m ad n cap G) (gt : GtsAt wr ad' n' G') (nn : ad' = none → n' = 0 ∧ cap' = 0) (sp : ∀ p, ad' = some p → p.spot = none) (lo : ∀ p, ad' = some p → p.block < wr.heap.size ∧ w0.heap.size ≤ p.block ∧ p.block ≠ R ∧ p.block ≠ B ∧ p.block ≠ Y) (wg : WG n' G') :
    NB w0 ((wr.setCell ⟨B, 0, none⟩ (.int .i64 m')).setCell ⟨B, 1, none⟩ (.slice ad' n' cap')) R N B Y m' ad' n' cap' G' := by
  have hv : Mov B wr ((wr.setCell ⟨B, 0, none⟩ (.int .i64 m')).setCell ⟨B, 1, none⟩ (.slice ad' n' cap')) := (Mov.set _ _ _).trans (Mov.set _ _ _)
  have hB := World.block_lt_of_cell? _ _ h.p0
  have hY := World.block_lt_of_cell? _ _ h.s0
  obtain ⟨q0, q1⟩ := setBox (m' := m') (v' := .slice ad' n' cap') h.p0 h.p1
  refine ⟨q0, q1, fun o => by simp [go_sem]; exact h.pf o, hv.cell h.s0 h.ne.2.2.1.symm, hv.cell h.s1 h.ne.2.2.1.symm, fun o => frozen_mov hv hY h.ne.2.2.1.symm (h.sf o), gt.apart (Or.inr (fun b off e => (lo _ e).2.2.2.1)) hv, nn, sp, fun p hp => ⟨Nat.lt_of_lt_of_le (lo p hp).1 hv.size, (lo p hp).2⟩, wg, h.rd.other hv ?_, ?_, h.ne⟩
  · have := h.ne; omega
  · exact (h.mv.setNew h.ne.2.2.2.1 _ _).setNew h.ne.2.2.2.1 _ _
theorem putR_wg {m : Int} {n : Nat} {G : Nat → Gt} {g : Gt} (hg : W64 g.a ∧ W64 g.b) (h : WG n G) (hn : n < 600) : (putR m n G g).m = m ∧ (putR m n G g).n ≤ n + 1 ∧ WG (putR m n G g).n (putR m n G g).G := by
  rcases firstO_ways (fun i => geq (G i) g) n with ⟨_, h'⟩ | ⟨i, hi, _, hg', hj⟩
  · rw [putR_new (fun j hj => geq_no.1 (h' j hj)) hn]
    refine ⟨rfl, Nat.le_refl _, fun i hi => ?_⟩
    by_cases e : i = n
    · subst e; simp only [snocG_at]; exact hg
    · have hlt : i < n := by simp only at hi; omega
      simp only [snocG_lt hlt]; exact h i hlt
  · rw [putR_at hi (geq_iff.1 hg') (fun j h => geq_no.1 (hj j h))]
    exact ⟨rfl, Nat.le_succ _, h⟩
theorem andR_wg {m : Int} {n : Nat} {G : Nat → Gt} {a b : Int} (ha : W64 a) (hb : W64 b) (h : WG n G) (hn : n < 600) : (andR m n G a b).m = m ∧ (andR m n G a b).n ≤ n + 1 ∧ WG (andR m n G a b).n (andR m n G a b).G := by
  unfold andR
  repeat' split
  all_goals first | exact ⟨rfl, Nat.le_succ _, h⟩ | exact putR_wg ⟨hb, ha⟩ h hn | exact putR_wg ⟨ha, hb⟩ h hn
theorem xorR_wg {m : Int} {n : Nat} {G : Nat → Gt} {a b : Int} (ha : -2000 ≤ a ∧ a ≤ 2000) (hb : -2000 ≤ b ∧ b ≤ 2000) (h : WG n G) (hn : n < 600) : (xorR m n G a b).m = m ∧ (xorR m n G a b).n ≤ n + 1 ∧ WG (xorR m n G a b).n (xorR m n G a b).G := by
  have wa : W64 (absI a) := by unfold W64 absI; split <;> omega
  have wb : W64 (absI b) := by unfold W64 absI; split <;> omega
  unfold xorR
  repeat' split
  all_goals first | exact ⟨rfl, Nat.le_succ _, h⟩ | exact putR_wg ⟨wb, wa⟩ h hn | exact putR_wg ⟨wa, wb⟩ h hn
theorem NB.rdm {w0 wr : World} {R N N' B Y : Nat} {m : Int} {ad : Option Addr} {n cap : Nat} {G : Nat → Gt} (h : NB w0 wr R N B Y m ad n cap G) (hN : N ≤ N') : NB w0 wr R N' B Y m ad n cap G :=
  ⟨h.p0, h.p1, h.pf, h.s0, h.s1, h.sf, h.gt, h.nn, h.sp, h.lo, h.wg, h.rd.mono hN, h.mv, h.ne⟩
end Go.Proofs.YtmpiiilkaadhfaaDoor
