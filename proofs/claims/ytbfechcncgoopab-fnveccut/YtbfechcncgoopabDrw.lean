/- What the model's draws of one and of two numbers return: some numbers; the reader moves on, nothing else that was there turns. -/
import Derived.Test.YtbfechcncgoopabRd
import Derived.Deep.DeepCutAuto
namespace Go.Proofs.Ytbfechcncgoopab
open Go.ChangeShapes Go.WideShapes Go.ChangeAt Go.RowKit Go.Joins
set_option linter.unusedVariables false
attribute [local go_sem ↓] Go.wp_at_zero Go.wp_at_succ

/-- A number of a few bits in a block of its own, which may be written. -/
def Box (w : World) (b : Nat) (x y : Int) : Prop := w.cell? ⟨b, 0, none⟩ = some (.int .i64 x) ∧ w.cell? ⟨b, 1, none⟩ = some (.int .i64 y) ∧ w.frozen? ⟨b, 0, none⟩ = false ∧ w.frozen? ⟨b, 1, none⟩ = false
theorem Box.mov {w w' : World} {b R : Nat} {x y : Int} (h : Box w b x y) (hm : Mov R w w') (hR : b ≠ R) : Box w' b x y :=
  ⟨hm.cell h.1 hR, hm.cell h.2.1 hR, hm.frozen h.1 hR h.2.2.1, hm.frozen h.2.1 hR h.2.2.2⟩
theorem Box.new (w : World) (x y : Int) (T : TypeId) : Box (w.alloc (.cells #[.int .i64 x, .int .i64 y] T)) w.heap.size x y := ⟨by simp [go_sem], by simp [go_sem], by simp [go_sem], by simp [go_sem]⟩
theorem Box.below {w w' : World} {b : Nat} {x y : Int} (h : Box w b x y) (hb : Below w.heap.size w w') : Box w' b x y :=
  ⟨cell_later hb h.1, cell_later hb h.2.1, by rw [hb.frozen (World.block_lt_of_cell? _ _ h.1)]; exact h.2.2.1, by rw [hb.frozen (World.block_lt_of_cell? _ _ h.2.1)]; exact h.2.2.2⟩
theorem Box.lt {w : World} {b : Nat} {x y : Int} (h : Box w b x y) : b < w.heap.size := World.block_lt_of_cell? _ _ h.1
theorem Box.alloc {w : World} {b : Nat} {x y : Int} (h : Box w b x y) (o : Obj) : Box (w.alloc o) b x y := h.below ((Below.refl _ _).alloc (Nat.le_refl _) _)

theorem Box.set {w : World} {b c : Nat} {x y : Int} (h : Box w b x y) (hc : b ≠ c) (o : Nat) (v : Value) : Box (w.setCell ⟨c, o, none⟩ v) b x y := h.mov (Mov.set w o v) hc
theorem Box.drew {w : World} {b : Nat} {x y : Int} (h : Box w b x y) : Box w.drew b x y := h
theorem Box.put {w : World} {b : Nat} {x y : Int} (h : Box w b x y) (x' y' : Int) : Box ((w.setCell ⟨b, 0, none⟩ (.int .i64 x')).setCell ⟨b, 1, none⟩ (.int .i64 y')) b x' y' := by
  obtain ⟨h0, h1, f0, f1⟩ := h
  have k : (w.setCell ⟨b, 0, none⟩ (.int .i64 x')).cell? ⟨b, 1, none⟩ = some (.int .i64 y) := by rw [World.cell?_setCell_other _ _ _ _ (by simp)]; exact h1
  exact ⟨by rw [World.cell?_setCell_other _ _ _ _ (by simp)]; exact World.cell?_setCell_same _ _ _ h0, World.cell?_setCell_same _ _ _ k, by simp [go_sem, f0], by simp [go_sem, f1]⟩
theorem rowNew (w : World) (zs : List Int) (T : TypeId) : ∀ i, i < zs.length → (w.alloc (.cells (zs.map (Value.int .i64)).toArray T)).cell? ⟨w.heap.size, i, none⟩ = some (.int .i64 (zs.getD i 0)) := by
  intro i hi
  rw [World.cell?_alloc_new]
  simp [List.getD, hi]

set_option maxHeartbeats 2000000 in
theorem l1Vec_any (R N : Nat) (w : World) (hR : Rd w R N) (hN : N ≤ 900000) :
    Calls Try.prog 22 #[.pointer (some ⟨R, 0, none⟩)] w fun e w' => ∃ a n : Int, e = .returned (.agg #[.int .i64 a, .int .i64 n]) ∧ Rd w' R (N + 4) ∧ Mov R w w' := by
  have hlt := hR.lt
  go_enter Try.func22, Try.ntmps22
  go_wp2_with fail
  refine (pick_any R N _ _ (hR.alloc _) (by omega) (by omega) (by omega)).mono ?_
  rintro e w1 ⟨k, rfl, k0, k1, hR1, hM1⟩
  have B1 := (Box.new w 0 0 24).mov hM1 (by omega)
  have M1 := (Mov.of (R := R) ((Below.refl w.heap.size w).alloc (Nat.le_refl _) (.cells #[.int .i64 0, .int .i64 0] 24))).trans hM1
  have ht := two_bd (1 + k) (by omega) (by omega)
  have t0 := ht.1
  have t1 := ht.2
  clear ht hM1
  go_wp2_with fail
  refine (two_any _ _ (by omega) (by omega)).mono ?_
  rintro e w1' ⟨rfl, rfl⟩
  go_wp2_with fail
  refine (pick_any R (N + 1) _ _ hR1 (by omega) (by omega) (by omega)).mono ?_
  rintro e w2 ⟨k2, rfl, k20, k21, hR2, hM2⟩
  have B2 := B1.mov hM2 (by omega)
  have M2 := M1.trans hM2
  have z2 := B2.lt
  clear B1 M1 hM2
  go_wp2_with fail
  refine (pick_any R (N + 2) _ _ (hR2.alloc _) (by omega) (by omega) (by omega)).mono ?_
  rintro e w3 ⟨k3, rfl, k30, k31, hR3, hM3⟩
  have B3 := (B2.alloc _).mov hM3 (by omega)
  have Q3 := (Box.new w2 (1 + k) k2 24).mov hM3 (by omega)
  have M3 := (M2.alloc _).trans hM3
  have z3 := hM3.size
  simp only [World.size_alloc] at z3
  clear B2 M2 hM3 hR2 hR1 hR
  by_cases c0 : k3 = 0
  · subst c0
    go_wp2_with fail
    refine (two_any _ _ (by omega) (by omega)).mono ?_
    rintro e w3' ⟨rfl, rfl⟩
    go_wp2_with fail
    refine (num_any R (N + 3) w3'.heap.size 3 [-1, two (1 + k), 9223372036854775807] _ rfl (hR3.alloc _) (by omega) (by omega) (by omega) (by omega) (rowNew w3' [-1, two (1 + k), 9223372036854775807] 3)).mono ?_
    rintro e w4 ⟨j, hj, rfl, hR4, hM4⟩
    generalize List.getD [-1, two (1 + k), 9223372036854775807] j 0 = v
    obtain ⟨b0, b1, bf0, bf1⟩ := (B3.alloc _).mov hM4 (by omega)
    obtain ⟨q0, q1, qf0, qf1⟩ := (Q3.alloc _).mov hM4 (by omega)
    have M4 := (M3.alloc _).trans hM4
    have n0 : w2.heap.size ≠ w.heap.size := by omega
    clear hM4 B3 Q3 hR3
    go_wp2
    exact bodyPost_ret (v := .agg #[.int .i64 (1 + k), .int .i64 v]) (by simp [results, Try.results22, go_sem, b0, b1]) rfl ⟨_, _, rfl, ((hR4.set (by omega) _ _).set (by omega) _ _).set (by omega) _ _, ((M4.setNew (by omega) _ _).setNew (by omega) _ _).setNew (by omega) _ _⟩
  · by_cases c1 : k3 = 1
    · subst c1
      go_wp2_with fail
      refine (num_any R (N + 3) w3.heap.size 4 [0, 5, -1, 9223372036854775807] _ rfl (hR3.alloc _) (by omega) (by omega) (by omega) (by omega) (rowNew w3 [0, 5, -1, 9223372036854775807] 3)).mono ?_
      rintro e w4 ⟨j, hj, rfl, hR4, hM4⟩
      generalize List.getD [0, 5, -1, 9223372036854775807] j 0 = v
      obtain ⟨b0, b1, bf0, bf1⟩ := (B3.alloc _).mov hM4 (by omega)
      obtain ⟨q0, q1, qf0, qf1⟩ := (Q3.alloc _).mov hM4 (by omega)
      have M4 := (M3.alloc _).trans hM4
      have n0 : w2.heap.size ≠ w.heap.size := by omega
      clear hM4 B3 Q3 hR3
      go_wp2
      exact bodyPost_ret (v := .agg #[.int .i64 v, .int .i64 k2]) (by simp [results, Try.results22, go_sem, b0, b1]) rfl ⟨_, _, rfl, ((hR4.set (by omega) _ _).set (by omega) _ _).set (by omega) _ _, ((M4.setNew (by omega) _ _).setNew (by omega) _ _).setNew (by omega) _ _⟩
    · have d0 : (k3 == 0) = false := by simpa using c0
      have d1 : (k3 == 1) = false := by simpa using c1
      obtain ⟨b0, b1, bf0, bf1⟩ := B3
      obtain ⟨q0, q1, qf0, qf1⟩ := Q3
      go_wp2
      exact bodyPost_ret (v := .agg #[.int .i64 (1 + k), .int .i64 k2]) (by simp [results, Try.results22, go_sem, b0, b1]) rfl ⟨_, _, rfl, ((hR3.set (by omega) _ _).set (by omega) _ _).mono (by omega), (M3.setNew (by omega) _ _).setNew (by omega) _ _⟩
set_option maxHeartbeats 2000000 in
theorem l1Pair_any (R N : Nat) (w : World) (hR : Rd w R N) (hN : N ≤ 800000) :
    Calls Try.prog 28 #[.pointer (some ⟨R, 0, none⟩)] w fun e w' => ∃ a m b n : Int, e = .returned (.tuple #[.agg #[.int .i64 a, .int .i64 m], .agg #[.int .i64 b, .int .i64 n]]) ∧ Rd w' R (N + 9) ∧ Mov R w w' := by
  have hlt := hR.lt
  go_enter Try.func28, Try.ntmps28
  go_wp2_with fail
  refine (l1Vec_any R N _ ((hR.alloc _).alloc _) (by omega)).mono ?_
  rintro e w1 ⟨a, m, rfl, hR1, hM1⟩
  have U1 := ((Box.new w 0 0 24).alloc (.cells #[.int .i64 0, .int .i64 0] 24)).mov hM1 (by omega)
  have V1 := (Box.new (w.alloc (.cells #[.int .i64 0, .int .i64 0] 24)) 0 0 24).mov hM1 (by simp; omega)
  simp only [World.size_alloc] at V1
  have M1 := (((Mov.refl R w).alloc _).alloc _).trans hM1
  clear hM1
  go_wp2_with fail
  refine (l1Vec_any R (N + 4) _ (hR1.alloc _) (by omega)).mono ?_
  rintro e w2 ⟨b, n, rfl, hR2, hM2⟩
  have x1 := V1.lt
  have U2 := (U1.alloc _).mov hM2 (by omega)
  have V2 := (V1.alloc _).mov hM2 (by omega)
  have P2 := (Box.new w1 a m 24).mov hM2 (by omega)
  have M2 := (M1.alloc _).trans hM2
  have z2 := P2.lt
  obtain ⟨p0, p1, _, _⟩ := id P2
  clear hM2 U1 V1 M1 hR1
  go_wp2_with fail
  refine (sVecOk_any _ _ _).mono ?_
  rintro e w3 ⟨rfl, b3⟩
  have U3 := (U2.alloc _).below b3
  have V3 := (V2.alloc _).below b3
  have P3 := (P2.alloc _).below b3
  have Q3 := (Box.new w2 b n 24).below b3
  have R3 := (hR2.alloc _).below b3
  have M3 := (M2.alloc _).from b3
  have z3 := Q3.lt
  clear U2 V2 P2 hR2 M2 b3 p0 p1
  cases hx : okB a m
  · obtain ⟨u0, u1, uf0, uf1⟩ := id U3
    obtain ⟨v0, v1, vf0, vf1⟩ := id V3
    obtain ⟨p0, p1, _, _⟩ := id P3
    obtain ⟨q0, q1, qf0, qf1⟩ := id Q3
    have n0 : w.heap.size + 1 ≠ w.heap.size := by omega
    have n1 : w1.heap.size ≠ w.heap.size := by omega
    have n2 : w1.heap.size ≠ w.heap.size + 1 := by omega
    have n3 : w2.heap.size ≠ w.heap.size := by omega
    have n4 : w2.heap.size ≠ w.heap.size + 1 := by omega
    have n5 : w.heap.size ≠ w1.heap.size := by omega
    have n6 : w.heap.size ≠ w2.heap.size := by omega
    have n7 : w.heap.size + 1 ≠ w1.heap.size := by omega
    have n8 : w.heap.size + 1 ≠ w2.heap.size := by omega
    go_wp2
    go_region
    all_goals go_wp2
    exact bodyPost_ret (v := .tuple #[.agg #[.int .i64 a, .int .i64 m], .agg #[.int .i64 b, .int .i64 n]]) (by simp [results, Try.results28, go_sem, u0, u1, v0, v1]) rfl ⟨_, _, _, _, rfl, ((((R3.set (by omega) _ _).set (by omega) _ _).set (by omega) _ _).set (by omega) _ _).drew.mono (by omega), ((((M3.setNew (by omega) _ _).setNew (by omega) _ _).setNew (by omega) _ _).setNew (by omega) _ _).drew⟩
  · obtain ⟨q0, q1, _, _⟩ := id Q3
    go_wp2_with fail
    refine (sVecOk_any _ _ _).mono ?_
    rintro e w4 ⟨rfl, b4⟩
    have U4 := U3.below b4
    have V4 := V3.below b4
    have P4 := P3.below b4
    have Q4 := Q3.below b4
    have R4 := R3.below b4
    have M4 := M3.from b4
    clear U3 V3 P3 Q3 R3 M3 b4 q0 q1
    cases hy : okB b n
    · obtain ⟨u0, u1, uf0, uf1⟩ := id U4
      obtain ⟨v0, v1, vf0, vf1⟩ := id V4
      obtain ⟨p0, p1, _, _⟩ := id P4
      obtain ⟨q0, q1, qf0, qf1⟩ := id Q4
      have n0 : w.heap.size + 1 ≠ w.heap.size := by omega
      have n1 : w1.heap.size ≠ w.heap.size := by omega
      have n2 : w1.heap.size ≠ w.heap.size + 1 := by omega
      have n3 : w2.heap.size ≠ w.heap.size := by omega
      have n4 : w2.heap.size ≠ w.heap.size + 1 := by omega
      have n5 : w.heap.size ≠ w1.heap.size := by omega
      have n6 : w.heap.size ≠ w2.heap.size := by omega
      have n7 : w.heap.size + 1 ≠ w1.heap.size := by omega
      have n8 : w.heap.size + 1 ≠ w2.heap.size := by omega
      go_wp2
      go_region
      all_goals go_wp2
      exact bodyPost_ret (v := .tuple #[.agg #[.int .i64 a, .int .i64 m], .agg #[.int .i64 b, .int .i64 n]]) (by simp [results, Try.results28, go_sem, u0, u1, v0, v1]) rfl ⟨_, _, _, _, rfl, ((((R4.set (by omega) _ _).set (by omega) _ _).set (by omega) _ _).set (by omega) _ _).drew.mono (by omega), ((((M4.setNew (by omega) _ _).setNew (by omega) _ _).setNew (by omega) _ _).setNew (by omega) _ _).drew⟩
    · go_wp2_with fail
      refine (pick_any R (N + 4 + 4) _ _ R4 (by omega) (by omega) (by omega)).mono ?_
      rintro e w5 ⟨k, rfl, k0, k1, R5, M5'⟩
      have U5 := U4.mov M5' (by omega)
      have V5 := V4.mov M5' (by omega)
      have P5 := P4.mov M5' (by omega)
      have Q5 := Q4.mov M5' (by omega)
      have M5 := M4.trans M5'
      clear U4 V4 P4 Q4 R4 M4 M5'
      by_cases hk : 0 < k
      · obtain ⟨u0, u1, uf0, uf1⟩ := id U5
        obtain ⟨v0, v1, vf0, vf1⟩ := id V5
        obtain ⟨p0, p1, _, _⟩ := id P5
        obtain ⟨q0, q1, qf0, qf1⟩ := id Q5
        have n0 : w.heap.size + 1 ≠ w.heap.size := by omega
        have n1 : w1.heap.size ≠ w.heap.size := by omega
        have n2 : w1.heap.size ≠ w.heap.size + 1 := by omega
        have n3 : w2.heap.size ≠ w.heap.size := by omega
        have n4 : w2.heap.size ≠ w.heap.size + 1 := by omega
        have n5 : w.heap.size ≠ w1.heap.size := by omega
        have n6 : w.heap.size ≠ w2.heap.size := by omega
        have n7 : w.heap.size + 1 ≠ w1.heap.size := by omega
        have n8 : w.heap.size + 1 ≠ w2.heap.size := by omega
        have hok := hx
        simp [okB] at hok
        have t := two_bd a (by omega) (by omega)
        have t0 := t.1
        have t1 := t.2
        have nz : ¬ two a = 0 := by omega
        have n9 : w2.heap.size ≠ w1.heap.size := by omega
        have n10 : w1.heap.size ≠ w2.heap.size := by omega
        clear t
        go_wp2
        go_cut [5] (fun s5 wx => ∃ n' : Int, s5 = .pointer (some ⟨w2.heap.size, 0, none⟩) ∧ Box wx w.heap.size 0 0 ∧ Box wx (w.heap.size + 1) 0 0 ∧ Box wx w1.heap.size a m ∧ Box wx w2.heap.size a n' ∧ Rd wx R (N + 9) ∧ Mov R w wx)
        case first =>
          go_region_with (go_at_call 25; refine (two_any _ _ (by omega) (by omega)).mono ?_; rintro e w' ⟨rfl, rfl⟩)
          all_goals
            go_wp2_with fail
            go_meet
            exact ⟨n.tmod (two a), rfl, ((U5.set (by omega) _ _).set (by omega) _ _).drew, ((V5.set (by omega) _ _).set (by omega) _ _).drew, ((P5.set (by omega) _ _).set (by omega) _ _).drew, (Q5.put _ _).drew, ((R5.set (by omega) _ _).set (by omega) _ _).drew.mono (by omega), ((M5.setNew (by omega) _ _).setNew (by omega) _ _).drew⟩
        case rest =>
          obtain ⟨n', rfl, U6, V6, P6, Q6, R6, M6⟩ := hcut
          clear u0 u1 uf0 uf1 v0 v1 vf0 vf1 p0 p1 q0 q1 qf0 qf1 U5 V5 P5 Q5 R5 M5
          obtain ⟨u0, u1, uf0, uf1⟩ := id U6
          obtain ⟨v0, v1, vf0, vf1⟩ := id V6
          obtain ⟨p0, p1, _, _⟩ := id P6
          obtain ⟨q0, q1, qf0, qf1⟩ := id Q6
          go_wp2
          go_region
          all_goals go_wp2
          exact bodyPost_ret (v := .tuple #[.agg #[.int .i64 a, .int .i64 m], .agg #[.int .i64 a, .int .i64 n']]) (by simp [results, Try.results28, go_sem, u0, u1, v0, v1]) rfl ⟨_, _, _, _, rfl, ((((R6.set (by omega) _ _).set (by omega) _ _).set (by omega) _ _).set (by omega) _ _).drew, ((((M6.setNew (by omega) _ _).setNew (by omega) _ _).setNew (by omega) _ _).setNew (by omega) _ _).drew⟩
      · obtain ⟨u0, u1, uf0, uf1⟩ := id U5
        obtain ⟨v0, v1, vf0, vf1⟩ := id V5
        obtain ⟨p0, p1, _, _⟩ := id P5
        obtain ⟨q0, q1, qf0, qf1⟩ := id Q5
        have n0 : w.heap.size + 1 ≠ w.heap.size := by omega
        have n1 : w1.heap.size ≠ w.heap.size := by omega
        have n2 : w1.heap.size ≠ w.heap.size + 1 := by omega
        have n3 : w2.heap.size ≠ w.heap.size := by omega
        have n4 : w2.heap.size ≠ w.heap.size + 1 := by omega
        have n5 : w.heap.size ≠ w1.heap.size := by omega
        have n6 : w.heap.size ≠ w2.heap.size := by omega
        have n7 : w.heap.size + 1 ≠ w1.heap.size := by omega
        have n8 : w.heap.size + 1 ≠ w2.heap.size := by omega
        go_wp2
        go_region
        all_goals go_wp2
        exact bodyPost_ret (v := .tuple #[.agg #[.int .i64 a, .int .i64 m], .agg #[.int .i64 b, .int .i64 n]]) (by simp [results, Try.results28, go_sem, u0, u1, v0, v1]) rfl ⟨_, _, _, _, rfl, ((((R5.set (by omega) _ _).set (by omega) _ _).set (by omega) _ _).set (by omega) _ _).drew.mono (by omega), ((((M5.setNew (by omega) _ _).setNew (by omega) _ _).setNew (by omega) _ _).setNew (by omega) _ _).drew⟩
end Go.Proofs.Ytbfechcncgoopab
