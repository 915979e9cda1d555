/- What the model's draws of an operation and one or two numbers return: some operation and some numbers; nothing that was there turns. -/
import Derived.Test.YtbfechcncgoopabDrw
namespace Go.Proofs.Ytbfechcncgoopab
open Go.ChangeShapes Go.WideShapes Go.ChangeAt Go.RowKit Go.Joins
set_option linter.unusedVariables false
attribute [local go_sem ↓] Go.wp_at_zero Go.wp_at_succ

theorem Byts.up {w w' : World} {R S : Nat} {a : Option Addr} {l : Nat} (h : Byts w R a l) (hS : R ≤ S) (hb : Below w.heap.size w w') : Byts w' S a l := by
  rcases h with h | ⟨B, o, ha, hB, hc⟩
  · exact Or.inl h
  · exact Or.inr ⟨B, o, ha, Nat.lt_of_lt_of_le hB hS, fun i hi => by obtain ⟨x, x0, x1, hx⟩ := hc i hi; exact ⟨x, x0, x1, cell_later hb hx⟩⟩
set_option maxHeartbeats 2000000 in
theorem drawBin_any (ad : Option Addr) (l c : Nat) (w : World) (hl : l ≤ 1048576) (hc : l ≤ c) (hcm : c ≤ maxLen) (hby : Byts w w.heap.size ad l) :
    Calls Try.prog 16 #[.slice ad l c] w fun e w' => ∃ op a m b n : Int, e = .returned (.tuple #[.int .i64 op, .agg #[.int .i64 a, .int .i64 m], .agg #[.int .i64 b, .int .i64 n]]) ∧ Below w.heap.size w w' := by
  have HB := hide hby
  clear hby
  go_enter Try.func16, Try.ntmps16
  go_wp2_with fail
  refine (open_any ad l c _ hl hc hcm ((unhide HB).up (by simp; omega) (((Below.refl _ _).alloc (Nat.le_refl _) _).alloc (by simp) _))).mono ?_
  rintro e w1 ⟨rfl, hR1, b1⟩
  have U1 := ((Box.new w 0 0 24).alloc (.cells #[.int .i64 0, .int .i64 0] 24)).below b1
  have V1 := (Box.new (w.alloc (.cells #[.int .i64 0, .int .i64 0] 24)) 0 0 24).below b1
  simp only [World.size_alloc] at V1 hR1
  have M1 := (((Mov.refl (w.heap.size + 1 + 1) w).alloc (.cells #[.int .i64 0, .int .i64 0] 24)).alloc (.cells #[.int .i64 0, .int .i64 0] 24)).from b1
  have z1 := hR1.lt
  clear b1 HB
  simp only [World.size_alloc]
  go_wp2_with fail
  refine (pick_any (w.heap.size + 1 + 1) 0 _ _ hR1 (by omega) (by omega) (by omega)).mono ?_
  rintro e w2 ⟨k2, rfl, k20, k21, hR2, hM2⟩
  have U2 := U1.mov hM2 (by omega)
  have V2 := V1.mov hM2 (by omega)
  have M2 := M1.trans hM2
  clear hM2 U1 V1 M1 hR1
  go_wp2_with fail
  refine (pick_any (w.heap.size + 1 + 1) 1 _ _ hR2 (by omega) (by omega) (by omega)).mono ?_
  rintro e w3 ⟨k3, rfl, k30, k31, hR3, hM3⟩
  have U3 := U2.mov hM3 (by omega)
  have V3 := V2.mov hM3 (by omega)
  have M3 := M2.trans hM3
  clear hM3 U2 V2 M2 hR2
  by_cases hz : k3 = 0
  · subst hz
    go_wp2_with fail
    refine (pick_any (w.heap.size + 1 + 1) 2 _ _ hR3 (by omega) (by omega) (by omega)).mono ?_
    rintro e w4 ⟨k4, rfl, k40, k41, hR4, hM4⟩
    have U4 := U3.mov hM4 (by omega)
    have V4 := V3.mov hM4 (by omega)
    have M4 := M3.trans hM4
    clear hM4 U3 V3 M3 hR3
    go_wp2_with fail
    refine (l1Pair_any (w.heap.size + 1 + 1) 3 _ hR4 (by omega)).mono ?_
    rintro e w5 ⟨a, m, b, n, rfl, hRx, hMx⟩
    have UX := U4.mov hMx (by omega)
    have VX := V4.mov hMx (by omega)
    have MX := M4.trans hMx
    have zx := VX.lt
    clear hMx U4 V4 M4 hR4 hRx
    obtain ⟨u0, u1, uf0, uf1⟩ := UX
    obtain ⟨v0, v1, vf0, vf1⟩ := VX
    have n0 : w.heap.size + 1 ≠ w.heap.size := by omega
    have n1 : w5.heap.size ≠ w.heap.size := by omega
    have n2 : w5.heap.size ≠ w.heap.size + 1 := by omega
    have n3 : w5.heap.size + 1 ≠ w.heap.size := by omega
    have n4 : w5.heap.size + 1 ≠ w.heap.size + 1 := by omega
    have n5 : w.heap.size ≠ w5.heap.size := by omega
    have n6 : w.heap.size ≠ w5.heap.size + 1 := by omega
    have n7 : w.heap.size + 1 ≠ w5.heap.size := by omega
    have n8 : w.heap.size + 1 ≠ w5.heap.size + 1 := by omega
    have y0 : w.heap.size < w5.heap.size := by omega
    go_wp2
    go_region
    all_goals go_wp2
    exact bodyPost_ret (v := .tuple #[.int .i64 (k4 - 1), .agg #[.int .i64 a, .int .i64 m], .agg #[.int .i64 b, .int .i64 n]]) (by simp [results, Try.results16, go_sem, u0, u1, v0, v1, y0, zx]) rfl ⟨_, _, _, _, _, rfl, (((((((MX.below (by omega) (Nat.le_refl _)).setCell (Nat.le_refl _) _).setCell (Nat.le_refl _) _).setCell (by simp) _).setCell (by simp) _).alloc (by simp [World.setCell]; omega) _).alloc (by simp [World.setCell]; omega) _).drew⟩
  · have hzb : (k3 == 0) = false := by simpa using hz
    go_wp2_with fail
    refine (l1Pair_any (w.heap.size + 1 + 1) 2 _ hR3 (by omega)).mono ?_
    rintro e w4 ⟨a, m, b, n, rfl, hRx, hMx⟩
    have UX := U3.mov hMx (by omega)
    have VX := V3.mov hMx (by omega)
    have MX := M3.trans hMx
    have zx := VX.lt
    clear hMx U3 V3 M3 hR3 hRx
    obtain ⟨u0, u1, uf0, uf1⟩ := UX
    obtain ⟨v0, v1, vf0, vf1⟩ := VX
    have n0 : w.heap.size + 1 ≠ w.heap.size := by omega
    have n1 : w4.heap.size ≠ w.heap.size := by omega
    have n2 : w4.heap.size ≠ w.heap.size + 1 := by omega
    have n3 : w4.heap.size + 1 ≠ w.heap.size := by omega
    have n4 : w4.heap.size + 1 ≠ w.heap.size + 1 := by omega
    have n5 : w.heap.size ≠ w4.heap.size := by omega
    have n6 : w.heap.size ≠ w4.heap.size + 1 := by omega
    have n7 : w.heap.size + 1 ≠ w4.heap.size := by omega
    have n8 : w.heap.size + 1 ≠ w4.heap.size + 1 := by omega
    have y0 : w.heap.size < w4.heap.size := by omega
    go_wp2
    go_region
    all_goals go_wp2
    exact bodyPost_ret (v := .tuple #[.int .i64 (k2 + 3), .agg #[.int .i64 a, .int .i64 m], .agg #[.int .i64 b, .int .i64 n]]) (by simp [results, Try.results16, go_sem, u0, u1, v0, v1, y0, zx]) rfl ⟨_, _, _, _, _, rfl, (((((((MX.below (by omega) (Nat.le_refl _)).setCell (Nat.le_refl _) _).setCell (Nat.le_refl _) _).setCell (by simp) _).setCell (by simp) _).alloc (by simp [World.setCell]; omega) _).alloc (by simp [World.setCell]; omega) _).drew⟩
end Go.Proofs.Ytbfechcncgoopab
