/- What the model's draw of a number and two places returns: some number and two small places; nothing that was there turns. -/
import Derived.Test.YtbfechcncgoopabDrwB
namespace Go.Proofs.Ytbfechcncgoopab
open Go.ChangeShapes Go.WideShapes Go.ChangeAt Go.RowKit Go.Joins
set_option linter.unusedVariables false
attribute [local go_sem ↓] Go.wp_at_zero Go.wp_at_succ
set_option maxHeartbeats 2000000 in
theorem drawCut_any (ad : Option Addr) (l c : Nat) (w : World) (hl : l ≤ 1048576) (hc : l ≤ c) (hcm : c ≤ maxLen) (hby : Byts w w.heap.size ad l) :
    Calls Try.prog 6 #[.slice ad l c] w fun e w' => ∃ a m hi lo : Int, e = .returned (.tuple #[.agg #[.int .i64 a, .int .i64 m], .int .i64 hi, .int .i64 lo]) ∧ (-1 ≤ hi ∧ hi ≤ 4 ∧ -1 ≤ lo ∧ lo ≤ 3) ∧ Below w.heap.size w w' := by
  have HB := hide hby
  clear hby
  go_enter Try.func6, Try.ntmps6
  go_wp2_with fail
  refine (open_any ad l c _ hl hc hcm ((unhide HB).up (by simp) ((Below.refl _ _).alloc (Nat.le_refl _) _))).mono ?_
  rintro e w1 ⟨rfl, hR1, b1⟩
  have U1 := (Box.new w 0 0 24).below b1
  simp only [World.size_alloc] at hR1
  have M1 := ((Mov.refl (w.heap.size + 1) w).alloc (.cells #[.int .i64 0, .int .i64 0] 24)).from b1
  have z1 := hR1.lt
  clear b1 HB
  simp only [World.size_alloc]
  go_wp2_with fail
  refine (l1Vec_any (w.heap.size + 1) 0 _ hR1 (by omega)).mono ?_
  rintro e w2 ⟨a, m, rfl, hR2, hM2⟩
  have U2 := U1.mov hM2 (by omega)
  have M2 := M1.trans hM2
  have z2 := hR2.lt
  clear hM2 U1 M1 hR1
  go_wp2_with fail
  refine (pick_any (w.heap.size + 1) _ _ _ (hR2.alloc _) (by omega) (by omega) (by omega)).mono ?_
  rintro e w3 ⟨k3, rfl, k30, k31, hR3, hM3⟩
  have U3 := (U2.alloc _).mov hM3 (by omega)
  have A3 := (Box.new w2 a m 24).mov hM3 (by omega)
  have M3 := (M2.alloc _).trans hM3
  clear hM3 U2 M2 hR2
  obtain ⟨a0, a1, _, _⟩ := id A3
  obtain ⟨u0, u1, uf0, uf1⟩ := id U3
  go_wp2_with fail
  go_region_with (go_at_call 23; refine (pick_any (w.heap.size + 1) _ _ _ (by first | exact hR3 | exact hR3.drew) (by omega) (by omega) (by omega)).mono ?_; rintro e w4 ⟨k4, rfl, k40, k41, hR4, hM4⟩; have A4 := (by first | exact A3.mov hM4 (by omega) | exact A3.drew.mov hM4 (by omega)); have U4 := (by first | exact U3.mov hM4 (by omega) | exact U3.drew.mov hM4 (by omega)); have M4 := (by first | exact M3.trans hM4 | exact M3.drew.trans hM4); obtain ⟨a40, a41, _, _⟩ := id A4; obtain ⟨u40, u41, uf40, uf41⟩ := id U4)
  all_goals go_wp2
  all_goals
    have ek : IntKind.i64.wrap (k4 - 1) = k4 - 1 := by rw [Go.IntWalk.i64_left, Go.IntWalk.wrap64_in _ (by omega)]
    exact bodyPost_ret (v := .tuple #[.agg #[.int .i64 a, .int .i64 m], .int .i64 (k3 - 1), .int .i64 (IntKind.i64.wrap (k4 - 1))]) (by simp [results, Try.results6, go_sem, u40, u41]) rfl ⟨_, _, _, _, rfl, ⟨by omega, by omega, by rw [ek]; omega, by rw [ek]; omega⟩, ((M4.below (by omega) (Nat.le_refl _)).setCell (Nat.le_refl _) _).setCell (Nat.le_refl _) _⟩
end Go.Proofs.Ytbfechcncgoopab
