/- What the model's draw of one number returns: some number; nothing that was there turns. -/
import Derived.Test.YtbfechcncgoopabDrwB
namespace Go.Proofs.Ytbfechcncgoopab
open Go.ChangeShapes Go.WideShapes Go.ChangeAt Go.RowKit Go.Joins
set_option linter.unusedVariables false
attribute [local go_sem ↓] Go.wp_at_zero Go.wp_at_succ
set_option maxHeartbeats 2000000 in
theorem drawOk_any (ad : Option Addr) (l c : Nat) (w : World) (hl : l ≤ 1048576) (hc : l ≤ c) (hcm : c ≤ maxLen) (hby : Byts w w.heap.size ad l) :
    Calls Try.prog 17 #[.slice ad l c] w fun e w' => ∃ a m : Int, e = .returned (.agg #[.int .i64 a, .int .i64 m]) ∧ Below w.heap.size w w' := by
  have HB := hide hby
  clear hby
  go_enter Try.func17, Try.ntmps17
  go_wp2_with fail
  refine (open_any ad l c _ hl hc hcm ((unhide HB).up (by simp) ((Below.refl _ _).alloc (Nat.le_refl _) _))).mono ?_
  rintro e w1 ⟨rfl, hR1, b1⟩
  have U1 := (Box.new w 0 0 24).below b1
  simp only [World.size_alloc] at hR1
  have M1 := ((Mov.refl (w.heap.size + 1) w).alloc (.cells #[.int .i64 0, .int .i64 0] 24)).from b1
  have z1 := hR1.lt
  clear b1 HB
  simp only [World.size_alloc]
  go_wp2_with fail
  refine (l1Vec_any (w.heap.size + 1) 0 _ hR1 (by omega)).mono ?_
  rintro e w3 ⟨a, m, rfl, hR3, hM3⟩
  obtain ⟨u0, u1, uf0, uf1⟩ := U1.mov hM3 (by omega)
  have M3 := M1.trans hM3
  clear hM3 U1 M1 hR1 hR3
  go_wp2
  exact bodyPost_ret (v := .agg #[.int .i64 a, .int .i64 m]) (by simp [results, Try.results17, go_sem, u0, u1]) rfl ⟨_, _, rfl, ((M3.below (by omega) (Nat.le_refl _)).setCell (Nat.le_refl _) _).setCell (Nat.le_refl _) _⟩
end Go.Proofs.Ytbfechcncgoopab
