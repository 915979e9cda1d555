/- What the model's draw of a list and a mark returns. -/
import Derived.Test.YtjbepalbhclafaaNltA
import Derived.Test.YtjbepalbhclafaaLeaA
namespace Go.Proofs.Ytjbepalbhclafaa
open Go.ChangeShapes Go.WideShapes Go.ChangeAt Go.RowKit Go.Joins
set_option linter.unusedVariables false

set_option maxHeartbeats 2000000 in
theorem drawNetLit_any (a : Option Addr) (l c : Nat) (w : World) (hl : l ≤ 1048576) (hc : l ≤ c) (hcm : c ≤ maxLen) (hby : Byts w w.heap.size a l) :
    Calls Try.prog 13 #[.slice a l c] w fun e w' => ∃ (q N k : Nat) (m : Int), e = .returned (.tuple #[.slice (some ⟨q, 0, none⟩) N N, .int .i64 m]) ∧ N ≤ 6 ∧ W64 m ∧ BlsAt w' (some ⟨q, 0, none⟩) N (vls N k) ∧ Below w.heap.size w w' := by
  go_enter Try.func13, Try.ntmps13
  go_wp2_with fail
  refine (open_any _ _ _ _ hl hc hcm hby).mono ?_
  rintro e w1 ⟨rfl, R1, b1⟩
  obtain ⟨R, hRe⟩ : ∃ x, x = w.heap.size := ⟨_, rfl⟩
  rw [← hRe] at R1
  rw [← hRe]
  have hRw : w.heap.size ≤ R := by omega
  have HRe := hide hRe
  clear hRe
  have rl := R1.lt
  have MV1 : Mov R w w1 := Mov.of b1
  clear b1 hby
  go_wp2_with fail
  refine (pick_any R _ _ _ R1 (by omega) (by omega) (by omega)).mono ?_
  rintro e w2 ⟨x, rfl, x0, x1, R2, m2⟩
  have MV2 := MV1.trans m2
  clear R1 MV1 m2
  go_wp2_with fail
  refine (pick_any R _ _ _ R2 (by omega) (by omega) (by omega)).mono ?_
  rintro e w3 ⟨y, rfl, y0, y1, R3, m3⟩
  have MV3 := MV2.trans m3
  have s3 := MV3.size
  clear R2 MV2 m3
  by_cases hy : y = 0
  · subst hy
    have rl3 := R3.lt
    go_wp2_with fail
    refine (num_any R _ w3.heap.size 2 [-9223372036854775808, 9223372036854775807] _ rfl (R3.alloc _) (by omega) (by omega) (by omega) (by omega) ?_).mono ?_
    · intro i hi
      have : i = 0 ∨ i = 1 := by omega
      rcases this with rfl | rfl <;> simp [go_sem]
    rintro e w4 ⟨j, hj, rfl, R4, m4⟩
    have MV4 := (MV3.alloc _).trans m4
    have hz : W64 ([-9223372036854775808, 9223372036854775807].getD j 0) := by
      have : j = 0 ∨ j = 1 := by omega
      rcases this with rfl | rfl <;> (unfold W64; simp)
    generalize [-9223372036854775808, 9223372036854775807].getD j (0 : Int) = z at *
    clear R3 MV3 m4
    go_wp2_with fail
    refine (pick_any R _ _ _ R4 (by omega) (by omega) (by omega)).mono ?_
    rintro e w5 ⟨N', rfl, N0, N1, R5, m5⟩
    have MV5 := MV4.trans m5
    clear R4 MV4 m5
    obtain ⟨N, rfl⟩ := Int.eq_ofNat_of_zero_le N0
    go_wp2_with fail
    refine (pick_any R _ _ _ R5 (by omega) (by omega) (by omega)).mono ?_
    rintro e w6 ⟨k', rfl, k0, k1, R6, m6⟩
    have MV6 := MV5.trans m6
    clear R5 MV5 m6
    obtain ⟨k, rfl⟩ := Int.eq_ofNat_of_zero_le k0
    go_wp2_with fail
    refine (l4Vals_any N k _ (by omega) (by omega)).mono ?_
    rintro e w7 ⟨rfl, X, XM, b7⟩
    have V7 := hide (X.at XM.1)
    have B7 := (MV6.from b7).below hRw (Nat.le_refl _)
    clear b7 X XM MV6
    go_wp2
    go_ret2
    exact ⟨_, N, k, z, rfl, by omega, hz, unhide V7, B7⟩
  · have yb : (y == 0) = false := by simp [hy]
    go_wp2_with fail
    refine (pick_any R _ _ _ R3 (by omega) (by omega) (by omega)).mono ?_
    rintro e w5 ⟨N', rfl, N0, N1, R5, m5⟩
    have MV5 := MV3.trans m5
    clear R3 MV3 m5
    obtain ⟨N, rfl⟩ := Int.eq_ofNat_of_zero_le N0
    go_wp2_with fail
    refine (pick_any R _ _ _ R5 (by omega) (by omega) (by omega)).mono ?_
    rintro e w6 ⟨k', rfl, k0, k1, R6, m6⟩
    have MV6 := MV5.trans m6
    clear R5 MV5 m6
    obtain ⟨k, rfl⟩ := Int.eq_ofNat_of_zero_le k0
    go_wp2_with fail
    refine (l4Vals_any N k _ (by omega) (by omega)).mono ?_
    rintro e w7 ⟨rfl, X, XM, b7⟩
    have V7 := hide (X.at XM.1)
    have B7 := (MV6.from b7).below hRw (Nat.le_refl _)
    clear b7 X XM MV6
    go_wp2
    go_ret2
    exact ⟨_, N, k, x - 6, rfl, by omega, by unfold W64; omega, unhide V7, B7⟩
end Go.Proofs.Ytjbepalbhclafaa
