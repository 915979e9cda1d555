/- What the model's draw of what is so and of marks returns. -/
import Derived.Test.YtlecioaglhlmiaaBvA
import Derived.Test.YtlecioaglhlmiaaIapA
import Derived.Test.YtlecioaglhlmiaaLeaA
namespace Go.Proofs.Ytlecioaglhlmiaa
open Go.ChangeShapes Go.WideShapes Go.ChangeAt Go.RowKit Go.Joins
set_option linter.unusedVariables false

set_option maxHeartbeats 2000000 in
theorem drawBitsVal_any (a : Option Addr) (l c : Nat) (w : World) (hl : l ≤ 1048576) (hc : l ≤ c) (hcm : c ≤ maxLen) (hby : Byts w w.heap.size a l) :
    Calls Try.prog 11 #[.slice a l c] w fun e w' => ∃ (q N k g n cap : Nat) (L : List Int), e = .returned (.tuple #[.slice (some ⟨q, 0, none⟩) N N, .slice (some ⟨g, 0, none⟩) n cap]) ∧ N ≤ 5 ∧ n ≤ 5 ∧ n ≤ cap ∧ g < w'.heap.size ∧ (∀ x, x ∈ L → -6 ≤ x ∧ x ≤ 6) ∧ L.length = n ∧ BlsAt w' (some ⟨q, 0, none⟩) N (vls N k) ∧ Ints w' g 0 n (at0 L) ∧ Below w.heap.size w w' := by
  go_enter Try.func11, Try.ntmps11
  go_wp2_with fail
  refine (open_any _ _ _ _ hl hc hcm hby).mono ?_
  rintro e w1 ⟨rfl, R1, b1⟩
  obtain ⟨R, hRe⟩ : ∃ x, x = w.heap.size := ⟨_, rfl⟩
  rw [← hRe] at R1
  rw [← hRe]
  have hRw : w.heap.size ≤ R := by omega
  have HRe := hide hRe
  clear hRe
  have rl := R1.lt
  have MV1 : Mov R w w1 := Mov.of b1
  clear b1 hby
  go_wp2_with fail
  obtain ⟨w2, hw2⟩ : ∃ v, v = w1.alloc (.cells #[] 3) := ⟨_, rfl⟩
  have b2 : Below w1.heap.size w1 w2 := by rw [hw2]; exact (Below.refl _ _).alloc (Nat.le_refl _) _
  have o2 : w2.ownsRow w1.heap.size 3 1 (.slice (some ⟨w1.heap.size, 0, none⟩) 0 0) 0 (icells []) := by rw [hw2]; exact own_new _ _ _
  rw [← hw2]
  have R2 := R1.below b2
  have MV2 : Mov R w w2 := MV1.trans (Mov.of b2)
  have s2 := b2.size
  clear hw2 b2 R1 MV1
  obtain ⟨B0, hB0⟩ : ∃ x, x = w1.heap.size := ⟨_, rfl⟩
  rw [← hB0] at o2 s2 rl
  rw [← hB0]
  have hw0 : w.heap.size ≤ B0 := by have := unhide HRe; omega
  clear hB0
  refine (pick_any R _ _ _ R2 (by omega) (by omega) (by omega)).mono ?_
  rintro e w3 ⟨x, rfl, x0, x1, R3, m3⟩
  have o3 := o2.kept (grown_mov m3) (Or.inr (by simp [Value.ownBlock]; omega))
  have MV3 := MV2.trans m3
  have s3 := m3.size
  clear R2 MV2 m3 o2
  obtain ⟨M, rfl⟩ := Int.eq_ofNat_of_zero_le x0
  have hM : M ≤ 5 := by omega
  clear x0 x1
  go_wp2
  go_loopw [6, 5] (fun i v wr => ∃ (k g c : Nat) (L : List Int), k ≤ M ∧ i = .int .i64 ((M : Int) - k) ∧ v = .slice (some ⟨g, 0, none⟩) k c ∧ wr.ownsRow B0 3 1 v k (icells L) ∧ (∀ x, x ∈ L → -6 ≤ x ∧ x ≤ 6) ∧ Rd wr R (1 + k) ∧ Mov R w wr ∧ B0 ≤ wr.heap.size) (fun i _ _ => (intOf i).toNat)
  case atStart => exact ⟨0, _, 0, [], by omega, by simp, rfl, o3, by simp, R3.mono (by omega), MV3, by omega⟩
  case round =>
    clear o3 R3 MV3 s2 s3
    obtain ⟨k, g, c, L, hk, rfl, rfl, ow, hL, hR, MV, hs⟩ := hrel
    have OW := hide ow
    have HL := hide hL
    have gl := (own_cap ow).2
    have gc := (own_cap ow).1
    have gb := own_base ow
    have hll := owns_len ow
    clear ow hL
    by_cases hlt2 : k < M
    · have hpos : (0 : Int) < (M : Int) - k := by omega
      go_wp2_with fail
      refine (pick_any R _ _ _ hR (by omega) (by omega) (by omega)).mono ?_
      rintro e w2 ⟨x, rfl, x0, x1, hR2, m2⟩
      have OW2 := hide ((unhide OW).kept (grown_mov m2) (Or.inr (by simp [Value.ownBlock]; omega)))
      have s2 := m2.size
      have MV2 := MV.trans m2
      clear OW m2 hR MV
      obtain ⟨g2, c2, w4, hrun, ow4, gr4, hg2⟩ := int_one w2 B0 _ k L (x - 6) (unhide OW2) (by omega) (by omega)
      have HR := hide hrun
      have OW4 := hide ow4
      have R4 : Rd w4 R (1 + (k + 1)) := (hR2.grown gr4 (fun j h => by simp [Value.ownBlock] at h; omega)).mono (by omega)
      have M4 : Mov R w w4 := MV2.grown gr4 (fun j h => by simp [Value.ownBlock] at h; omega)
      have s4 := gr4.size
      have HL4 : Hid (∀ y, y ∈ L ++ [x - 6] → -6 ≤ y ∧ y ≤ 6) := fun y hy => by
        rcases List.mem_append.1 hy with h | h
        · exact unhide HL y h
        · simp at h; subst h; omega
      clear hrun ow4 gr4 hg2 OW2 hR2 MV2
      go_wp2_with (first | (at_builtin; refine wpList_append_run _ rfl (.tmp 16) (.tmp 20) 23 rfl _ _ _ _ rfl rfl (unhide HR) ?_))
      go_roundw
      case rel => exact ⟨k + 1, g2, c2, _, by omega, congrArg (Value.int .i64) (by omega), rfl, unhide OW4, unhide HL4, R4, M4, by omega⟩
      case measure => simp [intOf]; omega
    · have ek : k = M := by omega
      subst ek
      have hz : (k : Int) - k = 0 := by omega
      rw [hz]
      clear hz
      go_wp2_with fail
      refine (pick_any R _ _ _ hR (by omega) (by omega) (by omega)).mono ?_
      rintro e w5 ⟨N', rfl, N0, N1, R5, m5⟩
      have OW5 := hide ((unhide OW).kept (grown_mov m5) (Or.inr (by simp [Value.ownBlock]; omega)))
      have MV5 := MV.trans m5
      have s5 := m5.size
      clear hR MV m5 OW
      obtain ⟨N, rfl⟩ := Int.eq_ofNat_of_zero_le N0
      go_wp2_with fail
      refine (pick_any R _ _ _ R5 (by omega) (by omega) (by omega)).mono ?_
      rintro e w6 ⟨k', rfl, k0, k1, R6, m6⟩
      have OW6 := hide ((unhide OW5).kept (grown_mov m6) (Or.inr (by simp [Value.ownBlock]; omega)))
      have MV6 := MV5.trans m6
      have s6 := m6.size
      clear R5 MV5 m6 OW5
      obtain ⟨K, rfl⟩ := Int.eq_ofNat_of_zero_le k0
      have i6 := own_ints (unhide OW6) hll
      have g6 := (own_cap (unhide OW6)).2
      go_wp2_with fail
      refine (l4Vals_any N K _ (by omega) (by omega)).mono ?_
      rintro e w7 ⟨rfl, X, XM, b7⟩
      have V7 := hide (X.at XM.1)
      have I7 : Hid (Ints w7 g 0 k (at0 L)) := i6.later b7
      have B7 := (MV6.from b7).below hRw (Nat.le_refl _)
      have g7 := Nat.lt_of_lt_of_le g6 b7.size
      clear b7 X XM MV6 i6 OW6
      go_wp2
      go_ret2
      exact ⟨_, N, K, g, k, c, L, rfl, by omega, by omega, gc, g7, unhide HL, hll, unhide V7, unhide I7, B7⟩
end Go.Proofs.Ytlecioaglhlmiaa
