/- What the model's draw of a clause returns: some numbers, none greater than there are marks, in a list of its own; the reader moves on, nothing else that was there turns. -/
import Derived.Test.YtbepnfcghjfngaaIapA
import Derived.Test.YtbepnfcghjfngaaClaA
namespace Go.Proofs.Ytbepnfcghjfngaa
open Go.ChangeShapes Go.WideShapes Go.ChangeAt Go.RowKit Go.Joins
set_option linter.unusedVariables false

/-- A list of numbers of one's own, none greater than M. -/
def DrewI (w w' : World) (M : Nat) (e : Ending) : Prop := ∃ (g n cap : Nat) (L : List Int), e = .returned (.slice (some ⟨g, 0, none⟩) n cap) ∧ n ≤ M ∧ (∀ x, x ∈ L → -(M : Int) ≤ x ∧ x ≤ M) ∧ w'.ownsRow w.heap.size 3 1 (.slice (some ⟨g, 0, none⟩) n cap) n (icells L)
set_option maxHeartbeats 2000000 in
theorem l4Draw_any (R N M : Nat) (long : Int) (w : World) (hR : Rd w R N) (hN : N ≤ 900000) (hM : 1 ≤ M) (hM9 : M ≤ 100) :
    Calls Try.prog 18 #[.pointer (some ⟨R, 0, none⟩), .int .i64 M, .int .i64 long] w fun e w' => DrewI w w' M e ∧ Rd w' R (N + M * 2) ∧ Mov R w w' := by
  have hlt := hR.lt
  go_enter Try.func18, Try.ntmps18
  go_wp2
  obtain ⟨w1, hw1⟩ : ∃ v, v = w.alloc (.cells #[] 3) := ⟨_, rfl⟩
  have b1 : Below w.heap.size w w1 := by rw [hw1]; exact (Below.refl _ _).alloc (Nat.le_refl _) _
  have o1 : w1.ownsRow w.heap.size 3 1 (.slice (some ⟨w.heap.size, 0, none⟩) 0 0) 0 (icells []) := by rw [hw1]; exact own_new _ _ _
  rw [← hw1]
  have R1 := hR.below b1
  have M1 : Mov R w w1 := Mov.of b1
  have s1 := b1.size
  clear hw1 b1 hR
  obtain ⟨B0, hB0⟩ : ∃ x, x = w.heap.size := ⟨_, rfl⟩
  rw [← hB0] at o1 hlt s1
  rw [← hB0]
  have HB0 := hide hB0
  clear hB0
  go_loopw [8, 7] (fun i v wr => ∃ (k n g c : Nat) (L : List Int), k ≤ M ∧ n ≤ k ∧ i = .int .i64 ((k : Int) + 1) ∧ v = .slice (some ⟨g, 0, none⟩) n c ∧ wr.ownsRow B0 3 1 v n (icells L) ∧ (∀ x, x ∈ L → -(M : Int) ≤ x ∧ x ≤ M) ∧ Rd wr R (N + k * 2) ∧ Mov R w wr ∧ B0 ≤ wr.heap.size) (fun i _ _ => M + 1 - (intOf i).toNat)
  case atStart => exact ⟨0, 0, _, 0, [], by omega, by omega, rfl, rfl, o1, by simp, R1, M1, s1⟩
  case round =>
    clear o1 R1 M1 s1
    obtain ⟨k, n, g, c, L, hk, hn, rfl, rfl, ow, hL, hR, MV, hs⟩ := hrel
    have OW := hide ow
    have HL := hide hL
    have gl := (own_cap ow).2
    have gb := own_base ow
    clear ow hL
    by_cases hlt2 : k < M
    · go_wp2_with fail
      refine (pick_any R _ _ _ hR (by omega) (by omega) (by omega)).mono ?_
      rintro e w2 ⟨x, rfl, x0, x1, hR2, m2⟩
      have OW2 := hide ((unhide OW).kept (grown_mov m2) (Or.inr (by simp [Value.ownBlock]; omega)))
      have s2 := m2.size
      have MV2 := MV.trans m2
      clear OW m2 hR MV
      by_cases hxl : x < long
      · go_wp2_with fail
        refine (pick_any R _ _ _ hR2 (by omega) (by omega) (by omega)).mono ?_
        rintro e w3 ⟨y, rfl, y0, y1, hR3, m3⟩
        have OW3 := hide ((unhide OW2).kept (grown_mov m3) (Or.inr (by simp [Value.ownBlock]; omega)))
        have s3 := m3.size
        have MV3 := MV2.trans m3
        clear OW2 m3 hR2 MV2
        by_cases hy : y = 0
        · subst hy
          obtain ⟨g2, c2, w4, hrun, ow4, gr4, hg2⟩ := int_one w3 B0 _ n L ((k : Int) + 1) (unhide OW3) (by omega) (by omega)
          have HR := hide hrun
          have OW4 := hide ow4
          have R4 : Rd w4 R (N + (k + 1) * 2) := (hR3.grown gr4 (fun j h => by simp [Value.ownBlock] at h; omega)).mono (by omega)
          have M4 : Mov R w w4 := MV3.grown gr4 (fun j h => by simp [Value.ownBlock] at h; have := unhide HB0; omega)
          have s4 := gr4.size
          have HL4 : Hid (∀ x, x ∈ L ++ [(k : Int) + 1] → -(M : Int) ≤ x ∧ x ≤ M) := fun x hx => by
            rcases List.mem_append.1 hx with h | h
            · exact unhide HL x h
            · simp at h; subst h; omega
          clear hrun ow4 gr4 hg2 OW3 hR3 MV3
          go_wp2_with (first | (at_builtin; refine wpList_append_run _ rfl (.tmp 23) (.tmp 25) 30 rfl _ _ _ _ rfl rfl (unhide HR) ?_))
          go_roundw
          case rel => exact ⟨k + 1, n + 1, g2, c2, _, by omega, by omega, by go_num, rfl, unhide OW4, unhide HL4, R4, M4, by omega⟩
          case measure => simp [intOf]; omega
        · have yb : (y == 0) = false := by simp [hy]
          obtain ⟨g2, c2, w4, hrun, ow4, gr4, hg2⟩ := int_one w3 B0 _ n L (-((k : Int) + 1)) (unhide OW3) (by omega) (by omega)
          have HR := hide hrun
          have OW4 := hide ow4
          have R4 : Rd w4 R (N + (k + 1) * 2) := (hR3.grown gr4 (fun j h => by simp [Value.ownBlock] at h; omega)).mono (by omega)
          have M4 : Mov R w w4 := MV3.grown gr4 (fun j h => by simp [Value.ownBlock] at h; have := unhide HB0; omega)
          have s4 := gr4.size
          have HL4 : Hid (∀ x, x ∈ L ++ [-((k : Int) + 1)] → -(M : Int) ≤ x ∧ x ≤ M) := fun x hx => by
            rcases List.mem_append.1 hx with h | h
            · exact unhide HL x h
            · simp at h; subst h; omega
          clear hrun ow4 gr4 hg2 OW3 hR3 MV3
          go_wp2_with (first | (at_builtin; refine wpList_append_run _ rfl (.tmp 27) (.tmp 30) 30 rfl _ _ _ _ rfl rfl (unhide HR) ?_))
          go_roundw
          case rel => exact ⟨k + 1, n + 1, g2, c2, _, by omega, by omega, by go_num, rfl, unhide OW4, unhide HL4, R4, M4, by omega⟩
          case measure => simp [intOf]; omega
      · have R3 : Rd w2 R (N + (k + 1) * 2) := hR2.mono (by omega)
        clear hR2
        go_wp2
        go_roundw
        case rel => exact ⟨k + 1, n, g, c, L, by omega, by omega, by go_num, rfl, unhide OW2, unhide HL, R3, MV2, by omega⟩
        case measure => simp [intOf]; omega
    · have ek : k = M := by omega
      subst ek
      go_wp2
      go_ret
      exact ⟨⟨g, n, c, L, rfl, hn, unhide HL, by rw [← unhide HB0]; exact unhide OW⟩, hR, MV⟩
end Go.Proofs.Ytbepnfcghjfngaa
