/- Whether all reasons are right: the program's. -/
import Derived.Test.YtndebifmimbeaabCctA
import Derived.Test.YtndebifmimbeaabWhyB
namespace Go.Proofs.Ytndebifmimbeaab
open Go.ChangeShapes Go.WideShapes Go.ChangeAt Go.RowKit Go.Joins
set_option linter.unusedVariables false

set_option maxHeartbeats 1000000 in
theorem wants_any (b : Nat) (P : Nat → Int) (p N : Nat) (a : Option Addr) (l cap : Nat) (V : Nat → Int) (x : Int) (w : World) (hv : Ints w b 0 701 (asI P p)) (hd : IntsAt w a l V) (hl : l ≤ 1048576) (hc : ClP l V N) (hN : N ≤ 700) :
    Calls Try.prog 52 #[.slice a l cap, .int .i64 x, .pointer (some ⟨b, 0, none⟩)] w fun e w' => e = .returned (.bool (becB l V x P p)) ∧ ∃ n, w' = w.drewN n := by
  have HD := hide hd
  have HV := hide hv
  have HC := hide hc
  clear hd hv hc
  go_enter Try.func52, Try.ntmps52
  go_wp2
  go_loopw [11] (fun i wr => ∃ k nn : Nat, k ≤ l ∧ i = .int .i64 k ∧ (∀ j, j < k → V j ≠ x → TrnP P p (V j)) ∧ wr = w.drewN nn) (fun i _ => l - (intOf i).toNat)
  case atStart => exact ⟨0, 0, by omega, rfl, fun j hj => by omega, rfl⟩
  case round =>
    obtain ⟨k, nn, hk, rfl, hok, hwr⟩ := hrel
    have HK := hide hok
    have HWR := hide hwr
    have hcw : ∀ p, wr.cell? p = w.cell? p := fun p => by rw [hwr]; rfl
    have hsz : wr.heap.size = w.heap.size := by rw [hwr]; rfl
    have HCW := hide hcw
    have HSZ := hide hsz
    clear hok hwr hcw hsz
    by_cases hlt : k < l
    · obtain ⟨b', off, rfl, hb, hd⟩ := (unhide HD).ok hlt
      have d0 := (unhide HCW _).trans (hd k hlt)
      clear hd
      obtain ⟨c1, c2, c3⟩ := cl_bd (unhide HC) hlt
      by_cases he : V k = x
      · have HK1 : Hid (∀ j, j < k + 1 → V j ≠ x → TrnP P p (V j)) := fun j hj hne => by
          by_cases e : j = k
          · subst e; exact absurd he hne
          · exact unhide HK j (by omega) hne
        have kb : (V k != x) = false := by simp [he]
        clear he
        go_wp2
        go_quiet (fail)
        go_wp2
        go_roundw
        case rel => exact ⟨k + 1, _, by omega, by go_num, unhide HK1, by rw [unhide HWR, World.drewN_drewN]⟩
        case measure => simp [intOf]; omega
      · have kb : (V k != x) = true := by simp [he]
        have hba := bare_abs c1 c2 (by omega)
        obtain ⟨a1, a2⟩ := absI_bd _ _ c1 c2
        obtain ⟨m, hm⟩ := Int.eq_ofNat_of_zero_le a1
        have hm1 : m < 701 := by omega
        have s0 := (unhide HCW _).trans (unhide HV m hm1)
        rw [Nat.zero_add] at s0
        have hb5 : ∀ v, Calls Try.prog 33 #[.int .i64 (V k)] v fun e w' => e = .returned (.int .i64 (m : Int)) ∧ w' = v := fun v => by
          rw [show (m : Int) = bareI (V k) by rw [hba]; exact hm.symm]
          exact bare_any _ _ (by unfold W64; omega)
        have HB5 := hide hb5
        clear hb5
        have i1 : (m : Int) < 701 := by omega
        by_cases ht : TrnP P p (V k)
        · have HK1 : Hid (∀ j, j < k + 1 → V j ≠ x → TrnP P p (V j)) := fun j hj hne => by
            by_cases e : j = k
            · subst e; exact ht
            · exact unhide HK j (by omega) hne
          have kt : asI P p m = -V k := by unfold TrnP at ht; rw [hm, Int.toNat_natCast] at ht; exact ht
          have kc : (-V k != -V k) = false := by simp
          rw [kt] at s0
          clear he ht kt hm hba
          go_wp2
          go_quiet ((go_at_call 33; exact Calls.quiet_of_same (unhide HB5 _)))
          go_wp2
          go_roundw
          case rel => exact ⟨k + 1, _, by omega, by go_num, unhide HK1, by rw [unhide HWR, World.drewN_drewN]⟩
          case measure => simp [intOf]; omega
        · have HN := hide (becB_no (l := l) (V := V) (x := x) (P := P) (k := p) (fun h => ht (h.2 k hlt he)))
          have kt : (asI P p m != -V k) = true := by
            unfold TrnP at ht; rw [hm, Int.toNat_natCast] at ht
            simp [ht]
          clear he ht hm hba
          generalize asI P p m = av at *
          go_wp2
          go_quiet ((go_at_call 33; exact Calls.quiet_of_same (unhide HB5 _)))
          go_wp2
          rw [unhide HN]
          go_ret
          exact ⟨rfl, _, by rw [unhide HWR, World.drewN_drewN]⟩
    · have e : k = l := by omega
      subst e
      have HN := hide (becB_has (l := k) (V := V) (x := x) (P := P) (k := p) (unhide HK))
      go_wp2_with fail
      refine (contains_any _ _ _ _ _ _ (by rw [unhide HWR]; exact unhide HD) hl).mono ?_
      rintro e w1 ⟨rfl, rfl⟩
      go_wp2
      rw [unhide HN]
      go_ret
      exact ⟨rfl, _, unhide HWR⟩
end Go.Proofs.Ytndebifmimbeaab
