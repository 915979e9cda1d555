/- Why a mark was put: the model's functions. -/
import Derived.Test.YtndebifmimbeaabPutB
import Derived.Test.YtndebifmimbeaabWhyM
import Derived.Test.YtndebifmimbeaabSatA
namespace Go.Proofs.Ytndebifmimbeaab
open Go.ChangeShapes Go.WideShapes Go.ChangeAt Go.RowKit Go.Joins
set_option linter.unusedVariables false

set_option maxHeartbeats 400000 in
theorem l5Sign_any (b n cap : Nat) (P : Nat → Int) (k : Nat) (x : Int) (w : World) (hd : Ints w b 0 n (sgI P k)) (h1 : -(n : Int) < x) (h2 : x < n) (hn : n ≤ 1000) (hs : ∀ m, -1 ≤ sgI P k m ∧ sgI P k m ≤ 1) :
    Calls Try.prog 53 #[.slice (some ⟨b, 0, none⟩) n cap, .int .i64 x] w fun e w' => e = .returned (.int .i64 (signI P k x)) ∧ w' = w := by
  unfold signI
  by_cases h : 0 < x
  · obtain ⟨m, rfl⟩ := Int.eq_ofNat_of_zero_le (Int.le_of_lt h)
    have d0 := hd m (by omega)
    rw [Nat.zero_add] at d0
    rw [if_pos h, Int.toNat_natCast]
    clear hd hs
    generalize sgI P k m = v at *
    go_enter Try.func53, Try.ntmps53
    go_wp2
    go_ret
    exact ⟨rfl, rfl⟩
  · obtain ⟨m, hm⟩ := Int.eq_ofNat_of_zero_le (show 0 ≤ -x by omega)
    have hx : x = -(m : Int) := by omega
    subst hx
    have d0 := hd m (by omega)
    rw [Nat.zero_add] at d0
    have hb := hs m
    rw [if_neg h, show (- -(m : Int)).toNat = m by omega]
    clear hd hs hm
    generalize sgI P k m = v at *
    go_enter Try.func53, Try.ntmps53
    go_wp2
    go_ret
    exact ⟨rfl, rfl⟩
theorem sgI_bd (P : Nat → Int) (k m : Nat) : -1 ≤ sgI P k m ∧ sgI P k m ≤ 1 := by
  induction k with
  | zero => simp [sgI]
  | succ k ih =>
    rw [sgI]
    split
    · split <;> omega
    · exact ih
set_option maxHeartbeats 1000000 in
theorem l5Because_any (b N cap0 : Nat) (P : Nat → Int) (p : Nat) (a : Option Addr) (l cap : Nat) (V : Nat → Int) (x : Int) (w : World) (hv : Ints w b 0 (N + 1) (sgI P p)) (hp : ∀ j, j < p → P j ≠ 0) (hd : IntsAt w a l V) (hl : l ≤ 1048576) (hc : ClP l V N) (hN : N ≤ 700) :
    Calls Try.prog 45 #[.slice (some ⟨b, 0, none⟩) (N + 1 : Nat) cap0, .slice a l cap, .int .i64 x] w fun e w' => e = .returned (.bool (becB l V x P p)) ∧ w' = w := by
  have HD := hide hd
  have HV := hide hv
  have HC := hide hc
  have HP := hide hp
  clear hd hv hc hp
  go_enter Try.func45, Try.ntmps45
  go_wp2
  go_loopw [7, 8] (fun h i wr => ∃ k : Nat, k ≤ l ∧ i = .int .i64 k ∧ h = .bool (hsB V x k) ∧ (∀ j, j < k → V j ≠ x → TrnP P p (V j)) ∧ wr = w) (fun _ i _ => l - (intOf i).toNat)
  case atStart => exact ⟨0, by omega, rfl, rfl, fun j hj => by omega, rfl⟩
  case round =>
    obtain ⟨k, hk, rfl, rfl, hok, rfl⟩ := hrel
    have HK := hide hok
    clear hok
    by_cases hlt : k < l
    · obtain ⟨b', off, rfl, hb, hd⟩ := (unhide HD).ok hlt
      have d0 := hd k hlt
      clear hd
      obtain ⟨c1, c2, c3⟩ := cl_bd (unhide HC) hlt
      by_cases he : V k = x
      · have HS : Hid (hsB V x (k + 1) = true) := by show hsB V x (k + 1) = true; rw [hsB, he]; simp
        have HK1 : Hid (∀ j, j < k + 1 → V j ≠ x → TrnP P p (V j)) := fun j hj hne => by
          by_cases e : j = k
          · subst e; exact absurd he hne
          · exact unhide HK j (by omega) hne
        have kb : (V k == x) = true := by simp [he]
        clear he
        go_wp2
        go_roundw
        case rel => exact ⟨k + 1, by omega, by go_num, by rw [unhide HS], unhide HK1, trivial⟩
        case measure => simp [intOf]; omega
      · have kb : (V k == x) = false := by simp [he]
        have hsn := signI_neg P p (V k) (unhide HP) c3
        have HS : Hid (hsB V x (k + 1) = hsB V x k) := by
          show hsB V x (k + 1) = hsB V x k
          rw [hsB]
          have : decide (V k = x) = false := by simp [he]
          rw [this]; simp
        by_cases ht : signI P p (V k) < 0
        · have HK1 : Hid (∀ j, j < k + 1 → V j ≠ x → TrnP P p (V j)) := fun j hj hne => by
            by_cases e : j = k
            · subst e; exact hsn.1 ht
            · exact unhide HK j (by omega) hne
          clear hsn he
          go_wp2_with fail
          refine (l5Sign_any _ _ _ P p _ _ (unhide HV) (by omega) (by omega) (by omega) (sgI_bd P p)).mono ?_
          rintro e w1 ⟨rfl, rfl⟩
          go_wp2
          go_roundw
          case rel => exact ⟨k + 1, by omega, by go_num, by rw [unhide HS], unhide HK1, trivial⟩
          case measure => simp [intOf]; omega
        · have HN := hide (becB_no (l := l) (V := V) (x := x) (P := P) (k := p) (fun h => ht (hsn.2 (h.2 k hlt he))))
          clear hsn he
          go_wp2_with fail
          refine (l5Sign_any _ _ _ P p _ _ (unhide HV) (by omega) (by omega) (by omega) (sgI_bd P p)).mono ?_
          rintro e w1 ⟨rfl, rfl⟩
          go_wp2
          rw [unhide HN]
          go_ret
          exact ⟨rfl, rfl⟩
    · have e : k = l := by omega
      subst e
      have HN := hide (becB_has (l := k) (V := V) (x := x) (P := P) (k := p) (unhide HK))
      go_wp2
      rw [unhide HN]
      go_ret
      exact ⟨rfl, rfl⟩
set_option maxHeartbeats 1000000 in
theorem l5At_any (N : Int) (a : Option Addr) (n cap : Nat) (A : Nat → Option Addr) (L C : Nat → Nat) (V : Nat → Nat → Int) (p : Option Addr) (np cp : Nat) (q : Option Addr) (nq cq : Nat) (a' : Option Addr) (n' cap' : Nat) (A' : Nat → Option Addr) (L' C' : Nat → Nat) (V' : Nat → Nat → Int) (code : Int) (k : Nat) (w : World)
    (hd : RwsAt w a n A L C V) (hd' : RwsAt w a' n' A' L' C' V') (hn : n ≤ 1048576) (hn' : n' ≤ 1048576) (hk : k < n + n') :
    Calls Try.prog 46 #[.agg #[.int .i64 N, .slice a n cap], .agg #[.slice p np cp, .slice q nq cq, .slice a' n' cap', .int .i64 code], .int .i64 k] w fun e w' => e = .returned (.slice (jn n A A' k) (jn n L L' k) (jn n C C' k)) ∧ Below w.heap.size w w' := by
  by_cases h : k < n
  · rw [jn_lt h, jn_lt h, jn_lt h]
    obtain ⟨b, off, rfl, hb, hd⟩ := hd.ok h
    have d0 := (hd k h).1
    have hne := World.new_ne w ⟨b, off + k, none⟩ d0
    have hne1 : b ≠ w.heap.size + 1 := by omega
    have hbl : b < w.heap.size + 1 := by omega
    clear hd hd'
    go_enter Try.func46, Try.ntmps46
    go_wp2
    go_ret
    exact ⟨rfl, (by repeat (first | exact Below.refl _ _ | assumption | refine below_drewN ?_ _ | refine Below.drew ?_ | refine Below.alloc ?_ (by first | exact Nat.le_refl _ | exact Below.size (by assumption) | (simp; done) | (simp; omega)) _ | refine Below.setCell ?_ (by first | exact Nat.le_refl _ | exact Below.size (by assumption) | (simp; done) | (simp; omega)) _ | refine Below.trans ?_ (by assumption)))⟩
  · rw [jn_ge (by omega), jn_ge (by omega), jn_ge (by omega)]
    obtain ⟨i, rfl⟩ : ∃ i, k = n + i := ⟨k - n, by omega⟩
    have hi : i < n' := by omega
    rw [show n + i - n = i by omega]
    obtain ⟨b, off, rfl, hb, hd'⟩ := hd'.ok hi
    have d0 := (hd' i hi).1
    have hne := World.new_ne w ⟨b, off + i, none⟩ d0
    have hne1 : b ≠ w.heap.size + 1 := by omega
    have hbl : b < w.heap.size + 1 := by omega
    have e1 : ((n + i : Nat) : Int) - (n : Int) = (i : Int) := by omega
    have e2 : (n : Int) + (i : Int) - (n : Int) = (i : Int) := by omega
    clear hd hd'
    go_enter Try.func46, Try.ntmps46
    go_wp2
    go_ret
    exact ⟨rfl, (by repeat (first | exact Below.refl _ _ | assumption | refine below_drewN ?_ _ | refine Below.drew ?_ | refine Below.alloc ?_ (by first | exact Nat.le_refl _ | exact Below.size (by assumption) | (simp; done) | (simp; omega)) _ | refine Below.setCell ?_ (by first | exact Nat.le_refl _ | exact Below.size (by assumption) | (simp; done) | (simp; omega)) _ | refine Below.trans ?_ (by assumption)))⟩
end Go.Proofs.Ytndebifmimbeaab
