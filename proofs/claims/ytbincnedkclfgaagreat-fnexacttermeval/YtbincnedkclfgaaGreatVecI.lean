/- What the model's helpers of two numbers return: l1Min, l1Bits, l1Shift, l1Bin. -/
import Derived.Test.YtbincnedkclfgaaGreatVecE
namespace Go.Proofs.YtbincnedkclfgaaGreat
open Go.ChangeShapes Go.WideShapes Go.ChangeAt Go.RowKit Go.Joins
set_option linter.unusedVariables false
attribute [local go_sem ↓] Go.wp_at_zero Go.wp_at_succ

theorem ret_two {k : IntKind} {a b : Int} {p : Bool} (h : a = b) : Ending.returned (.tuple #[.int k a, .bool p]) = .returned (.tuple #[.int k b, .bool p]) := by rw [h]

theorem min_any (a b : Int) (w : World) :
    Calls Tryz.prog 62 #[.int .i64 a, .int .i64 b] w fun e w' => e = .returned (.int .i64 (min a b)) ∧ w' = w := by
  by_cases h : a < b
  all_goals
    go_enter Tryz.func62, Tryz.ntmps62
    go_wp2
    go_ret
    exact ⟨ret_int (by omega), rfl⟩
def bpart (op x y : Int) : Nat → Int
  | 0 => 0
  | k + 1 => bpart op x y k * 2 + bz op (x / two (3 - (k : Int)) % 2) (y / two (3 - (k : Int)) % 2)
theorem bz_bd (op x y : Int) (hx : x = 0 ∨ x = 1) (hy : y = 0 ∨ y = 1) : 0 ≤ bz op x y ∧ bz op x y ≤ 1 := by
  unfold bz
  rcases hx with rfl | rfl <;> rcases hy with rfl | rfl <;> (split <;> (try split) <;> omega)
theorem bpart_bd (op x y : Int) (k : Nat) (hk : k ≤ 4) : 0 ≤ bpart op x y k ∧ bpart op x y k ≤ two k - 1 := by
  induction k with
  | zero => simp [bpart, two]
  | succ k ih =>
    have h := ih (by omega)
    have hb := bz_bd op (x / two (3 - (k : Int)) % 2) (y / two (3 - (k : Int)) % 2) (by omega) (by omega)
    have e : two ((k + 1 : Nat) : Int) = two k * 2 := by simp [two, Nat.pow_succ]
    rw [e]
    simp only [bpart]
    omega
theorem bpart_four (op x y : Int) : bpart op x y 4 = bitsN op x y := by
  have e3 : two (3 - ((0 : Nat) : Int)) = 8 := rfl
  have e2 : two (3 - ((1 : Nat) : Int)) = 4 := rfl
  have e1 : two (3 - ((2 : Nat) : Int)) = 2 := rfl
  have e0 : two (3 - ((3 : Nat) : Int)) = 1 := rfl
  simp only [bpart, e3, e2, e1, e0, bitsN]
  omega
set_option maxRecDepth 100000 in
set_option maxHeartbeats 2000000 in
theorem bits_any (op x y : Int) (w : World) (x0 : 0 ≤ x) (x1 : x < 16) (y0 : 0 ≤ y) (y1 : y < 16) :
    Calls Tryz.prog 60 #[.int .i64 op, .int .i64 x, .int .i64 y] w fun e w' => e = .returned (.int .i64 (bitsN op x y)) ∧ w' = w := by
  rw [← bpart_four]
  go_enter Tryz.func60, Tryz.ntmps60
  go_wp2
  go_loop [7, 8] (fun t i => ∃ k : Nat, k ≤ 4 ∧ i = .int .i64 (3 - (k : Int)) ∧ t = .int .i64 (bpart op x y k)) (fun _ i => (intOf i + 1).toNat)
  case atStart => exact ⟨0, Nat.zero_le _, rfl, rfl⟩
  case round =>
    obtain ⟨k, hk, rfl, rfl⟩ := hrel
    have hp := bpart_bd op x y k hk
    have hq := (two_vals k (by omega) (by omega))
    by_cases hlt : k < 4
    · have hs : bpart op x y (k + 1) = bpart op x y k * 2 + bz op (x / two (3 - (k : Int)) % 2) (y / two (3 - (k : Int)) % 2) := rfl
      have hx : x / two (3 - (k : Int)) % 2 = 0 ∨ x / two (3 - (k : Int)) % 2 = 1 := by omega
      have hy : y / two (3 - (k : Int)) % 2 = 0 ∨ y / two (3 - (k : Int)) % 2 = 1 := by omega
      generalize bpart op x y k = P0 at *
      have hp0 := hp.1
      have hp1 : P0 ≤ 15 := by omega
      clear hp hq
      have hop : op = 4 ∨ op = 5 ∨ ((op == 4) = false ∧ (op == 5) = false ∧ bz op = bz 3) := by
        by_cases g4 : op = 4
        · exact Or.inl g4
        · by_cases g5 : op = 5
          · exact Or.inr (Or.inl g5)
          · exact Or.inr (Or.inr ⟨by simpa using g4, by simpa using g5, by funext x y; simp [bz, g4, g5]⟩)
      rcases hx with hx | hx <;> rcases hy with hy | hy <;> rw [hx, hy] at hs <;> rcases hop with rfl | rfl | ⟨g4, g5, g6⟩
      all_goals
        (try rw [g6] at hs; clear g6)
        simp [bz] at hs
        have HS := hide hs
        clear hs
        go_wp2_with (go_at_call 59; refine (bit_any _ _ _ (by omega) (by omega) (by omega) (by omega)).mono ?_; rintro e w' ⟨rfl, rfl⟩)
        go_round
        case rel => exact ⟨k + 1, by omega, by go_num, by rw [unhide HS]⟩
        case measure => simp [intOf]; omega
    · have e : k = 4 := by omega
      subst e
      clear hq
      go_wp2
      go_ret
      exact ⟨rfl, rfl⟩
set_option maxRecDepth 100000 in
set_option maxHeartbeats 1000000 in
theorem shift_11 (a x y : Int) (w : World) (hok : okB a x = true) (y0 : 0 ≤ y) (y1 : y < 16) :
    Calls Tryz.prog 61 #[.int .i64 11, .agg #[.int .i64 a, .int .i64 x], .int .i64 y] w fun e w' => e = .returned (.int .i64 (shN 11 a x y)) ∧ Below w.heap.size w w' := by
  obtain ⟨h1, h2, h3, h4, h5⟩ := ok_of hok
  have ht := two_vals (min y a) (by omega) (by omega)
  have hE : shN 11 a x y = x * two (min y a) % two a := by simp [shN]
  rw [hE]
  clear hE
  have g0 : 0 ≤ x * two (min y a) := Int.mul_nonneg h3 (by omega)
  have g1 : x * two (min y a) ≤ 240 := by
    have : x * two (min y a) ≤ 15 * 16 := Int.mul_le_mul (by omega) (by omega) (by omega) (by omega)
    omega
  generalize hm : min y a = mn at *
  have m0 : 0 ≤ mn := by omega
  have m1 : mn ≤ 4 := by omega
  have HM := hide hm
  clear hm ht
  go_enter Tryz.func61, Tryz.ntmps61
  go_wp2_with fail
  refine (min_any _ _ _).mono ?_
  rintro e w' ⟨rfl, rfl⟩
  rw [unhide HM]
  go_wp2
  go_quiet ((first | (go_at_call 42; exact Calls.quiet_of_same (two_any _ _ (by omega) (by omega))) | (go_at_call 56; exact Calls.quiet_of_same (mod_any _ _ _ (by omega) (by omega) (by omega) (by omega)))))
  go_wp2
  go_ret
  exact ⟨rfl, (by repeat (first | exact Below.refl _ _ | assumption | refine below_drewN ?_ _ | refine Below.drew ?_ | refine Below.alloc ?_ (by first | exact Nat.le_refl _ | exact Below.size (by assumption) | (simp; done) | (simp; omega)) _ | refine Below.setCell ?_ (by first | exact Nat.le_refl _ | exact Below.size (by assumption) | (simp; done) | (simp; omega)) _ | refine Below.trans ?_ (by assumption)))⟩
set_option maxRecDepth 100000 in
set_option maxHeartbeats 1000000 in
theorem shift_12 (a x y : Int) (w : World) (hok : okB a x = true) (y0 : 0 ≤ y) (y1 : y < 16) :
    Calls Tryz.prog 61 #[.int .i64 12, .agg #[.int .i64 a, .int .i64 x], .int .i64 y] w fun e w' => e = .returned (.int .i64 (shN 12 a x y)) ∧ Below w.heap.size w w' := by
  obtain ⟨h1, h2, h3, h4, h5⟩ := ok_of hok
  have ht := two_vals (min y a) (by omega) (by omega)
  have hE : shN 12 a x y = x / two (min y a) := by simp [shN]
  rw [hE]
  clear hE
  generalize hm : min y a = mn at *
  have m0 : 0 ≤ mn := by omega
  have m1 : mn ≤ 4 := by omega
  have t0 : 1 ≤ two mn := by omega
  have t1 : two mn ≤ 16 := by omega
  have HM := hide hm
  clear hm ht
  go_enter Tryz.func61, Tryz.ntmps61
  go_wp2_with fail
  refine (min_any _ _ _).mono ?_
  rintro e w' ⟨rfl, rfl⟩
  rw [unhide HM]
  go_wp2
  go_quiet ((first | (go_at_call 42; exact Calls.quiet_of_same (two_any _ _ (by omega) (by omega)))))
  go_wp2
  go_ret
  exact ⟨rfl, (by repeat (first | exact Below.refl _ _ | assumption | refine below_drewN ?_ _ | refine Below.drew ?_ | refine Below.alloc ?_ (by first | exact Nat.le_refl _ | exact Below.size (by assumption) | (simp; done) | (simp; omega)) _ | refine Below.setCell ?_ (by first | exact Nat.le_refl _ | exact Below.size (by assumption) | (simp; done) | (simp; omega)) _ | refine Below.trans ?_ (by assumption)))⟩
set_option maxRecDepth 100000 in
set_option maxHeartbeats 1000000 in
theorem shift_13 (a x y : Int) (w : World) (hok : okB a x = true) (y0 : 0 ≤ y) (y1 : y < 16) :
    Calls Tryz.prog 61 #[.int .i64 13, .agg #[.int .i64 a, .int .i64 x], .int .i64 y] w fun e w' => e = .returned (.int .i64 (shN 13 a x y)) ∧ Below w.heap.size w w' := by
  obtain ⟨h1, h2, h3, h4, h5⟩ := ok_of hok
  have ht := two_vals (min y a) (by omega) (by omega)
  have ha := two_bd a h1 h2
  by_cases hb : x / two (a - 1) % 2 = 0
  · have hE : shN 13 a x y = x / two (min y a) := by simp [shN, hb]
    rw [hE]
    clear hE
    have hbb : (x / two (a - 1) % 2 == 0) = true := by simpa using hb
    clear hb
    generalize hm : min y a = mn at *
    have m0 : 0 ≤ mn := by omega
    have m1 : mn ≤ 4 := by omega
    have t0 : 1 ≤ two mn := by omega
    have t1 : two mn ≤ 16 := by omega
    have HM := hide hm
    clear hm ht
    go_enter Tryz.func61, Tryz.ntmps61
    go_wp2_with fail
    refine (min_any _ _ _).mono ?_
    rintro e w' ⟨rfl, rfl⟩
    rw [unhide HM]
    go_wp2_with (go_at_call 59; refine (bit_any _ _ _ (by omega) (by omega) (by omega) (by omega)).mono ?_; rintro e w' ⟨rfl, rfl⟩)
    go_quiet ((first | (go_at_call 42; exact Calls.quiet_of_same (two_any _ _ (by omega) (by omega)))))
    go_wp2
    go_ret
    exact ⟨rfl, (by repeat (first | exact Below.refl _ _ | assumption | refine below_drewN ?_ _ | refine Below.drew ?_ | refine Below.alloc ?_ (by first | exact Nat.le_refl _ | exact Below.size (by assumption) | (simp; done) | (simp; omega)) _ | refine Below.setCell ?_ (by first | exact Nat.le_refl _ | exact Below.size (by assumption) | (simp; done) | (simp; omega)) _ | refine Below.trans ?_ (by assumption)))⟩
  · have hE : shN 13 a x y = (two a - 1) - (two a - 1 - x) / two (min y a) := by simp [shN, hb]
    rw [hE]
    clear hE
    have hbb : (x / two (a - 1) % 2 == 0) = false := by simpa using hb
    clear hb
    generalize hm : min y a = mn at *
    have m0 : 0 ≤ mn := by omega
    have m1 : mn ≤ 4 := by omega
    have t0 : 1 ≤ two mn := by omega
    have t1 : two mn ≤ 16 := by omega
    have d0 : 0 ≤ (two a - 1 - x) / two mn := Int.ediv_nonneg (by omega) (by omega)
    have d1 : (two a - 1 - x) / two mn ≤ two a - 1 - x := Int.ediv_le_self _ (by omega)
    have ha1 := ha.1
    have ha2 := ha.2
    have HM := hide hm
    clear hm ht ha
    go_enter Tryz.func61, Tryz.ntmps61
    go_wp2_with fail
    refine (min_any _ _ _).mono ?_
    rintro e w' ⟨rfl, rfl⟩
    rw [unhide HM]
    go_wp2_with (first | (go_at_call 59; refine (bit_any _ _ _ (by omega) (by omega) (by omega) (by omega)).mono ?_; rintro e w' ⟨rfl, rfl⟩) | (go_at_call 42; refine (two_any _ _ (by omega) (by omega)).mono ?_; rintro e w' ⟨rfl, rfl⟩))
    go_quiet ((first | (go_at_call 42; exact Calls.quiet_of_same (two_any _ _ (by omega) (by omega)))))
    go_wp2
    go_ret
    exact ⟨rfl, (by repeat (first | exact Below.refl _ _ | assumption | refine below_drewN ?_ _ | refine Below.drew ?_ | refine Below.alloc ?_ (by first | exact Nat.le_refl _ | exact Below.size (by assumption) | (simp; done) | (simp; omega)) _ | refine Below.setCell ?_ (by first | exact Nat.le_refl _ | exact Below.size (by assumption) | (simp; done) | (simp; omega)) _ | refine Below.trans ?_ (by assumption)))⟩
end Go.Proofs.YtbincnedkclfgaaGreat
