/- What l1Bin and VecBin of the model return. -/
import Derived.Test.YtbincnedkclfgaaGreatVecI
namespace Go.Proofs.YtbincnedkclfgaaGreat
open Go.ChangeShapes Go.WideShapes Go.ChangeAt Go.RowKit Go.Joins
set_option linter.unusedVariables false
attribute [local go_sem ↓] Go.wp_at_zero Go.wp_at_succ

set_option maxRecDepth 100000 in
set_option maxHeartbeats 1000000 in
theorem l1Bin_3 (a x b y : Int) (w : World) (hx : okB a x = true) (hy : okB b y = true) :
    Calls Tryz.prog 58 #[.int .i64 3, .agg #[.int .i64 a, .int .i64 x], .agg #[.int .i64 b, .int .i64 y]] w fun e w' => e = .returned (.tuple #[.int .i64 (bitsN 3 x y), .bool true]) ∧ Below w.heap.size w w' := by
  obtain ⟨h1, h2, h3, h4, h5⟩ := ok_of hx
  obtain ⟨g1, g2, g3, g4, g5⟩ := ok_of hy
  go_enter Tryz.func58, Tryz.ntmps58
  go_wp2_with (go_at_call 60; refine (bits_any _ _ _ _ (by omega) (by omega) (by omega) (by omega)).mono ?_; rintro e w' ⟨rfl, rfl⟩)
  go_ret2
  have e1 := ((Below.refl w.heap.size w).alloc (by simp <;> omega) (.cells #[.int .i64 a, .int .i64 x] 55)).alloc (by simp <;> omega) (.cells #[.int .i64 b, .int .i64 y] 55)
  exact ⟨rfl, e1⟩
set_option maxRecDepth 100000 in
set_option maxHeartbeats 1000000 in
theorem l1Bin_4 (a x b y : Int) (w : World) (hx : okB a x = true) (hy : okB b y = true) :
    Calls Tryz.prog 58 #[.int .i64 4, .agg #[.int .i64 a, .int .i64 x], .agg #[.int .i64 b, .int .i64 y]] w fun e w' => e = .returned (.tuple #[.int .i64 (bitsN 4 x y), .bool true]) ∧ Below w.heap.size w w' := by
  obtain ⟨h1, h2, h3, h4, h5⟩ := ok_of hx
  obtain ⟨g1, g2, g3, g4, g5⟩ := ok_of hy
  go_enter Tryz.func58, Tryz.ntmps58
  go_wp2_with (go_at_call 60; refine (bits_any _ _ _ _ (by omega) (by omega) (by omega) (by omega)).mono ?_; rintro e w' ⟨rfl, rfl⟩)
  go_ret2
  have e1 := ((Below.refl w.heap.size w).alloc (by simp <;> omega) (.cells #[.int .i64 a, .int .i64 x] 55)).alloc (by simp <;> omega) (.cells #[.int .i64 b, .int .i64 y] 55)
  exact ⟨rfl, e1⟩
set_option maxRecDepth 100000 in
set_option maxHeartbeats 1000000 in
theorem l1Bin_5 (a x b y : Int) (w : World) (hx : okB a x = true) (hy : okB b y = true) :
    Calls Tryz.prog 58 #[.int .i64 5, .agg #[.int .i64 a, .int .i64 x], .agg #[.int .i64 b, .int .i64 y]] w fun e w' => e = .returned (.tuple #[.int .i64 (bitsN 5 x y), .bool true]) ∧ Below w.heap.size w w' := by
  obtain ⟨h1, h2, h3, h4, h5⟩ := ok_of hx
  obtain ⟨g1, g2, g3, g4, g5⟩ := ok_of hy
  go_enter Tryz.func58, Tryz.ntmps58
  go_wp2_with (go_at_call 60; refine (bits_any _ _ _ _ (by omega) (by omega) (by omega) (by omega)).mono ?_; rintro e w' ⟨rfl, rfl⟩)
  go_ret2
  have e1 := ((Below.refl w.heap.size w).alloc (by simp <;> omega) (.cells #[.int .i64 a, .int .i64 x] 55)).alloc (by simp <;> omega) (.cells #[.int .i64 b, .int .i64 y] 55)
  exact ⟨rfl, e1⟩
set_option maxRecDepth 100000 in
set_option maxHeartbeats 1000000 in
theorem l1Bin_6 (a x b y : Int) (w : World) (hx : okB a x = true) (hy : okB b y = true) :
    Calls Tryz.prog 58 #[.int .i64 6, .agg #[.int .i64 a, .int .i64 x], .agg #[.int .i64 b, .int .i64 y]] w fun e w' => e = .returned (.tuple #[.int .i64 ((x + y) % two a), .bool true]) ∧ Below w.heap.size w w' := by
  obtain ⟨h1, h2, h3, h4, h5⟩ := ok_of hx
  obtain ⟨g1, g2, g3, g4, g5⟩ := ok_of hy
  go_enter Tryz.func58, Tryz.ntmps58
  go_wp2_with fail
  refine (mod_any _ _ _ (by omega) (by omega) (by omega) (by omega)).mono ?_
  rintro e w' ⟨rfl, rfl⟩
  go_wp2
  go_ret2
  have e1 := ((Below.refl w.heap.size w).alloc (by simp <;> omega) (.cells #[.int .i64 a, .int .i64 x] 55)).alloc (by simp <;> omega) (.cells #[.int .i64 b, .int .i64 y] 55)
  exact ⟨rfl, e1⟩
set_option maxRecDepth 100000 in
set_option maxHeartbeats 1000000 in
theorem l1Bin_7 (a x b y : Int) (w : World) (hx : okB a x = true) (hy : okB b y = true) :
    Calls Tryz.prog 58 #[.int .i64 7, .agg #[.int .i64 a, .int .i64 x], .agg #[.int .i64 b, .int .i64 y]] w fun e w' => e = .returned (.tuple #[.int .i64 ((x - y) % two a), .bool true]) ∧ Below w.heap.size w w' := by
  obtain ⟨h1, h2, h3, h4, h5⟩ := ok_of hx
  obtain ⟨g1, g2, g3, g4, g5⟩ := ok_of hy
  go_enter Tryz.func58, Tryz.ntmps58
  go_wp2_with fail
  refine (mod_any _ _ _ (by omega) (by omega) (by omega) (by omega)).mono ?_
  rintro e w' ⟨rfl, rfl⟩
  go_wp2
  go_ret2
  have e1 := ((Below.refl w.heap.size w).alloc (by simp <;> omega) (.cells #[.int .i64 a, .int .i64 x] 55)).alloc (by simp <;> omega) (.cells #[.int .i64 b, .int .i64 y] 55)
  exact ⟨rfl, e1⟩
set_option maxRecDepth 100000 in
set_option maxHeartbeats 1000000 in
theorem l1Bin_8 (a x b y : Int) (w : World) (hx : okB a x = true) (hy : okB b y = true) :
    Calls Tryz.prog 58 #[.int .i64 8, .agg #[.int .i64 a, .int .i64 x], .agg #[.int .i64 b, .int .i64 y]] w fun e w' => e = .returned (.tuple #[.int .i64 ((x * y) % two a), .bool true]) ∧ Below w.heap.size w w' := by
  obtain ⟨h1, h2, h3, h4, h5⟩ := ok_of hx
  obtain ⟨g1, g2, g3, g4, g5⟩ := ok_of hy
  have p0 : 0 ≤ x * y := Int.mul_nonneg h3 g3
  have p1 : x * y ≤ 225 := by
    have : x * y ≤ 15 * 15 := Int.mul_le_mul (by omega) (by omega) (by omega) (by omega)
    omega
  go_enter Tryz.func58, Tryz.ntmps58
  go_wp2_with fail
  refine (mod_any _ _ _ (by omega) (by omega) (by omega) (by omega)).mono ?_
  rintro e w' ⟨rfl, rfl⟩
  go_wp2
  go_ret2
  have e1 := ((Below.refl w.heap.size w).alloc (by simp <;> omega) (.cells #[.int .i64 a, .int .i64 x] 55)).alloc (by simp <;> omega) (.cells #[.int .i64 b, .int .i64 y] 55)
  exact ⟨rfl, e1⟩
set_option maxRecDepth 100000 in
set_option maxHeartbeats 1000000 in
theorem l1Bin_9z (a x b y : Int) (w : World) (hx : okB a x = true) (hy : okB b y = true) (hz : y = 0) :
    Calls Tryz.prog 58 #[.int .i64 9, .agg #[.int .i64 a, .int .i64 x], .agg #[.int .i64 b, .int .i64 y]] w fun e w' => e = .returned (.tuple #[.int .i64 (two a - 1), .bool true]) ∧ Below w.heap.size w w' := by
  obtain ⟨h1, h2, h3, h4, h5⟩ := ok_of hx
  obtain ⟨g1, g2, g3, g4, g5⟩ := ok_of hy
  have hb : (y == 0) = true := by simpa using hz
  have ha := two_bd a h1 h2
  have ha1 := ha.1
  have ha2 := ha.2
  clear hz ha
  go_enter Tryz.func58, Tryz.ntmps58
  go_wp2_with (go_at_call 42; refine (two_any _ _ (by omega) (by omega)).mono ?_; rintro e w' ⟨rfl, rfl⟩)
  go_ret2
  have e1 := ((Below.refl w.heap.size w).alloc (by simp <;> omega) (.cells #[.int .i64 a, .int .i64 x] 55)).alloc (by simp <;> omega) (.cells #[.int .i64 b, .int .i64 y] 55)
  exact ⟨rfl, e1⟩
set_option maxRecDepth 100000 in
set_option maxHeartbeats 1000000 in
theorem l1Bin_9n (a x b y : Int) (w : World) (hx : okB a x = true) (hy : okB b y = true) (hz : y ≠ 0) :
    Calls Tryz.prog 58 #[.int .i64 9, .agg #[.int .i64 a, .int .i64 x], .agg #[.int .i64 b, .int .i64 y]] w fun e w' => e = .returned (.tuple #[.int .i64 (x / y), .bool true]) ∧ Below w.heap.size w w' := by
  obtain ⟨h1, h2, h3, h4, h5⟩ := ok_of hx
  obtain ⟨g1, g2, g3, g4, g5⟩ := ok_of hy
  have hb : (y == 0) = false := by simpa using hz
  go_enter Tryz.func58, Tryz.ntmps58
  go_wp2
  go_ret2
  have e1 := ((Below.refl w.heap.size w).alloc (by simp <;> omega) (.cells #[.int .i64 a, .int .i64 x] 55)).alloc (by simp <;> omega) (.cells #[.int .i64 b, .int .i64 y] 55)
  exact ⟨rfl, e1⟩
set_option maxRecDepth 100000 in
set_option maxHeartbeats 1000000 in
theorem l1Bin_10z (a x b y : Int) (w : World) (hx : okB a x = true) (hy : okB b y = true) (hz : y = 0) :
    Calls Tryz.prog 58 #[.int .i64 10, .agg #[.int .i64 a, .int .i64 x], .agg #[.int .i64 b, .int .i64 y]] w fun e w' => e = .returned (.tuple #[.int .i64 (x), .bool true]) ∧ Below w.heap.size w w' := by
  obtain ⟨h1, h2, h3, h4, h5⟩ := ok_of hx
  obtain ⟨g1, g2, g3, g4, g5⟩ := ok_of hy
  have hb : (y == 0) = true := by simpa using hz
  clear hz
  go_enter Tryz.func58, Tryz.ntmps58
  go_wp2
  go_ret2
  have e1 := ((Below.refl w.heap.size w).alloc (by simp <;> omega) (.cells #[.int .i64 a, .int .i64 x] 55)).alloc (by simp <;> omega) (.cells #[.int .i64 b, .int .i64 y] 55)
  exact ⟨rfl, e1⟩
set_option maxRecDepth 100000 in
set_option maxHeartbeats 1000000 in
theorem l1Bin_10n (a x b y : Int) (w : World) (hx : okB a x = true) (hy : okB b y = true) (hz : y ≠ 0) :
    Calls Tryz.prog 58 #[.int .i64 10, .agg #[.int .i64 a, .int .i64 x], .agg #[.int .i64 b, .int .i64 y]] w fun e w' => e = .returned (.tuple #[.int .i64 (x % y), .bool true]) ∧ Below w.heap.size w w' := by
  obtain ⟨h1, h2, h3, h4, h5⟩ := ok_of hx
  obtain ⟨g1, g2, g3, g4, g5⟩ := ok_of hy
  have hb : (y == 0) = false := by simpa using hz
  go_enter Tryz.func58, Tryz.ntmps58
  go_wp2
  go_ret2
  have e1 := ((Below.refl w.heap.size w).alloc (by simp <;> omega) (.cells #[.int .i64 a, .int .i64 x] 55)).alloc (by simp <;> omega) (.cells #[.int .i64 b, .int .i64 y] 55)
  exact ⟨rfl, e1⟩
set_option maxRecDepth 100000 in
set_option maxHeartbeats 1000000 in
theorem l1Bin_11 (a x b y : Int) (w : World) (hx : okB a x = true) (hy : okB b y = true) :
    Calls Tryz.prog 58 #[.int .i64 11, .agg #[.int .i64 a, .int .i64 x], .agg #[.int .i64 b, .int .i64 y]] w fun e w' => e = .returned (.tuple #[.int .i64 (shN 11 a x y), .bool true]) ∧ Below w.heap.size w w' := by
  obtain ⟨h1, h2, h3, h4, h5⟩ := ok_of hx
  obtain ⟨g1, g2, g3, g4, g5⟩ := ok_of hy
  go_enter Tryz.func58, Tryz.ntmps58
  go_wp2_with fail
  refine (shift_11 _ _ _ _ hx (by omega) (by omega)).mono ?_
  rintro e w1 ⟨rfl, b1⟩
  simp only [World.size_alloc] at b1
  go_wp2
  go_ret2
  have e1 := ((Below.refl w.heap.size w).alloc (by simp <;> omega) (.cells #[.int .i64 a, .int .i64 x] 55)).alloc (by simp <;> omega) (.cells #[.int .i64 b, .int .i64 y] 55)
  exact ⟨rfl, e1.trans (b1.mono (by omega))⟩
set_option maxRecDepth 100000 in
set_option maxHeartbeats 1000000 in
theorem l1Bin_12 (a x b y : Int) (w : World) (hx : okB a x = true) (hy : okB b y = true) :
    Calls Tryz.prog 58 #[.int .i64 12, .agg #[.int .i64 a, .int .i64 x], .agg #[.int .i64 b, .int .i64 y]] w fun e w' => e = .returned (.tuple #[.int .i64 (shN 12 a x y), .bool true]) ∧ Below w.heap.size w w' := by
  obtain ⟨h1, h2, h3, h4, h5⟩ := ok_of hx
  obtain ⟨g1, g2, g3, g4, g5⟩ := ok_of hy
  go_enter Tryz.func58, Tryz.ntmps58
  go_wp2_with fail
  refine (shift_12 _ _ _ _ hx (by omega) (by omega)).mono ?_
  rintro e w1 ⟨rfl, b1⟩
  simp only [World.size_alloc] at b1
  go_wp2
  go_ret2
  have e1 := ((Below.refl w.heap.size w).alloc (by simp <;> omega) (.cells #[.int .i64 a, .int .i64 x] 55)).alloc (by simp <;> omega) (.cells #[.int .i64 b, .int .i64 y] 55)
  exact ⟨rfl, e1.trans (b1.mono (by omega))⟩
set_option maxRecDepth 100000 in
set_option maxHeartbeats 1000000 in
theorem l1Bin_13 (a x b y : Int) (w : World) (hx : okB a x = true) (hy : okB b y = true) :
    Calls Tryz.prog 58 #[.int .i64 13, .agg #[.int .i64 a, .int .i64 x], .agg #[.int .i64 b, .int .i64 y]] w fun e w' => e = .returned (.tuple #[.int .i64 (shN 13 a x y), .bool true]) ∧ Below w.heap.size w w' := by
  obtain ⟨h1, h2, h3, h4, h5⟩ := ok_of hx
  obtain ⟨g1, g2, g3, g4, g5⟩ := ok_of hy
  go_enter Tryz.func58, Tryz.ntmps58
  go_wp2_with fail
  refine (shift_13 _ _ _ _ hx (by omega) (by omega)).mono ?_
  rintro e w1 ⟨rfl, b1⟩
  simp only [World.size_alloc] at b1
  go_wp2
  go_ret2
  have e1 := ((Below.refl w.heap.size w).alloc (by simp <;> omega) (.cells #[.int .i64 a, .int .i64 x] 55)).alloc (by simp <;> omega) (.cells #[.int .i64 b, .int .i64 y] 55)
  exact ⟨rfl, e1.trans (b1.mono (by omega))⟩
set_option maxRecDepth 100000 in
set_option maxHeartbeats 1000000 in
theorem l1Bin_no (op a x b y : Int) (w : World) (h : op < 3 ∨ 13 < op) :
    Calls Tryz.prog 58 #[.int .i64 op, .agg #[.int .i64 a, .int .i64 x], .agg #[.int .i64 b, .int .i64 y]] w fun e w' => e = .returned (.tuple #[.int .i64 0, .bool false]) ∧ Below w.heap.size w w' := by
  have k3 : (op == 3) = false := by simp; omega
  have k4 : (op == 4) = false := by simp; omega
  have k5 : (op == 5) = false := by simp; omega
  have k6 : (op == 6) = false := by simp; omega
  have k7 : (op == 7) = false := by simp; omega
  have k8 : (op == 8) = false := by simp; omega
  have k9 : (op == 9) = false := by simp; omega
  have k10 : (op == 10) = false := by simp; omega
  have k11 : (op == 11) = false := by simp; omega
  have k12 : (op == 12) = false := by simp; omega
  have k13 : (op == 13) = false := by simp; omega
  clear h
  go_enter Tryz.func58, Tryz.ntmps58
  go_wp2
  go_ret2
  have e1 := ((Below.refl w.heap.size w).alloc (by simp <;> omega) (.cells #[.int .i64 a, .int .i64 x] 55)).alloc (by simp <;> omega) (.cells #[.int .i64 b, .int .i64 y] 55)
  exact ⟨rfl, e1⟩

theorem binN_vals (op a x y : Int) (h3 : 3 ≤ op) (h13 : op ≤ 13) :
    (op = 3 ∧ binN op a x y = bitsN 3 x y) ∨ (op = 4 ∧ binN op a x y = bitsN 4 x y) ∨ (op = 5 ∧ binN op a x y = bitsN 5 x y) ∨ (op = 6 ∧ binN op a x y = (x + y) % two a) ∨ (op = 7 ∧ binN op a x y = (x - y) % two a) ∨ (op = 8 ∧ binN op a x y = (x * y) % two a)
    ∨ (op = 9 ∧ binN op a x y = if y = 0 then two a - 1 else x / y) ∨ (op = 10 ∧ binN op a x y = if y = 0 then x else x % y) ∨ (op = 11 ∧ binN op a x y = shN 11 a x y) ∨ (op = 12 ∧ binN op a x y = shN 12 a x y) ∨ (op = 13 ∧ binN op a x y = shN 13 a x y) := by
  have : op = 3 ∨ op = 4 ∨ op = 5 ∨ op = 6 ∨ op = 7 ∨ op = 8 ∨ op = 9 ∨ op = 10 ∨ op = 11 ∨ op = 12 ∨ op = 13 := by omega
  rcases this with rfl | rfl | rfl | rfl | rfl | rfl | rfl | rfl | rfl | rfl | rfl <;> simp [binN]
theorem l1Bin_yes (op a x b y : Int) (w : World) (hx : okB a x = true) (hy : okB b y = true) (h3 : 3 ≤ op) (h13 : op ≤ 13) :
    Calls Tryz.prog 58 #[.int .i64 op, .agg #[.int .i64 a, .int .i64 x], .agg #[.int .i64 b, .int .i64 y]] w fun e w' => e = .returned (.tuple #[.int .i64 (binN op a x y), .bool true]) ∧ Below w.heap.size w w' := by
  rcases binN_vals op a x y h3 h13 with ⟨rfl, e⟩ | ⟨rfl, e⟩ | ⟨rfl, e⟩ | ⟨rfl, e⟩ | ⟨rfl, e⟩ | ⟨rfl, e⟩ | ⟨rfl, e⟩ | ⟨rfl, e⟩ | ⟨rfl, e⟩ | ⟨rfl, e⟩ | ⟨rfl, e⟩ <;> rw [e]
  · exact l1Bin_3 a x b y w hx hy
  · exact l1Bin_4 a x b y w hx hy
  · exact l1Bin_5 a x b y w hx hy
  · exact l1Bin_6 a x b y w hx hy
  · exact l1Bin_7 a x b y w hx hy
  · exact l1Bin_8 a x b y w hx hy
  · by_cases hz : y = 0
    · rw [if_pos hz]; exact l1Bin_9z a x b y w hx hy hz
    · rw [if_neg hz]; exact l1Bin_9n a x b y w hx hy hz
  · by_cases hz : y = 0
    · rw [if_pos hz]; exact l1Bin_10z a x b y w hx hy hz
    · rw [if_neg hz]; exact l1Bin_10n a x b y w hx hy hz
  · exact l1Bin_11 a x b y w hx hy
  · exact l1Bin_12 a x b y w hx hy
  · exact l1Bin_13 a x b y w hx hy
end Go.Proofs.YtbincnedkclfgaaGreat
