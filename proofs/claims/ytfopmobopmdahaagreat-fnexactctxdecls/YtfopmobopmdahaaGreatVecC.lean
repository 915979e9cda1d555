/- Contracts of the program's own VecSigned, vecPair, word.cut and word.vec. -/
import Derived.Test.YtfopmobopmdahaaGreatVecB
namespace Go.Proofs.YtfopmobopmdahaaGreat
open Go.ChangeShapes Go.WideShapes Go.ChangeAt Go.RowKit Go.Joins
set_option linter.unusedVariables false

set_option maxRecDepth 100000 in
set_option maxHeartbeats 400000 in
theorem iVecSigned_any (a n : Int) (w : World) :
    Calls Tryz.prog 162 #[.agg #[.int .i64 a, .int .i64 n]] w fun e w' => e = .returned (.int .i64 (sgnV a n)) ∧ Below w.heap.size w w' := by
  unfold sgnV
  by_cases hok : okB a n = true
  · rw [if_pos hok]
    obtain ⟨h1, h2, h3, h4, h5⟩ := ok_of hok
    have ht := two_vals a (by omega) h2
    unfold sgn
    by_cases hb : n / two (a - 1) % 2 = 1
    · rw [if_pos hb]
      have hbb : (n / two (a - 1) % 2 == 0) = false := by rw [hb]; rfl
      have HB := hide hb
      clear hb
      go_enter Tryz.func162, Tryz.ntmps162
      go_wp2_with fail
      refine (iVecOk_any _ _ _).mono ?_
      rintro e w1 ⟨rfl, b1⟩
      have p0 : w1.cell? ⟨w.heap.size, 0, none⟩ = some (.int .i64 a) := cell_later b1 (by simp)
      have p1 : w1.cell? ⟨w.heap.size, 1, none⟩ = some (.int .i64 n) := cell_later b1 (by simp)
      simp only [World.size_alloc] at b1
      go_wp2_with (go_at_call 111; refine (wbit_any _ _ _ (by omega) (by omega) (by omega) (by omega)).mono ?_; rintro e w' ⟨rfl, rfl⟩)
      go_quiet ((go_at_call 95; exact Calls.quiet_of_same (full_any _ _ (by omega) (by omega))))
      go_wp2
      go_ret
      have e1 := (Below.refl w.heap.size w).alloc (Nat.le_refl _) (.cells #[.int .i64 a, .int .i64 n] 107)
      exact ⟨ret_int (by omega), below_drewN (e1.trans (b1.mono (by simp))) _⟩
    · rw [if_neg hb]
      have hbb : (n / two (a - 1) % 2 == 0) = true := by simp; omega
      have HB := hide hb
      clear hb
      go_enter Tryz.func162, Tryz.ntmps162
      go_wp2_with fail
      refine (iVecOk_any _ _ _).mono ?_
      rintro e w1 ⟨rfl, b1⟩
      have p0 : w1.cell? ⟨w.heap.size, 0, none⟩ = some (.int .i64 a) := cell_later b1 (by simp)
      have p1 : w1.cell? ⟨w.heap.size, 1, none⟩ = some (.int .i64 n) := cell_later b1 (by simp)
      simp only [World.size_alloc] at b1
      go_wp2_with (go_at_call 111; refine (wbit_any _ _ _ (by omega) (by omega) (by omega) (by omega)).mono ?_; rintro e w' ⟨rfl, rfl⟩)
      go_ret
      have e1 := (Below.refl w.heap.size w).alloc (Nat.le_refl _) (.cells #[.int .i64 a, .int .i64 n] 107)
      exact ⟨rfl, e1.trans (b1.mono (by simp))⟩
  · rw [if_neg hok]
    have hf : okB a n = false := by simpa using hok
    go_enter Tryz.func162, Tryz.ntmps162
    go_wp2_with fail
    refine (iVecOk_any _ _ _).mono ?_
    rintro e w1 ⟨rfl, b1⟩
    simp only [World.size_alloc] at b1
    go_wp2
    go_ret
    have e1 := (Below.refl w.heap.size w).alloc (Nat.le_refl _) (.cells #[.int .i64 a, .int .i64 n] 107)
    exact ⟨rfl, e1.trans (b1.mono (by simp))⟩
theorem cut_eq (x a : Int) (h0 : 0 ≤ x) (h1 : x ≤ 4294967295) (i0 : 1 ≤ a) (i1 : a ≤ 4) : bits .and .u32 x (two a - 1) = x % two a := by
  obtain ⟨m, rfl⟩ := Int.eq_ofNat_of_zero_le h0
  have h := two_vals a (by omega) i1
  rcases h with ⟨rfl, e⟩ | ⟨rfl, e⟩ | ⟨rfl, e⟩ | ⟨rfl, e⟩ | ⟨rfl, e⟩
  · omega
  · rw [e]; refine (u32_and_nat m 1 (by omega) (by omega)).trans ?_; rw [Nat.and_two_pow_sub_one_eq_mod m 1]; simp
  · rw [e]; refine (u32_and_nat m 3 (by omega) (by omega)).trans ?_; rw [Nat.and_two_pow_sub_one_eq_mod m 2]; simp
  · rw [e]; refine (u32_and_nat m 7 (by omega) (by omega)).trans ?_; rw [Nat.and_two_pow_sub_one_eq_mod m 3]; simp
  · rw [e]; refine (u32_and_nat m 15 (by omega) (by omega)).trans ?_; rw [Nat.and_two_pow_sub_one_eq_mod m 4]; simp

set_option maxRecDepth 100000 in
set_option maxHeartbeats 400000 in
theorem cut_any (x a : Int) (w : World) (h0 : 0 ≤ x) (h1 : x ≤ 4294967295) (i0 : 1 ≤ a) (i1 : a ≤ 4) :
    Calls Tryz.prog 137 #[.int .u32 x, .int .i64 a] w fun e w' => e = .returned (.int .u32 (x % two a)) ∧ w' = w := by
  go_enter Tryz.func137, Tryz.ntmps137
  go_wp2_with (go_at_call 95; refine (full_any _ _ (by omega) (by omega)).mono ?_; rintro e w' ⟨rfl, rfl⟩)
  go_ret
  exact ⟨ret_int (cut_eq x a h0 h1 i0 i1), rfl⟩
/-- What a function of the program's rows returns: a word that, cut to size, is R. -/
def Gives (a R : Int) (e : Ending) : Prop := ∃ v, e = .returned (.int .u32 v) ∧ 0 ≤ v ∧ v ≤ 4294967295 ∧ Hid (v % two a = R)
theorem gives {a R v : Int} (h : 0 ≤ v ∧ v ≤ 4294967295 ∧ v % two a = R) : Gives a R (.returned (.int .u32 v)) := ⟨v, rfl, h.1, h.2.1, h.2.2⟩

set_option maxRecDepth 100000 in
set_option maxHeartbeats 400000 in
theorem un1_any (x y a : Int) (w : World) (hx : okB a x = true) (hy : okB a y = true) :
    Calls Tryz.prog 135 #[.int .u32 x, .int .u32 y, .int .i64 a] w fun e w' => Gives a (unN 1 a x) e ∧ w' = w := by
  obtain ⟨i0, i1, x0, x2, x1⟩ := ok_of hx
  obtain ⟨_, _, y0, y2, y1⟩ := ok_of hy
  have hE := hide (un1_eq x y a i0 i1 x0 x1 x2 y0 y1 y2)
  go_enter Tryz.func135, Tryz.ntmps135
  go_wp2
  go_ret
  exact ⟨gives (unhide hE), rfl⟩
set_option maxRecDepth 100000 in
set_option maxHeartbeats 400000 in
theorem un2_any (x y a : Int) (w : World) (hx : okB a x = true) (hy : okB a y = true) :
    Calls Tryz.prog 136 #[.int .u32 x, .int .u32 y, .int .i64 a] w fun e w' => Gives a (unN 2 a x) e ∧ w' = w := by
  obtain ⟨i0, i1, x0, x2, x1⟩ := ok_of hx
  obtain ⟨_, _, y0, y2, y1⟩ := ok_of hy
  have hE := hide (un2_eq x y a i0 i1 x0 x1 x2 y0 y1 y2)
  go_enter Tryz.func136, Tryz.ntmps136
  go_wp2
  go_ret
  exact ⟨gives (unhide hE), rfl⟩
set_option maxRecDepth 100000 in
set_option maxHeartbeats 400000 in
theorem b1_any (x y a : Int) (w : World) (hx : okB a x = true) (hy : okB a y = true) :
    Calls Tryz.prog 143 #[.int .u32 x, .int .u32 y, .int .i64 a] w fun e w' => Gives a (binN 3 a x y) e ∧ w' = w := by
  obtain ⟨i0, i1, x0, x2, x1⟩ := ok_of hx
  obtain ⟨_, _, y0, y2, y1⟩ := ok_of hy
  have hE := hide (b1_eq x y a i0 i1 x0 x1 x2 y0 y1 y2)
  go_enter Tryz.func143, Tryz.ntmps143
  go_wp2
  go_ret
  exact ⟨gives (unhide hE), rfl⟩
set_option maxRecDepth 100000 in
set_option maxHeartbeats 400000 in
theorem b2_any (x y a : Int) (w : World) (hx : okB a x = true) (hy : okB a y = true) :
    Calls Tryz.prog 144 #[.int .u32 x, .int .u32 y, .int .i64 a] w fun e w' => Gives a (binN 4 a x y) e ∧ w' = w := by
  obtain ⟨i0, i1, x0, x2, x1⟩ := ok_of hx
  obtain ⟨_, _, y0, y2, y1⟩ := ok_of hy
  have hE := hide (b2_eq x y a i0 i1 x0 x1 x2 y0 y1 y2)
  go_enter Tryz.func144, Tryz.ntmps144
  go_wp2
  go_ret
  exact ⟨gives (unhide hE), rfl⟩
set_option maxRecDepth 100000 in
set_option maxHeartbeats 400000 in
theorem b3_any (x y a : Int) (w : World) (hx : okB a x = true) (hy : okB a y = true) :
    Calls Tryz.prog 145 #[.int .u32 x, .int .u32 y, .int .i64 a] w fun e w' => Gives a (binN 5 a x y) e ∧ w' = w := by
  obtain ⟨i0, i1, x0, x2, x1⟩ := ok_of hx
  obtain ⟨_, _, y0, y2, y1⟩ := ok_of hy
  have hE := hide (b3_eq x y a i0 i1 x0 x1 x2 y0 y1 y2)
  go_enter Tryz.func145, Tryz.ntmps145
  go_wp2
  go_ret
  exact ⟨gives (unhide hE), rfl⟩
set_option maxRecDepth 100000 in
set_option maxHeartbeats 400000 in
theorem b4_any (x y a : Int) (w : World) (hx : okB a x = true) (hy : okB a y = true) :
    Calls Tryz.prog 146 #[.int .u32 x, .int .u32 y, .int .i64 a] w fun e w' => Gives a (binN 6 a x y) e ∧ w' = w := by
  obtain ⟨i0, i1, x0, x2, x1⟩ := ok_of hx
  obtain ⟨_, _, y0, y2, y1⟩ := ok_of hy
  have hE := hide (b4_eq x y a i0 i1 x0 x1 x2 y0 y1 y2)
  go_enter Tryz.func146, Tryz.ntmps146
  go_wp2
  go_ret
  exact ⟨gives (unhide hE), rfl⟩
set_option maxRecDepth 100000 in
set_option maxHeartbeats 400000 in
theorem b5_any (x y a : Int) (w : World) (hx : okB a x = true) (hy : okB a y = true) :
    Calls Tryz.prog 147 #[.int .u32 x, .int .u32 y, .int .i64 a] w fun e w' => Gives a (binN 7 a x y) e ∧ w' = w := by
  obtain ⟨i0, i1, x0, x2, x1⟩ := ok_of hx
  obtain ⟨_, _, y0, y2, y1⟩ := ok_of hy
  have hE := hide (b5_eq x y a i0 i1 x0 x1 x2 y0 y1 y2)
  go_enter Tryz.func147, Tryz.ntmps147
  go_wp2
  go_ret
  exact ⟨gives (unhide hE), rfl⟩
set_option maxRecDepth 100000 in
set_option maxHeartbeats 400000 in
theorem b6_any (x y a : Int) (w : World) (hx : okB a x = true) (hy : okB a y = true) :
    Calls Tryz.prog 148 #[.int .u32 x, .int .u32 y, .int .i64 a] w fun e w' => Gives a (binN 8 a x y) e ∧ w' = w := by
  obtain ⟨i0, i1, x0, x2, x1⟩ := ok_of hx
  obtain ⟨_, _, y0, y2, y1⟩ := ok_of hy
  have hE := hide (b6_eq x y a i0 i1 x0 x1 x2 y0 y1 y2)
  go_enter Tryz.func148, Tryz.ntmps148
  go_wp2
  go_ret
  exact ⟨gives (unhide hE), rfl⟩
set_option maxRecDepth 100000 in
set_option maxHeartbeats 400000 in
theorem b7_any (x y a : Int) (w : World) (hx : okB a x = true) (hy : okB a y = true) :
    Calls Tryz.prog 151 #[.int .u32 x, .int .u32 y, .int .i64 a] w fun e w' => Gives a (binN 11 a x y) e ∧ w' = w := by
  obtain ⟨i0, i1, x0, x2, x1⟩ := ok_of hx
  obtain ⟨_, _, y0, y2, y1⟩ := ok_of hy
  have hE := hide (b7_eq x y a i0 i1 x0 x1 x2 y0 y1 y2)
  go_enter Tryz.func151, Tryz.ntmps151
  go_wp2
  go_ret
  exact ⟨gives (unhide hE), rfl⟩
set_option maxRecDepth 100000 in
set_option maxHeartbeats 400000 in
theorem b8_any (x y a : Int) (w : World) (hx : okB a x = true) (hy : okB a y = true) :
    Calls Tryz.prog 152 #[.int .u32 x, .int .u32 y, .int .i64 a] w fun e w' => Gives a (binN 12 a x y) e ∧ w' = w := by
  obtain ⟨i0, i1, x0, x2, x1⟩ := ok_of hx
  obtain ⟨_, _, y0, y2, y1⟩ := ok_of hy
  have hE := hide (b8_eq x y a i0 i1 x0 x1 x2 y0 y1 y2)
  go_enter Tryz.func152, Tryz.ntmps152
  go_wp2
  go_ret
  exact ⟨gives (unhide hE), rfl⟩
set_option maxRecDepth 100000 in
set_option maxHeartbeats 400000 in
theorem bdiv_any (x y a : Int) (w : World) (hx : okB a x = true) (hy : okB a y = true) :
    Calls Tryz.prog 149 #[.int .u32 x, .int .u32 y, .int .i64 a] w fun e w' => Gives a (binN 9 a x y) e ∧ w' = w := by
  obtain ⟨i0, i1, x0, x2, x1⟩ := ok_of hx
  obtain ⟨_, _, y0, y2, y1⟩ := ok_of hy
  by_cases hz : y = 0
  · have hE := hide (bdiv0_eq x y a i0 i1 x0 x1 x2 y0 y1 y2 hz)
    have hb : (y == 0) = true := by simpa using hz
    clear hz
    go_enter Tryz.func149, Tryz.ntmps149
    go_wp2_with (go_at_call 95; refine (full_any _ _ (by omega) (by omega)).mono ?_; rintro e w' ⟨rfl, rfl⟩)
    go_ret
    exact ⟨gives (unhide hE), rfl⟩
  · have hE := hide (bdiv1_eq x y a i0 i1 x0 x1 x2 y0 y1 y2 hz)
    have hb : (y == 0) = false := by simpa using hz
    go_enter Tryz.func149, Tryz.ntmps149
    go_wp2
    go_ret
    exact ⟨gives (unhide hE), rfl⟩
set_option maxRecDepth 100000 in
set_option maxHeartbeats 400000 in
theorem brem_any (x y a : Int) (w : World) (hx : okB a x = true) (hy : okB a y = true) :
    Calls Tryz.prog 150 #[.int .u32 x, .int .u32 y, .int .i64 a] w fun e w' => Gives a (binN 10 a x y) e ∧ w' = w := by
  obtain ⟨i0, i1, x0, x2, x1⟩ := ok_of hx
  obtain ⟨_, _, y0, y2, y1⟩ := ok_of hy
  by_cases hz : y = 0
  · have hE := hide (brem0_eq x y a i0 i1 x0 x1 x2 y0 y1 y2 hz)
    have hb : (y == 0) = true := by simpa using hz
    clear hz
    go_enter Tryz.func150, Tryz.ntmps150
    go_wp2_with (go_at_call 95; refine (full_any _ _ (by omega) (by omega)).mono ?_; rintro e w' ⟨rfl, rfl⟩)
    go_ret
    exact ⟨gives (unhide hE), rfl⟩
  · have hE := hide (brem1_eq x y a i0 i1 x0 x1 x2 y0 y1 y2 hz)
    have hb : (y == 0) = false := by simpa using hz
    go_enter Tryz.func150, Tryz.ntmps150
    go_wp2
    go_ret
    exact ⟨gives (unhide hE), rfl⟩
set_option maxRecDepth 100000 in
set_option maxHeartbeats 400000 in
theorem bsar_any (x y a : Int) (w : World) (hx : okB a x = true) (hy : okB a y = true) :
    Calls Tryz.prog 153 #[.int .u32 x, .int .u32 y, .int .i64 a] w fun e w' => Gives a (binN 13 a x y) e ∧ w' = w := by
  obtain ⟨i0, i1, x0, x2, x1⟩ := ok_of hx
  obtain ⟨_, _, y0, y2, y1⟩ := ok_of hy
  by_cases hz : x / two (a - 1) % 2 = 0
  · have hE := hide (bsar0_eq x y a i0 i1 x0 x1 x2 y0 y1 y2 hz)
    have hb : (x / two (a - 1) % 2 == 0) = true := by simpa using hz
    clear hz
    go_enter Tryz.func153, Tryz.ntmps153
    go_wp2_with (go_at_call 111; refine (wbit_any _ _ _ (by omega) (by omega) (by omega) (by omega)).mono ?_; rintro e w' ⟨rfl, rfl⟩)
    go_ret
    exact ⟨gives (unhide hE), rfl⟩
  · have hE := hide (bsar1_eq x y a i0 i1 x0 x1 x2 y0 y1 y2 hz)
    have hb : (x / two (a - 1) % 2 == 0) = false := by simpa using hz
    have hn := un1_eq x y a i0 i1 x0 x1 x2 y0 y1 y2
    have hn0 := hn.1
    have hn1 := hn.2.1
    clear hz hn
    go_enter Tryz.func153, Tryz.ntmps153
    go_wp2_with (first | (go_at_call 111; refine (wbit_any _ _ _ (by omega) (by omega) (by omega) (by omega)).mono ?_; rintro e w' ⟨rfl, rfl⟩) | (go_at_call 137; refine (cut_any _ _ _ (by omega) (by omega) (by omega) (by omega)).mono ?_; rintro e w' ⟨rfl, rfl⟩))
    go_ret
    exact ⟨gives (unhide hE), rfl⟩
set_option maxRecDepth 100000 in
set_option maxHeartbeats 400000 in
theorem vec_any (x a : Int) (w : World) (h0 : 0 ≤ x) (h1 : x ≤ 4294967295) (i0 : 1 ≤ a) (i1 : a ≤ 4) :
    Calls Tryz.prog 134 #[.int .u32 x, .int .i64 a] w fun e w' => e = .returned (.agg #[.int .i64 a, .int .i64 (x % two a)]) ∧ w' = w.alloc (.cells #[.int .i64 a, .int .i64 (x % two a)] 107) := by
  have ht := two_vals a (by omega) i1
  have g0 : 0 ≤ x % two a := Int.emod_nonneg _ (by omega)
  have g1 : x % two a < two a := Int.emod_lt_of_pos _ (by omega)
  have g2 : x % two a < 16 := by omega
  clear ht
  go_enter Tryz.func134, Tryz.ntmps134
  go_wp2_with (go_at_call 137; refine (cut_any _ _ _ (by omega) (by omega) (by omega) (by omega)).mono ?_; rintro e w' ⟨rfl, rfl⟩)
  exact bodyPost_ret (v := .agg #[.int .i64 a, .int .i64 (x % two a)]) (by simp [results, Tryz.results134, go_sem]) rfl ⟨rfl, rfl⟩
end Go.Proofs.YtfopmobopmdahaaGreat
