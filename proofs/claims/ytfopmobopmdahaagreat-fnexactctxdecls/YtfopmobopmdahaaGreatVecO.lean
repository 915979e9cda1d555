/- What VecCut of the model and of the program return: some bits of a number and true, or nothing and false. -/
import Derived.Test.YtfopmobopmdahaaGreatVecE
namespace Go.Proofs.YtfopmobopmdahaaGreat
open Go.ChangeShapes Go.WideShapes Go.ChangeAt Go.RowKit Go.Joins
set_option linter.unusedVariables false
attribute [local go_sem ↓] Go.wp_at_zero Go.wp_at_succ

def cutV (a n hi lo : Int) : Value := if okB a n = true ∧ 0 ≤ lo ∧ lo ≤ hi ∧ hi < a then yesV (hi - lo + 1) (n / two lo % two (hi - lo + 1)) else noV
theorem cutV_form (a n hi lo : Int) : ∃ c d t, cutV a n hi lo = .tuple #[.agg #[.int .i64 c, .int .i64 d], .bool t] := by
  unfold cutV
  split
  · exact yesV_form _ _
  · exact noV_form
set_option maxRecDepth 100000 in
set_option maxHeartbeats 2000000 in
theorem iVecCut_n1 (a n hi lo : Int) (w : World) (hx : okB a n = false) :
    Calls Tryz.prog 167 #[.agg #[.int .i64 a, .int .i64 n], .int .i64 hi, .int .i64 lo] w fun e w' => e = .returned (noV) ∧ Below w.heap.size w w' := by
  go_enter Tryz.func167, Tryz.ntmps167
  go_wp2_with fail
  refine (iVecOk_any _ _ _).mono ?_
  rintro e w1 ⟨rfl, b1⟩
  have p00 : w1.cell? ⟨w.heap.size, 0, none⟩ = some (.int .i64 a) := cell_later b1 (by simp [go_sem])
  have p01 : w1.cell? ⟨w.heap.size, 1, none⟩ = some (.int .i64 n) := cell_later b1 (by simp [go_sem])
  have r0 : w1.cell? ⟨w.heap.size + 1, 0, none⟩ = some (.int .i64 0) := cell_later b1 (by simp [go_sem])
  have f0 : w1.frozen? ⟨w.heap.size + 1, 0, none⟩ = false := by rw [b1.frozen (by simp)]; simp [go_sem]
  have r1 : w1.cell? ⟨w.heap.size + 1, 1, none⟩ = some (.int .i64 0) := cell_later b1 (by simp [go_sem])
  have f1 : w1.frozen? ⟨w.heap.size + 1, 1, none⟩ = false := by rw [b1.frozen (by simp)]; simp [go_sem]
  simp only [World.size_alloc] at b1
  have z1 := b1.size
  simp only [World.size_alloc] at z1
  rw [hx]
  go_wp2
  have e1 := (((Below.refl w.heap.size w).alloc (by simp <;> omega) (.cells #[.int .i64 a, .int .i64 n] 107)).alloc (by simp <;> omega) (.cells #[.int .i64 0, .int .i64 0] 107)).trans (b1.mono (by omega))
  exact bodyPost_ret (v := noV) (by simp [results, Tryz.results167, go_sem, noV, r0, r1]) rfl ⟨rfl, (e1.setCell (by simp <;> omega) _).setCell (by simp <;> omega) _⟩
set_option maxRecDepth 100000 in
set_option maxHeartbeats 2000000 in
theorem iVecCut_n2 (a n hi lo : Int) (w : World) (hx : okB a n = true) (h : lo < 0) :
    Calls Tryz.prog 167 #[.agg #[.int .i64 a, .int .i64 n], .int .i64 hi, .int .i64 lo] w fun e w' => e = .returned (noV) ∧ Below w.heap.size w w' := by
  go_enter Tryz.func167, Tryz.ntmps167
  go_wp2_with fail
  refine (iVecOk_any _ _ _).mono ?_
  rintro e w1 ⟨rfl, b1⟩
  have p00 : w1.cell? ⟨w.heap.size, 0, none⟩ = some (.int .i64 a) := cell_later b1 (by simp [go_sem])
  have p01 : w1.cell? ⟨w.heap.size, 1, none⟩ = some (.int .i64 n) := cell_later b1 (by simp [go_sem])
  have r0 : w1.cell? ⟨w.heap.size + 1, 0, none⟩ = some (.int .i64 0) := cell_later b1 (by simp [go_sem])
  have f0 : w1.frozen? ⟨w.heap.size + 1, 0, none⟩ = false := by rw [b1.frozen (by simp)]; simp [go_sem]
  have r1 : w1.cell? ⟨w.heap.size + 1, 1, none⟩ = some (.int .i64 0) := cell_later b1 (by simp [go_sem])
  have f1 : w1.frozen? ⟨w.heap.size + 1, 1, none⟩ = false := by rw [b1.frozen (by simp)]; simp [go_sem]
  simp only [World.size_alloc] at b1
  have z1 := b1.size
  simp only [World.size_alloc] at z1
  rw [hx]
  go_wp2
  have e1 := (((Below.refl w.heap.size w).alloc (by simp <;> omega) (.cells #[.int .i64 a, .int .i64 n] 107)).alloc (by simp <;> omega) (.cells #[.int .i64 0, .int .i64 0] 107)).trans (b1.mono (by omega))
  exact bodyPost_ret (v := noV) (by simp [results, Tryz.results167, go_sem, noV, r0, r1]) rfl ⟨rfl, (e1.setCell (by simp <;> omega) _).setCell (by simp <;> omega) _⟩
set_option maxRecDepth 100000 in
set_option maxHeartbeats 2000000 in
theorem iVecCut_n3 (a n hi lo : Int) (w : World) (hx : okB a n = true) (h0 : ¬ lo < 0) (h : hi < lo) :
    Calls Tryz.prog 167 #[.agg #[.int .i64 a, .int .i64 n], .int .i64 hi, .int .i64 lo] w fun e w' => e = .returned (noV) ∧ Below w.heap.size w w' := by
  go_enter Tryz.func167, Tryz.ntmps167
  go_wp2_with fail
  refine (iVecOk_any _ _ _).mono ?_
  rintro e w1 ⟨rfl, b1⟩
  have p00 : w1.cell? ⟨w.heap.size, 0, none⟩ = some (.int .i64 a) := cell_later b1 (by simp [go_sem])
  have p01 : w1.cell? ⟨w.heap.size, 1, none⟩ = some (.int .i64 n) := cell_later b1 (by simp [go_sem])
  have r0 : w1.cell? ⟨w.heap.size + 1, 0, none⟩ = some (.int .i64 0) := cell_later b1 (by simp [go_sem])
  have f0 : w1.frozen? ⟨w.heap.size + 1, 0, none⟩ = false := by rw [b1.frozen (by simp)]; simp [go_sem]
  have r1 : w1.cell? ⟨w.heap.size + 1, 1, none⟩ = some (.int .i64 0) := cell_later b1 (by simp [go_sem])
  have f1 : w1.frozen? ⟨w.heap.size + 1, 1, none⟩ = false := by rw [b1.frozen (by simp)]; simp [go_sem]
  simp only [World.size_alloc] at b1
  have z1 := b1.size
  simp only [World.size_alloc] at z1
  rw [hx]
  go_wp2
  have e1 := (((Below.refl w.heap.size w).alloc (by simp <;> omega) (.cells #[.int .i64 a, .int .i64 n] 107)).alloc (by simp <;> omega) (.cells #[.int .i64 0, .int .i64 0] 107)).trans (b1.mono (by omega))
  exact bodyPost_ret (v := noV) (by simp [results, Tryz.results167, go_sem, noV, r0, r1]) rfl ⟨rfl, (e1.setCell (by simp <;> omega) _).setCell (by simp <;> omega) _⟩
set_option maxRecDepth 100000 in
set_option maxHeartbeats 2000000 in
theorem iVecCut_n4 (a n hi lo : Int) (w : World) (hx : okB a n = true) (h0 : ¬ lo < 0) (h1 : ¬ hi < lo) (h : a ≤ hi) :
    Calls Tryz.prog 167 #[.agg #[.int .i64 a, .int .i64 n], .int .i64 hi, .int .i64 lo] w fun e w' => e = .returned (noV) ∧ Below w.heap.size w w' := by
  go_enter Tryz.func167, Tryz.ntmps167
  go_wp2_with fail
  refine (iVecOk_any _ _ _).mono ?_
  rintro e w1 ⟨rfl, b1⟩
  have p00 : w1.cell? ⟨w.heap.size, 0, none⟩ = some (.int .i64 a) := cell_later b1 (by simp [go_sem])
  have p01 : w1.cell? ⟨w.heap.size, 1, none⟩ = some (.int .i64 n) := cell_later b1 (by simp [go_sem])
  have r0 : w1.cell? ⟨w.heap.size + 1, 0, none⟩ = some (.int .i64 0) := cell_later b1 (by simp [go_sem])
  have f0 : w1.frozen? ⟨w.heap.size + 1, 0, none⟩ = false := by rw [b1.frozen (by simp)]; simp [go_sem]
  have r1 : w1.cell? ⟨w.heap.size + 1, 1, none⟩ = some (.int .i64 0) := cell_later b1 (by simp [go_sem])
  have f1 : w1.frozen? ⟨w.heap.size + 1, 1, none⟩ = false := by rw [b1.frozen (by simp)]; simp [go_sem]
  simp only [World.size_alloc] at b1
  have z1 := b1.size
  simp only [World.size_alloc] at z1
  rw [hx]
  go_wp2
  have e1 := (((Below.refl w.heap.size w).alloc (by simp <;> omega) (.cells #[.int .i64 a, .int .i64 n] 107)).alloc (by simp <;> omega) (.cells #[.int .i64 0, .int .i64 0] 107)).trans (b1.mono (by omega))
  exact bodyPost_ret (v := noV) (by simp [results, Tryz.results167, go_sem, noV, r0, r1]) rfl ⟨rfl, (e1.setCell (by simp <;> omega) _).setCell (by simp <;> omega) _⟩
set_option maxRecDepth 100000 in
set_option maxHeartbeats 2000000 in
theorem iVecCut_yes (a n hi lo : Int) (w : World) (hx : okB a n = true) (l0 : 0 ≤ lo) (l1 : lo ≤ hi) (l2 : hi < a) :
    Calls Tryz.prog 167 #[.agg #[.int .i64 a, .int .i64 n], .int .i64 hi, .int .i64 lo] w fun e w' => e = .returned (yesV (hi - lo + 1) (n / two lo % two (hi - lo + 1))) ∧ Below w.heap.size w w' := by
  obtain ⟨h1, h2, h3, h4, h5⟩ := ok_of hx
  have k0 : ¬ lo < 0 := by omega
  have k1 : ¬ hi < lo := by omega
  have k2 : ¬ a ≤ hi := by omega
  have u := two_vals lo (by omega) (by omega)
  have v := two_vals (hi - lo + 1) (by omega) (by omega)
  have u0 : 1 ≤ two lo := by omega
  have u1 : two lo ≤ 16 := by omega
  have v0 : 1 ≤ two (hi - lo + 1) := by omega
  have v1 : two (hi - lo + 1) ≤ 16 := by omega
  have d0 : 0 ≤ n / two lo := Int.ediv_nonneg h3 (by omega)
  have d1 : n / two lo ≤ 15 := by have := Int.ediv_le_self (two lo) h3; omega
  have nz1 : ¬ two lo = 0 := by omega
  have nz2 : ¬ two (hi - lo + 1) = 0 := by omega
  clear u v
  have e2 : two lo = 2 ^ lo.toNat := by simp [two]
  rw [e2] at d0 d1 ⊢
  clear e2 u0 u1 nz1
  go_enter Tryz.func167, Tryz.ntmps167
  go_wp2_with fail
  refine (iVecOk_any _ _ _).mono ?_
  rintro e w1 ⟨rfl, b1⟩
  have p00 : w1.cell? ⟨w.heap.size, 0, none⟩ = some (.int .i64 a) := cell_later b1 (by simp [go_sem])
  have p01 : w1.cell? ⟨w.heap.size, 1, none⟩ = some (.int .i64 n) := cell_later b1 (by simp [go_sem])
  have r0 : w1.cell? ⟨w.heap.size + 1, 0, none⟩ = some (.int .i64 0) := cell_later b1 (by simp [go_sem])
  have f0 : w1.frozen? ⟨w.heap.size + 1, 0, none⟩ = false := by rw [b1.frozen (by simp)]; simp [go_sem]
  have r1 : w1.cell? ⟨w.heap.size + 1, 1, none⟩ = some (.int .i64 0) := cell_later b1 (by simp [go_sem])
  have f1 : w1.frozen? ⟨w.heap.size + 1, 1, none⟩ = false := by rw [b1.frozen (by simp)]; simp [go_sem]
  simp only [World.size_alloc] at b1
  have z1 := b1.size
  simp only [World.size_alloc] at z1
  rw [hx]
  have y0 := World.block_lt_of_cell? _ _ r0
  simp only at y0
  go_wp2_with fail
  refine (vec_any _ _ _ (by omega) (by omega) (by omega) (by omega)).mono ?_
  rintro e w' ⟨rfl, rfl⟩
  go_wp2
  have e1 := (((Below.refl w.heap.size w).alloc (by simp <;> omega) (.cells #[.int .i64 a, .int .i64 n] 107)).alloc (by simp <;> omega) (.cells #[.int .i64 0, .int .i64 0] 107)).trans (b1.mono (by omega))
  exact bodyPost_ret (v := yesV (hi - lo + 1) (n / 2 ^ lo.toNat % two (hi - lo + 1))) (by simp [results, Tryz.results167, go_sem, yesV, r0, r1, y0]) rfl ⟨rfl, (by repeat (first | exact Below.refl _ _ | assumption | refine below_drewN ?_ _ | refine Below.drew ?_ | refine Below.alloc ?_ (by first | exact Nat.le_refl _ | exact Below.size (by assumption) | (simp; done) | (simp; omega)) _ | refine Below.setCell ?_ (by first | exact Nat.le_refl _ | exact Below.size (by assumption) | (simp; done) | (simp; omega)) _ | refine Below.trans ?_ (by assumption)))⟩
theorem iVecCut_any (a n hi lo : Int) (w : World) :
    Calls Tryz.prog 167 #[.agg #[.int .i64 a, .int .i64 n], .int .i64 hi, .int .i64 lo] w fun e w' => e = .returned (cutV a n hi lo) ∧ Below w.heap.size w w' := by
  unfold cutV
  by_cases hx : okB a n = true
  · by_cases l0 : 0 ≤ lo
    · by_cases l1 : lo ≤ hi
      · by_cases l2 : hi < a
        · rw [if_pos ⟨hx, l0, l1, l2⟩]; exact iVecCut_yes a n hi lo w hx l0 l1 l2
        · rw [if_neg (fun k => l2 k.2.2.2)]; exact iVecCut_n4 a n hi lo w hx (by omega) (by omega) (by omega)
      · rw [if_neg (fun k => l1 k.2.2.1)]; exact iVecCut_n3 a n hi lo w hx (by omega) (by omega)
    · rw [if_neg (fun k => l0 k.2.1)]; exact iVecCut_n2 a n hi lo w hx (by omega)
  · rw [if_neg (fun k => hx k.1)]; exact iVecCut_n1 a n hi lo w (by simpa using hx)
end Go.Proofs.YtfopmobopmdahaaGreat
