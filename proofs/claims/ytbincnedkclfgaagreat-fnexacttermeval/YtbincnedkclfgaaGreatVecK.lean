/- What VecBin of the model returns. -/
import Derived.Test.YtbincnedkclfgaaGreatVecJ
namespace Go.Proofs.YtbincnedkclfgaaGreat
open Go.ChangeShapes Go.WideShapes Go.ChangeAt Go.RowKit Go.Joins
set_option linter.unusedVariables false
attribute [local go_sem ↓] Go.wp_at_zero Go.wp_at_succ

/-- What is done to two numbers: the answer, and true; or nothing and false. -/
def binV (op a x b y : Int) : Value :=
  if okB a x = true ∧ okB b y = true then
    (if op = 14 then (if a + b ≤ 4 then yesV (a + b) (x * two b + y) else noV) else (if (3 ≤ op ∧ op ≤ 13) ∧ a = b then yesV a (binN op a x y) else noV))
  else noV
theorem binV_form (op a x b y : Int) : ∃ c d t, binV op a x b y = .tuple #[.agg #[.int .i64 c, .int .i64 d], .bool t] := by
  unfold binV
  split
  · split
    · split
      · exact yesV_form _ _
      · exact noV_form
    · split
      · exact yesV_form _ _
      · exact noV_form
  · exact noV_form
set_option maxRecDepth 100000 in
set_option maxHeartbeats 2000000 in
theorem sVecBin_n1 (op a x b y : Int) (w : World) (hx : okB a x = false) :
    Calls Tryz.prog 53 #[.int .i64 op, .agg #[.int .i64 a, .int .i64 x], .agg #[.int .i64 b, .int .i64 y]] w fun e w' => e = .returned (noV) ∧ Below w.heap.size w w' := by
  go_enter Tryz.func53, Tryz.ntmps53
  go_wp2_with fail
  refine (sVecOk_any _ _ _).mono ?_
  rintro e w1 ⟨rfl, b1⟩
  have p00 : w1.cell? ⟨w.heap.size, 0, none⟩ = some (.int .i64 a) := cell_later b1 (by simp [go_sem])
  have p01 : w1.cell? ⟨w.heap.size, 1, none⟩ = some (.int .i64 x) := cell_later b1 (by simp [go_sem])
  have p10 : w1.cell? ⟨w.heap.size + 1, 0, none⟩ = some (.int .i64 b) := cell_later b1 (by simp [go_sem])
  have p11 : w1.cell? ⟨w.heap.size + 1, 1, none⟩ = some (.int .i64 y) := cell_later b1 (by simp [go_sem])
  have r0 : w1.cell? ⟨w.heap.size + 2, 0, none⟩ = some (.int .i64 0) := cell_later b1 (by simp [go_sem])
  have f0 : w1.frozen? ⟨w.heap.size + 2, 0, none⟩ = false := by rw [b1.frozen (by simp)]; simp [go_sem]
  have r1 : w1.cell? ⟨w.heap.size + 2, 1, none⟩ = some (.int .i64 0) := cell_later b1 (by simp [go_sem])
  have f1 : w1.frozen? ⟨w.heap.size + 2, 1, none⟩ = false := by rw [b1.frozen (by simp)]; simp [go_sem]
  simp only [World.size_alloc] at b1
  have z1 := b1.size
  simp only [World.size_alloc] at z1
  rw [hx]
  go_wp2
  have e1 := ((((Below.refl w.heap.size w).alloc (by simp <;> omega) (.cells #[.int .i64 a, .int .i64 x] 55)).alloc (by simp <;> omega) (.cells #[.int .i64 b, .int .i64 y] 55)).alloc (by simp <;> omega) (.cells #[.int .i64 0, .int .i64 0] 55)).trans (b1.mono (by omega))
  exact bodyPost_ret (v := noV) (by simp [results, Tryz.results53, go_sem, noV, r0, r1]) rfl ⟨rfl, (e1.setCell (by simp <;> omega) _).setCell (by simp <;> omega) _⟩
set_option maxRecDepth 100000 in
set_option maxHeartbeats 2000000 in
theorem sVecBin_n2 (op a x b y : Int) (w : World) (hx : okB a x = true) (hy : okB b y = false) :
    Calls Tryz.prog 53 #[.int .i64 op, .agg #[.int .i64 a, .int .i64 x], .agg #[.int .i64 b, .int .i64 y]] w fun e w' => e = .returned (noV) ∧ Below w.heap.size w w' := by
  go_enter Tryz.func53, Tryz.ntmps53
  go_wp2_with fail
  refine (sVecOk_any _ _ _).mono ?_
  rintro e w1 ⟨rfl, b1⟩
  have p00 : w1.cell? ⟨w.heap.size, 0, none⟩ = some (.int .i64 a) := cell_later b1 (by simp [go_sem])
  have p01 : w1.cell? ⟨w.heap.size, 1, none⟩ = some (.int .i64 x) := cell_later b1 (by simp [go_sem])
  have p10 : w1.cell? ⟨w.heap.size + 1, 0, none⟩ = some (.int .i64 b) := cell_later b1 (by simp [go_sem])
  have p11 : w1.cell? ⟨w.heap.size + 1, 1, none⟩ = some (.int .i64 y) := cell_later b1 (by simp [go_sem])
  have r0 : w1.cell? ⟨w.heap.size + 2, 0, none⟩ = some (.int .i64 0) := cell_later b1 (by simp [go_sem])
  have f0 : w1.frozen? ⟨w.heap.size + 2, 0, none⟩ = false := by rw [b1.frozen (by simp)]; simp [go_sem]
  have r1 : w1.cell? ⟨w.heap.size + 2, 1, none⟩ = some (.int .i64 0) := cell_later b1 (by simp [go_sem])
  have f1 : w1.frozen? ⟨w.heap.size + 2, 1, none⟩ = false := by rw [b1.frozen (by simp)]; simp [go_sem]
  simp only [World.size_alloc] at b1
  have z1 := b1.size
  simp only [World.size_alloc] at z1
  rw [hx]
  go_wp2_with fail
  refine (sVecOk_any _ _ _).mono ?_
  rintro e w2 ⟨rfl, b2⟩
  have z2 := b2.size
  replace p00 := cell_later b2 p00
  replace p01 := cell_later b2 p01
  replace p10 := cell_later b2 p10
  replace p11 := cell_later b2 p11
  replace f0 := (by rw [b2.frozen (World.block_lt_of_cell? _ _ r0)]; exact f0 : w2.frozen? _ = false)
  replace r0 := cell_later b2 r0
  replace f1 := (by rw [b2.frozen (World.block_lt_of_cell? _ _ r1)]; exact f1 : w2.frozen? _ = false)
  replace r1 := cell_later b2 r1
  rw [hy]
  go_wp2
  have e1 := ((((Below.refl w.heap.size w).alloc (by simp <;> omega) (.cells #[.int .i64 a, .int .i64 x] 55)).alloc (by simp <;> omega) (.cells #[.int .i64 b, .int .i64 y] 55)).alloc (by simp <;> omega) (.cells #[.int .i64 0, .int .i64 0] 55)).trans (b1.mono (by omega))
  exact bodyPost_ret (v := noV) (by simp [results, Tryz.results53, go_sem, noV, r0, r1]) rfl ⟨rfl, ((e1.trans (b2.mono (by omega))).setCell (by simp <;> omega) _).setCell (by simp <;> omega) _⟩
set_option maxRecDepth 100000 in
set_option maxHeartbeats 2000000 in
theorem sVecBin_n3 (a x b y : Int) (w : World) (hx : okB a x = true) (hy : okB b y = true) (h : ¬ a + b ≤ 4) :
    Calls Tryz.prog 53 #[.int .i64 14, .agg #[.int .i64 a, .int .i64 x], .agg #[.int .i64 b, .int .i64 y]] w fun e w' => e = .returned (noV) ∧ Below w.heap.size w w' := by
  obtain ⟨h1, h2, h3, h4, h5⟩ := ok_of hx
  obtain ⟨g1, g2, g3, g4, g5⟩ := ok_of hy
  go_enter Tryz.func53, Tryz.ntmps53
  go_wp2_with fail
  refine (sVecOk_any _ _ _).mono ?_
  rintro e w1 ⟨rfl, b1⟩
  have p00 : w1.cell? ⟨w.heap.size, 0, none⟩ = some (.int .i64 a) := cell_later b1 (by simp [go_sem])
  have p01 : w1.cell? ⟨w.heap.size, 1, none⟩ = some (.int .i64 x) := cell_later b1 (by simp [go_sem])
  have p10 : w1.cell? ⟨w.heap.size + 1, 0, none⟩ = some (.int .i64 b) := cell_later b1 (by simp [go_sem])
  have p11 : w1.cell? ⟨w.heap.size + 1, 1, none⟩ = some (.int .i64 y) := cell_later b1 (by simp [go_sem])
  have r0 : w1.cell? ⟨w.heap.size + 2, 0, none⟩ = some (.int .i64 0) := cell_later b1 (by simp [go_sem])
  have f0 : w1.frozen? ⟨w.heap.size + 2, 0, none⟩ = false := by rw [b1.frozen (by simp)]; simp [go_sem]
  have r1 : w1.cell? ⟨w.heap.size + 2, 1, none⟩ = some (.int .i64 0) := cell_later b1 (by simp [go_sem])
  have f1 : w1.frozen? ⟨w.heap.size + 2, 1, none⟩ = false := by rw [b1.frozen (by simp)]; simp [go_sem]
  simp only [World.size_alloc] at b1
  have z1 := b1.size
  simp only [World.size_alloc] at z1
  rw [hx]
  go_wp2_with fail
  refine (sVecOk_any _ _ _).mono ?_
  rintro e w2 ⟨rfl, b2⟩
  have z2 := b2.size
  replace p00 := cell_later b2 p00
  replace p01 := cell_later b2 p01
  replace p10 := cell_later b2 p10
  replace p11 := cell_later b2 p11
  replace f0 := (by rw [b2.frozen (World.block_lt_of_cell? _ _ r0)]; exact f0 : w2.frozen? _ = false)
  replace r0 := cell_later b2 r0
  replace f1 := (by rw [b2.frozen (World.block_lt_of_cell? _ _ r1)]; exact f1 : w2.frozen? _ = false)
  replace r1 := cell_later b2 r1
  rw [hy]
  go_wp2
  have e1 := ((((Below.refl w.heap.size w).alloc (by simp <;> omega) (.cells #[.int .i64 a, .int .i64 x] 55)).alloc (by simp <;> omega) (.cells #[.int .i64 b, .int .i64 y] 55)).alloc (by simp <;> omega) (.cells #[.int .i64 0, .int .i64 0] 55)).trans (b1.mono (by omega))
  exact bodyPost_ret (v := noV) (by simp [results, Tryz.results53, go_sem, noV, r0, r1]) rfl ⟨rfl, ((e1.trans (b2.mono (by omega))).setCell (by simp <;> omega) _).setCell (by simp <;> omega) _⟩
set_option maxRecDepth 100000 in
set_option maxHeartbeats 2000000 in
theorem sVecBin_cat (a x b y : Int) (w : World) (hx : okB a x = true) (hy : okB b y = true) (h : a + b ≤ 4) :
    Calls Tryz.prog 53 #[.int .i64 14, .agg #[.int .i64 a, .int .i64 x], .agg #[.int .i64 b, .int .i64 y]] w fun e w' => e = .returned (yesV (a + b) (x * two b + y)) ∧ Below w.heap.size w w' := by
  obtain ⟨h1, h2, h3, h4, h5⟩ := ok_of hx
  obtain ⟨g1, g2, g3, g4, g5⟩ := ok_of hy
  have hb := two_bd b g1 g2
  have p0 : 0 ≤ x * two b := Int.mul_nonneg h3 (by omega)
  have p1 : x * two b ≤ 240 := by
    have : x * two b ≤ 15 * 16 := Int.mul_le_mul (by omega) (by omega) (by omega) (by omega)
    omega
  have n0 : w.heap.size + 1 + 1 ≠ w.heap.size := by omega
  clear hb
  go_enter Tryz.func53, Tryz.ntmps53
  go_wp2_with fail
  refine (sVecOk_any _ _ _).mono ?_
  rintro e w1 ⟨rfl, b1⟩
  have p00 : w1.cell? ⟨w.heap.size, 0, none⟩ = some (.int .i64 a) := cell_later b1 (by simp [go_sem])
  have p01 : w1.cell? ⟨w.heap.size, 1, none⟩ = some (.int .i64 x) := cell_later b1 (by simp [go_sem])
  have p10 : w1.cell? ⟨w.heap.size + 1, 0, none⟩ = some (.int .i64 b) := cell_later b1 (by simp [go_sem])
  have p11 : w1.cell? ⟨w.heap.size + 1, 1, none⟩ = some (.int .i64 y) := cell_later b1 (by simp [go_sem])
  have r0 : w1.cell? ⟨w.heap.size + 2, 0, none⟩ = some (.int .i64 0) := cell_later b1 (by simp [go_sem])
  have f0 : w1.frozen? ⟨w.heap.size + 2, 0, none⟩ = false := by rw [b1.frozen (by simp)]; simp [go_sem]
  have r1 : w1.cell? ⟨w.heap.size + 2, 1, none⟩ = some (.int .i64 0) := cell_later b1 (by simp [go_sem])
  have f1 : w1.frozen? ⟨w.heap.size + 2, 1, none⟩ = false := by rw [b1.frozen (by simp)]; simp [go_sem]
  simp only [World.size_alloc] at b1
  have z1 := b1.size
  simp only [World.size_alloc] at z1
  rw [hx]
  go_wp2_with fail
  refine (sVecOk_any _ _ _).mono ?_
  rintro e w2 ⟨rfl, b2⟩
  have z2 := b2.size
  replace p00 := cell_later b2 p00
  replace p01 := cell_later b2 p01
  replace p10 := cell_later b2 p10
  replace p11 := cell_later b2 p11
  replace f0 := (by rw [b2.frozen (World.block_lt_of_cell? _ _ r0)]; exact f0 : w2.frozen? _ = false)
  replace r0 := cell_later b2 r0
  replace f1 := (by rw [b2.frozen (World.block_lt_of_cell? _ _ r1)]; exact f1 : w2.frozen? _ = false)
  replace r1 := cell_later b2 r1
  rw [hy]
  go_wp2
  go_region_held3 (fun w' => w'.cell? ⟨w.heap.size, 0, none⟩ = some (.int .i64 a) ∧ w'.cell? ⟨w.heap.size, 1, none⟩ = some (.int .i64 x) ∧ w'.cell? ⟨w.heap.size + 1, 0, none⟩ = some (.int .i64 b) ∧ w'.cell? ⟨w.heap.size + 1, 1, none⟩ = some (.int .i64 y)) (go_keep)
    (first | (go_at_call 42; refine (two_any _ _ (by omega) (by omega)).mono ?_; rintro e w' ⟨rfl, rfl⟩))
  all_goals go_wp2
  have e1 := ((((Below.refl w.heap.size w).alloc (by simp <;> omega) (.cells #[.int .i64 a, .int .i64 x] 55)).alloc (by simp <;> omega) (.cells #[.int .i64 b, .int .i64 y] 55)).alloc (by simp <;> omega) (.cells #[.int .i64 0, .int .i64 0] 55)).trans (b1.mono (by omega))
  have hE1 : IntKind.i64.wrap (a + b) = a + b := wr _ (by omega)
  have hE2 : IntKind.i64.wrap (IntKind.i64.wrap (x * two b) + y) = x * two b + y := by rw [wr (x * two b) (by omega), wr _ (by omega)]
  refine bodyPost_ret (v := yesV (IntKind.i64.wrap (a + b)) (IntKind.i64.wrap (IntKind.i64.wrap (x * two b) + y))) (by simp [results, Tryz.results53, go_sem, yesV, r0, r1]) rfl ⟨by rw [hE1, hE2], ?_⟩
  exact (((e1.trans (b2.mono (by omega))).setCell (by simp <;> omega) _).setCell (by simp <;> omega) _).drew
set_option maxRecDepth 100000 in
set_option maxHeartbeats 2000000 in
theorem sVecBin_n4 (op a x b y : Int) (w : World) (hx : okB a x = true) (hy : okB b y = true) (h : op < 3 ∨ 13 < op) (h14 : op ≠ 14) :
    Calls Tryz.prog 53 #[.int .i64 op, .agg #[.int .i64 a, .int .i64 x], .agg #[.int .i64 b, .int .i64 y]] w fun e w' => e = .returned (noV) ∧ Below w.heap.size w w' := by
  have k14 : (op == 14) = false := by simpa using h14
  go_enter Tryz.func53, Tryz.ntmps53
  go_wp2_with fail
  refine (sVecOk_any _ _ _).mono ?_
  rintro e w1 ⟨rfl, b1⟩
  have p00 : w1.cell? ⟨w.heap.size, 0, none⟩ = some (.int .i64 a) := cell_later b1 (by simp [go_sem])
  have p01 : w1.cell? ⟨w.heap.size, 1, none⟩ = some (.int .i64 x) := cell_later b1 (by simp [go_sem])
  have p10 : w1.cell? ⟨w.heap.size + 1, 0, none⟩ = some (.int .i64 b) := cell_later b1 (by simp [go_sem])
  have p11 : w1.cell? ⟨w.heap.size + 1, 1, none⟩ = some (.int .i64 y) := cell_later b1 (by simp [go_sem])
  have r0 : w1.cell? ⟨w.heap.size + 2, 0, none⟩ = some (.int .i64 0) := cell_later b1 (by simp [go_sem])
  have f0 : w1.frozen? ⟨w.heap.size + 2, 0, none⟩ = false := by rw [b1.frozen (by simp)]; simp [go_sem]
  have r1 : w1.cell? ⟨w.heap.size + 2, 1, none⟩ = some (.int .i64 0) := cell_later b1 (by simp [go_sem])
  have f1 : w1.frozen? ⟨w.heap.size + 2, 1, none⟩ = false := by rw [b1.frozen (by simp)]; simp [go_sem]
  simp only [World.size_alloc] at b1
  have z1 := b1.size
  simp only [World.size_alloc] at z1
  rw [hx]
  go_wp2_with fail
  refine (sVecOk_any _ _ _).mono ?_
  rintro e w2 ⟨rfl, b2⟩
  have z2 := b2.size
  replace p00 := cell_later b2 p00
  replace p01 := cell_later b2 p01
  replace p10 := cell_later b2 p10
  replace p11 := cell_later b2 p11
  replace f0 := (by rw [b2.frozen (World.block_lt_of_cell? _ _ r0)]; exact f0 : w2.frozen? _ = false)
  replace r0 := cell_later b2 r0
  replace f1 := (by rw [b2.frozen (World.block_lt_of_cell? _ _ r1)]; exact f1 : w2.frozen? _ = false)
  replace r1 := cell_later b2 r1
  rw [hy]
  go_wp2_with fail
  refine (l1Bin_no _ _ _ _ _ _ h).mono ?_
  rintro e w3 ⟨rfl, b3⟩
  replace p00 := cell_later b3 p00
  replace p01 := cell_later b3 p01
  replace p10 := cell_later b3 p10
  replace p11 := cell_later b3 p11
  replace f0 := (by rw [b3.frozen (World.block_lt_of_cell? _ _ r0)]; exact f0 : w3.frozen? _ = false)
  replace r0 := cell_later b3 r0
  replace f1 := (by rw [b3.frozen (World.block_lt_of_cell? _ _ r1)]; exact f1 : w3.frozen? _ = false)
  replace r1 := cell_later b3 r1
  go_wp2
  have e1 := ((((Below.refl w.heap.size w).alloc (by simp <;> omega) (.cells #[.int .i64 a, .int .i64 x] 55)).alloc (by simp <;> omega) (.cells #[.int .i64 b, .int .i64 y] 55)).alloc (by simp <;> omega) (.cells #[.int .i64 0, .int .i64 0] 55)).trans (b1.mono (by omega))
  exact bodyPost_ret (v := noV) (by simp [results, Tryz.results53, go_sem, noV, r0, r1]) rfl ⟨rfl, (((e1.trans (b2.mono (by omega))).trans (b3.mono (by omega))).setCell (by simp <;> omega) _).setCell (by simp <;> omega) _⟩
set_option maxRecDepth 100000 in
set_option maxHeartbeats 2000000 in
theorem sVecBin_n5 (op a x b y : Int) (w : World) (hx : okB a x = true) (hy : okB b y = true) (h3 : 3 ≤ op) (h13 : op ≤ 13) (hab : a ≠ b) :
    Calls Tryz.prog 53 #[.int .i64 op, .agg #[.int .i64 a, .int .i64 x], .agg #[.int .i64 b, .int .i64 y]] w fun e w' => e = .returned (noV) ∧ Below w.heap.size w w' := by
  have k14 : (op == 14) = false := by simp; omega
  have kab : (a != b) = true := by simpa using hab
  go_enter Tryz.func53, Tryz.ntmps53
  go_wp2_with fail
  refine (sVecOk_any _ _ _).mono ?_
  rintro e w1 ⟨rfl, b1⟩
  have p00 : w1.cell? ⟨w.heap.size, 0, none⟩ = some (.int .i64 a) := cell_later b1 (by simp [go_sem])
  have p01 : w1.cell? ⟨w.heap.size, 1, none⟩ = some (.int .i64 x) := cell_later b1 (by simp [go_sem])
  have p10 : w1.cell? ⟨w.heap.size + 1, 0, none⟩ = some (.int .i64 b) := cell_later b1 (by simp [go_sem])
  have p11 : w1.cell? ⟨w.heap.size + 1, 1, none⟩ = some (.int .i64 y) := cell_later b1 (by simp [go_sem])
  have r0 : w1.cell? ⟨w.heap.size + 2, 0, none⟩ = some (.int .i64 0) := cell_later b1 (by simp [go_sem])
  have f0 : w1.frozen? ⟨w.heap.size + 2, 0, none⟩ = false := by rw [b1.frozen (by simp)]; simp [go_sem]
  have r1 : w1.cell? ⟨w.heap.size + 2, 1, none⟩ = some (.int .i64 0) := cell_later b1 (by simp [go_sem])
  have f1 : w1.frozen? ⟨w.heap.size + 2, 1, none⟩ = false := by rw [b1.frozen (by simp)]; simp [go_sem]
  simp only [World.size_alloc] at b1
  have z1 := b1.size
  simp only [World.size_alloc] at z1
  rw [hx]
  go_wp2_with fail
  refine (sVecOk_any _ _ _).mono ?_
  rintro e w2 ⟨rfl, b2⟩
  have z2 := b2.size
  replace p00 := cell_later b2 p00
  replace p01 := cell_later b2 p01
  replace p10 := cell_later b2 p10
  replace p11 := cell_later b2 p11
  replace f0 := (by rw [b2.frozen (World.block_lt_of_cell? _ _ r0)]; exact f0 : w2.frozen? _ = false)
  replace r0 := cell_later b2 r0
  replace f1 := (by rw [b2.frozen (World.block_lt_of_cell? _ _ r1)]; exact f1 : w2.frozen? _ = false)
  replace r1 := cell_later b2 r1
  rw [hy]
  go_wp2_with fail
  refine (l1Bin_yes _ _ _ _ _ _ hx hy h3 h13).mono ?_
  rintro e w3 ⟨rfl, b3⟩
  replace p00 := cell_later b3 p00
  replace p01 := cell_later b3 p01
  replace p10 := cell_later b3 p10
  replace p11 := cell_later b3 p11
  replace f0 := (by rw [b3.frozen (World.block_lt_of_cell? _ _ r0)]; exact f0 : w3.frozen? _ = false)
  replace r0 := cell_later b3 r0
  replace f1 := (by rw [b3.frozen (World.block_lt_of_cell? _ _ r1)]; exact f1 : w3.frozen? _ = false)
  replace r1 := cell_later b3 r1
  go_wp2
  have e1 := ((((Below.refl w.heap.size w).alloc (by simp <;> omega) (.cells #[.int .i64 a, .int .i64 x] 55)).alloc (by simp <;> omega) (.cells #[.int .i64 b, .int .i64 y] 55)).alloc (by simp <;> omega) (.cells #[.int .i64 0, .int .i64 0] 55)).trans (b1.mono (by omega))
  exact bodyPost_ret (v := noV) (by simp [results, Tryz.results53, go_sem, noV, r0, r1]) rfl ⟨rfl, (((e1.trans (b2.mono (by omega))).trans (b3.mono (by omega))).setCell (by simp <;> omega) _).setCell (by simp <;> omega) _⟩
set_option maxRecDepth 100000 in
set_option maxHeartbeats 2000000 in
theorem sVecBin_yes (op a x y : Int) (w : World) (hx : okB a x = true) (hy : okB a y = true) (h3 : 3 ≤ op) (h13 : op ≤ 13) :
    Calls Tryz.prog 53 #[.int .i64 op, .agg #[.int .i64 a, .int .i64 x], .agg #[.int .i64 a, .int .i64 y]] w fun e w' => e = .returned (yesV a (binN op a x y)) ∧ Below w.heap.size w w' := by
  have k14 : (op == 14) = false := by simp; omega
  have kab : (a != a) = false := by simp
  go_enter Tryz.func53, Tryz.ntmps53
  go_wp2_with fail
  refine (sVecOk_any _ _ _).mono ?_
  rintro e w1 ⟨rfl, b1⟩
  have p00 : w1.cell? ⟨w.heap.size, 0, none⟩ = some (.int .i64 a) := cell_later b1 (by simp [go_sem])
  have p01 : w1.cell? ⟨w.heap.size, 1, none⟩ = some (.int .i64 x) := cell_later b1 (by simp [go_sem])
  have p10 : w1.cell? ⟨w.heap.size + 1, 0, none⟩ = some (.int .i64 a) := cell_later b1 (by simp [go_sem])
  have p11 : w1.cell? ⟨w.heap.size + 1, 1, none⟩ = some (.int .i64 y) := cell_later b1 (by simp [go_sem])
  have r0 : w1.cell? ⟨w.heap.size + 2, 0, none⟩ = some (.int .i64 0) := cell_later b1 (by simp [go_sem])
  have f0 : w1.frozen? ⟨w.heap.size + 2, 0, none⟩ = false := by rw [b1.frozen (by simp)]; simp [go_sem]
  have r1 : w1.cell? ⟨w.heap.size + 2, 1, none⟩ = some (.int .i64 0) := cell_later b1 (by simp [go_sem])
  have f1 : w1.frozen? ⟨w.heap.size + 2, 1, none⟩ = false := by rw [b1.frozen (by simp)]; simp [go_sem]
  simp only [World.size_alloc] at b1
  have z1 := b1.size
  simp only [World.size_alloc] at z1
  rw [hx]
  go_wp2_with fail
  refine (sVecOk_any _ _ _).mono ?_
  rintro e w2 ⟨rfl, b2⟩
  have z2 := b2.size
  replace p00 := cell_later b2 p00
  replace p01 := cell_later b2 p01
  replace p10 := cell_later b2 p10
  replace p11 := cell_later b2 p11
  replace f0 := (by rw [b2.frozen (World.block_lt_of_cell? _ _ r0)]; exact f0 : w2.frozen? _ = false)
  replace r0 := cell_later b2 r0
  replace f1 := (by rw [b2.frozen (World.block_lt_of_cell? _ _ r1)]; exact f1 : w2.frozen? _ = false)
  replace r1 := cell_later b2 r1
  rw [hy]
  go_wp2_with fail
  refine (l1Bin_yes _ _ _ _ _ _ hx hy h3 h13).mono ?_
  rintro e w3 ⟨rfl, b3⟩
  replace p00 := cell_later b3 p00
  replace p01 := cell_later b3 p01
  replace p10 := cell_later b3 p10
  replace p11 := cell_later b3 p11
  replace f0 := (by rw [b3.frozen (World.block_lt_of_cell? _ _ r0)]; exact f0 : w3.frozen? _ = false)
  replace r0 := cell_later b3 r0
  replace f1 := (by rw [b3.frozen (World.block_lt_of_cell? _ _ r1)]; exact f1 : w3.frozen? _ = false)
  replace r1 := cell_later b3 r1
  go_wp2
  have e1 := ((((Below.refl w.heap.size w).alloc (by simp <;> omega) (.cells #[.int .i64 a, .int .i64 x] 55)).alloc (by simp <;> omega) (.cells #[.int .i64 a, .int .i64 y] 55)).alloc (by simp <;> omega) (.cells #[.int .i64 0, .int .i64 0] 55)).trans (b1.mono (by omega))
  exact bodyPost_ret (v := yesV a (binN op a x y)) (by simp [results, Tryz.results53, go_sem, yesV, r0, r1]) rfl ⟨rfl, (((e1.trans (b2.mono (by omega))).trans (b3.mono (by omega))).setCell (by simp <;> omega) _).setCell (by simp <;> omega) _⟩
theorem sVecBin_any (op a x b y : Int) (w : World) :
    Calls Tryz.prog 53 #[.int .i64 op, .agg #[.int .i64 a, .int .i64 x], .agg #[.int .i64 b, .int .i64 y]] w fun e w' => e = .returned (binV op a x b y) ∧ Below w.heap.size w w' := by
  unfold binV
  by_cases hx : okB a x = true
  · by_cases hy : okB b y = true
    · rw [if_pos ⟨hx, hy⟩]
      by_cases h14 : op = 14
      · subst h14
        rw [if_pos rfl]
        by_cases h : a + b ≤ 4
        · rw [if_pos h]; exact sVecBin_cat a x b y w hx hy h
        · rw [if_neg h]; exact sVecBin_n3 a x b y w hx hy h
      · rw [if_neg h14]
        by_cases h : 3 ≤ op ∧ op ≤ 13
        · by_cases hab : a = b
          · subst hab
            rw [if_pos ⟨h, rfl⟩]; exact sVecBin_yes op a x y w hx hy h.1 h.2
          · rw [if_neg (fun k => hab k.2)]; exact sVecBin_n5 op a x b y w hx hy h.1 h.2 hab
        · rw [if_neg (fun k => h k.1)]; exact sVecBin_n4 op a x b y w hx hy (by omega) h14
    · rw [if_neg (fun k => hy k.2)]; exact sVecBin_n2 op a x b y w hx (by simpa using hy)
  · rw [if_neg (fun k => hx k.1)]; exact sVecBin_n1 op a x b y w (by simpa using hx)
end Go.Proofs.YtbincnedkclfgaaGreat
