/- What vecDone of the program returns at some of the operations of its rows. -/
import Derived.Test.YtfopmobopmdahaaGreatVecF
namespace Go.Proofs.YtfopmobopmdahaaGreat
open Go.ChangeShapes Go.WideShapes Go.ChangeAt Go.RowKit Go.Joins
set_option linter.unusedVariables false
attribute [local go_sem ↓] Go.wp_at_zero Go.wp_at_succ

set_option maxRecDepth 100000 in
set_option maxHeartbeats 2000000 in
theorem vecDone_1 (R : Nat) (a m n : Int) (w : World) (hR : R < w.heap.size) (hr : RowsAt w R unRowsL) (hx : okB a m = true) (hy : okB a n = true) :
    Calls Tryz.prog 130 #[.slice (some ⟨R, 0, none⟩) 2 2, .int .i64 1, .agg #[.int .i64 a, .int .i64 m], .agg #[.int .i64 a, .int .i64 n]] w fun e w' => e = .returned (yesV a (unN 1 a m)) ∧ Below w.heap.size w w' := by
  obtain ⟨h1, h2, h3, h4, h5⟩ := ok_of hx
  obtain ⟨_, _, g3, g4, g5⟩ := ok_of hy
  have hp : pairB a m a n = true := by simp [pairB, hx, hy]
  have hf : foundV unRowsL 1 = .tuple #[.func (.func 135) #[] #[], .bool true] := by kernel_rfl
  have HF := hide hf
  clear hf
  go_enter Tryz.func130, Tryz.ntmps130
  go_wp2_with fail
  refine (findDo_any unRowsL 2 R 1 _ rfl (by simp; omega) (by omega) (((hr.alloc _).alloc _).alloc _)).mono ?_
  rintro e w1 ⟨rfl, b1⟩
  have p00 : w1.cell? ⟨w.heap.size, 0, none⟩ = some (.int .i64 a) := cell_later b1 (by simp [go_sem])
  have p01 : w1.cell? ⟨w.heap.size, 1, none⟩ = some (.int .i64 m) := cell_later b1 (by simp [go_sem])
  have p10 : w1.cell? ⟨w.heap.size + 1, 0, none⟩ = some (.int .i64 a) := cell_later b1 (by simp [go_sem])
  have p11 : w1.cell? ⟨w.heap.size + 1, 1, none⟩ = some (.int .i64 n) := cell_later b1 (by simp [go_sem])
  have r0 : w1.cell? ⟨w.heap.size + 2, 0, none⟩ = some (.int .i64 0) := cell_later b1 (by simp [go_sem])
  have f0 : w1.frozen? ⟨w.heap.size + 2, 0, none⟩ = false := by rw [b1.frozen (by simp)]; simp [go_sem]
  have r1 : w1.cell? ⟨w.heap.size + 2, 1, none⟩ = some (.int .i64 0) := cell_later b1 (by simp [go_sem])
  have f1 : w1.frozen? ⟨w.heap.size + 2, 1, none⟩ = false := by rw [b1.frozen (by simp)]; simp [go_sem]
  simp only [World.size_alloc] at b1
  have z1 := b1.size
  simp only [World.size_alloc] at z1
  rw [unhide HF]
  go_wp2_with fail
  refine (vecPair_any _ _ _ _ _).mono ?_
  rintro e w2 ⟨rfl, b2⟩
  rw [hp]
  replace p00 := cell_later b2 p00
  replace p01 := cell_later b2 p01
  replace p10 := cell_later b2 p10
  replace p11 := cell_later b2 p11
  replace f0 := (by rw [b2.frozen (World.block_lt_of_cell? _ _ r0)]; exact f0 : w2.frozen? _ = false)
  replace r0 := cell_later b2 r0
  replace f1 := (by rw [b2.frozen (World.block_lt_of_cell? _ _ r1)]; exact f1 : w2.frozen? _ = false)
  replace r1 := cell_later b2 r1
  have y0 := World.block_lt_of_cell? _ _ r0
  have y1 := World.block_lt_of_cell? _ _ p10
  have y2 := World.block_lt_of_cell? _ _ p00
  simp only at y0 y1 y2
  have n0 : w.heap.size + 1 + 1 ≠ w.heap.size := by omega
  go_wp2
  go_region_held3 (fun w' => w'.cell? ⟨w.heap.size, 0, none⟩ = some (.int .i64 a) ∧ w'.cell? ⟨w.heap.size, 1, none⟩ = some (.int .i64 m) ∧ w'.cell? ⟨w.heap.size + 1, 1, none⟩ = some (.int .i64 n)) (first | go_keep | (simp [go_sem, *] <;> omega))
    (first | (go_at_call 134; refine (vec_any _ _ _ (by omega) (by omega) (by omega) (by omega)).mono ?_; rintro e w' ⟨rfl, rfl⟩) | (go_at_call 135; rw [wu m (by omega), wu n (by omega)]; refine (un1_any m n a _ hx hy).mono ?_; rintro e w' ⟨⟨x, rfl, x0, x1, hv⟩, rfl⟩))
  all_goals go_wp2
  have e1 := ((((Below.refl w.heap.size w).alloc (by simp <;> omega) (.cells #[.int .i64 a, .int .i64 m] 107)).alloc (by simp <;> omega) (.cells #[.int .i64 a, .int .i64 n] 107)).alloc (by simp <;> omega) (.cells #[.int .i64 0, .int .i64 0] 107)).trans (b1.mono (by omega))
  refine bodyPost_ret (v := yesV a (x % two a)) (by simp [results, Tryz.results130, go_sem, yesV, r0, r1, y0]) rfl ⟨by rw [unhide hv], ?_⟩
  exact ((((e1.trans (b2.mono (by omega))).setCell (by simp <;> omega) _).setCell (by simp <;> omega) _).alloc (by simp [World.setCell] <;> omega) _).drew
set_option maxRecDepth 100000 in
set_option maxHeartbeats 2000000 in
theorem vecDone_2 (R : Nat) (a m n : Int) (w : World) (hR : R < w.heap.size) (hr : RowsAt w R unRowsL) (hx : okB a m = true) (hy : okB a n = true) :
    Calls Tryz.prog 130 #[.slice (some ⟨R, 0, none⟩) 2 2, .int .i64 2, .agg #[.int .i64 a, .int .i64 m], .agg #[.int .i64 a, .int .i64 n]] w fun e w' => e = .returned (yesV a (unN 2 a m)) ∧ Below w.heap.size w w' := by
  obtain ⟨h1, h2, h3, h4, h5⟩ := ok_of hx
  obtain ⟨_, _, g3, g4, g5⟩ := ok_of hy
  have hp : pairB a m a n = true := by simp [pairB, hx, hy]
  have hf : foundV unRowsL 2 = .tuple #[.func (.func 136) #[] #[], .bool true] := by kernel_rfl
  have HF := hide hf
  clear hf
  go_enter Tryz.func130, Tryz.ntmps130
  go_wp2_with fail
  refine (findDo_any unRowsL 2 R 2 _ rfl (by simp; omega) (by omega) (((hr.alloc _).alloc _).alloc _)).mono ?_
  rintro e w1 ⟨rfl, b1⟩
  have p00 : w1.cell? ⟨w.heap.size, 0, none⟩ = some (.int .i64 a) := cell_later b1 (by simp [go_sem])
  have p01 : w1.cell? ⟨w.heap.size, 1, none⟩ = some (.int .i64 m) := cell_later b1 (by simp [go_sem])
  have p10 : w1.cell? ⟨w.heap.size + 1, 0, none⟩ = some (.int .i64 a) := cell_later b1 (by simp [go_sem])
  have p11 : w1.cell? ⟨w.heap.size + 1, 1, none⟩ = some (.int .i64 n) := cell_later b1 (by simp [go_sem])
  have r0 : w1.cell? ⟨w.heap.size + 2, 0, none⟩ = some (.int .i64 0) := cell_later b1 (by simp [go_sem])
  have f0 : w1.frozen? ⟨w.heap.size + 2, 0, none⟩ = false := by rw [b1.frozen (by simp)]; simp [go_sem]
  have r1 : w1.cell? ⟨w.heap.size + 2, 1, none⟩ = some (.int .i64 0) := cell_later b1 (by simp [go_sem])
  have f1 : w1.frozen? ⟨w.heap.size + 2, 1, none⟩ = false := by rw [b1.frozen (by simp)]; simp [go_sem]
  simp only [World.size_alloc] at b1
  have z1 := b1.size
  simp only [World.size_alloc] at z1
  rw [unhide HF]
  go_wp2_with fail
  refine (vecPair_any _ _ _ _ _).mono ?_
  rintro e w2 ⟨rfl, b2⟩
  rw [hp]
  replace p00 := cell_later b2 p00
  replace p01 := cell_later b2 p01
  replace p10 := cell_later b2 p10
  replace p11 := cell_later b2 p11
  replace f0 := (by rw [b2.frozen (World.block_lt_of_cell? _ _ r0)]; exact f0 : w2.frozen? _ = false)
  replace r0 := cell_later b2 r0
  replace f1 := (by rw [b2.frozen (World.block_lt_of_cell? _ _ r1)]; exact f1 : w2.frozen? _ = false)
  replace r1 := cell_later b2 r1
  have y0 := World.block_lt_of_cell? _ _ r0
  have y1 := World.block_lt_of_cell? _ _ p10
  have y2 := World.block_lt_of_cell? _ _ p00
  simp only at y0 y1 y2
  have n0 : w.heap.size + 1 + 1 ≠ w.heap.size := by omega
  go_wp2
  go_region_held3 (fun w' => w'.cell? ⟨w.heap.size, 0, none⟩ = some (.int .i64 a) ∧ w'.cell? ⟨w.heap.size, 1, none⟩ = some (.int .i64 m) ∧ w'.cell? ⟨w.heap.size + 1, 1, none⟩ = some (.int .i64 n)) (first | go_keep | (simp [go_sem, *] <;> omega))
    (first | (go_at_call 134; refine (vec_any _ _ _ (by omega) (by omega) (by omega) (by omega)).mono ?_; rintro e w' ⟨rfl, rfl⟩) | (go_at_call 136; rw [wu m (by omega), wu n (by omega)]; refine (un2_any m n a _ hx hy).mono ?_; rintro e w' ⟨⟨x, rfl, x0, x1, hv⟩, rfl⟩))
  all_goals go_wp2
  have e1 := ((((Below.refl w.heap.size w).alloc (by simp <;> omega) (.cells #[.int .i64 a, .int .i64 m] 107)).alloc (by simp <;> omega) (.cells #[.int .i64 a, .int .i64 n] 107)).alloc (by simp <;> omega) (.cells #[.int .i64 0, .int .i64 0] 107)).trans (b1.mono (by omega))
  refine bodyPost_ret (v := yesV a (x % two a)) (by simp [results, Tryz.results130, go_sem, yesV, r0, r1, y0]) rfl ⟨by rw [unhide hv], ?_⟩
  exact ((((e1.trans (b2.mono (by omega))).setCell (by simp <;> omega) _).setCell (by simp <;> omega) _).alloc (by simp [World.setCell] <;> omega) _).drew
end Go.Proofs.YtfopmobopmdahaaGreat
