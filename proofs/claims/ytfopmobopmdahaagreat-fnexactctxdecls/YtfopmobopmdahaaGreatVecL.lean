/- What vecCat and VecBin of the program return: as the model's. -/
import Derived.Test.YtfopmobopmdahaaGreatVecK
import Derived.Test.YtfopmobopmdahaaGreatVecG2
import Derived.Test.YtfopmobopmdahaaGreatVecG3
namespace Go.Proofs.YtfopmobopmdahaaGreat
open Go.ChangeShapes Go.WideShapes Go.ChangeAt Go.RowKit Go.Joins
set_option linter.unusedVariables false
attribute [local go_sem ↓] Go.wp_at_zero Go.wp_at_succ

theorem cat_tab : tab (fun b x y => !decide (1 ≤ b ∧ y < two b) || decide (bits .or .u32 (IntKind.u32.wrap (IntKind.u32.wrap x * 2 ^ b.toNat)) (IntKind.u32.wrap y) = x * two b + y)) = true := by decide +kernel
theorem cat_eq (x b y : Int) (i0 : 1 ≤ b) (i1 : b ≤ 4) (x0 : 0 ≤ x) (x1 : x < 16) (y0 : 0 ≤ y) (y1 : y < 16) (y2 : y < two b) : bits .or .u32 (IntKind.u32.wrap (IntKind.u32.wrap x * 2 ^ b.toNat)) (IntKind.u32.wrap y) = x * two b + y := by
  have h := tab_at cat_tab b x y (by omega) i1 x0 x1 y0 y1
  rw [Bool.or_eq_true, Bool.not_eq_true', decide_eq_false_iff_not, decide_eq_true_eq] at h
  exact h.resolve_left (fun k => k ⟨i0, y2⟩)
theorem cat_lt (a x b y : Int) (h : a + b ≤ 4) (a0 : 1 ≤ a) (b0 : 1 ≤ b) (x0 : 0 ≤ x) (x2 : x < two a) (y0 : 0 ≤ y) (y2 : y < two b) : 0 ≤ x * two b + y ∧ x * two b + y < two (a + b) := by
  rcases two_vals b (by omega) (by omega) with ⟨rfl, e⟩ | ⟨rfl, e⟩ | ⟨rfl, e⟩ | ⟨rfl, e⟩ | ⟨rfl, e⟩ <;> rw [e] at y2 ⊢ <;>
    rcases two_vals a (by omega) (by omega) with ⟨rfl, e'⟩ | ⟨rfl, e'⟩ | ⟨rfl, e'⟩ | ⟨rfl, e'⟩ | ⟨rfl, e'⟩ <;> rw [e'] at x2 <;> simp [two] <;> omega
set_option maxRecDepth 100000 in
set_option maxHeartbeats 2000000 in
theorem vecCat_n1 (a x b y : Int) (w : World) (hx : okB a x = false) :
    Calls Tryz.prog 141 #[.agg #[.int .i64 a, .int .i64 x], .agg #[.int .i64 b, .int .i64 y]] w fun e w' => e = .returned (noV) ∧ Below w.heap.size w w' := by
  go_enter Tryz.func141, Tryz.ntmps141
  go_wp2_with fail
  refine (iVecOk_any _ _ _).mono ?_
  rintro e w1 ⟨rfl, b1⟩
  have p00 : w1.cell? ⟨w.heap.size, 0, none⟩ = some (.int .i64 a) := cell_later b1 (by simp [go_sem])
  have p01 : w1.cell? ⟨w.heap.size, 1, none⟩ = some (.int .i64 x) := cell_later b1 (by simp [go_sem])
  have p10 : w1.cell? ⟨w.heap.size + 1, 0, none⟩ = some (.int .i64 b) := cell_later b1 (by simp [go_sem])
  have p11 : w1.cell? ⟨w.heap.size + 1, 1, none⟩ = some (.int .i64 y) := cell_later b1 (by simp [go_sem])
  have r0 : w1.cell? ⟨w.heap.size + 2, 0, none⟩ = some (.int .i64 0) := cell_later b1 (by simp [go_sem])
  have f0 : w1.frozen? ⟨w.heap.size + 2, 0, none⟩ = false := by rw [b1.frozen (by simp)]; simp [go_sem]
  have r1 : w1.cell? ⟨w.heap.size + 2, 1, none⟩ = some (.int .i64 0) := cell_later b1 (by simp [go_sem])
  have f1 : w1.frozen? ⟨w.heap.size + 2, 1, none⟩ = false := by rw [b1.frozen (by simp)]; simp [go_sem]
  simp only [World.size_alloc] at b1
  have z1 := b1.size
  simp only [World.size_alloc] at z1
  rw [hx]
  go_wp2
  have e1 := ((((Below.refl w.heap.size w).alloc (by simp <;> omega) (.cells #[.int .i64 a, .int .i64 x] 107)).alloc (by simp <;> omega) (.cells #[.int .i64 b, .int .i64 y] 107)).alloc (by simp <;> omega) (.cells #[.int .i64 0, .int .i64 0] 107)).trans (b1.mono (by omega))
  exact bodyPost_ret (v := noV) (by simp [results, Tryz.results141, go_sem, noV, r0, r1]) rfl ⟨rfl, (e1.setCell (by simp <;> omega) _).setCell (by simp <;> omega) _⟩
set_option maxRecDepth 100000 in
set_option maxHeartbeats 2000000 in
theorem vecCat_n2 (a x b y : Int) (w : World) (hx : okB a x = true) (hy : okB b y = false) :
    Calls Tryz.prog 141 #[.agg #[.int .i64 a, .int .i64 x], .agg #[.int .i64 b, .int .i64 y]] w fun e w' => e = .returned (noV) ∧ Below w.heap.size w w' := by
  go_enter Tryz.func141, Tryz.ntmps141
  go_wp2_with fail
  refine (iVecOk_any _ _ _).mono ?_
  rintro e w1 ⟨rfl, b1⟩
  have p00 : w1.cell? ⟨w.heap.size, 0, none⟩ = some (.int .i64 a) := cell_later b1 (by simp [go_sem])
  have p01 : w1.cell? ⟨w.heap.size, 1, none⟩ = some (.int .i64 x) := cell_later b1 (by simp [go_sem])
  have p10 : w1.cell? ⟨w.heap.size + 1, 0, none⟩ = some (.int .i64 b) := cell_later b1 (by simp [go_sem])
  have p11 : w1.cell? ⟨w.heap.size + 1, 1, none⟩ = some (.int .i64 y) := cell_later b1 (by simp [go_sem])
  have r0 : w1.cell? ⟨w.heap.size + 2, 0, none⟩ = some (.int .i64 0) := cell_later b1 (by simp [go_sem])
  have f0 : w1.frozen? ⟨w.heap.size + 2, 0, none⟩ = false := by rw [b1.frozen (by simp)]; simp [go_sem]
  have r1 : w1.cell? ⟨w.heap.size + 2, 1, none⟩ = some (.int .i64 0) := cell_later b1 (by simp [go_sem])
  have f1 : w1.frozen? ⟨w.heap.size + 2, 1, none⟩ = false := by rw [b1.frozen (by simp)]; simp [go_sem]
  simp only [World.size_alloc] at b1
  have z1 := b1.size
  simp only [World.size_alloc] at z1
  rw [hx]
  go_wp2_with fail
  refine (iVecOk_any _ _ _).mono ?_
  rintro e w2 ⟨rfl, b2⟩
  have z2 := b2.size
  replace p00 := cell_later b2 p00
  replace p01 := cell_later b2 p01
  replace p10 := cell_later b2 p10
  replace p11 := cell_later b2 p11
  replace f0 := (by rw [b2.frozen (World.block_lt_of_cell? _ _ r0)]; exact f0 : w2.frozen? _ = false)
  replace r0 := cell_later b2 r0
  replace f1 := (by rw [b2.frozen (World.block_lt_of_cell? _ _ r1)]; exact f1 : w2.frozen? _ = false)
  replace r1 := cell_later b2 r1
  rw [hy]
  go_wp2
  have e1 := ((((Below.refl w.heap.size w).alloc (by simp <;> omega) (.cells #[.int .i64 a, .int .i64 x] 107)).alloc (by simp <;> omega) (.cells #[.int .i64 b, .int .i64 y] 107)).alloc (by simp <;> omega) (.cells #[.int .i64 0, .int .i64 0] 107)).trans (b1.mono (by omega))
  exact bodyPost_ret (v := noV) (by simp [results, Tryz.results141, go_sem, noV, r0, r1]) rfl ⟨rfl, ((e1.trans (b2.mono (by omega))).setCell (by simp <;> omega) _).setCell (by simp <;> omega) _⟩
set_option maxRecDepth 100000 in
set_option maxHeartbeats 2000000 in
theorem vecCat_n3 (a x b y : Int) (w : World) (hx : okB a x = true) (hy : okB b y = true) (h : ¬ a + b ≤ 4) :
    Calls Tryz.prog 141 #[.agg #[.int .i64 a, .int .i64 x], .agg #[.int .i64 b, .int .i64 y]] w fun e w' => e = .returned (noV) ∧ Below w.heap.size w w' := by
  obtain ⟨h1, h2, h3, h4, h5⟩ := ok_of hx
  obtain ⟨g1, g2, g3, g4, g5⟩ := ok_of hy
  go_enter Tryz.func141, Tryz.ntmps141
  go_wp2_with fail
  refine (iVecOk_any _ _ _).mono ?_
  rintro e w1 ⟨rfl, b1⟩
  have p00 : w1.cell? ⟨w.heap.size, 0, none⟩ = some (.int .i64 a) := cell_later b1 (by simp [go_sem])
  have p01 : w1.cell? ⟨w.heap.size, 1, none⟩ = some (.int .i64 x) := cell_later b1 (by simp [go_sem])
  have p10 : w1.cell? ⟨w.heap.size + 1, 0, none⟩ = some (.int .i64 b) := cell_later b1 (by simp [go_sem])
  have p11 : w1.cell? ⟨w.heap.size + 1, 1, none⟩ = some (.int .i64 y) := cell_later b1 (by simp [go_sem])
  have r0 : w1.cell? ⟨w.heap.size + 2, 0, none⟩ = some (.int .i64 0) := cell_later b1 (by simp [go_sem])
  have f0 : w1.frozen? ⟨w.heap.size + 2, 0, none⟩ = false := by rw [b1.frozen (by simp)]; simp [go_sem]
  have r1 : w1.cell? ⟨w.heap.size + 2, 1, none⟩ = some (.int .i64 0) := cell_later b1 (by simp [go_sem])
  have f1 : w1.frozen? ⟨w.heap.size + 2, 1, none⟩ = false := by rw [b1.frozen (by simp)]; simp [go_sem]
  simp only [World.size_alloc] at b1
  have z1 := b1.size
  simp only [World.size_alloc] at z1
  rw [hx]
  go_wp2_with fail
  refine (iVecOk_any _ _ _).mono ?_
  rintro e w2 ⟨rfl, b2⟩
  have z2 := b2.size
  replace p00 := cell_later b2 p00
  replace p01 := cell_later b2 p01
  replace p10 := cell_later b2 p10
  replace p11 := cell_later b2 p11
  replace f0 := (by rw [b2.frozen (World.block_lt_of_cell? _ _ r0)]; exact f0 : w2.frozen? _ = false)
  replace r0 := cell_later b2 r0
  replace f1 := (by rw [b2.frozen (World.block_lt_of_cell? _ _ r1)]; exact f1 : w2.frozen? _ = false)
  replace r1 := cell_later b2 r1
  rw [hy]
  go_wp2
  have e1 := ((((Below.refl w.heap.size w).alloc (by simp <;> omega) (.cells #[.int .i64 a, .int .i64 x] 107)).alloc (by simp <;> omega) (.cells #[.int .i64 b, .int .i64 y] 107)).alloc (by simp <;> omega) (.cells #[.int .i64 0, .int .i64 0] 107)).trans (b1.mono (by omega))
  exact bodyPost_ret (v := noV) (by simp [results, Tryz.results141, go_sem, noV, r0, r1]) rfl ⟨rfl, ((e1.trans (b2.mono (by omega))).setCell (by simp <;> omega) _).setCell (by simp <;> omega) _⟩
set_option maxRecDepth 100000 in
set_option maxHeartbeats 2000000 in
theorem vecCat_yes (a x b y : Int) (w : World) (hx : okB a x = true) (hy : okB b y = true) (h : a + b ≤ 4) :
    Calls Tryz.prog 141 #[.agg #[.int .i64 a, .int .i64 x], .agg #[.int .i64 b, .int .i64 y]] w fun e w' => e = .returned (yesV (a + b) (x * two b + y)) ∧ Below w.heap.size w w' := by
  obtain ⟨h1, h2, h3, h4, h5⟩ := ok_of hx
  obtain ⟨g1, g2, g3, g4, g5⟩ := ok_of hy
  have n0 : w.heap.size + 1 + 1 ≠ w.heap.size := by omega
  have HC := hide (cat_eq x b y g1 g2 h3 h5 g3 g5 g4)
  have HA := hide (wr (a + b) (by omega))
  have hl := cat_lt a x b y h h1 g1 h3 h4 g3 g4
  have hl2 : x * two b + y ≤ 4294967295 := by have := two_bd (a + b) (by omega) h; omega
  have HM := hide (Int.emod_eq_of_lt hl.1 hl.2)
  have hl1 := hl.1
  clear hl
  go_enter Tryz.func141, Tryz.ntmps141
  go_wp2_with fail
  refine (iVecOk_any _ _ _).mono ?_
  rintro e w1 ⟨rfl, b1⟩
  have p00 : w1.cell? ⟨w.heap.size, 0, none⟩ = some (.int .i64 a) := cell_later b1 (by simp [go_sem])
  have p01 : w1.cell? ⟨w.heap.size, 1, none⟩ = some (.int .i64 x) := cell_later b1 (by simp [go_sem])
  have p10 : w1.cell? ⟨w.heap.size + 1, 0, none⟩ = some (.int .i64 b) := cell_later b1 (by simp [go_sem])
  have p11 : w1.cell? ⟨w.heap.size + 1, 1, none⟩ = some (.int .i64 y) := cell_later b1 (by simp [go_sem])
  have r0 : w1.cell? ⟨w.heap.size + 2, 0, none⟩ = some (.int .i64 0) := cell_later b1 (by simp [go_sem])
  have f0 : w1.frozen? ⟨w.heap.size + 2, 0, none⟩ = false := by rw [b1.frozen (by simp)]; simp [go_sem]
  have r1 : w1.cell? ⟨w.heap.size + 2, 1, none⟩ = some (.int .i64 0) := cell_later b1 (by simp [go_sem])
  have f1 : w1.frozen? ⟨w.heap.size + 2, 1, none⟩ = false := by rw [b1.frozen (by simp)]; simp [go_sem]
  simp only [World.size_alloc] at b1
  have z1 := b1.size
  simp only [World.size_alloc] at z1
  rw [hx]
  go_wp2_with fail
  refine (iVecOk_any _ _ _).mono ?_
  rintro e w2 ⟨rfl, b2⟩
  have z2 := b2.size
  replace p00 := cell_later b2 p00
  replace p01 := cell_later b2 p01
  replace p10 := cell_later b2 p10
  replace p11 := cell_later b2 p11
  replace f0 := (by rw [b2.frozen (World.block_lt_of_cell? _ _ r0)]; exact f0 : w2.frozen? _ = false)
  replace r0 := cell_later b2 r0
  replace f1 := (by rw [b2.frozen (World.block_lt_of_cell? _ _ r1)]; exact f1 : w2.frozen? _ = false)
  replace r1 := cell_later b2 r1
  rw [hy]
  have y0 := World.block_lt_of_cell? _ _ r0
  have y1 := World.block_lt_of_cell? _ _ p10
  have y2 := World.block_lt_of_cell? _ _ p00
  simp only at y0 y1 y2
  go_wp2
  go_region_held3 (fun w' => w'.cell? ⟨w.heap.size, 0, none⟩ = some (.int .i64 a) ∧ w'.cell? ⟨w.heap.size, 1, none⟩ = some (.int .i64 x) ∧ w'.cell? ⟨w.heap.size + 1, 0, none⟩ = some (.int .i64 b) ∧ w'.cell? ⟨w.heap.size + 1, 1, none⟩ = some (.int .i64 y)) (go_keep)
    (first | (go_at_call 134; rw [unhide HC, unhide HA]; refine (vec_any _ _ _ (by omega) (by omega) (by omega) (by omega)).mono ?_; rintro e w' ⟨rfl, rfl⟩))
  all_goals go_wp2
  have e1 := ((((Below.refl w.heap.size w).alloc (by simp <;> omega) (.cells #[.int .i64 a, .int .i64 x] 107)).alloc (by simp <;> omega) (.cells #[.int .i64 b, .int .i64 y] 107)).alloc (by simp <;> omega) (.cells #[.int .i64 0, .int .i64 0] 107)).trans (b1.mono (by omega))
  refine bodyPost_ret (v := yesV (a + b) ((x * two b + y) % two (a + b))) (by simp [results, Tryz.results141, go_sem, yesV, r0, r1, y0]) rfl ⟨by rw [unhide HM], ?_⟩
  exact ((((e1.trans (b2.mono (by omega))).setCell (by simp <;> omega) _).setCell (by simp <;> omega) _).alloc (by simp [World.setCell] <;> omega) _).drew
theorem vecCat_any (a x b y : Int) (w : World) :
    Calls Tryz.prog 141 #[.agg #[.int .i64 a, .int .i64 x], .agg #[.int .i64 b, .int .i64 y]] w fun e w' => e = .returned (binV 14 a x b y) ∧ Below w.heap.size w w' := by
  unfold binV
  by_cases hx : okB a x = true
  · by_cases hy : okB b y = true
    · rw [if_pos ⟨hx, hy⟩, if_pos rfl]
      by_cases h : a + b ≤ 4
      · rw [if_pos h]; exact vecCat_yes a x b y w hx hy h
      · rw [if_neg h]; exact vecCat_n3 a x b y w hx hy h
    · rw [if_neg (fun k => hy k.2)]; exact vecCat_n2 a x b y w hx (by simpa using hy)
  · rw [if_neg (fun k => hx k.1)]; exact vecCat_n1 a x b y w (by simpa using hx)
set_option maxRecDepth 100000 in
set_option maxHeartbeats 2000000 in
theorem iVecBin_cat (a x b y : Int) (w : World) :
    Calls Tryz.prog 140 #[.int .i64 14, .agg #[.int .i64 a, .int .i64 x], .agg #[.int .i64 b, .int .i64 y]] w fun e w' => e = .returned (binV 14 a x b y) ∧ Below w.heap.size w w' := by
  have hc := fun w => vecCat_any a x b y w
  obtain ⟨c, d, t, hV⟩ := binV_form 14 a x b y
  rw [hV]
  simp only [hV] at hc
  have HC := hide hc
  clear hV hc
  go_enter Tryz.func140, Tryz.ntmps140
  go_wp2_with fail
  refine (unhide HC _).mono ?_
  rintro e w1 ⟨rfl, b1⟩
  have p00 : w1.cell? ⟨w.heap.size, 0, none⟩ = some (.int .i64 a) := cell_later b1 (by simp [go_sem])
  have p01 : w1.cell? ⟨w.heap.size, 1, none⟩ = some (.int .i64 x) := cell_later b1 (by simp [go_sem])
  have p10 : w1.cell? ⟨w.heap.size + 1, 0, none⟩ = some (.int .i64 b) := cell_later b1 (by simp [go_sem])
  have p11 : w1.cell? ⟨w.heap.size + 1, 1, none⟩ = some (.int .i64 y) := cell_later b1 (by simp [go_sem])
  have r0 : w1.cell? ⟨w.heap.size + 2, 0, none⟩ = some (.int .i64 0) := cell_later b1 (by simp [go_sem])
  have f0 : w1.frozen? ⟨w.heap.size + 2, 0, none⟩ = false := by rw [b1.frozen (by simp)]; simp [go_sem]
  have r1 : w1.cell? ⟨w.heap.size + 2, 1, none⟩ = some (.int .i64 0) := cell_later b1 (by simp [go_sem])
  have f1 : w1.frozen? ⟨w.heap.size + 2, 1, none⟩ = false := by rw [b1.frozen (by simp)]; simp [go_sem]
  simp only [World.size_alloc] at b1
  go_wp2
  have e1 := ((((Below.refl w.heap.size w).alloc (by simp <;> omega) (.cells #[.int .i64 a, .int .i64 x] 107)).alloc (by simp <;> omega) (.cells #[.int .i64 b, .int .i64 y] 107)).alloc (by simp <;> omega) (.cells #[.int .i64 0, .int .i64 0] 107)).trans (b1.mono (by omega))
  exact bodyPost_ret (v := .tuple #[.agg #[.int .i64 c, .int .i64 d], .bool t]) (by simp [results, Tryz.results140, go_sem, r0, r1]) rfl ⟨rfl, (e1.setCell (by simp <;> omega) _).setCell (by simp <;> omega) _⟩
set_option maxRecDepth 100000 in
set_option maxHeartbeats 2000000 in
theorem iVecBin_3 (a x y : Int) (w : World) (hx : okB a x = true) (hy : okB a y = true) :
    Calls Tryz.prog 140 #[.int .i64 3, .agg #[.int .i64 a, .int .i64 x], .agg #[.int .i64 a, .int .i64 y]] w fun e w' => e = .returned (yesV a (binN 3 a x y)) ∧ Below w.heap.size w w' := by
  have n0 : w.heap.size + 1 + 1 ≠ w.heap.size := by omega
  go_enter Tryz.func140, Tryz.ntmps140
  go_wp2
  go_region_held3 (fun w' => w'.cell? ⟨w.heap.size, 0, none⟩ = some (.int .i64 a) ∧ w'.cell? ⟨w.heap.size, 1, none⟩ = some (.int .i64 x) ∧ w'.cell? ⟨w.heap.size + 1, 0, none⟩ = some (.int .i64 a) ∧ w'.cell? ⟨w.heap.size + 1, 1, none⟩ = some (.int .i64 y)) (first | go_keep | exact ⟨p00, p01, p10, p11⟩)
    (first | (go_at_call 142; refine (binRows_any _ (w.heap.size + 1 + 1 + 1) (by simp)).mono ?_; rintro e wu ⟨rfl, hru, hzu, bu⟩; have p00 := cell_later bu (a := ⟨w.heap.size, 0, none⟩) (v := .int .i64 a) (by simp [go_sem]); have p01 := cell_later bu (a := ⟨w.heap.size, 1, none⟩) (v := .int .i64 x) (by simp [go_sem]); have p10 := cell_later bu (a := ⟨w.heap.size + 1, 0, none⟩) (v := .int .i64 a) (by simp [go_sem]); have p11 := cell_later bu (a := ⟨w.heap.size + 1, 1, none⟩) (v := .int .i64 y) (by simp [go_sem]); have f0 := frozen_later bu (p := ⟨w.heap.size + 2, 0, none⟩) (v := .int .i64 0) (by simp [go_sem]) (by simp [go_sem]); have r0 := cell_later bu (a := ⟨w.heap.size + 2, 0, none⟩) (v := .int .i64 0) (by simp [go_sem]); have f1 := frozen_later bu (p := ⟨w.heap.size + 2, 1, none⟩) (v := .int .i64 0) (by simp [go_sem]) (by simp [go_sem]); have r1 := cell_later bu (a := ⟨w.heap.size + 2, 1, none⟩) (v := .int .i64 0) (by simp [go_sem])) | (go_at_call 130; refine (vecDone_3 _ a x y _ hzu hru hx hy).mono ?_; rintro e wd ⟨rfl, bd⟩; unfold yesV; have p00 := cell_later bd (a := ⟨w.heap.size, 0, none⟩) (v := .int .i64 a) p00; have p01 := cell_later bd (a := ⟨w.heap.size, 1, none⟩) (v := .int .i64 x) p01; have p10 := cell_later bd (a := ⟨w.heap.size + 1, 0, none⟩) (v := .int .i64 a) p10; have p11 := cell_later bd (a := ⟨w.heap.size + 1, 1, none⟩) (v := .int .i64 y) p11; have f0 := frozen_later bd (p := ⟨w.heap.size + 2, 0, none⟩) (v := .int .i64 0) r0 f0; have r0 := cell_later bd (a := ⟨w.heap.size + 2, 0, none⟩) (v := .int .i64 0) r0; have f1 := frozen_later bd (p := ⟨w.heap.size + 2, 1, none⟩) (v := .int .i64 0) r1 f1; have r1 := cell_later bd (a := ⟨w.heap.size + 2, 1, none⟩) (v := .int .i64 0) r1))
  all_goals go_wp2
  have e0 := (((((Below.refl w.heap.size w).alloc (by simp <;> omega) (.cells #[.int .i64 a, .int .i64 x] 107)).alloc (by simp <;> omega) (.cells #[.int .i64 a, .int .i64 y] 107)).alloc (by simp <;> omega) (.cells #[.int .i64 0, .int .i64 0] 107)).drew).trans (bu.mono (by simp <;> omega))
  have e1 := e0.trans (bd.mono (by omega))
  exact bodyPost_ret (v := yesV a (binN 3 a x y)) (by simp [results, Tryz.results140, go_sem, yesV, r0, r1]) rfl ⟨rfl, (e1.setCell (by simp <;> omega) _).setCell (by simp <;> omega) _⟩
set_option maxRecDepth 100000 in
set_option maxHeartbeats 2000000 in
theorem iVecBin_4 (a x y : Int) (w : World) (hx : okB a x = true) (hy : okB a y = true) :
    Calls Tryz.prog 140 #[.int .i64 4, .agg #[.int .i64 a, .int .i64 x], .agg #[.int .i64 a, .int .i64 y]] w fun e w' => e = .returned (yesV a (binN 4 a x y)) ∧ Below w.heap.size w w' := by
  have n0 : w.heap.size + 1 + 1 ≠ w.heap.size := by omega
  go_enter Tryz.func140, Tryz.ntmps140
  go_wp2
  go_region_held3 (fun w' => w'.cell? ⟨w.heap.size, 0, none⟩ = some (.int .i64 a) ∧ w'.cell? ⟨w.heap.size, 1, none⟩ = some (.int .i64 x) ∧ w'.cell? ⟨w.heap.size + 1, 0, none⟩ = some (.int .i64 a) ∧ w'.cell? ⟨w.heap.size + 1, 1, none⟩ = some (.int .i64 y)) (first | go_keep | exact ⟨p00, p01, p10, p11⟩)
    (first | (go_at_call 142; refine (binRows_any _ (w.heap.size + 1 + 1 + 1) (by simp)).mono ?_; rintro e wu ⟨rfl, hru, hzu, bu⟩; have p00 := cell_later bu (a := ⟨w.heap.size, 0, none⟩) (v := .int .i64 a) (by simp [go_sem]); have p01 := cell_later bu (a := ⟨w.heap.size, 1, none⟩) (v := .int .i64 x) (by simp [go_sem]); have p10 := cell_later bu (a := ⟨w.heap.size + 1, 0, none⟩) (v := .int .i64 a) (by simp [go_sem]); have p11 := cell_later bu (a := ⟨w.heap.size + 1, 1, none⟩) (v := .int .i64 y) (by simp [go_sem]); have f0 := frozen_later bu (p := ⟨w.heap.size + 2, 0, none⟩) (v := .int .i64 0) (by simp [go_sem]) (by simp [go_sem]); have r0 := cell_later bu (a := ⟨w.heap.size + 2, 0, none⟩) (v := .int .i64 0) (by simp [go_sem]); have f1 := frozen_later bu (p := ⟨w.heap.size + 2, 1, none⟩) (v := .int .i64 0) (by simp [go_sem]) (by simp [go_sem]); have r1 := cell_later bu (a := ⟨w.heap.size + 2, 1, none⟩) (v := .int .i64 0) (by simp [go_sem])) | (go_at_call 130; refine (vecDone_4 _ a x y _ hzu hru hx hy).mono ?_; rintro e wd ⟨rfl, bd⟩; unfold yesV; have p00 := cell_later bd (a := ⟨w.heap.size, 0, none⟩) (v := .int .i64 a) p00; have p01 := cell_later bd (a := ⟨w.heap.size, 1, none⟩) (v := .int .i64 x) p01; have p10 := cell_later bd (a := ⟨w.heap.size + 1, 0, none⟩) (v := .int .i64 a) p10; have p11 := cell_later bd (a := ⟨w.heap.size + 1, 1, none⟩) (v := .int .i64 y) p11; have f0 := frozen_later bd (p := ⟨w.heap.size + 2, 0, none⟩) (v := .int .i64 0) r0 f0; have r0 := cell_later bd (a := ⟨w.heap.size + 2, 0, none⟩) (v := .int .i64 0) r0; have f1 := frozen_later bd (p := ⟨w.heap.size + 2, 1, none⟩) (v := .int .i64 0) r1 f1; have r1 := cell_later bd (a := ⟨w.heap.size + 2, 1, none⟩) (v := .int .i64 0) r1))
  all_goals go_wp2
  have e0 := (((((Below.refl w.heap.size w).alloc (by simp <;> omega) (.cells #[.int .i64 a, .int .i64 x] 107)).alloc (by simp <;> omega) (.cells #[.int .i64 a, .int .i64 y] 107)).alloc (by simp <;> omega) (.cells #[.int .i64 0, .int .i64 0] 107)).drew).trans (bu.mono (by simp <;> omega))
  have e1 := e0.trans (bd.mono (by omega))
  exact bodyPost_ret (v := yesV a (binN 4 a x y)) (by simp [results, Tryz.results140, go_sem, yesV, r0, r1]) rfl ⟨rfl, (e1.setCell (by simp <;> omega) _).setCell (by simp <;> omega) _⟩
set_option maxRecDepth 100000 in
set_option maxHeartbeats 2000000 in
theorem iVecBin_5 (a x y : Int) (w : World) (hx : okB a x = true) (hy : okB a y = true) :
    Calls Tryz.prog 140 #[.int .i64 5, .agg #[.int .i64 a, .int .i64 x], .agg #[.int .i64 a, .int .i64 y]] w fun e w' => e = .returned (yesV a (binN 5 a x y)) ∧ Below w.heap.size w w' := by
  have n0 : w.heap.size + 1 + 1 ≠ w.heap.size := by omega
  go_enter Tryz.func140, Tryz.ntmps140
  go_wp2
  go_region_held3 (fun w' => w'.cell? ⟨w.heap.size, 0, none⟩ = some (.int .i64 a) ∧ w'.cell? ⟨w.heap.size, 1, none⟩ = some (.int .i64 x) ∧ w'.cell? ⟨w.heap.size + 1, 0, none⟩ = some (.int .i64 a) ∧ w'.cell? ⟨w.heap.size + 1, 1, none⟩ = some (.int .i64 y)) (first | go_keep | exact ⟨p00, p01, p10, p11⟩)
    (first | (go_at_call 142; refine (binRows_any _ (w.heap.size + 1 + 1 + 1) (by simp)).mono ?_; rintro e wu ⟨rfl, hru, hzu, bu⟩; have p00 := cell_later bu (a := ⟨w.heap.size, 0, none⟩) (v := .int .i64 a) (by simp [go_sem]); have p01 := cell_later bu (a := ⟨w.heap.size, 1, none⟩) (v := .int .i64 x) (by simp [go_sem]); have p10 := cell_later bu (a := ⟨w.heap.size + 1, 0, none⟩) (v := .int .i64 a) (by simp [go_sem]); have p11 := cell_later bu (a := ⟨w.heap.size + 1, 1, none⟩) (v := .int .i64 y) (by simp [go_sem]); have f0 := frozen_later bu (p := ⟨w.heap.size + 2, 0, none⟩) (v := .int .i64 0) (by simp [go_sem]) (by simp [go_sem]); have r0 := cell_later bu (a := ⟨w.heap.size + 2, 0, none⟩) (v := .int .i64 0) (by simp [go_sem]); have f1 := frozen_later bu (p := ⟨w.heap.size + 2, 1, none⟩) (v := .int .i64 0) (by simp [go_sem]) (by simp [go_sem]); have r1 := cell_later bu (a := ⟨w.heap.size + 2, 1, none⟩) (v := .int .i64 0) (by simp [go_sem])) | (go_at_call 130; refine (vecDone_5 _ a x y _ hzu hru hx hy).mono ?_; rintro e wd ⟨rfl, bd⟩; unfold yesV; have p00 := cell_later bd (a := ⟨w.heap.size, 0, none⟩) (v := .int .i64 a) p00; have p01 := cell_later bd (a := ⟨w.heap.size, 1, none⟩) (v := .int .i64 x) p01; have p10 := cell_later bd (a := ⟨w.heap.size + 1, 0, none⟩) (v := .int .i64 a) p10; have p11 := cell_later bd (a := ⟨w.heap.size + 1, 1, none⟩) (v := .int .i64 y) p11; have f0 := frozen_later bd (p := ⟨w.heap.size + 2, 0, none⟩) (v := .int .i64 0) r0 f0; have r0 := cell_later bd (a := ⟨w.heap.size + 2, 0, none⟩) (v := .int .i64 0) r0; have f1 := frozen_later bd (p := ⟨w.heap.size + 2, 1, none⟩) (v := .int .i64 0) r1 f1; have r1 := cell_later bd (a := ⟨w.heap.size + 2, 1, none⟩) (v := .int .i64 0) r1))
  all_goals go_wp2
  have e0 := (((((Below.refl w.heap.size w).alloc (by simp <;> omega) (.cells #[.int .i64 a, .int .i64 x] 107)).alloc (by simp <;> omega) (.cells #[.int .i64 a, .int .i64 y] 107)).alloc (by simp <;> omega) (.cells #[.int .i64 0, .int .i64 0] 107)).drew).trans (bu.mono (by simp <;> omega))
  have e1 := e0.trans (bd.mono (by omega))
  exact bodyPost_ret (v := yesV a (binN 5 a x y)) (by simp [results, Tryz.results140, go_sem, yesV, r0, r1]) rfl ⟨rfl, (e1.setCell (by simp <;> omega) _).setCell (by simp <;> omega) _⟩
set_option maxRecDepth 100000 in
set_option maxHeartbeats 2000000 in
theorem iVecBin_6 (a x y : Int) (w : World) (hx : okB a x = true) (hy : okB a y = true) :
    Calls Tryz.prog 140 #[.int .i64 6, .agg #[.int .i64 a, .int .i64 x], .agg #[.int .i64 a, .int .i64 y]] w fun e w' => e = .returned (yesV a (binN 6 a x y)) ∧ Below w.heap.size w w' := by
  have n0 : w.heap.size + 1 + 1 ≠ w.heap.size := by omega
  go_enter Tryz.func140, Tryz.ntmps140
  go_wp2
  go_region_held3 (fun w' => w'.cell? ⟨w.heap.size, 0, none⟩ = some (.int .i64 a) ∧ w'.cell? ⟨w.heap.size, 1, none⟩ = some (.int .i64 x) ∧ w'.cell? ⟨w.heap.size + 1, 0, none⟩ = some (.int .i64 a) ∧ w'.cell? ⟨w.heap.size + 1, 1, none⟩ = some (.int .i64 y)) (first | go_keep | exact ⟨p00, p01, p10, p11⟩)
    (first | (go_at_call 142; refine (binRows_any _ (w.heap.size + 1 + 1 + 1) (by simp)).mono ?_; rintro e wu ⟨rfl, hru, hzu, bu⟩; have p00 := cell_later bu (a := ⟨w.heap.size, 0, none⟩) (v := .int .i64 a) (by simp [go_sem]); have p01 := cell_later bu (a := ⟨w.heap.size, 1, none⟩) (v := .int .i64 x) (by simp [go_sem]); have p10 := cell_later bu (a := ⟨w.heap.size + 1, 0, none⟩) (v := .int .i64 a) (by simp [go_sem]); have p11 := cell_later bu (a := ⟨w.heap.size + 1, 1, none⟩) (v := .int .i64 y) (by simp [go_sem]); have f0 := frozen_later bu (p := ⟨w.heap.size + 2, 0, none⟩) (v := .int .i64 0) (by simp [go_sem]) (by simp [go_sem]); have r0 := cell_later bu (a := ⟨w.heap.size + 2, 0, none⟩) (v := .int .i64 0) (by simp [go_sem]); have f1 := frozen_later bu (p := ⟨w.heap.size + 2, 1, none⟩) (v := .int .i64 0) (by simp [go_sem]) (by simp [go_sem]); have r1 := cell_later bu (a := ⟨w.heap.size + 2, 1, none⟩) (v := .int .i64 0) (by simp [go_sem])) | (go_at_call 130; refine (vecDone_6 _ a x y _ hzu hru hx hy).mono ?_; rintro e wd ⟨rfl, bd⟩; unfold yesV; have p00 := cell_later bd (a := ⟨w.heap.size, 0, none⟩) (v := .int .i64 a) p00; have p01 := cell_later bd (a := ⟨w.heap.size, 1, none⟩) (v := .int .i64 x) p01; have p10 := cell_later bd (a := ⟨w.heap.size + 1, 0, none⟩) (v := .int .i64 a) p10; have p11 := cell_later bd (a := ⟨w.heap.size + 1, 1, none⟩) (v := .int .i64 y) p11; have f0 := frozen_later bd (p := ⟨w.heap.size + 2, 0, none⟩) (v := .int .i64 0) r0 f0; have r0 := cell_later bd (a := ⟨w.heap.size + 2, 0, none⟩) (v := .int .i64 0) r0; have f1 := frozen_later bd (p := ⟨w.heap.size + 2, 1, none⟩) (v := .int .i64 0) r1 f1; have r1 := cell_later bd (a := ⟨w.heap.size + 2, 1, none⟩) (v := .int .i64 0) r1))
  all_goals go_wp2
  have e0 := (((((Below.refl w.heap.size w).alloc (by simp <;> omega) (.cells #[.int .i64 a, .int .i64 x] 107)).alloc (by simp <;> omega) (.cells #[.int .i64 a, .int .i64 y] 107)).alloc (by simp <;> omega) (.cells #[.int .i64 0, .int .i64 0] 107)).drew).trans (bu.mono (by simp <;> omega))
  have e1 := e0.trans (bd.mono (by omega))
  exact bodyPost_ret (v := yesV a (binN 6 a x y)) (by simp [results, Tryz.results140, go_sem, yesV, r0, r1]) rfl ⟨rfl, (e1.setCell (by simp <;> omega) _).setCell (by simp <;> omega) _⟩
set_option maxRecDepth 100000 in
set_option maxHeartbeats 2000000 in
theorem iVecBin_7 (a x y : Int) (w : World) (hx : okB a x = true) (hy : okB a y = true) :
    Calls Tryz.prog 140 #[.int .i64 7, .agg #[.int .i64 a, .int .i64 x], .agg #[.int .i64 a, .int .i64 y]] w fun e w' => e = .returned (yesV a (binN 7 a x y)) ∧ Below w.heap.size w w' := by
  have n0 : w.heap.size + 1 + 1 ≠ w.heap.size := by omega
  go_enter Tryz.func140, Tryz.ntmps140
  go_wp2
  go_region_held3 (fun w' => w'.cell? ⟨w.heap.size, 0, none⟩ = some (.int .i64 a) ∧ w'.cell? ⟨w.heap.size, 1, none⟩ = some (.int .i64 x) ∧ w'.cell? ⟨w.heap.size + 1, 0, none⟩ = some (.int .i64 a) ∧ w'.cell? ⟨w.heap.size + 1, 1, none⟩ = some (.int .i64 y)) (first | go_keep | exact ⟨p00, p01, p10, p11⟩)
    (first | (go_at_call 142; refine (binRows_any _ (w.heap.size + 1 + 1 + 1) (by simp)).mono ?_; rintro e wu ⟨rfl, hru, hzu, bu⟩; have p00 := cell_later bu (a := ⟨w.heap.size, 0, none⟩) (v := .int .i64 a) (by simp [go_sem]); have p01 := cell_later bu (a := ⟨w.heap.size, 1, none⟩) (v := .int .i64 x) (by simp [go_sem]); have p10 := cell_later bu (a := ⟨w.heap.size + 1, 0, none⟩) (v := .int .i64 a) (by simp [go_sem]); have p11 := cell_later bu (a := ⟨w.heap.size + 1, 1, none⟩) (v := .int .i64 y) (by simp [go_sem]); have f0 := frozen_later bu (p := ⟨w.heap.size + 2, 0, none⟩) (v := .int .i64 0) (by simp [go_sem]) (by simp [go_sem]); have r0 := cell_later bu (a := ⟨w.heap.size + 2, 0, none⟩) (v := .int .i64 0) (by simp [go_sem]); have f1 := frozen_later bu (p := ⟨w.heap.size + 2, 1, none⟩) (v := .int .i64 0) (by simp [go_sem]) (by simp [go_sem]); have r1 := cell_later bu (a := ⟨w.heap.size + 2, 1, none⟩) (v := .int .i64 0) (by simp [go_sem])) | (go_at_call 130; refine (vecDone_7 _ a x y _ hzu hru hx hy).mono ?_; rintro e wd ⟨rfl, bd⟩; unfold yesV; have p00 := cell_later bd (a := ⟨w.heap.size, 0, none⟩) (v := .int .i64 a) p00; have p01 := cell_later bd (a := ⟨w.heap.size, 1, none⟩) (v := .int .i64 x) p01; have p10 := cell_later bd (a := ⟨w.heap.size + 1, 0, none⟩) (v := .int .i64 a) p10; have p11 := cell_later bd (a := ⟨w.heap.size + 1, 1, none⟩) (v := .int .i64 y) p11; have f0 := frozen_later bd (p := ⟨w.heap.size + 2, 0, none⟩) (v := .int .i64 0) r0 f0; have r0 := cell_later bd (a := ⟨w.heap.size + 2, 0, none⟩) (v := .int .i64 0) r0; have f1 := frozen_later bd (p := ⟨w.heap.size + 2, 1, none⟩) (v := .int .i64 0) r1 f1; have r1 := cell_later bd (a := ⟨w.heap.size + 2, 1, none⟩) (v := .int .i64 0) r1))
  all_goals go_wp2
  have e0 := (((((Below.refl w.heap.size w).alloc (by simp <;> omega) (.cells #[.int .i64 a, .int .i64 x] 107)).alloc (by simp <;> omega) (.cells #[.int .i64 a, .int .i64 y] 107)).alloc (by simp <;> omega) (.cells #[.int .i64 0, .int .i64 0] 107)).drew).trans (bu.mono (by simp <;> omega))
  have e1 := e0.trans (bd.mono (by omega))
  exact bodyPost_ret (v := yesV a (binN 7 a x y)) (by simp [results, Tryz.results140, go_sem, yesV, r0, r1]) rfl ⟨rfl, (e1.setCell (by simp <;> omega) _).setCell (by simp <;> omega) _⟩
set_option maxRecDepth 100000 in
set_option maxHeartbeats 2000000 in
theorem iVecBin_8 (a x y : Int) (w : World) (hx : okB a x = true) (hy : okB a y = true) :
    Calls Tryz.prog 140 #[.int .i64 8, .agg #[.int .i64 a, .int .i64 x], .agg #[.int .i64 a, .int .i64 y]] w fun e w' => e = .returned (yesV a (binN 8 a x y)) ∧ Below w.heap.size w w' := by
  have n0 : w.heap.size + 1 + 1 ≠ w.heap.size := by omega
  go_enter Tryz.func140, Tryz.ntmps140
  go_wp2
  go_region_held3 (fun w' => w'.cell? ⟨w.heap.size, 0, none⟩ = some (.int .i64 a) ∧ w'.cell? ⟨w.heap.size, 1, none⟩ = some (.int .i64 x) ∧ w'.cell? ⟨w.heap.size + 1, 0, none⟩ = some (.int .i64 a) ∧ w'.cell? ⟨w.heap.size + 1, 1, none⟩ = some (.int .i64 y)) (first | go_keep | exact ⟨p00, p01, p10, p11⟩)
    (first | (go_at_call 142; refine (binRows_any _ (w.heap.size + 1 + 1 + 1) (by simp)).mono ?_; rintro e wu ⟨rfl, hru, hzu, bu⟩; have p00 := cell_later bu (a := ⟨w.heap.size, 0, none⟩) (v := .int .i64 a) (by simp [go_sem]); have p01 := cell_later bu (a := ⟨w.heap.size, 1, none⟩) (v := .int .i64 x) (by simp [go_sem]); have p10 := cell_later bu (a := ⟨w.heap.size + 1, 0, none⟩) (v := .int .i64 a) (by simp [go_sem]); have p11 := cell_later bu (a := ⟨w.heap.size + 1, 1, none⟩) (v := .int .i64 y) (by simp [go_sem]); have f0 := frozen_later bu (p := ⟨w.heap.size + 2, 0, none⟩) (v := .int .i64 0) (by simp [go_sem]) (by simp [go_sem]); have r0 := cell_later bu (a := ⟨w.heap.size + 2, 0, none⟩) (v := .int .i64 0) (by simp [go_sem]); have f1 := frozen_later bu (p := ⟨w.heap.size + 2, 1, none⟩) (v := .int .i64 0) (by simp [go_sem]) (by simp [go_sem]); have r1 := cell_later bu (a := ⟨w.heap.size + 2, 1, none⟩) (v := .int .i64 0) (by simp [go_sem])) | (go_at_call 130; refine (vecDone_8 _ a x y _ hzu hru hx hy).mono ?_; rintro e wd ⟨rfl, bd⟩; unfold yesV; have p00 := cell_later bd (a := ⟨w.heap.size, 0, none⟩) (v := .int .i64 a) p00; have p01 := cell_later bd (a := ⟨w.heap.size, 1, none⟩) (v := .int .i64 x) p01; have p10 := cell_later bd (a := ⟨w.heap.size + 1, 0, none⟩) (v := .int .i64 a) p10; have p11 := cell_later bd (a := ⟨w.heap.size + 1, 1, none⟩) (v := .int .i64 y) p11; have f0 := frozen_later bd (p := ⟨w.heap.size + 2, 0, none⟩) (v := .int .i64 0) r0 f0; have r0 := cell_later bd (a := ⟨w.heap.size + 2, 0, none⟩) (v := .int .i64 0) r0; have f1 := frozen_later bd (p := ⟨w.heap.size + 2, 1, none⟩) (v := .int .i64 0) r1 f1; have r1 := cell_later bd (a := ⟨w.heap.size + 2, 1, none⟩) (v := .int .i64 0) r1))
  all_goals go_wp2
  have e0 := (((((Below.refl w.heap.size w).alloc (by simp <;> omega) (.cells #[.int .i64 a, .int .i64 x] 107)).alloc (by simp <;> omega) (.cells #[.int .i64 a, .int .i64 y] 107)).alloc (by simp <;> omega) (.cells #[.int .i64 0, .int .i64 0] 107)).drew).trans (bu.mono (by simp <;> omega))
  have e1 := e0.trans (bd.mono (by omega))
  exact bodyPost_ret (v := yesV a (binN 8 a x y)) (by simp [results, Tryz.results140, go_sem, yesV, r0, r1]) rfl ⟨rfl, (e1.setCell (by simp <;> omega) _).setCell (by simp <;> omega) _⟩
set_option maxRecDepth 100000 in
set_option maxHeartbeats 2000000 in
theorem iVecBin_9 (a x y : Int) (w : World) (hx : okB a x = true) (hy : okB a y = true) :
    Calls Tryz.prog 140 #[.int .i64 9, .agg #[.int .i64 a, .int .i64 x], .agg #[.int .i64 a, .int .i64 y]] w fun e w' => e = .returned (yesV a (binN 9 a x y)) ∧ Below w.heap.size w w' := by
  have n0 : w.heap.size + 1 + 1 ≠ w.heap.size := by omega
  go_enter Tryz.func140, Tryz.ntmps140
  go_wp2
  go_region_held3 (fun w' => w'.cell? ⟨w.heap.size, 0, none⟩ = some (.int .i64 a) ∧ w'.cell? ⟨w.heap.size, 1, none⟩ = some (.int .i64 x) ∧ w'.cell? ⟨w.heap.size + 1, 0, none⟩ = some (.int .i64 a) ∧ w'.cell? ⟨w.heap.size + 1, 1, none⟩ = some (.int .i64 y)) (first | go_keep | exact ⟨p00, p01, p10, p11⟩)
    (first | (go_at_call 142; refine (binRows_any _ (w.heap.size + 1 + 1 + 1) (by simp)).mono ?_; rintro e wu ⟨rfl, hru, hzu, bu⟩; have p00 := cell_later bu (a := ⟨w.heap.size, 0, none⟩) (v := .int .i64 a) (by simp [go_sem]); have p01 := cell_later bu (a := ⟨w.heap.size, 1, none⟩) (v := .int .i64 x) (by simp [go_sem]); have p10 := cell_later bu (a := ⟨w.heap.size + 1, 0, none⟩) (v := .int .i64 a) (by simp [go_sem]); have p11 := cell_later bu (a := ⟨w.heap.size + 1, 1, none⟩) (v := .int .i64 y) (by simp [go_sem]); have f0 := frozen_later bu (p := ⟨w.heap.size + 2, 0, none⟩) (v := .int .i64 0) (by simp [go_sem]) (by simp [go_sem]); have r0 := cell_later bu (a := ⟨w.heap.size + 2, 0, none⟩) (v := .int .i64 0) (by simp [go_sem]); have f1 := frozen_later bu (p := ⟨w.heap.size + 2, 1, none⟩) (v := .int .i64 0) (by simp [go_sem]) (by simp [go_sem]); have r1 := cell_later bu (a := ⟨w.heap.size + 2, 1, none⟩) (v := .int .i64 0) (by simp [go_sem])) | (go_at_call 130; refine (vecDone_9 _ a x y _ hzu hru hx hy).mono ?_; rintro e wd ⟨rfl, bd⟩; unfold yesV; have p00 := cell_later bd (a := ⟨w.heap.size, 0, none⟩) (v := .int .i64 a) p00; have p01 := cell_later bd (a := ⟨w.heap.size, 1, none⟩) (v := .int .i64 x) p01; have p10 := cell_later bd (a := ⟨w.heap.size + 1, 0, none⟩) (v := .int .i64 a) p10; have p11 := cell_later bd (a := ⟨w.heap.size + 1, 1, none⟩) (v := .int .i64 y) p11; have f0 := frozen_later bd (p := ⟨w.heap.size + 2, 0, none⟩) (v := .int .i64 0) r0 f0; have r0 := cell_later bd (a := ⟨w.heap.size + 2, 0, none⟩) (v := .int .i64 0) r0; have f1 := frozen_later bd (p := ⟨w.heap.size + 2, 1, none⟩) (v := .int .i64 0) r1 f1; have r1 := cell_later bd (a := ⟨w.heap.size + 2, 1, none⟩) (v := .int .i64 0) r1))
  all_goals go_wp2
  have e0 := (((((Below.refl w.heap.size w).alloc (by simp <;> omega) (.cells #[.int .i64 a, .int .i64 x] 107)).alloc (by simp <;> omega) (.cells #[.int .i64 a, .int .i64 y] 107)).alloc (by simp <;> omega) (.cells #[.int .i64 0, .int .i64 0] 107)).drew).trans (bu.mono (by simp <;> omega))
  have e1 := e0.trans (bd.mono (by omega))
  exact bodyPost_ret (v := yesV a (binN 9 a x y)) (by simp [results, Tryz.results140, go_sem, yesV, r0, r1]) rfl ⟨rfl, (e1.setCell (by simp <;> omega) _).setCell (by simp <;> omega) _⟩
set_option maxRecDepth 100000 in
set_option maxHeartbeats 2000000 in
theorem iVecBin_10 (a x y : Int) (w : World) (hx : okB a x = true) (hy : okB a y = true) :
    Calls Tryz.prog 140 #[.int .i64 10, .agg #[.int .i64 a, .int .i64 x], .agg #[.int .i64 a, .int .i64 y]] w fun e w' => e = .returned (yesV a (binN 10 a x y)) ∧ Below w.heap.size w w' := by
  have n0 : w.heap.size + 1 + 1 ≠ w.heap.size := by omega
  go_enter Tryz.func140, Tryz.ntmps140
  go_wp2
  go_region_held3 (fun w' => w'.cell? ⟨w.heap.size, 0, none⟩ = some (.int .i64 a) ∧ w'.cell? ⟨w.heap.size, 1, none⟩ = some (.int .i64 x) ∧ w'.cell? ⟨w.heap.size + 1, 0, none⟩ = some (.int .i64 a) ∧ w'.cell? ⟨w.heap.size + 1, 1, none⟩ = some (.int .i64 y)) (first | go_keep | exact ⟨p00, p01, p10, p11⟩)
    (first | (go_at_call 142; refine (binRows_any _ (w.heap.size + 1 + 1 + 1) (by simp)).mono ?_; rintro e wu ⟨rfl, hru, hzu, bu⟩; have p00 := cell_later bu (a := ⟨w.heap.size, 0, none⟩) (v := .int .i64 a) (by simp [go_sem]); have p01 := cell_later bu (a := ⟨w.heap.size, 1, none⟩) (v := .int .i64 x) (by simp [go_sem]); have p10 := cell_later bu (a := ⟨w.heap.size + 1, 0, none⟩) (v := .int .i64 a) (by simp [go_sem]); have p11 := cell_later bu (a := ⟨w.heap.size + 1, 1, none⟩) (v := .int .i64 y) (by simp [go_sem]); have f0 := frozen_later bu (p := ⟨w.heap.size + 2, 0, none⟩) (v := .int .i64 0) (by simp [go_sem]) (by simp [go_sem]); have r0 := cell_later bu (a := ⟨w.heap.size + 2, 0, none⟩) (v := .int .i64 0) (by simp [go_sem]); have f1 := frozen_later bu (p := ⟨w.heap.size + 2, 1, none⟩) (v := .int .i64 0) (by simp [go_sem]) (by simp [go_sem]); have r1 := cell_later bu (a := ⟨w.heap.size + 2, 1, none⟩) (v := .int .i64 0) (by simp [go_sem])) | (go_at_call 130; refine (vecDone_10 _ a x y _ hzu hru hx hy).mono ?_; rintro e wd ⟨rfl, bd⟩; unfold yesV; have p00 := cell_later bd (a := ⟨w.heap.size, 0, none⟩) (v := .int .i64 a) p00; have p01 := cell_later bd (a := ⟨w.heap.size, 1, none⟩) (v := .int .i64 x) p01; have p10 := cell_later bd (a := ⟨w.heap.size + 1, 0, none⟩) (v := .int .i64 a) p10; have p11 := cell_later bd (a := ⟨w.heap.size + 1, 1, none⟩) (v := .int .i64 y) p11; have f0 := frozen_later bd (p := ⟨w.heap.size + 2, 0, none⟩) (v := .int .i64 0) r0 f0; have r0 := cell_later bd (a := ⟨w.heap.size + 2, 0, none⟩) (v := .int .i64 0) r0; have f1 := frozen_later bd (p := ⟨w.heap.size + 2, 1, none⟩) (v := .int .i64 0) r1 f1; have r1 := cell_later bd (a := ⟨w.heap.size + 2, 1, none⟩) (v := .int .i64 0) r1))
  all_goals go_wp2
  have e0 := (((((Below.refl w.heap.size w).alloc (by simp <;> omega) (.cells #[.int .i64 a, .int .i64 x] 107)).alloc (by simp <;> omega) (.cells #[.int .i64 a, .int .i64 y] 107)).alloc (by simp <;> omega) (.cells #[.int .i64 0, .int .i64 0] 107)).drew).trans (bu.mono (by simp <;> omega))
  have e1 := e0.trans (bd.mono (by omega))
  exact bodyPost_ret (v := yesV a (binN 10 a x y)) (by simp [results, Tryz.results140, go_sem, yesV, r0, r1]) rfl ⟨rfl, (e1.setCell (by simp <;> omega) _).setCell (by simp <;> omega) _⟩
set_option maxRecDepth 100000 in
set_option maxHeartbeats 2000000 in
theorem iVecBin_11 (a x y : Int) (w : World) (hx : okB a x = true) (hy : okB a y = true) :
    Calls Tryz.prog 140 #[.int .i64 11, .agg #[.int .i64 a, .int .i64 x], .agg #[.int .i64 a, .int .i64 y]] w fun e w' => e = .returned (yesV a (binN 11 a x y)) ∧ Below w.heap.size w w' := by
  have n0 : w.heap.size + 1 + 1 ≠ w.heap.size := by omega
  go_enter Tryz.func140, Tryz.ntmps140
  go_wp2
  go_region_held3 (fun w' => w'.cell? ⟨w.heap.size, 0, none⟩ = some (.int .i64 a) ∧ w'.cell? ⟨w.heap.size, 1, none⟩ = some (.int .i64 x) ∧ w'.cell? ⟨w.heap.size + 1, 0, none⟩ = some (.int .i64 a) ∧ w'.cell? ⟨w.heap.size + 1, 1, none⟩ = some (.int .i64 y)) (first | go_keep | exact ⟨p00, p01, p10, p11⟩)
    (first | (go_at_call 142; refine (binRows_any _ (w.heap.size + 1 + 1 + 1) (by simp)).mono ?_; rintro e wu ⟨rfl, hru, hzu, bu⟩; have p00 := cell_later bu (a := ⟨w.heap.size, 0, none⟩) (v := .int .i64 a) (by simp [go_sem]); have p01 := cell_later bu (a := ⟨w.heap.size, 1, none⟩) (v := .int .i64 x) (by simp [go_sem]); have p10 := cell_later bu (a := ⟨w.heap.size + 1, 0, none⟩) (v := .int .i64 a) (by simp [go_sem]); have p11 := cell_later bu (a := ⟨w.heap.size + 1, 1, none⟩) (v := .int .i64 y) (by simp [go_sem]); have f0 := frozen_later bu (p := ⟨w.heap.size + 2, 0, none⟩) (v := .int .i64 0) (by simp [go_sem]) (by simp [go_sem]); have r0 := cell_later bu (a := ⟨w.heap.size + 2, 0, none⟩) (v := .int .i64 0) (by simp [go_sem]); have f1 := frozen_later bu (p := ⟨w.heap.size + 2, 1, none⟩) (v := .int .i64 0) (by simp [go_sem]) (by simp [go_sem]); have r1 := cell_later bu (a := ⟨w.heap.size + 2, 1, none⟩) (v := .int .i64 0) (by simp [go_sem])) | (go_at_call 130; refine (vecDone_11 _ a x y _ hzu hru hx hy).mono ?_; rintro e wd ⟨rfl, bd⟩; unfold yesV; have p00 := cell_later bd (a := ⟨w.heap.size, 0, none⟩) (v := .int .i64 a) p00; have p01 := cell_later bd (a := ⟨w.heap.size, 1, none⟩) (v := .int .i64 x) p01; have p10 := cell_later bd (a := ⟨w.heap.size + 1, 0, none⟩) (v := .int .i64 a) p10; have p11 := cell_later bd (a := ⟨w.heap.size + 1, 1, none⟩) (v := .int .i64 y) p11; have f0 := frozen_later bd (p := ⟨w.heap.size + 2, 0, none⟩) (v := .int .i64 0) r0 f0; have r0 := cell_later bd (a := ⟨w.heap.size + 2, 0, none⟩) (v := .int .i64 0) r0; have f1 := frozen_later bd (p := ⟨w.heap.size + 2, 1, none⟩) (v := .int .i64 0) r1 f1; have r1 := cell_later bd (a := ⟨w.heap.size + 2, 1, none⟩) (v := .int .i64 0) r1))
  all_goals go_wp2
  have e0 := (((((Below.refl w.heap.size w).alloc (by simp <;> omega) (.cells #[.int .i64 a, .int .i64 x] 107)).alloc (by simp <;> omega) (.cells #[.int .i64 a, .int .i64 y] 107)).alloc (by simp <;> omega) (.cells #[.int .i64 0, .int .i64 0] 107)).drew).trans (bu.mono (by simp <;> omega))
  have e1 := e0.trans (bd.mono (by omega))
  exact bodyPost_ret (v := yesV a (binN 11 a x y)) (by simp [results, Tryz.results140, go_sem, yesV, r0, r1]) rfl ⟨rfl, (e1.setCell (by simp <;> omega) _).setCell (by simp <;> omega) _⟩
set_option maxRecDepth 100000 in
set_option maxHeartbeats 2000000 in
theorem iVecBin_12 (a x y : Int) (w : World) (hx : okB a x = true) (hy : okB a y = true) :
    Calls Tryz.prog 140 #[.int .i64 12, .agg #[.int .i64 a, .int .i64 x], .agg #[.int .i64 a, .int .i64 y]] w fun e w' => e = .returned (yesV a (binN 12 a x y)) ∧ Below w.heap.size w w' := by
  have n0 : w.heap.size + 1 + 1 ≠ w.heap.size := by omega
  go_enter Tryz.func140, Tryz.ntmps140
  go_wp2
  go_region_held3 (fun w' => w'.cell? ⟨w.heap.size, 0, none⟩ = some (.int .i64 a) ∧ w'.cell? ⟨w.heap.size, 1, none⟩ = some (.int .i64 x) ∧ w'.cell? ⟨w.heap.size + 1, 0, none⟩ = some (.int .i64 a) ∧ w'.cell? ⟨w.heap.size + 1, 1, none⟩ = some (.int .i64 y)) (first | go_keep | exact ⟨p00, p01, p10, p11⟩)
    (first | (go_at_call 142; refine (binRows_any _ (w.heap.size + 1 + 1 + 1) (by simp)).mono ?_; rintro e wu ⟨rfl, hru, hzu, bu⟩; have p00 := cell_later bu (a := ⟨w.heap.size, 0, none⟩) (v := .int .i64 a) (by simp [go_sem]); have p01 := cell_later bu (a := ⟨w.heap.size, 1, none⟩) (v := .int .i64 x) (by simp [go_sem]); have p10 := cell_later bu (a := ⟨w.heap.size + 1, 0, none⟩) (v := .int .i64 a) (by simp [go_sem]); have p11 := cell_later bu (a := ⟨w.heap.size + 1, 1, none⟩) (v := .int .i64 y) (by simp [go_sem]); have f0 := frozen_later bu (p := ⟨w.heap.size + 2, 0, none⟩) (v := .int .i64 0) (by simp [go_sem]) (by simp [go_sem]); have r0 := cell_later bu (a := ⟨w.heap.size + 2, 0, none⟩) (v := .int .i64 0) (by simp [go_sem]); have f1 := frozen_later bu (p := ⟨w.heap.size + 2, 1, none⟩) (v := .int .i64 0) (by simp [go_sem]) (by simp [go_sem]); have r1 := cell_later bu (a := ⟨w.heap.size + 2, 1, none⟩) (v := .int .i64 0) (by simp [go_sem])) | (go_at_call 130; refine (vecDone_12 _ a x y _ hzu hru hx hy).mono ?_; rintro e wd ⟨rfl, bd⟩; unfold yesV; have p00 := cell_later bd (a := ⟨w.heap.size, 0, none⟩) (v := .int .i64 a) p00; have p01 := cell_later bd (a := ⟨w.heap.size, 1, none⟩) (v := .int .i64 x) p01; have p10 := cell_later bd (a := ⟨w.heap.size + 1, 0, none⟩) (v := .int .i64 a) p10; have p11 := cell_later bd (a := ⟨w.heap.size + 1, 1, none⟩) (v := .int .i64 y) p11; have f0 := frozen_later bd (p := ⟨w.heap.size + 2, 0, none⟩) (v := .int .i64 0) r0 f0; have r0 := cell_later bd (a := ⟨w.heap.size + 2, 0, none⟩) (v := .int .i64 0) r0; have f1 := frozen_later bd (p := ⟨w.heap.size + 2, 1, none⟩) (v := .int .i64 0) r1 f1; have r1 := cell_later bd (a := ⟨w.heap.size + 2, 1, none⟩) (v := .int .i64 0) r1))
  all_goals go_wp2
  have e0 := (((((Below.refl w.heap.size w).alloc (by simp <;> omega) (.cells #[.int .i64 a, .int .i64 x] 107)).alloc (by simp <;> omega) (.cells #[.int .i64 a, .int .i64 y] 107)).alloc (by simp <;> omega) (.cells #[.int .i64 0, .int .i64 0] 107)).drew).trans (bu.mono (by simp <;> omega))
  have e1 := e0.trans (bd.mono (by omega))
  exact bodyPost_ret (v := yesV a (binN 12 a x y)) (by simp [results, Tryz.results140, go_sem, yesV, r0, r1]) rfl ⟨rfl, (e1.setCell (by simp <;> omega) _).setCell (by simp <;> omega) _⟩
set_option maxRecDepth 100000 in
set_option maxHeartbeats 2000000 in
theorem iVecBin_13 (a x y : Int) (w : World) (hx : okB a x = true) (hy : okB a y = true) :
    Calls Tryz.prog 140 #[.int .i64 13, .agg #[.int .i64 a, .int .i64 x], .agg #[.int .i64 a, .int .i64 y]] w fun e w' => e = .returned (yesV a (binN 13 a x y)) ∧ Below w.heap.size w w' := by
  have n0 : w.heap.size + 1 + 1 ≠ w.heap.size := by omega
  go_enter Tryz.func140, Tryz.ntmps140
  go_wp2
  go_region_held3 (fun w' => w'.cell? ⟨w.heap.size, 0, none⟩ = some (.int .i64 a) ∧ w'.cell? ⟨w.heap.size, 1, none⟩ = some (.int .i64 x) ∧ w'.cell? ⟨w.heap.size + 1, 0, none⟩ = some (.int .i64 a) ∧ w'.cell? ⟨w.heap.size + 1, 1, none⟩ = some (.int .i64 y)) (first | go_keep | exact ⟨p00, p01, p10, p11⟩)
    (first | (go_at_call 142; refine (binRows_any _ (w.heap.size + 1 + 1 + 1) (by simp)).mono ?_; rintro e wu ⟨rfl, hru, hzu, bu⟩; have p00 := cell_later bu (a := ⟨w.heap.size, 0, none⟩) (v := .int .i64 a) (by simp [go_sem]); have p01 := cell_later bu (a := ⟨w.heap.size, 1, none⟩) (v := .int .i64 x) (by simp [go_sem]); have p10 := cell_later bu (a := ⟨w.heap.size + 1, 0, none⟩) (v := .int .i64 a) (by simp [go_sem]); have p11 := cell_later bu (a := ⟨w.heap.size + 1, 1, none⟩) (v := .int .i64 y) (by simp [go_sem]); have f0 := frozen_later bu (p := ⟨w.heap.size + 2, 0, none⟩) (v := .int .i64 0) (by simp [go_sem]) (by simp [go_sem]); have r0 := cell_later bu (a := ⟨w.heap.size + 2, 0, none⟩) (v := .int .i64 0) (by simp [go_sem]); have f1 := frozen_later bu (p := ⟨w.heap.size + 2, 1, none⟩) (v := .int .i64 0) (by simp [go_sem]) (by simp [go_sem]); have r1 := cell_later bu (a := ⟨w.heap.size + 2, 1, none⟩) (v := .int .i64 0) (by simp [go_sem])) | (go_at_call 130; refine (vecDone_13 _ a x y _ hzu hru hx hy).mono ?_; rintro e wd ⟨rfl, bd⟩; unfold yesV; have p00 := cell_later bd (a := ⟨w.heap.size, 0, none⟩) (v := .int .i64 a) p00; have p01 := cell_later bd (a := ⟨w.heap.size, 1, none⟩) (v := .int .i64 x) p01; have p10 := cell_later bd (a := ⟨w.heap.size + 1, 0, none⟩) (v := .int .i64 a) p10; have p11 := cell_later bd (a := ⟨w.heap.size + 1, 1, none⟩) (v := .int .i64 y) p11; have f0 := frozen_later bd (p := ⟨w.heap.size + 2, 0, none⟩) (v := .int .i64 0) r0 f0; have r0 := cell_later bd (a := ⟨w.heap.size + 2, 0, none⟩) (v := .int .i64 0) r0; have f1 := frozen_later bd (p := ⟨w.heap.size + 2, 1, none⟩) (v := .int .i64 0) r1 f1; have r1 := cell_later bd (a := ⟨w.heap.size + 2, 1, none⟩) (v := .int .i64 0) r1))
  all_goals go_wp2
  have e0 := (((((Below.refl w.heap.size w).alloc (by simp <;> omega) (.cells #[.int .i64 a, .int .i64 x] 107)).alloc (by simp <;> omega) (.cells #[.int .i64 a, .int .i64 y] 107)).alloc (by simp <;> omega) (.cells #[.int .i64 0, .int .i64 0] 107)).drew).trans (bu.mono (by simp <;> omega))
  have e1 := e0.trans (bd.mono (by omega))
  exact bodyPost_ret (v := yesV a (binN 13 a x y)) (by simp [results, Tryz.results140, go_sem, yesV, r0, r1]) rfl ⟨rfl, (e1.setCell (by simp <;> omega) _).setCell (by simp <;> omega) _⟩
set_option maxRecDepth 100000 in
set_option maxHeartbeats 2000000 in
theorem iVecBin_no (op a x b y : Int) (w : World) (h14 : op ≠ 14) (h : foundV binRowsL op = .tuple #[.nilFunc, .bool false] ∨ (∃ k, foundV binRowsL op = .tuple #[.func (.func k) #[] #[], .bool true]) ∧ pairB a x b y = false) :
    Calls Tryz.prog 140 #[.int .i64 op, .agg #[.int .i64 a, .int .i64 x], .agg #[.int .i64 b, .int .i64 y]] w fun e w' => e = .returned (noV) ∧ Below w.heap.size w w' := by
  have n0 : w.heap.size + 1 + 1 ≠ w.heap.size := by omega
  have k14 : (op == 14) = false := by simpa using h14
  go_enter Tryz.func140, Tryz.ntmps140
  go_wp2
  go_region_held3 (fun w' => w'.cell? ⟨w.heap.size, 0, none⟩ = some (.int .i64 a) ∧ w'.cell? ⟨w.heap.size, 1, none⟩ = some (.int .i64 x) ∧ w'.cell? ⟨w.heap.size + 1, 0, none⟩ = some (.int .i64 b) ∧ w'.cell? ⟨w.heap.size + 1, 1, none⟩ = some (.int .i64 y)) (first | go_keep | exact ⟨p00, p01, p10, p11⟩)
    (first | (go_at_call 142; refine (binRows_any _ (w.heap.size + 1 + 1 + 1) (by simp)).mono ?_; rintro e wu ⟨rfl, hru, hzu, bu⟩; have p00 := cell_later bu (a := ⟨w.heap.size, 0, none⟩) (v := .int .i64 a) (by simp [go_sem]); have p01 := cell_later bu (a := ⟨w.heap.size, 1, none⟩) (v := .int .i64 x) (by simp [go_sem]); have p10 := cell_later bu (a := ⟨w.heap.size + 1, 0, none⟩) (v := .int .i64 b) (by simp [go_sem]); have p11 := cell_later bu (a := ⟨w.heap.size + 1, 1, none⟩) (v := .int .i64 y) (by simp [go_sem]); have f0 := frozen_later bu (p := ⟨w.heap.size + 2, 0, none⟩) (v := .int .i64 0) (by simp [go_sem]) (by simp [go_sem]); have r0 := cell_later bu (a := ⟨w.heap.size + 2, 0, none⟩) (v := .int .i64 0) (by simp [go_sem]); have f1 := frozen_later bu (p := ⟨w.heap.size + 2, 1, none⟩) (v := .int .i64 0) (by simp [go_sem]) (by simp [go_sem]); have r1 := cell_later bu (a := ⟨w.heap.size + 2, 1, none⟩) (v := .int .i64 0) (by simp [go_sem])) | (go_at_call 130; refine (vecDone_no binRowsL 11 _ op a x b y _ rfl hzu (by omega) hru h).mono ?_; rintro e wd ⟨rfl, bd⟩; unfold noV; have p00 := cell_later bd (a := ⟨w.heap.size, 0, none⟩) (v := .int .i64 a) p00; have p01 := cell_later bd (a := ⟨w.heap.size, 1, none⟩) (v := .int .i64 x) p01; have p10 := cell_later bd (a := ⟨w.heap.size + 1, 0, none⟩) (v := .int .i64 b) p10; have p11 := cell_later bd (a := ⟨w.heap.size + 1, 1, none⟩) (v := .int .i64 y) p11; have f0 := frozen_later bd (p := ⟨w.heap.size + 2, 0, none⟩) (v := .int .i64 0) r0 f0; have r0 := cell_later bd (a := ⟨w.heap.size + 2, 0, none⟩) (v := .int .i64 0) r0; have f1 := frozen_later bd (p := ⟨w.heap.size + 2, 1, none⟩) (v := .int .i64 0) r1 f1; have r1 := cell_later bd (a := ⟨w.heap.size + 2, 1, none⟩) (v := .int .i64 0) r1))
  all_goals go_wp2
  have e0 := (((((Below.refl w.heap.size w).alloc (by simp <;> omega) (.cells #[.int .i64 a, .int .i64 x] 107)).alloc (by simp <;> omega) (.cells #[.int .i64 b, .int .i64 y] 107)).alloc (by simp <;> omega) (.cells #[.int .i64 0, .int .i64 0] 107)).drew).trans (bu.mono (by simp <;> omega))
  have e1 := e0.trans (bd.mono (by omega))
  exact bodyPost_ret (v := noV) (by simp [results, Tryz.results140, go_sem, noV, r0, r1]) rfl ⟨rfl, (e1.setCell (by simp <;> omega) _).setCell (by simp <;> omega) _⟩
theorem foundBin (op : Int) (h : op < 3 ∨ 13 < op) : foundV binRowsL op = .tuple #[.nilFunc, .bool false] :=
  foundV_none _ _ (fun j hj => by
    simp only [binRowsL, List.length_cons, List.length_nil] at hj
    have : j = 0 ∨ j = 1 ∨ j = 2 ∨ j = 3 ∨ j = 4 ∨ j = 5 ∨ j = 6 ∨ j = 7 ∨ j = 8 ∨ j = 9 ∨ j = 10 := by omega
    rcases this with rfl | rfl | rfl | rfl | rfl | rfl | rfl | rfl | rfl | rfl | rfl <;> simp [binRowsL] <;> omega)
theorem foundBin_some (op : Int) (h3 : 3 ≤ op) (h13 : op ≤ 13) : ∃ k, foundV binRowsL op = .tuple #[.func (.func k) #[] #[], .bool true] := by
  have : op = 3 ∨ op = 4 ∨ op = 5 ∨ op = 6 ∨ op = 7 ∨ op = 8 ∨ op = 9 ∨ op = 10 ∨ op = 11 ∨ op = 12 ∨ op = 13 := by omega
  rcases this with rfl | rfl | rfl | rfl | rfl | rfl | rfl | rfl | rfl | rfl | rfl
  · exact ⟨143, by kernel_rfl⟩
  · exact ⟨144, by kernel_rfl⟩
  · exact ⟨145, by kernel_rfl⟩
  · exact ⟨146, by kernel_rfl⟩
  · exact ⟨147, by kernel_rfl⟩
  · exact ⟨148, by kernel_rfl⟩
  · exact ⟨149, by kernel_rfl⟩
  · exact ⟨150, by kernel_rfl⟩
  · exact ⟨151, by kernel_rfl⟩
  · exact ⟨152, by kernel_rfl⟩
  · exact ⟨153, by kernel_rfl⟩
theorem iVecBin_any (op a x b y : Int) (w : World) :
    Calls Tryz.prog 140 #[.int .i64 op, .agg #[.int .i64 a, .int .i64 x], .agg #[.int .i64 b, .int .i64 y]] w fun e w' => e = .returned (binV op a x b y) ∧ Below w.heap.size w w' := by
  by_cases h14 : op = 14
  · subst h14; exact iVecBin_cat a x b y w
  · by_cases h : 3 ≤ op ∧ op ≤ 13
    · by_cases hp : pairB a x b y = true
      · simp [pairB] at hp
        obtain ⟨⟨hx, hy⟩, rfl⟩ := hp
        unfold binV
        rw [if_pos ⟨hx, hy⟩, if_neg h14, if_pos ⟨h, rfl⟩]
        have : op = 3 ∨ op = 4 ∨ op = 5 ∨ op = 6 ∨ op = 7 ∨ op = 8 ∨ op = 9 ∨ op = 10 ∨ op = 11 ∨ op = 12 ∨ op = 13 := by omega
        rcases this with rfl | rfl | rfl | rfl | rfl | rfl | rfl | rfl | rfl | rfl | rfl
        · exact iVecBin_3 a x y w hx hy
        · exact iVecBin_4 a x y w hx hy
        · exact iVecBin_5 a x y w hx hy
        · exact iVecBin_6 a x y w hx hy
        · exact iVecBin_7 a x y w hx hy
        · exact iVecBin_8 a x y w hx hy
        · exact iVecBin_9 a x y w hx hy
        · exact iVecBin_10 a x y w hx hy
        · exact iVecBin_11 a x y w hx hy
        · exact iVecBin_12 a x y w hx hy
        · exact iVecBin_13 a x y w hx hy
      · have hf : pairB a x b y = false := by simpa using hp
        have e : binV op a x b y = noV := by
          unfold binV
          by_cases hxy : okB a x = true ∧ okB b y = true
          · rw [if_pos hxy, if_neg h14, if_neg (fun k => by rw [pairB, hxy.1, hxy.2, k.2] at hp; simp at hp)]
          · rw [if_neg hxy]
        rw [e]; exact iVecBin_no op a x b y w h14 (Or.inr ⟨foundBin_some op h.1 h.2, hf⟩)
    · have e : binV op a x b y = noV := by
        unfold binV
        by_cases hxy : okB a x = true ∧ okB b y = true
        · rw [if_pos hxy, if_neg h14, if_neg (fun k => h k.1)]
        · rw [if_neg hxy]
      rw [e]; exact iVecBin_no op a x b y w h14 (Or.inl (foundBin op (by omega)))
end Go.Proofs.YtfopmobopmdahaaGreat
