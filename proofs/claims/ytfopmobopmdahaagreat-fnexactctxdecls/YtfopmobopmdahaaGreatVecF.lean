/- What vecPair, vecDone and VecUn of the program return. -/
import Derived.Test.YtfopmobopmdahaaGreatVecD
import Derived.Test.YtfopmobopmdahaaGreatVecE
namespace Go.Proofs.YtfopmobopmdahaaGreat
open Go.ChangeShapes Go.WideShapes Go.ChangeAt Go.RowKit Go.Joins
set_option linter.unusedVariables false
attribute [local go_sem ↓] Go.wp_at_zero Go.wp_at_succ

theorem wu (x : Int) (h : 0 ≤ x ∧ x < 16) : IntKind.u32.wrap x = x := by
  simp [IntKind.wrap, IntKind.signed, IntKind.bits]; omega

def pairB (a m b n : Int) : Bool := okB a m && okB b n && decide (a = b)
set_option maxRecDepth 100000 in
set_option maxHeartbeats 1000000 in
theorem vecPair_any (a m b n : Int) (w : World) :
    Calls Tryz.prog 133 #[.agg #[.int .i64 a, .int .i64 m], .agg #[.int .i64 b, .int .i64 n]] w fun e w' => e = .returned (.bool (pairB a m b n)) ∧ Below w.heap.size w w' := by
  unfold pairB
  cases hx : okB a m
  · go_enter Tryz.func133, Tryz.ntmps133
    go_wp2_with fail
    refine (iVecOk_any _ _ _).mono ?_
    rintro e w1 ⟨rfl, b1⟩
    simp only [World.size_alloc] at b1
    rw [hx]
    go_wp2
    go_ret
    have e1 := (((Below.refl w.heap.size w).alloc (by simp <;> omega) (.cells #[.int .i64 a, .int .i64 m] 107)).alloc (by simp <;> omega) (.cells #[.int .i64 b, .int .i64 n] 107)).trans (b1.mono (by omega))
    exact ⟨rfl, e1⟩
  · cases hy : okB b n
    · go_enter Tryz.func133, Tryz.ntmps133
      go_wp2_with fail
      refine (iVecOk_any _ _ _).mono ?_
      rintro e w1 ⟨rfl, b1⟩
      have p00 : w1.cell? ⟨w.heap.size, 0, none⟩ = some (.int .i64 a) := cell_later b1 (by simp [go_sem])
      have p01 : w1.cell? ⟨w.heap.size, 1, none⟩ = some (.int .i64 m) := cell_later b1 (by simp [go_sem])
      have p10 : w1.cell? ⟨w.heap.size + 1, 0, none⟩ = some (.int .i64 b) := cell_later b1 (by simp [go_sem])
      have p11 : w1.cell? ⟨w.heap.size + 1, 1, none⟩ = some (.int .i64 n) := cell_later b1 (by simp [go_sem])
      simp only [World.size_alloc] at b1
      have z1 := b1.size
      simp only [World.size_alloc] at z1
      rw [hx]
      go_wp2_with fail
      refine (iVecOk_any _ _ _).mono ?_
      rintro e w2 ⟨rfl, b2⟩
      rw [hy]
      go_wp2
      go_ret
      have e1 := (((Below.refl w.heap.size w).alloc (by simp <;> omega) (.cells #[.int .i64 a, .int .i64 m] 107)).alloc (by simp <;> omega) (.cells #[.int .i64 b, .int .i64 n] 107)).trans (b1.mono (by omega))
      exact ⟨rfl, e1.trans (b2.mono (by omega))⟩
    · by_cases hab : a = b
      · subst hab
        have hd : (a == a) = true := by simp
        go_enter Tryz.func133, Tryz.ntmps133
        go_wp2_with fail
        refine (iVecOk_any _ _ _).mono ?_
        rintro e w1 ⟨rfl, b1⟩
        have p00 : w1.cell? ⟨w.heap.size, 0, none⟩ = some (.int .i64 a) := cell_later b1 (by simp [go_sem])
        have p01 : w1.cell? ⟨w.heap.size, 1, none⟩ = some (.int .i64 m) := cell_later b1 (by simp [go_sem])
        have p10 : w1.cell? ⟨w.heap.size + 1, 0, none⟩ = some (.int .i64 a) := cell_later b1 (by simp [go_sem])
        have p11 : w1.cell? ⟨w.heap.size + 1, 1, none⟩ = some (.int .i64 n) := cell_later b1 (by simp [go_sem])
        simp only [World.size_alloc] at b1
        have z1 := b1.size
        simp only [World.size_alloc] at z1
        rw [hx]
        go_wp2_with fail
        refine (iVecOk_any _ _ _).mono ?_
        rintro e w2 ⟨rfl, b2⟩
        have q0 := cell_later b2 p00
        have q1 := cell_later b2 p10
        rw [hy]
        go_wp2
        go_ret
        have e1 := (((Below.refl w.heap.size w).alloc (by simp <;> omega) (.cells #[.int .i64 a, .int .i64 m] 107)).alloc (by simp <;> omega) (.cells #[.int .i64 a, .int .i64 n] 107)).trans (b1.mono (by omega))
        exact ⟨ret_bool (by simp), e1.trans (b2.mono (by omega))⟩
      · have hd : (a == b) = false := by simpa using hab
        go_enter Tryz.func133, Tryz.ntmps133
        go_wp2_with fail
        refine (iVecOk_any _ _ _).mono ?_
        rintro e w1 ⟨rfl, b1⟩
        have p00 : w1.cell? ⟨w.heap.size, 0, none⟩ = some (.int .i64 a) := cell_later b1 (by simp [go_sem])
        have p01 : w1.cell? ⟨w.heap.size, 1, none⟩ = some (.int .i64 m) := cell_later b1 (by simp [go_sem])
        have p10 : w1.cell? ⟨w.heap.size + 1, 0, none⟩ = some (.int .i64 b) := cell_later b1 (by simp [go_sem])
        have p11 : w1.cell? ⟨w.heap.size + 1, 1, none⟩ = some (.int .i64 n) := cell_later b1 (by simp [go_sem])
        simp only [World.size_alloc] at b1
        have z1 := b1.size
        simp only [World.size_alloc] at z1
        rw [hx]
        go_wp2_with fail
        refine (iVecOk_any _ _ _).mono ?_
        rintro e w2 ⟨rfl, b2⟩
        have q0 := cell_later b2 p00
        have q1 := cell_later b2 p10
        rw [hy]
        go_wp2
        go_ret
        have e1 := (((Below.refl w.heap.size w).alloc (by simp <;> omega) (.cells #[.int .i64 a, .int .i64 m] 107)).alloc (by simp <;> omega) (.cells #[.int .i64 b, .int .i64 n] 107)).trans (b1.mono (by omega))
        exact ⟨ret_bool (by simp [hab]), e1.trans (b2.mono (by omega))⟩
set_option maxRecDepth 100000 in
set_option maxHeartbeats 1000000 in
theorem vecDone_no (rows : List (Int × Nat)) (N R : Nat) (op a m b n : Int) (w : World) (hN : rows.length = N) (hR : R < w.heap.size) (hn : N ≤ 20) (hr : RowsAt w R rows)
    (h : foundV rows op = .tuple #[.nilFunc, .bool false] ∨ (∃ k, foundV rows op = .tuple #[.func (.func k) #[] #[], .bool true]) ∧ pairB a m b n = false) :
    Calls Tryz.prog 130 #[.slice (some ⟨R, 0, none⟩) N N, .int .i64 op, .agg #[.int .i64 a, .int .i64 m], .agg #[.int .i64 b, .int .i64 n]] w fun e w' => e = .returned noV ∧ Below w.heap.size w w' := by
  rcases h with hf | ⟨⟨k, hf⟩, hp⟩
  · have HF := hide hf
    clear hf
    go_enter Tryz.func130, Tryz.ntmps130
    go_wp2_with fail
    refine (findDo_any rows N R op _ hN (by simp; omega) hn (((hr.alloc _).alloc _).alloc _)).mono ?_
    rintro e w1 ⟨rfl, b1⟩
    have p00 : w1.cell? ⟨w.heap.size, 0, none⟩ = some (.int .i64 a) := cell_later b1 (by simp [go_sem])
    have p01 : w1.cell? ⟨w.heap.size, 1, none⟩ = some (.int .i64 m) := cell_later b1 (by simp [go_sem])
    have p10 : w1.cell? ⟨w.heap.size + 1, 0, none⟩ = some (.int .i64 b) := cell_later b1 (by simp [go_sem])
    have p11 : w1.cell? ⟨w.heap.size + 1, 1, none⟩ = some (.int .i64 n) := cell_later b1 (by simp [go_sem])
    have r0 : w1.cell? ⟨w.heap.size + 2, 0, none⟩ = some (.int .i64 0) := cell_later b1 (by simp [go_sem])
    have f0 : w1.frozen? ⟨w.heap.size + 2, 0, none⟩ = false := by rw [b1.frozen (by simp)]; simp [go_sem]
    have r1 : w1.cell? ⟨w.heap.size + 2, 1, none⟩ = some (.int .i64 0) := cell_later b1 (by simp [go_sem])
    have f1 : w1.frozen? ⟨w.heap.size + 2, 1, none⟩ = false := by rw [b1.frozen (by simp)]; simp [go_sem]
    simp only [World.size_alloc] at b1
    rw [unhide HF]
    go_wp2
    have e1 := ((((Below.refl w.heap.size w).alloc (by simp <;> omega) (.cells #[.int .i64 a, .int .i64 m] 107)).alloc (by simp <;> omega) (.cells #[.int .i64 b, .int .i64 n] 107)).alloc (by simp <;> omega) (.cells #[.int .i64 0, .int .i64 0] 107)).trans (b1.mono (by omega))
    exact bodyPost_ret (v := noV) (by simp [results, Tryz.results130, go_sem, noV, r0, r1]) rfl ⟨rfl, (e1.setCell (by simp <;> omega) _).setCell (by simp <;> omega) _⟩
  · have HF := hide hf
    clear hf
    go_enter Tryz.func130, Tryz.ntmps130
    go_wp2_with fail
    refine (findDo_any rows N R op _ hN (by simp; omega) hn (((hr.alloc _).alloc _).alloc _)).mono ?_
    rintro e w1 ⟨rfl, b1⟩
    have p00 : w1.cell? ⟨w.heap.size, 0, none⟩ = some (.int .i64 a) := cell_later b1 (by simp [go_sem])
    have p01 : w1.cell? ⟨w.heap.size, 1, none⟩ = some (.int .i64 m) := cell_later b1 (by simp [go_sem])
    have p10 : w1.cell? ⟨w.heap.size + 1, 0, none⟩ = some (.int .i64 b) := cell_later b1 (by simp [go_sem])
    have p11 : w1.cell? ⟨w.heap.size + 1, 1, none⟩ = some (.int .i64 n) := cell_later b1 (by simp [go_sem])
    have r0 : w1.cell? ⟨w.heap.size + 2, 0, none⟩ = some (.int .i64 0) := cell_later b1 (by simp [go_sem])
    have f0 : w1.frozen? ⟨w.heap.size + 2, 0, none⟩ = false := by rw [b1.frozen (by simp)]; simp [go_sem]
    have r1 : w1.cell? ⟨w.heap.size + 2, 1, none⟩ = some (.int .i64 0) := cell_later b1 (by simp [go_sem])
    have f1 : w1.frozen? ⟨w.heap.size + 2, 1, none⟩ = false := by rw [b1.frozen (by simp)]; simp [go_sem]
    simp only [World.size_alloc] at b1
    have z1 := b1.size
    simp only [World.size_alloc] at z1
    rw [unhide HF]
    go_wp2_with fail
    refine (vecPair_any _ _ _ _ _).mono ?_
    rintro e w2 ⟨rfl, b2⟩
    rw [hp]
    replace p00 := cell_later b2 p00
    replace p01 := cell_later b2 p01
    replace p10 := cell_later b2 p10
    replace p11 := cell_later b2 p11
    replace f0 := (by rw [b2.frozen (World.block_lt_of_cell? _ _ r0)]; exact f0 : w2.frozen? _ = false)
    replace r0 := cell_later b2 r0
    replace f1 := (by rw [b2.frozen (World.block_lt_of_cell? _ _ r1)]; exact f1 : w2.frozen? _ = false)
    replace r1 := cell_later b2 r1
    go_wp2
    have e1 := ((((Below.refl w.heap.size w).alloc (by simp <;> omega) (.cells #[.int .i64 a, .int .i64 m] 107)).alloc (by simp <;> omega) (.cells #[.int .i64 b, .int .i64 n] 107)).alloc (by simp <;> omega) (.cells #[.int .i64 0, .int .i64 0] 107)).trans (b1.mono (by omega))
    exact bodyPost_ret (v := noV) (by simp [results, Tryz.results130, go_sem, noV, r0, r1]) rfl ⟨rfl, ((e1.trans (b2.mono (by omega))).setCell (by simp <;> omega) _).setCell (by simp <;> omega) _⟩
end Go.Proofs.YtfopmobopmdahaaGreat
