/- What VecUn of the model returns: the number turned or taken from 0, cut to size, and true; nothing and false where the number is not right or the operation is another one. -/
import Derived.Test.YtbincnedkclfgaaGreatVecC
namespace Go.Proofs.YtbincnedkclfgaaGreat
open Go.ChangeShapes Go.WideShapes Go.ChangeAt Go.RowKit Go.Joins
set_option linter.unusedVariables false
attribute [local go_sem ↓] Go.wp_at_zero Go.wp_at_succ

/-- A number and true, or nothing and false. -/
def yesV (a n : Int) : Value := .tuple #[.agg #[.int .i64 a, .int .i64 n], .bool true]
def noV : Value := .tuple #[.agg #[.int .i64 0, .int .i64 0], .bool false]
def unV (op a n : Int) : Value := if okB a n = true ∧ (op = 1 ∨ op = 2) then yesV a (unN op a n) else noV
theorem yesV_form (a n : Int) : ∃ c d t, yesV a n = .tuple #[.agg #[.int .i64 c, .int .i64 d], .bool t] := ⟨a, n, true, rfl⟩
theorem noV_form : ∃ c d t, noV = .tuple #[.agg #[.int .i64 c, .int .i64 d], .bool t] := ⟨0, 0, false, rfl⟩
theorem unV_form (op a n : Int) : ∃ c d t, unV op a n = .tuple #[.agg #[.int .i64 c, .int .i64 d], .bool t] := by
  unfold unV
  split
  · exact yesV_form _ _
  · exact noV_form
theorem wr (x : Int) (h : -1000000 ≤ x ∧ x ≤ 1000000) : IntKind.i64.wrap x = x := by rw [Go.IntWalk.i64_left, Go.IntWalk.wrap64_in _ (by omega)]

set_option maxHeartbeats 1000000 in
theorem sVecUn_1 (a n : Int) (w : World) (hok : okB a n = true) :
    Calls Tryz.prog 50 #[.int .i64 1, .agg #[.int .i64 a, .int .i64 n]] w fun e w' => e = .returned (yesV a (unN 1 a n)) ∧ Below w.heap.size w w' := by
  obtain ⟨h1, h2, h3, h4, h5⟩ := ok_of hok
  have ht := two_vals a (by omega) h2
  go_enter Tryz.func50, Tryz.ntmps50
  go_wp2_with fail
  refine (sVecOk_any _ _ _).mono ?_
  rintro e w1 ⟨rfl, b1⟩
  have p00 : w1.cell? ⟨w.heap.size, 0, none⟩ = some (.int .i64 a) := cell_later b1 (by simp [go_sem])
  have p01 : w1.cell? ⟨w.heap.size, 1, none⟩ = some (.int .i64 n) := cell_later b1 (by simp [go_sem])
  have r0 : w1.cell? ⟨w.heap.size + 1, 0, none⟩ = some (.int .i64 0) := cell_later b1 (by simp [go_sem])
  have f0 : w1.frozen? ⟨w.heap.size + 1, 0, none⟩ = false := by rw [b1.frozen (by simp)]; simp [go_sem]
  have r1 : w1.cell? ⟨w.heap.size + 1, 1, none⟩ = some (.int .i64 0) := cell_later b1 (by simp [go_sem])
  have f1 : w1.frozen? ⟨w.heap.size + 1, 1, none⟩ = false := by rw [b1.frozen (by simp)]; simp [go_sem]
  simp only [World.size_alloc] at b1
  go_wp2
  go_region_held3 (fun w' => w'.cell? ⟨w.heap.size, 0, none⟩ = some (.int .i64 a) ∧ w'.cell? ⟨w.heap.size, 1, none⟩ = some (.int .i64 n)) (go_keep)
    (first | (go_at_call 42; refine (two_any _ _ (by omega) (by omega)).mono ?_; rintro e w' ⟨rfl, rfl⟩))
  all_goals go_wp2
  have hE : IntKind.i64.wrap (IntKind.i64.wrap (two a - 1) - n) = unN 1 a n := by rw [wr (two a - 1) (by omega), wr _ (by omega)]; simp [unN]
  have e1 := (((Below.refl w.heap.size w).alloc (by simp <;> omega) (.cells #[.int .i64 a, .int .i64 n] 55)).alloc (by simp <;> omega) (.cells #[.int .i64 0, .int .i64 0] 55)).trans (b1.mono (by omega))
  refine bodyPost_ret (v := yesV a (IntKind.i64.wrap (IntKind.i64.wrap (two a - 1) - n))) (by simp [results, Tryz.results50, go_sem, yesV, r0, r1]) rfl ⟨by rw [hE], ?_⟩
  exact ((e1.setCell (by simp) _).setCell (by simp) _).drew
set_option maxHeartbeats 1000000 in
theorem sVecUn_2 (a n : Int) (w : World) (hok : okB a n = true) :
    Calls Tryz.prog 50 #[.int .i64 2, .agg #[.int .i64 a, .int .i64 n]] w fun e w' => e = .returned (yesV a (unN 2 a n)) ∧ Below w.heap.size w w' := by
  obtain ⟨h1, h2, h3, h4, h5⟩ := ok_of hok
  have ht := two_vals a (by omega) h2
  go_enter Tryz.func50, Tryz.ntmps50
  go_wp2_with fail
  refine (sVecOk_any _ _ _).mono ?_
  rintro e w1 ⟨rfl, b1⟩
  have p00 : w1.cell? ⟨w.heap.size, 0, none⟩ = some (.int .i64 a) := cell_later b1 (by simp [go_sem])
  have p01 : w1.cell? ⟨w.heap.size, 1, none⟩ = some (.int .i64 n) := cell_later b1 (by simp [go_sem])
  have r0 : w1.cell? ⟨w.heap.size + 1, 0, none⟩ = some (.int .i64 0) := cell_later b1 (by simp [go_sem])
  have f0 : w1.frozen? ⟨w.heap.size + 1, 0, none⟩ = false := by rw [b1.frozen (by simp)]; simp [go_sem]
  have r1 : w1.cell? ⟨w.heap.size + 1, 1, none⟩ = some (.int .i64 0) := cell_later b1 (by simp [go_sem])
  have f1 : w1.frozen? ⟨w.heap.size + 1, 1, none⟩ = false := by rw [b1.frozen (by simp)]; simp [go_sem]
  simp only [World.size_alloc] at b1
  go_wp2
  go_region_held3 (fun w' => w'.cell? ⟨w.heap.size, 0, none⟩ = some (.int .i64 a) ∧ w'.cell? ⟨w.heap.size, 1, none⟩ = some (.int .i64 n)) (go_keep)
    (first | (go_at_call 56; refine (mod_any _ _ _ (by rw [wr (-n) (by omega)]; omega) (by rw [wr (-n) (by omega)]; omega) (by omega) (by omega)).mono ?_; rintro e w' ⟨rfl, rfl⟩))
  all_goals go_wp2
  have hE : IntKind.i64.wrap (-n) % two a = unN 2 a n := by rw [wr (-n) (by omega)]; simp [unN]
  have e1 := (((Below.refl w.heap.size w).alloc (by simp <;> omega) (.cells #[.int .i64 a, .int .i64 n] 55)).alloc (by simp <;> omega) (.cells #[.int .i64 0, .int .i64 0] 55)).trans (b1.mono (by omega))
  refine bodyPost_ret (v := yesV a (IntKind.i64.wrap (-n) % two a)) (by simp [results, Tryz.results50, go_sem, yesV, r0, r1]) rfl ⟨by rw [hE], ?_⟩
  exact ((e1.setCell (by simp) _).setCell (by simp) _).drew
set_option maxHeartbeats 1000000 in
theorem sVecUn_no (op a n : Int) (w : World) (h : okB a n = false ∨ (okB a n = true ∧ op ≠ 1 ∧ op ≠ 2)) :
    Calls Tryz.prog 50 #[.int .i64 op, .agg #[.int .i64 a, .int .i64 n]] w fun e w' => e = .returned noV ∧ Below w.heap.size w w' := by
  rcases h with hf | ⟨hok, g1, g2⟩
  · go_enter Tryz.func50, Tryz.ntmps50
    go_wp2_with fail
    refine (sVecOk_any _ _ _).mono ?_
    rintro e w1 ⟨rfl, b1⟩
    have p00 : w1.cell? ⟨w.heap.size, 0, none⟩ = some (.int .i64 a) := cell_later b1 (by simp [go_sem])
    have p01 : w1.cell? ⟨w.heap.size, 1, none⟩ = some (.int .i64 n) := cell_later b1 (by simp [go_sem])
    have r0 : w1.cell? ⟨w.heap.size + 1, 0, none⟩ = some (.int .i64 0) := cell_later b1 (by simp [go_sem])
    have f0 : w1.frozen? ⟨w.heap.size + 1, 0, none⟩ = false := by rw [b1.frozen (by simp)]; simp [go_sem]
    have r1 : w1.cell? ⟨w.heap.size + 1, 1, none⟩ = some (.int .i64 0) := cell_later b1 (by simp [go_sem])
    have f1 : w1.frozen? ⟨w.heap.size + 1, 1, none⟩ = false := by rw [b1.frozen (by simp)]; simp [go_sem]
    simp only [World.size_alloc] at b1
    go_wp2
    have e1 := (((Below.refl w.heap.size w).alloc (by simp <;> omega) (.cells #[.int .i64 a, .int .i64 n] 55)).alloc (by simp <;> omega) (.cells #[.int .i64 0, .int .i64 0] 55)).trans (b1.mono (by omega))
    exact bodyPost_ret (v := noV) (by simp [results, Tryz.results50, go_sem, noV, r0, r1]) rfl ⟨rfl, (e1.setCell (by simp) _).setCell (by simp) _⟩
  · have q1 : (op == 1) = false := by simpa using g1
    have q2 : (op == 2) = false := by simpa using g2
    go_enter Tryz.func50, Tryz.ntmps50
    go_wp2_with fail
    refine (sVecOk_any _ _ _).mono ?_
    rintro e w1 ⟨rfl, b1⟩
    have p00 : w1.cell? ⟨w.heap.size, 0, none⟩ = some (.int .i64 a) := cell_later b1 (by simp [go_sem])
    have p01 : w1.cell? ⟨w.heap.size, 1, none⟩ = some (.int .i64 n) := cell_later b1 (by simp [go_sem])
    have r0 : w1.cell? ⟨w.heap.size + 1, 0, none⟩ = some (.int .i64 0) := cell_later b1 (by simp [go_sem])
    have f0 : w1.frozen? ⟨w.heap.size + 1, 0, none⟩ = false := by rw [b1.frozen (by simp)]; simp [go_sem]
    have r1 : w1.cell? ⟨w.heap.size + 1, 1, none⟩ = some (.int .i64 0) := cell_later b1 (by simp [go_sem])
    have f1 : w1.frozen? ⟨w.heap.size + 1, 1, none⟩ = false := by rw [b1.frozen (by simp)]; simp [go_sem]
    simp only [World.size_alloc] at b1
    go_wp2
    have e1 := (((Below.refl w.heap.size w).alloc (by simp <;> omega) (.cells #[.int .i64 a, .int .i64 n] 55)).alloc (by simp <;> omega) (.cells #[.int .i64 0, .int .i64 0] 55)).trans (b1.mono (by omega))
    exact bodyPost_ret (v := noV) (by simp [results, Tryz.results50, go_sem, noV, r0, r1]) rfl ⟨rfl, (e1.setCell (by simp) _).setCell (by simp) _⟩
theorem sVecUn_any (op a n : Int) (w : World) :
    Calls Tryz.prog 50 #[.int .i64 op, .agg #[.int .i64 a, .int .i64 n]] w fun e w' => e = .returned (unV op a n) ∧ Below w.heap.size w w' := by
  unfold unV
  by_cases hok : okB a n = true
  · by_cases g1 : op = 1
    · subst g1; rw [if_pos ⟨hok, Or.inl rfl⟩]; exact sVecUn_1 a n w hok
    · by_cases g2 : op = 2
      · subst g2; rw [if_pos ⟨hok, Or.inr rfl⟩]; exact sVecUn_2 a n w hok
      · rw [if_neg (fun k => by rcases k.2 with e | e; exact g1 e; exact g2 e)]; exact sVecUn_no op a n w (Or.inr ⟨hok, g1, g2⟩)
  · rw [if_neg (fun k => hok k.1)]; exact sVecUn_no op a n w (Or.inl (by simpa using hok))
end Go.Proofs.YtbincnedkclfgaaGreat
