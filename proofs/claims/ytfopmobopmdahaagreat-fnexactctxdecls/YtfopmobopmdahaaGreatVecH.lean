/- What VecUn of the program returns: as the model's. -/
import Derived.Test.YtfopmobopmdahaaGreatVecG1
namespace Go.Proofs.YtfopmobopmdahaaGreat
open Go.ChangeShapes Go.WideShapes Go.ChangeAt Go.RowKit Go.Joins
set_option linter.unusedVariables false
attribute [local go_sem ↓] Go.wp_at_zero Go.wp_at_succ

set_option maxRecDepth 100000 in
set_option maxHeartbeats 2000000 in
theorem iVecUn_1 (a n : Int) (w : World) (hok : okB a n = true) :
    Calls Tryz.prog 129 #[.int .i64 1, .agg #[.int .i64 a, .int .i64 n]] w fun e w' => e = .returned (yesV a (unN 1 a n)) ∧ Below w.heap.size w w' := by
  obtain ⟨h1, h2, h3, h4, h5⟩ := ok_of hok
  have hok0 : okB a 0 = true := by
    have := two_bd a h1 h2
    simp [okB, h1, h2]; omega
  have n0 : w.heap.size + 1 ≠ w.heap.size := by omega
  go_enter Tryz.func129, Tryz.ntmps129
  go_wp2
  go_region_held3 (fun w' => w'.cell? ⟨w.heap.size, 0, none⟩ = some (.int .i64 a) ∧ w'.cell? ⟨w.heap.size, 1, none⟩ = some (.int .i64 n)) (first | go_keep | exact ⟨p00, p01⟩)
    (first | (go_at_call 131; refine (unRows_any _ (w.heap.size + 1 + 1) (by simp)).mono ?_; rintro e wu ⟨rfl, hru, hzu, bu⟩; have p00 := cell_later bu (a := ⟨w.heap.size, 0, none⟩) (v := .int .i64 a) (by simp [go_sem]); have p01 := cell_later bu (a := ⟨w.heap.size, 1, none⟩) (v := .int .i64 n) (by simp [go_sem]); have f0 := frozen_later bu (p := ⟨w.heap.size + 1, 0, none⟩) (v := .int .i64 0) (by simp [go_sem]) (by simp [go_sem]); have r0 := cell_later bu (a := ⟨w.heap.size + 1, 0, none⟩) (v := .int .i64 0) (by simp [go_sem]); have f1 := frozen_later bu (p := ⟨w.heap.size + 1, 1, none⟩) (v := .int .i64 0) (by simp [go_sem]) (by simp [go_sem]); have r1 := cell_later bu (a := ⟨w.heap.size + 1, 1, none⟩) (v := .int .i64 0) (by simp [go_sem])) | (go_at_call 130; refine (vecDone_1 _ a n 0 _ hzu hru hok hok0).mono ?_; rintro e wd ⟨rfl, bd⟩; unfold yesV; have p00 := cell_later bd (a := ⟨w.heap.size, 0, none⟩) (v := .int .i64 a) p00; have p01 := cell_later bd (a := ⟨w.heap.size, 1, none⟩) (v := .int .i64 n) p01; have f0 := frozen_later bd (p := ⟨w.heap.size + 1, 0, none⟩) (v := .int .i64 0) r0 f0; have r0 := cell_later bd (a := ⟨w.heap.size + 1, 0, none⟩) (v := .int .i64 0) r0; have f1 := frozen_later bd (p := ⟨w.heap.size + 1, 1, none⟩) (v := .int .i64 0) r1 f1; have r1 := cell_later bd (a := ⟨w.heap.size + 1, 1, none⟩) (v := .int .i64 0) r1))
  all_goals go_wp2
  have e0 := ((((Below.refl w.heap.size w).alloc (by simp <;> omega) (.cells #[.int .i64 a, .int .i64 n] 107)).alloc (by simp <;> omega) (.cells #[.int .i64 0, .int .i64 0] 107)).drew).trans (bu.mono (by simp <;> omega))
  have e1 := e0.trans (bd.mono (by omega))
  exact bodyPost_ret (v := yesV a (unN 1 a n)) (by simp [results, Tryz.results129, go_sem, yesV, r0, r1]) rfl ⟨rfl, (e1.setCell (by simp <;> omega) _).setCell (by simp <;> omega) _⟩
set_option maxRecDepth 100000 in
set_option maxHeartbeats 2000000 in
theorem iVecUn_2 (a n : Int) (w : World) (hok : okB a n = true) :
    Calls Tryz.prog 129 #[.int .i64 2, .agg #[.int .i64 a, .int .i64 n]] w fun e w' => e = .returned (yesV a (unN 2 a n)) ∧ Below w.heap.size w w' := by
  obtain ⟨h1, h2, h3, h4, h5⟩ := ok_of hok
  have hok0 : okB a 0 = true := by
    have := two_bd a h1 h2
    simp [okB, h1, h2]; omega
  have n0 : w.heap.size + 1 ≠ w.heap.size := by omega
  go_enter Tryz.func129, Tryz.ntmps129
  go_wp2
  go_region_held3 (fun w' => w'.cell? ⟨w.heap.size, 0, none⟩ = some (.int .i64 a) ∧ w'.cell? ⟨w.heap.size, 1, none⟩ = some (.int .i64 n)) (first | go_keep | exact ⟨p00, p01⟩)
    (first | (go_at_call 131; refine (unRows_any _ (w.heap.size + 1 + 1) (by simp)).mono ?_; rintro e wu ⟨rfl, hru, hzu, bu⟩; have p00 := cell_later bu (a := ⟨w.heap.size, 0, none⟩) (v := .int .i64 a) (by simp [go_sem]); have p01 := cell_later bu (a := ⟨w.heap.size, 1, none⟩) (v := .int .i64 n) (by simp [go_sem]); have f0 := frozen_later bu (p := ⟨w.heap.size + 1, 0, none⟩) (v := .int .i64 0) (by simp [go_sem]) (by simp [go_sem]); have r0 := cell_later bu (a := ⟨w.heap.size + 1, 0, none⟩) (v := .int .i64 0) (by simp [go_sem]); have f1 := frozen_later bu (p := ⟨w.heap.size + 1, 1, none⟩) (v := .int .i64 0) (by simp [go_sem]) (by simp [go_sem]); have r1 := cell_later bu (a := ⟨w.heap.size + 1, 1, none⟩) (v := .int .i64 0) (by simp [go_sem])) | (go_at_call 130; refine (vecDone_2 _ a n 0 _ hzu hru hok hok0).mono ?_; rintro e wd ⟨rfl, bd⟩; unfold yesV; have p00 := cell_later bd (a := ⟨w.heap.size, 0, none⟩) (v := .int .i64 a) p00; have p01 := cell_later bd (a := ⟨w.heap.size, 1, none⟩) (v := .int .i64 n) p01; have f0 := frozen_later bd (p := ⟨w.heap.size + 1, 0, none⟩) (v := .int .i64 0) r0 f0; have r0 := cell_later bd (a := ⟨w.heap.size + 1, 0, none⟩) (v := .int .i64 0) r0; have f1 := frozen_later bd (p := ⟨w.heap.size + 1, 1, none⟩) (v := .int .i64 0) r1 f1; have r1 := cell_later bd (a := ⟨w.heap.size + 1, 1, none⟩) (v := .int .i64 0) r1))
  all_goals go_wp2
  have e0 := ((((Below.refl w.heap.size w).alloc (by simp <;> omega) (.cells #[.int .i64 a, .int .i64 n] 107)).alloc (by simp <;> omega) (.cells #[.int .i64 0, .int .i64 0] 107)).drew).trans (bu.mono (by simp <;> omega))
  have e1 := e0.trans (bd.mono (by omega))
  exact bodyPost_ret (v := yesV a (unN 2 a n)) (by simp [results, Tryz.results129, go_sem, yesV, r0, r1]) rfl ⟨rfl, (e1.setCell (by simp <;> omega) _).setCell (by simp <;> omega) _⟩
set_option maxRecDepth 100000 in
set_option maxHeartbeats 2000000 in
theorem iVecUn_no (op a n : Int) (w : World) (h : foundV unRowsL op = .tuple #[.nilFunc, .bool false] ∨ (∃ k, foundV unRowsL op = .tuple #[.func (.func k) #[] #[], .bool true]) ∧ pairB a n a 0 = false) :
    Calls Tryz.prog 129 #[.int .i64 op, .agg #[.int .i64 a, .int .i64 n]] w fun e w' => e = .returned (noV) ∧ Below w.heap.size w w' := by
  have n0 : w.heap.size + 1 ≠ w.heap.size := by omega
  go_enter Tryz.func129, Tryz.ntmps129
  go_wp2
  go_region_held3 (fun w' => w'.cell? ⟨w.heap.size, 0, none⟩ = some (.int .i64 a) ∧ w'.cell? ⟨w.heap.size, 1, none⟩ = some (.int .i64 n)) (first | go_keep | exact ⟨p00, p01⟩)
    (first | (go_at_call 131; refine (unRows_any _ (w.heap.size + 1 + 1) (by simp)).mono ?_; rintro e wu ⟨rfl, hru, hzu, bu⟩; have p00 := cell_later bu (a := ⟨w.heap.size, 0, none⟩) (v := .int .i64 a) (by simp [go_sem]); have p01 := cell_later bu (a := ⟨w.heap.size, 1, none⟩) (v := .int .i64 n) (by simp [go_sem]); have f0 := frozen_later bu (p := ⟨w.heap.size + 1, 0, none⟩) (v := .int .i64 0) (by simp [go_sem]) (by simp [go_sem]); have r0 := cell_later bu (a := ⟨w.heap.size + 1, 0, none⟩) (v := .int .i64 0) (by simp [go_sem]); have f1 := frozen_later bu (p := ⟨w.heap.size + 1, 1, none⟩) (v := .int .i64 0) (by simp [go_sem]) (by simp [go_sem]); have r1 := cell_later bu (a := ⟨w.heap.size + 1, 1, none⟩) (v := .int .i64 0) (by simp [go_sem])) | (go_at_call 130; refine (vecDone_no unRowsL 2 _ op a n a 0 _ rfl hzu (by omega) hru h).mono ?_; rintro e wd ⟨rfl, bd⟩; unfold noV; have p00 := cell_later bd (a := ⟨w.heap.size, 0, none⟩) (v := .int .i64 a) p00; have p01 := cell_later bd (a := ⟨w.heap.size, 1, none⟩) (v := .int .i64 n) p01; have f0 := frozen_later bd (p := ⟨w.heap.size + 1, 0, none⟩) (v := .int .i64 0) r0 f0; have r0 := cell_later bd (a := ⟨w.heap.size + 1, 0, none⟩) (v := .int .i64 0) r0; have f1 := frozen_later bd (p := ⟨w.heap.size + 1, 1, none⟩) (v := .int .i64 0) r1 f1; have r1 := cell_later bd (a := ⟨w.heap.size + 1, 1, none⟩) (v := .int .i64 0) r1))
  all_goals go_wp2
  have e0 := ((((Below.refl w.heap.size w).alloc (by simp <;> omega) (.cells #[.int .i64 a, .int .i64 n] 107)).alloc (by simp <;> omega) (.cells #[.int .i64 0, .int .i64 0] 107)).drew).trans (bu.mono (by simp <;> omega))
  have e1 := e0.trans (bd.mono (by omega))
  exact bodyPost_ret (v := noV) (by simp [results, Tryz.results129, go_sem, noV, r0, r1]) rfl ⟨rfl, (e1.setCell (by simp <;> omega) _).setCell (by simp <;> omega) _⟩
theorem foundUn (op : Int) (h1 : op ≠ 1) (h2 : op ≠ 2) : foundV unRowsL op = .tuple #[.nilFunc, .bool false] :=
  foundV_none _ _ (fun j hj => by
    simp only [unRowsL, List.length_cons, List.length_nil] at hj
    have : j = 0 ∨ j = 1 := by omega
    rcases this with rfl | rfl <;> simp [unRowsL] <;> omega)
theorem iVecUn_any (op a n : Int) (w : World) :
    Calls Tryz.prog 129 #[.int .i64 op, .agg #[.int .i64 a, .int .i64 n]] w fun e w' => e = .returned (unV op a n) ∧ Below w.heap.size w w' := by
  unfold unV
  by_cases g1 : op = 1
  · subst g1
    by_cases hok : okB a n = true
    · rw [if_pos ⟨hok, Or.inl rfl⟩]; exact iVecUn_1 a n w hok
    · rw [if_neg (fun k => hok k.1)]; exact iVecUn_no 1 a n w (Or.inr ⟨⟨135, by kernel_rfl⟩, by simp [pairB, hok]⟩)
  · by_cases g2 : op = 2
    · subst g2
      by_cases hok : okB a n = true
      · rw [if_pos ⟨hok, Or.inr rfl⟩]; exact iVecUn_2 a n w hok
      · rw [if_neg (fun k => hok k.1)]; exact iVecUn_no 2 a n w (Or.inr ⟨⟨136, by kernel_rfl⟩, by simp [pairB, hok]⟩)
    · rw [if_neg (fun k => by rcases k.2 with e | e; exact g1 e; exact g2 e)]; exact iVecUn_no op a n w (Or.inl (foundUn op g1 g2))
end Go.Proofs.YtfopmobopmdahaaGreat
