/- What the kinds of the program make of their Kids: the rest of them. -/
import Derived.Test.YtfopmobopmdahaaGreatWrtB
namespace Go.Proofs.YtfopmobopmdahaaGreat
open Go.ChangeShapes Go.WideShapes Go.ChangeAt Go.RowKit Go.Joins
set_option linter.unusedVariables false
set_option linter.unusedSimpArgs false

set_option maxRecDepth 100000 in
set_option maxHeartbeats 2000000 in
theorem worth_cmp (op : Int) (KB : Nat) (X Y : Nat → Int) (mv : Value) (w : World) (hk : Vecs w KB 2 X Y) :
    Calls Tryz.prog 155 #[.agg #[.int .i64 op], mv, .slice (some ⟨KB, 0, none⟩) 2 2] w fun e w' => e = .returned (.tuple #[.agg #[.int .i64 0, .int .i64 (b01 (cmpR op (X 0) (Y 0) (X 1) (Y 1)))], .bool (cmpT op (X 0) (Y 0) (X 1) (Y 1))]) ∧ Below w.heap.size w w' := by
  obtain ⟨c00w, c01w⟩ := hk 0 (by omega)
  obtain ⟨c10w, c11w⟩ := hk 1 (by omega)
  go_enter Tryz.func155, Tryz.ntmps155
  go_wp2_with fail
  have BL : Below w.heap.size w ((w.alloc (.cells #[.int .i64 op] 148)).alloc (.cells #[.int .i64 0, .int .i64 0] 107)) := ((Below.refl w.heap.size w).alloc (Nat.le_refl _) _).alloc (by simp) _
  have kz : w.heap.size + 2 ≤ ((w.alloc (.cells #[.int .i64 op] 148)).alloc (.cells #[.int .i64 0, .int .i64 0] 107)).heap.size := by simp
  have c00 : ((w.alloc (.cells #[.int .i64 op] 148)).alloc (.cells #[.int .i64 0, .int .i64 0] 107)).cell? ⟨KB, 0, none⟩ = some (.int .i64 (X 0)) := cell_later BL (by simpa using c00w)
  have c01 : ((w.alloc (.cells #[.int .i64 op] 148)).alloc (.cells #[.int .i64 0, .int .i64 0] 107)).cell? ⟨KB, 1, none⟩ = some (.int .i64 (Y 0)) := cell_later BL (by simpa using c01w)
  have c10 : ((w.alloc (.cells #[.int .i64 op] 148)).alloc (.cells #[.int .i64 0, .int .i64 0] 107)).cell? ⟨KB, 2, none⟩ = some (.int .i64 (X 1)) := cell_later BL (by simpa using c10w)
  have c11 : ((w.alloc (.cells #[.int .i64 op] 148)).alloc (.cells #[.int .i64 0, .int .i64 0] 107)).cell? ⟨KB, 3, none⟩ = some (.int .i64 (Y 1)) := cell_later BL (by simpa using c11w)
  have lk : KB < w.heap.size := World.block_lt_of_cell? _ _ c00w
  have p0 : ((w.alloc (.cells #[.int .i64 op] 148)).alloc (.cells #[.int .i64 0, .int .i64 0] 107)).cell? ⟨w.heap.size, 0, none⟩ = some (.int .i64 op) := by simp [go_sem]
  have r0 : ((w.alloc (.cells #[.int .i64 op] 148)).alloc (.cells #[.int .i64 0, .int .i64 0] 107)).cell? ⟨w.heap.size + 1, 0, none⟩ = some (.int .i64 0) := by simp [go_sem]
  have f0 : ((w.alloc (.cells #[.int .i64 op] 148)).alloc (.cells #[.int .i64 0, .int .i64 0] 107)).frozen? ⟨w.heap.size + 1, 0, none⟩ = false := by simp [go_sem]
  have r1 : ((w.alloc (.cells #[.int .i64 op] 148)).alloc (.cells #[.int .i64 0, .int .i64 0] 107)).cell? ⟨w.heap.size + 1, 1, none⟩ = some (.int .i64 0) := by simp [go_sem]
  have f1 : ((w.alloc (.cells #[.int .i64 op] 148)).alloc (.cells #[.int .i64 0, .int .i64 0] 107)).frozen? ⟨w.heap.size + 1, 1, none⟩ = false := by simp [go_sem]
  clear c00w c01w c10w c11w hk
  generalize hB : w.heap.size = B at *
  generalize ((w.alloc (.cells #[.int .i64 op] 148)).alloc (.cells #[.int .i64 0, .int .i64 0] 107)) = wa at *
  have nk : ¬ B + 1 = KB := by omega
  have nb : ¬ B + 1 = B := by omega
  refine wp_region_held_drew (S := (fun w' => w'.cell? ⟨KB, 0, none⟩ = some (.int .i64 (X 0)) ∧ w'.cell? ⟨KB, 1, none⟩ = some (.int .i64 (Y 0)) ∧ w'.cell? ⟨KB, 2, none⟩ = some (.int .i64 (X 1)) ∧ w'.cell? ⟨KB, 3, none⟩ = some (.int .i64 (Y 1)) ∧ w'.cell? ⟨B, 0, none⟩ = some (.int .i64 op))) (by kernel_rfl) ?_ (fun hHeld => ?_)
  · exact ⟨c00, c01, c10, c11, p0⟩
  refine wpAnyH_take (i := 0) (v := ?_) rfl (by kernel_rfl) (by kernel_rfl) (by kernel_rfl) (fun _ _ _ h => h) (Or.inl ⟨by rfl, ?_⟩) (by assumption) ?_
  rotate_left
  · (intro w hSw; (try dsimp only at hSw); first | (go_simp; done) | (go_simp; with_reducible rfl))
  try simp only [List.getElem_toArray, List.getElem_cons_succ, List.getElem_cons_zero, Act.put, List.setIfInBounds_toArray, List.set_cons_zero, List.set_cons_succ]
  refine wpAnyH_take (i := 1) (v := ?_) rfl (by kernel_rfl) (by kernel_rfl) (by kernel_rfl) (fun _ _ _ h => h) (Or.inl ⟨by rfl, ?_⟩) (by assumption) ?_
  rotate_left
  · (intro w hSw; (try dsimp only at hSw); first | (go_simp; done) | (go_simp; with_reducible rfl))
  try simp only [List.getElem_toArray, List.getElem_cons_succ, List.getElem_cons_zero, Act.put, List.setIfInBounds_toArray, List.set_cons_zero, List.set_cons_succ]
  refine wpAnyH_take (i := 2) (v := ?_) rfl (by kernel_rfl) (by kernel_rfl) (by kernel_rfl) (fun _ _ _ h => h) (Or.inl ⟨by rfl, ?_⟩) (by assumption) ?_
  rotate_left
  · (intro w hSw; (try dsimp only at hSw); first | (go_simp; done) | (go_simp; with_reducible rfl))
  try simp only [List.getElem_toArray, List.getElem_cons_succ, List.getElem_cons_zero, Act.put, List.setIfInBounds_toArray, List.set_cons_zero, List.set_cons_succ]
  refine wpAnyH_take (i := 3) (v := ?_) rfl (by kernel_rfl) (by kernel_rfl) (by kernel_rfl) (fun _ _ _ h => h) (Or.inl ⟨by rfl, ?_⟩) (by assumption) ?_
  rotate_left
  · (intro w hSw; (try dsimp only at hSw); first | (go_simp; done) | (go_simp; with_reducible rfl))
  try simp only [List.getElem_toArray, List.getElem_cons_succ, List.getElem_cons_zero, Act.put, List.setIfInBounds_toArray, List.set_cons_zero, List.set_cons_succ]
  refine wpAnyH_take (i := 4) (v := ?_) rfl (by kernel_rfl) (by kernel_rfl) (by kernel_rfl) (fun _ _ _ h => h) (Or.inl ⟨by rfl, ?_⟩) (by assumption) ?_
  rotate_left
  · (intro w hSw; (try dsimp only at hSw); first | (go_simp; done) | (go_simp; with_reducible rfl))
  try simp only [List.getElem_toArray, List.getElem_cons_succ, List.getElem_cons_zero, Act.put, List.setIfInBounds_toArray, List.set_cons_zero, List.set_cons_succ]
  refine wpAnyH_take (i := 5) (v := ?_) rfl (by kernel_rfl) (by kernel_rfl) (by kernel_rfl) (fun _ _ _ h => h) (Or.inl ⟨by rfl, ?_⟩) (by assumption) ?_
  rotate_left
  · (intro w hSw; (try dsimp only at hSw); first | (go_simp; done) | (go_simp; with_reducible rfl))
  try simp only [List.getElem_toArray, List.getElem_cons_succ, List.getElem_cons_zero, Act.put, List.setIfInBounds_toArray, List.set_cons_zero, List.set_cons_succ]
  refine wpAnyH_take (i := 6) (v := ?_) rfl (by kernel_rfl) (by kernel_rfl) (by kernel_rfl) (fun _ _ _ h => h) (Or.inl ⟨by rfl, ?_⟩) (by assumption) ?_
  rotate_left
  · (intro w hSw; (try dsimp only at hSw); first | (go_simp; done) | (go_simp; with_reducible rfl))
  try simp only [List.getElem_toArray, List.getElem_cons_succ, List.getElem_cons_zero, Act.put, List.setIfInBounds_toArray, List.set_cons_zero, List.set_cons_succ]
  refine wpAnyH_take (i := 7) (v := ?_) rfl (by kernel_rfl) (by kernel_rfl) (by kernel_rfl) (fun _ _ _ h => h) (Or.inl ⟨by rfl, ?_⟩) (by assumption) ?_
  rotate_left
  · (intro w hSw; (try dsimp only at hSw); first | (go_simp; done) | (go_simp; with_reducible rfl))
  try simp only [List.getElem_toArray, List.getElem_cons_succ, List.getElem_cons_zero, Act.put, List.setIfInBounds_toArray, List.set_cons_zero, List.set_cons_succ]
  refine wpAnyH_ready (rs := [8]) (by kernel_rfl) (by simp) ?_
  refine AllReadyH.cons rfl (fun K hK => ?_) AllReadyH.nil
  go_simp
  go_at_call 156
  refine (iVecCmp_any _ _ _ _ _ _).mono ?_
  rintro e wq1 ⟨rfl, bq⟩
  replace c00 := cell_later bq (by exact c00)
  replace c01 := cell_later bq (by exact c01)
  replace c10 := cell_later bq (by exact c10)
  replace c11 := cell_later bq (by exact c11)
  replace p0 := cell_later bq (by exact p0)
  replace f0 := fzl bq (World.block_lt_of_cell? _ _ (by exact r0)) (by exact f0)
  replace f1 := fzl bq (World.block_lt_of_cell? _ _ (by exact r1)) (by exact f1)
  replace r0 := cell_later bq (by exact r0)
  replace r1 := cell_later bq (by exact r1)
  replace BL := (show Below B w _ from by first | exact BL.trans (bq.mono (by exact Nat.le_trans (Nat.le_add_right _ _) kz)) | exact BL.drew.trans (bq.mono (by exact Nat.le_trans (Nat.le_add_right _ _) kz)))
  replace kz := Nat.le_trans kz bq.size
  clear bq
  go_wp2_with fail
  refine hK.out _ _ ?_ (fun hHeld => ?_)
  · exact ⟨c00, c01, c10, c11, p0⟩
  clear hK K
  try simp only [List.getElem_toArray, List.getElem_cons_succ, List.getElem_cons_zero, Act.put, List.setIfInBounds_toArray, List.set_cons_zero, List.set_cons_succ]
  refine wpAnyH_take (i := 9) (v := ?_) rfl (by kernel_rfl) (by kernel_rfl) (by kernel_rfl) (fun _ _ _ h => h) (Or.inl ⟨by rfl, ?_⟩) (by assumption) ?_
  rotate_left
  · (intro w hSw; (try dsimp only at hSw); first | (go_simp; done) | (go_simp; with_reducible rfl))
  try simp only [List.getElem_toArray, List.getElem_cons_succ, List.getElem_cons_zero, Act.put, List.setIfInBounds_toArray, List.set_cons_zero, List.set_cons_succ]
  refine wpAnyH_take (i := 10) (v := ?_) rfl (by kernel_rfl) (by kernel_rfl) (by kernel_rfl) (fun _ _ _ h => h) (Or.inl ⟨by rfl, ?_⟩) (by assumption) ?_
  rotate_left
  · (intro w hSw; (try dsimp only at hSw); first | (go_simp; done) | (go_simp; with_reducible rfl))
  try simp only [List.getElem_toArray, List.getElem_cons_succ, List.getElem_cons_zero, Act.put, List.setIfInBounds_toArray, List.set_cons_zero, List.set_cons_succ]
  refine wpAnyH_take (i := 11) (v := ?_) rfl (by kernel_rfl) (by kernel_rfl) (by kernel_rfl) (fun _ _ _ h => h) (Or.inl ⟨by rfl, ?_⟩) (by assumption) ?_
  rotate_left
  · (intro w hSw; (try dsimp only at hSw); first | (go_simp; done) | (go_simp; with_reducible rfl))
  try simp only [List.getElem_toArray, List.getElem_cons_succ, List.getElem_cons_zero, Act.put, List.setIfInBounds_toArray, List.set_cons_zero, List.set_cons_succ]
  refine wpAnyH_take (i := 12) (v := ?_) rfl (by kernel_rfl) (by kernel_rfl) (by kernel_rfl) (fun _ _ _ h => h) (Or.inl ⟨by rfl, ?_⟩) (by assumption) ?_
  rotate_left
  · (intro w hSw; (try dsimp only at hSw); first | (go_simp; done) | (go_simp; with_reducible rfl))
  try simp only [List.getElem_toArray, List.getElem_cons_succ, List.getElem_cons_zero, Act.put, List.setIfInBounds_toArray, List.set_cons_zero, List.set_cons_succ]
  refine wpAnyH_take (i := 13) (v := ?_) rfl (by kernel_rfl) (by kernel_rfl) (by kernel_rfl) (fun _ _ _ h => h) (Or.inl ⟨by rfl, ?_⟩) (by assumption) ?_
  rotate_left
  · (intro w hSw; (try dsimp only at hSw); first | (go_simp; done) | (go_simp; with_reducible rfl))
  try simp only [List.getElem_toArray, List.getElem_cons_succ, List.getElem_cons_zero, Act.put, List.setIfInBounds_toArray, List.set_cons_zero, List.set_cons_succ]
  refine wpAnyH_done (by kernel_rfl) ?_ _
  go_wp2_with fail
  refine (truth_any _ _).mono ?_
  rintro e wz ⟨rfl, bq⟩
  replace c00 := cell_later bq (by exact c00)
  replace c01 := cell_later bq (by exact c01)
  replace c10 := cell_later bq (by exact c10)
  replace c11 := cell_later bq (by exact c11)
  replace p0 := cell_later bq (by exact p0)
  replace f0 := fzl bq (World.block_lt_of_cell? _ _ (by exact r0)) (by exact f0)
  replace f1 := fzl bq (World.block_lt_of_cell? _ _ (by exact r1)) (by exact f1)
  replace r0 := cell_later bq (by exact r0)
  replace r1 := cell_later bq (by exact r1)
  replace BL := (show Below B w _ from by first | exact BL.trans (bq.mono (by exact Nat.le_trans (Nat.le_add_right _ _) kz)) | exact BL.drew.trans (bq.mono (by exact Nat.le_trans (Nat.le_add_right _ _) kz)))
  replace kz := Nat.le_trans kz bq.size
  go_wp2
  all_goals exact bodyPost_ret (v := (.tuple #[.agg #[.int .i64 0, .int .i64 (b01 (cmpR op (X 0) (Y 0) (X 1) (Y 1)))], .bool (cmpT op (X 0) (Y 0) (X 1) (Y 1))])) (by simp [results, Tryz.results155, go_sem, r0, r1]) rfl ⟨by rfl, by first | exact (BL.setCell (by simp) _).setCell (by simp) _ | (rw [hB]; first | exact (BL.setCell (by simp) _).setCell (by simp) _ | exact ((BL.drew).setCell (by simp) _).setCell (by simp) _)⟩
set_option maxRecDepth 100000 in
set_option maxHeartbeats 2000000 in
theorem worth_true (KB : Nat) (X Y : Nat → Int) (mv : Value) (w : World) (hk : Vecs w KB 0 X Y) :
    Calls Tryz.prog 125 #[.agg #[], mv, .slice (some ⟨KB, 0, none⟩) 0 0] w fun e w' => e = .returned (.tuple #[.agg #[.int .i64 0, .int .i64 1], .bool true]) ∧ Below w.heap.size w w' := by
  go_enter Tryz.func125, Tryz.ntmps125
  go_wp2_with fail
  have BL : Below w.heap.size w ((w.alloc (.cells #[] 144)).alloc (.cells #[.int .i64 0, .int .i64 0] 107)) := ((Below.refl w.heap.size w).alloc (Nat.le_refl _) _).alloc (by simp) _
  have kz : w.heap.size + 2 ≤ ((w.alloc (.cells #[] 144)).alloc (.cells #[.int .i64 0, .int .i64 0] 107)).heap.size := by simp
  have r0 : ((w.alloc (.cells #[] 144)).alloc (.cells #[.int .i64 0, .int .i64 0] 107)).cell? ⟨w.heap.size + 1, 0, none⟩ = some (.int .i64 0) := by simp [go_sem]
  have f0 : ((w.alloc (.cells #[] 144)).alloc (.cells #[.int .i64 0, .int .i64 0] 107)).frozen? ⟨w.heap.size + 1, 0, none⟩ = false := by simp [go_sem]
  have r1 : ((w.alloc (.cells #[] 144)).alloc (.cells #[.int .i64 0, .int .i64 0] 107)).cell? ⟨w.heap.size + 1, 1, none⟩ = some (.int .i64 0) := by simp [go_sem]
  have f1 : ((w.alloc (.cells #[] 144)).alloc (.cells #[.int .i64 0, .int .i64 0] 107)).frozen? ⟨w.heap.size + 1, 1, none⟩ = false := by simp [go_sem]
  generalize hB : w.heap.size = B at *
  generalize ((w.alloc (.cells #[] 144)).alloc (.cells #[.int .i64 0, .int .i64 0] 107)) = wa at *
  have nk : ¬ B + 1 = B := by omega
  have nb : ¬ B + 1 = B := by omega
  refine (truth_true _).mono ?_
  rintro e wz ⟨rfl, bq⟩
  replace f0 := fzl bq (World.block_lt_of_cell? _ _ (by exact r0)) (by exact f0)
  replace f1 := fzl bq (World.block_lt_of_cell? _ _ (by exact r1)) (by exact f1)
  replace r0 := cell_later bq (by exact r0)
  replace r1 := cell_later bq (by exact r1)
  replace BL := (show Below B w _ from by first | exact BL.trans (bq.mono (by exact Nat.le_trans (Nat.le_add_right _ _) kz)) | exact BL.drew.trans (bq.mono (by exact Nat.le_trans (Nat.le_add_right _ _) kz)))
  replace kz := Nat.le_trans kz bq.size
  go_wp2
  all_goals exact bodyPost_ret (v := (.tuple #[.agg #[.int .i64 0, .int .i64 1], .bool true])) (by simp [results, Tryz.results125, go_sem, r0, r1]) rfl ⟨by rfl, by first | exact (BL.setCell (by simp) _).setCell (by simp) _ | (rw [hB]; first | exact (BL.setCell (by simp) _).setCell (by simp) _ | exact ((BL.drew).setCell (by simp) _).setCell (by simp) _)⟩
set_option maxRecDepth 100000 in
set_option maxHeartbeats 2000000 in
theorem worth_if (op : Int) (KB : Nat) (X Y : Nat → Int) (mv : Value) (w : World) (hk : Vecs w KB 3 X Y) :
    Calls Tryz.prog 169 #[.agg #[.int .i64 op], mv, .slice (some ⟨KB, 0, none⟩) 3 3] w fun e w' => e = .returned (if X 0 = 0 ∧ X 1 = X 2 then (if isT (X 0) (Y 0) = true then .tuple #[.agg #[.int .i64 (X 1), .int .i64 (Y 1)], .bool true] else .tuple #[.agg #[.int .i64 (X 2), .int .i64 (Y 2)], .bool true]) else .tuple #[.agg #[.int .i64 0, .int .i64 0], .bool false]) ∧ Below w.heap.size w w' := by
  by_cases h0 : X 0 = 0
  · by_cases h12 : X 1 = X 2
    · have z0 : (X 0 != 0) = false := by simp [h0]
      have z1 : (X 1 != X 2) = false := by simp [h12]
      rw [if_pos ⟨h0, h12⟩]
      clear h0 h12
      obtain ⟨c00w, c01w⟩ := hk 0 (by omega)
      obtain ⟨c10w, c11w⟩ := hk 1 (by omega)
      obtain ⟨c20w, c21w⟩ := hk 2 (by omega)
      go_enter Tryz.func169, Tryz.ntmps169
      go_wp2_with fail
      have BL : Below w.heap.size w ((w.alloc (.cells #[.int .i64 op] 151)).alloc (.cells #[.int .i64 0, .int .i64 0] 107)) := ((Below.refl w.heap.size w).alloc (Nat.le_refl _) _).alloc (by simp) _
      have kz : w.heap.size + 2 ≤ ((w.alloc (.cells #[.int .i64 op] 151)).alloc (.cells #[.int .i64 0, .int .i64 0] 107)).heap.size := by simp
      have c00 : ((w.alloc (.cells #[.int .i64 op] 151)).alloc (.cells #[.int .i64 0, .int .i64 0] 107)).cell? ⟨KB, 0, none⟩ = some (.int .i64 (X 0)) := cell_later BL (by simpa using c00w)
      have c01 : ((w.alloc (.cells #[.int .i64 op] 151)).alloc (.cells #[.int .i64 0, .int .i64 0] 107)).cell? ⟨KB, 1, none⟩ = some (.int .i64 (Y 0)) := cell_later BL (by simpa using c01w)
      have c10 : ((w.alloc (.cells #[.int .i64 op] 151)).alloc (.cells #[.int .i64 0, .int .i64 0] 107)).cell? ⟨KB, 2, none⟩ = some (.int .i64 (X 1)) := cell_later BL (by simpa using c10w)
      have c11 : ((w.alloc (.cells #[.int .i64 op] 151)).alloc (.cells #[.int .i64 0, .int .i64 0] 107)).cell? ⟨KB, 3, none⟩ = some (.int .i64 (Y 1)) := cell_later BL (by simpa using c11w)
      have c20 : ((w.alloc (.cells #[.int .i64 op] 151)).alloc (.cells #[.int .i64 0, .int .i64 0] 107)).cell? ⟨KB, 4, none⟩ = some (.int .i64 (X 2)) := cell_later BL (by simpa using c20w)
      have c21 : ((w.alloc (.cells #[.int .i64 op] 151)).alloc (.cells #[.int .i64 0, .int .i64 0] 107)).cell? ⟨KB, 5, none⟩ = some (.int .i64 (Y 2)) := cell_later BL (by simpa using c21w)
      have lk : KB < w.heap.size := World.block_lt_of_cell? _ _ c00w
      have p0 : ((w.alloc (.cells #[.int .i64 op] 151)).alloc (.cells #[.int .i64 0, .int .i64 0] 107)).cell? ⟨w.heap.size, 0, none⟩ = some (.int .i64 op) := by simp [go_sem]
      have r0 : ((w.alloc (.cells #[.int .i64 op] 151)).alloc (.cells #[.int .i64 0, .int .i64 0] 107)).cell? ⟨w.heap.size + 1, 0, none⟩ = some (.int .i64 0) := by simp [go_sem]
      have f0 : ((w.alloc (.cells #[.int .i64 op] 151)).alloc (.cells #[.int .i64 0, .int .i64 0] 107)).frozen? ⟨w.heap.size + 1, 0, none⟩ = false := by simp [go_sem]
      have r1 : ((w.alloc (.cells #[.int .i64 op] 151)).alloc (.cells #[.int .i64 0, .int .i64 0] 107)).cell? ⟨w.heap.size + 1, 1, none⟩ = some (.int .i64 0) := by simp [go_sem]
      have f1 : ((w.alloc (.cells #[.int .i64 op] 151)).alloc (.cells #[.int .i64 0, .int .i64 0] 107)).frozen? ⟨w.heap.size + 1, 1, none⟩ = false := by simp [go_sem]
      clear c00w c01w c10w c11w c20w c21w hk
      generalize hB : w.heap.size = B at *
      generalize ((w.alloc (.cells #[.int .i64 op] 151)).alloc (.cells #[.int .i64 0, .int .i64 0] 107)) = wa at *
      have nk : ¬ B + 1 = KB := by omega
      have nb : ¬ B + 1 = B := by omega
      refine wp_region_held_drew (S := (fun w' => w'.cell? ⟨KB, 0, none⟩ = some (.int .i64 (X 0)) ∧ w'.cell? ⟨KB, 1, none⟩ = some (.int .i64 (Y 0)) ∧ w'.cell? ⟨KB, 2, none⟩ = some (.int .i64 (X 1)) ∧ w'.cell? ⟨KB, 3, none⟩ = some (.int .i64 (Y 1)) ∧ w'.cell? ⟨KB, 4, none⟩ = some (.int .i64 (X 2)) ∧ w'.cell? ⟨KB, 5, none⟩ = some (.int .i64 (Y 2)) ∧ w'.cell? ⟨B, 0, none⟩ = some (.int .i64 op))) (by kernel_rfl) ?_ (fun hHeld => ?_)
      · exact ⟨c00, c01, c10, c11, c20, c21, p0⟩
      refine wpAnyH_take (i := 0) (v := ?_) rfl (by kernel_rfl) (by kernel_rfl) (by kernel_rfl) (fun _ _ _ h => h) (Or.inl ⟨by rfl, ?_⟩) (by assumption) ?_
      rotate_left
      · (intro w hSw; (try dsimp only at hSw); first | (go_simp; done) | (go_simp; with_reducible rfl))
      try simp only [List.getElem_toArray, List.getElem_cons_succ, List.getElem_cons_zero, Act.put, List.setIfInBounds_toArray, List.set_cons_zero, List.set_cons_succ]
      refine wpAnyH_take (i := 1) (v := ?_) rfl (by kernel_rfl) (by kernel_rfl) (by kernel_rfl) (fun _ _ _ h => h) (Or.inl ⟨by rfl, ?_⟩) (by assumption) ?_
      rotate_left
      · (intro w hSw; (try dsimp only at hSw); first | (go_simp; done) | (go_simp; with_reducible rfl))
      try simp only [List.getElem_toArray, List.getElem_cons_succ, List.getElem_cons_zero, Act.put, List.setIfInBounds_toArray, List.set_cons_zero, List.set_cons_succ]
      refine wpAnyH_take (i := 2) (v := ?_) rfl (by kernel_rfl) (by kernel_rfl) (by kernel_rfl) (fun _ _ _ h => h) (Or.inl ⟨by rfl, ?_⟩) (by assumption) ?_
      rotate_left
      · (intro w hSw; (try dsimp only at hSw); first | (go_simp; done) | (go_simp; with_reducible rfl))
      try simp only [List.getElem_toArray, List.getElem_cons_succ, List.getElem_cons_zero, Act.put, List.setIfInBounds_toArray, List.set_cons_zero, List.set_cons_succ]
      refine wpAnyH_take (i := 3) (v := ?_) rfl (by kernel_rfl) (by kernel_rfl) (by kernel_rfl) (fun _ _ _ h => h) (Or.inl ⟨by rfl, ?_⟩) (by assumption) ?_
      rotate_left
      · (intro w hSw; (try dsimp only at hSw); first | (go_simp; done) | (go_simp; with_reducible rfl))
      try simp only [List.getElem_toArray, List.getElem_cons_succ, List.getElem_cons_zero, Act.put, List.setIfInBounds_toArray, List.set_cons_zero, List.set_cons_succ]
      refine wpAnyH_take (i := 4) (v := ?_) rfl (by kernel_rfl) (by kernel_rfl) (by kernel_rfl) (fun _ _ _ h => h) (Or.inl ⟨by rfl, ?_⟩) (by assumption) ?_
      rotate_left
      · (intro w hSw; (try dsimp only at hSw); first | (go_simp; done) | (go_simp; with_reducible rfl))
      try simp only [List.getElem_toArray, List.getElem_cons_succ, List.getElem_cons_zero, Act.put, List.setIfInBounds_toArray, List.set_cons_zero, List.set_cons_succ]
      refine wpAnyH_take (i := 5) (v := ?_) rfl (by kernel_rfl) (by kernel_rfl) (by kernel_rfl) (fun _ _ _ h => h) (Or.inl ⟨by rfl, ?_⟩) (by assumption) ?_
      rotate_left
      · (intro w hSw; (try dsimp only at hSw); first | (go_simp; done) | (go_simp; with_reducible rfl))
      try simp only [List.getElem_toArray, List.getElem_cons_succ, List.getElem_cons_zero, Act.put, List.setIfInBounds_toArray, List.set_cons_zero, List.set_cons_succ]
      refine wpAnyH_take (i := 6) (v := ?_) rfl (by kernel_rfl) (by kernel_rfl) (by kernel_rfl) (fun _ _ _ h => h) (Or.inl ⟨by rfl, ?_⟩) (by assumption) ?_
      rotate_left
      · (intro w hSw; (try dsimp only at hSw); first | (go_simp; done) | (go_simp; with_reducible rfl))
      try simp only [List.getElem_toArray, List.getElem_cons_succ, List.getElem_cons_zero, Act.put, List.setIfInBounds_toArray, List.set_cons_zero, List.set_cons_succ]
      refine wpAnyH_take (i := 7) (v := ?_) rfl (by kernel_rfl) (by kernel_rfl) (by kernel_rfl) (fun _ _ _ h => h) (Or.inl ⟨by rfl, ?_⟩) (by assumption) ?_
      rotate_left
      · (intro w hSw; (try dsimp only at hSw); first | (go_simp; done) | (go_simp; with_reducible rfl))
      try simp only [List.getElem_toArray, List.getElem_cons_succ, List.getElem_cons_zero, Act.put, List.setIfInBounds_toArray, List.set_cons_zero, List.set_cons_succ]
      refine wpAnyH_take (i := 8) (v := ?_) rfl (by kernel_rfl) (by kernel_rfl) (by kernel_rfl) (fun _ _ _ h => h) (Or.inl ⟨by rfl, ?_⟩) (by assumption) ?_
      rotate_left
      · (intro w hSw; (try dsimp only at hSw); first | (go_simp; done) | (go_simp; with_reducible rfl))
      try simp only [List.getElem_toArray, List.getElem_cons_succ, List.getElem_cons_zero, Act.put, List.setIfInBounds_toArray, List.set_cons_zero, List.set_cons_succ]
      refine wpAnyH_take (i := 9) (v := ?_) rfl (by kernel_rfl) (by kernel_rfl) (by kernel_rfl) (fun _ _ _ h => h) (Or.inl ⟨by rfl, ?_⟩) (by assumption) ?_
      rotate_left
      · (intro w hSw; (try dsimp only at hSw); first | (go_simp; done) | (go_simp; with_reducible rfl))
      try simp only [List.getElem_toArray, List.getElem_cons_succ, List.getElem_cons_zero, Act.put, List.setIfInBounds_toArray, List.set_cons_zero, List.set_cons_succ]
      refine wpAnyH_take (i := 10) (v := ?_) rfl (by kernel_rfl) (by kernel_rfl) (by kernel_rfl) (fun _ _ _ h => h) (Or.inl ⟨by rfl, ?_⟩) (by assumption) ?_
      rotate_left
      · (intro w hSw; (try dsimp only at hSw); first | (go_simp; done) | (go_simp; with_reducible rfl))
      try simp only [List.getElem_toArray, List.getElem_cons_succ, List.getElem_cons_zero, Act.put, List.setIfInBounds_toArray, List.set_cons_zero, List.set_cons_succ]
      refine wpAnyH_take (i := 11) (v := ?_) rfl (by kernel_rfl) (by kernel_rfl) (by kernel_rfl) (fun _ _ _ h => h) (Or.inl ⟨by rfl, ?_⟩) (by assumption) ?_
      rotate_left
      · (intro w hSw; (try dsimp only at hSw); first | (go_simp; done) | (go_simp; with_reducible rfl))
      try simp only [List.getElem_toArray, List.getElem_cons_succ, List.getElem_cons_zero, Act.put, List.setIfInBounds_toArray, List.set_cons_zero, List.set_cons_succ]
      refine wpAnyH_take (i := 12) (v := ?_) rfl (by kernel_rfl) (by kernel_rfl) (by kernel_rfl) (fun _ _ _ h => h) (Or.inl ⟨by rfl, ?_⟩) (by assumption) ?_
      rotate_left
      · (intro w hSw; (try dsimp only at hSw); first | (go_simp; done) | (go_simp; with_reducible rfl))
      try simp only [List.getElem_toArray, List.getElem_cons_succ, List.getElem_cons_zero, Act.put, List.setIfInBounds_toArray, List.set_cons_zero, List.set_cons_succ]
      refine wpAnyH_take (i := 13) (v := ?_) rfl (by kernel_rfl) (by kernel_rfl) (by kernel_rfl) (fun _ _ _ h => h) (Or.inl ⟨by rfl, ?_⟩) (by assumption) ?_
      rotate_left
      · (intro w hSw; (try dsimp only at hSw); first | (go_simp; done) | (go_simp; with_reducible rfl))
      try simp only [List.getElem_toArray, List.getElem_cons_succ, List.getElem_cons_zero, Act.put, List.setIfInBounds_toArray, List.set_cons_zero, List.set_cons_succ]
      refine wpAnyH_take (i := 14) (v := ?_) rfl (by kernel_rfl) (by kernel_rfl) (by kernel_rfl) (fun _ _ _ h => h) (Or.inl ⟨by rfl, ?_⟩) (by assumption) ?_
      rotate_left
      · (intro w hSw; (try dsimp only at hSw); first | (go_simp; done) | (go_simp; with_reducible rfl))
      try simp only [List.getElem_toArray, List.getElem_cons_succ, List.getElem_cons_zero, Act.put, List.setIfInBounds_toArray, List.set_cons_zero, List.set_cons_succ]
      refine wpAnyH_take (i := 15) (v := ?_) rfl (by kernel_rfl) (by kernel_rfl) (by kernel_rfl) (fun _ _ _ h => h) (Or.inl ⟨by rfl, ?_⟩) (by assumption) ?_
      rotate_left
      · (intro w hSw; (try dsimp only at hSw); first | (go_simp; done) | (go_simp; with_reducible rfl))
      try simp only [List.getElem_toArray, List.getElem_cons_succ, List.getElem_cons_zero, Act.put, List.setIfInBounds_toArray, List.set_cons_zero, List.set_cons_succ]
      refine wpAnyH_done (by kernel_rfl) ?_ _
      go_wp2_with fail
      refine (isTrue_any _ _ _).mono ?_
      rintro e wz ⟨rfl, bq⟩
      replace c00 := cell_later bq (by exact c00)
      replace c01 := cell_later bq (by exact c01)
      replace c10 := cell_later bq (by exact c10)
      replace c11 := cell_later bq (by exact c11)
      replace c20 := cell_later bq (by exact c20)
      replace c21 := cell_later bq (by exact c21)
      replace p0 := cell_later bq (by exact p0)
      replace f0 := fzl bq (World.block_lt_of_cell? _ _ (by exact r0)) (by exact f0)
      replace f1 := fzl bq (World.block_lt_of_cell? _ _ (by exact r1)) (by exact f1)
      replace r0 := cell_later bq (by exact r0)
      replace r1 := cell_later bq (by exact r1)
      replace BL := (show Below B w _ from by first | exact BL.trans (bq.mono (by exact Nat.le_trans (Nat.le_add_right _ _) kz)) | exact BL.drew.trans (bq.mono (by exact Nat.le_trans (Nat.le_add_right _ _) kz)))
      replace kz := Nat.le_trans kz bq.size
      clear bq
      cases ht : isT (X 0) (Y 0)
      · skip
        go_wp2
        all_goals exact bodyPost_ret (v := (.tuple #[.agg #[.int .i64 (X 2), .int .i64 (Y 2)], .bool true])) (by simp [results, Tryz.results169, go_sem, r0, r1]) rfl ⟨by rfl, by first | exact (BL.setCell (by simp) _).setCell (by simp) _ | (rw [hB]; first | exact (BL.setCell (by simp) _).setCell (by simp) _ | exact ((BL.drew).setCell (by simp) _).setCell (by simp) _)⟩
      · skip
        go_wp2
        all_goals exact bodyPost_ret (v := (.tuple #[.agg #[.int .i64 (X 1), .int .i64 (Y 1)], .bool true])) (by simp [results, Tryz.results169, go_sem, r0, r1]) rfl ⟨by rfl, by first | exact (BL.setCell (by simp) _).setCell (by simp) _ | (rw [hB]; first | exact (BL.setCell (by simp) _).setCell (by simp) _ | exact ((BL.drew).setCell (by simp) _).setCell (by simp) _)⟩
    · have z0 : (X 0 != 0) = false := by simp [h0]
      have z1 : (X 1 != X 2) = true := by simp [h12]
      rw [if_neg (fun h => h12 h.2)]
      clear h0 h12
      obtain ⟨c00w, c01w⟩ := hk 0 (by omega)
      obtain ⟨c10w, c11w⟩ := hk 1 (by omega)
      obtain ⟨c20w, c21w⟩ := hk 2 (by omega)
      go_enter Tryz.func169, Tryz.ntmps169
      go_wp2_with fail
      have BL : Below w.heap.size w ((w.alloc (.cells #[.int .i64 op] 151)).alloc (.cells #[.int .i64 0, .int .i64 0] 107)) := ((Below.refl w.heap.size w).alloc (Nat.le_refl _) _).alloc (by simp) _
      have kz : w.heap.size + 2 ≤ ((w.alloc (.cells #[.int .i64 op] 151)).alloc (.cells #[.int .i64 0, .int .i64 0] 107)).heap.size := by simp
      have c00 : ((w.alloc (.cells #[.int .i64 op] 151)).alloc (.cells #[.int .i64 0, .int .i64 0] 107)).cell? ⟨KB, 0, none⟩ = some (.int .i64 (X 0)) := cell_later BL (by simpa using c00w)
      have c01 : ((w.alloc (.cells #[.int .i64 op] 151)).alloc (.cells #[.int .i64 0, .int .i64 0] 107)).cell? ⟨KB, 1, none⟩ = some (.int .i64 (Y 0)) := cell_later BL (by simpa using c01w)
      have c10 : ((w.alloc (.cells #[.int .i64 op] 151)).alloc (.cells #[.int .i64 0, .int .i64 0] 107)).cell? ⟨KB, 2, none⟩ = some (.int .i64 (X 1)) := cell_later BL (by simpa using c10w)
      have c11 : ((w.alloc (.cells #[.int .i64 op] 151)).alloc (.cells #[.int .i64 0, .int .i64 0] 107)).cell? ⟨KB, 3, none⟩ = some (.int .i64 (Y 1)) := cell_later BL (by simpa using c11w)
      have c20 : ((w.alloc (.cells #[.int .i64 op] 151)).alloc (.cells #[.int .i64 0, .int .i64 0] 107)).cell? ⟨KB, 4, none⟩ = some (.int .i64 (X 2)) := cell_later BL (by simpa using c20w)
      have c21 : ((w.alloc (.cells #[.int .i64 op] 151)).alloc (.cells #[.int .i64 0, .int .i64 0] 107)).cell? ⟨KB, 5, none⟩ = some (.int .i64 (Y 2)) := cell_later BL (by simpa using c21w)
      have lk : KB < w.heap.size := World.block_lt_of_cell? _ _ c00w
      have p0 : ((w.alloc (.cells #[.int .i64 op] 151)).alloc (.cells #[.int .i64 0, .int .i64 0] 107)).cell? ⟨w.heap.size, 0, none⟩ = some (.int .i64 op) := by simp [go_sem]
      have r0 : ((w.alloc (.cells #[.int .i64 op] 151)).alloc (.cells #[.int .i64 0, .int .i64 0] 107)).cell? ⟨w.heap.size + 1, 0, none⟩ = some (.int .i64 0) := by simp [go_sem]
      have f0 : ((w.alloc (.cells #[.int .i64 op] 151)).alloc (.cells #[.int .i64 0, .int .i64 0] 107)).frozen? ⟨w.heap.size + 1, 0, none⟩ = false := by simp [go_sem]
      have r1 : ((w.alloc (.cells #[.int .i64 op] 151)).alloc (.cells #[.int .i64 0, .int .i64 0] 107)).cell? ⟨w.heap.size + 1, 1, none⟩ = some (.int .i64 0) := by simp [go_sem]
      have f1 : ((w.alloc (.cells #[.int .i64 op] 151)).alloc (.cells #[.int .i64 0, .int .i64 0] 107)).frozen? ⟨w.heap.size + 1, 1, none⟩ = false := by simp [go_sem]
      clear c00w c01w c10w c11w c20w c21w hk
      generalize hB : w.heap.size = B at *
      generalize ((w.alloc (.cells #[.int .i64 op] 151)).alloc (.cells #[.int .i64 0, .int .i64 0] 107)) = wa at *
      have nk : ¬ B + 1 = KB := by omega
      have nb : ¬ B + 1 = B := by omega
      refine wp_region_held_drew (S := (fun w' => w'.cell? ⟨KB, 0, none⟩ = some (.int .i64 (X 0)) ∧ w'.cell? ⟨KB, 1, none⟩ = some (.int .i64 (Y 0)) ∧ w'.cell? ⟨KB, 2, none⟩ = some (.int .i64 (X 1)) ∧ w'.cell? ⟨KB, 3, none⟩ = some (.int .i64 (Y 1)) ∧ w'.cell? ⟨KB, 4, none⟩ = some (.int .i64 (X 2)) ∧ w'.cell? ⟨KB, 5, none⟩ = some (.int .i64 (Y 2)) ∧ w'.cell? ⟨B, 0, none⟩ = some (.int .i64 op))) (by kernel_rfl) ?_ (fun hHeld => ?_)
      · exact ⟨c00, c01, c10, c11, c20, c21, p0⟩
      refine wpAnyH_take (i := 0) (v := ?_) rfl (by kernel_rfl) (by kernel_rfl) (by kernel_rfl) (fun _ _ _ h => h) (Or.inl ⟨by rfl, ?_⟩) (by assumption) ?_
      rotate_left
      · (intro w hSw; (try dsimp only at hSw); first | (go_simp; done) | (go_simp; with_reducible rfl))
      try simp only [List.getElem_toArray, List.getElem_cons_succ, List.getElem_cons_zero, Act.put, List.setIfInBounds_toArray, List.set_cons_zero, List.set_cons_succ]
      refine wpAnyH_take (i := 1) (v := ?_) rfl (by kernel_rfl) (by kernel_rfl) (by kernel_rfl) (fun _ _ _ h => h) (Or.inl ⟨by rfl, ?_⟩) (by assumption) ?_
      rotate_left
      · (intro w hSw; (try dsimp only at hSw); first | (go_simp; done) | (go_simp; with_reducible rfl))
      try simp only [List.getElem_toArray, List.getElem_cons_succ, List.getElem_cons_zero, Act.put, List.setIfInBounds_toArray, List.set_cons_zero, List.set_cons_succ]
      refine wpAnyH_take (i := 2) (v := ?_) rfl (by kernel_rfl) (by kernel_rfl) (by kernel_rfl) (fun _ _ _ h => h) (Or.inl ⟨by rfl, ?_⟩) (by assumption) ?_
      rotate_left
      · (intro w hSw; (try dsimp only at hSw); first | (go_simp; done) | (go_simp; with_reducible rfl))
      try simp only [List.getElem_toArray, List.getElem_cons_succ, List.getElem_cons_zero, Act.put, List.setIfInBounds_toArray, List.set_cons_zero, List.set_cons_succ]
      refine wpAnyH_take (i := 3) (v := ?_) rfl (by kernel_rfl) (by kernel_rfl) (by kernel_rfl) (fun _ _ _ h => h) (Or.inl ⟨by rfl, ?_⟩) (by assumption) ?_
      rotate_left
      · (intro w hSw; (try dsimp only at hSw); first | (go_simp; done) | (go_simp; with_reducible rfl))
      try simp only [List.getElem_toArray, List.getElem_cons_succ, List.getElem_cons_zero, Act.put, List.setIfInBounds_toArray, List.set_cons_zero, List.set_cons_succ]
      refine wpAnyH_take (i := 4) (v := ?_) rfl (by kernel_rfl) (by kernel_rfl) (by kernel_rfl) (fun _ _ _ h => h) (Or.inl ⟨by rfl, ?_⟩) (by assumption) ?_
      rotate_left
      · (intro w hSw; (try dsimp only at hSw); first | (go_simp; done) | (go_simp; with_reducible rfl))
      try simp only [List.getElem_toArray, List.getElem_cons_succ, List.getElem_cons_zero, Act.put, List.setIfInBounds_toArray, List.set_cons_zero, List.set_cons_succ]
      refine wpAnyH_take (i := 5) (v := ?_) rfl (by kernel_rfl) (by kernel_rfl) (by kernel_rfl) (fun _ _ _ h => h) (Or.inl ⟨by rfl, ?_⟩) (by assumption) ?_
      rotate_left
      · (intro w hSw; (try dsimp only at hSw); first | (go_simp; done) | (go_simp; with_reducible rfl))
      try simp only [List.getElem_toArray, List.getElem_cons_succ, List.getElem_cons_zero, Act.put, List.setIfInBounds_toArray, List.set_cons_zero, List.set_cons_succ]
      refine wpAnyH_take (i := 6) (v := ?_) rfl (by kernel_rfl) (by kernel_rfl) (by kernel_rfl) (fun _ _ _ h => h) (Or.inl ⟨by rfl, ?_⟩) (by assumption) ?_
      rotate_left
      · (intro w hSw; (try dsimp only at hSw); first | (go_simp; done) | (go_simp; with_reducible rfl))
      try simp only [List.getElem_toArray, List.getElem_cons_succ, List.getElem_cons_zero, Act.put, List.setIfInBounds_toArray, List.set_cons_zero, List.set_cons_succ]
      refine wpAnyH_take (i := 7) (v := ?_) rfl (by kernel_rfl) (by kernel_rfl) (by kernel_rfl) (fun _ _ _ h => h) (Or.inl ⟨by rfl, ?_⟩) (by assumption) ?_
      rotate_left
      · (intro w hSw; (try dsimp only at hSw); first | (go_simp; done) | (go_simp; with_reducible rfl))
      try simp only [List.getElem_toArray, List.getElem_cons_succ, List.getElem_cons_zero, Act.put, List.setIfInBounds_toArray, List.set_cons_zero, List.set_cons_succ]
      refine wpAnyH_take (i := 8) (v := ?_) rfl (by kernel_rfl) (by kernel_rfl) (by kernel_rfl) (fun _ _ _ h => h) (Or.inl ⟨by rfl, ?_⟩) (by assumption) ?_
      rotate_left
      · (intro w hSw; (try dsimp only at hSw); first | (go_simp; done) | (go_simp; with_reducible rfl))
      try simp only [List.getElem_toArray, List.getElem_cons_succ, List.getElem_cons_zero, Act.put, List.setIfInBounds_toArray, List.set_cons_zero, List.set_cons_succ]
      refine wpAnyH_take (i := 9) (v := ?_) rfl (by kernel_rfl) (by kernel_rfl) (by kernel_rfl) (fun _ _ _ h => h) (Or.inl ⟨by rfl, ?_⟩) (by assumption) ?_
      rotate_left
      · (intro w hSw; (try dsimp only at hSw); first | (go_simp; done) | (go_simp; with_reducible rfl))
      try simp only [List.getElem_toArray, List.getElem_cons_succ, List.getElem_cons_zero, Act.put, List.setIfInBounds_toArray, List.set_cons_zero, List.set_cons_succ]
      refine wpAnyH_take (i := 10) (v := ?_) rfl (by kernel_rfl) (by kernel_rfl) (by kernel_rfl) (fun _ _ _ h => h) (Or.inl ⟨by rfl, ?_⟩) (by assumption) ?_
      rotate_left
      · (intro w hSw; (try dsimp only at hSw); first | (go_simp; done) | (go_simp; with_reducible rfl))
      try simp only [List.getElem_toArray, List.getElem_cons_succ, List.getElem_cons_zero, Act.put, List.setIfInBounds_toArray, List.set_cons_zero, List.set_cons_succ]
      refine wpAnyH_take (i := 11) (v := ?_) rfl (by kernel_rfl) (by kernel_rfl) (by kernel_rfl) (fun _ _ _ h => h) (Or.inl ⟨by rfl, ?_⟩) (by assumption) ?_
      rotate_left
      · (intro w hSw; (try dsimp only at hSw); first | (go_simp; done) | (go_simp; with_reducible rfl))
      try simp only [List.getElem_toArray, List.getElem_cons_succ, List.getElem_cons_zero, Act.put, List.setIfInBounds_toArray, List.set_cons_zero, List.set_cons_succ]
      refine wpAnyH_take (i := 12) (v := ?_) rfl (by kernel_rfl) (by kernel_rfl) (by kernel_rfl) (fun _ _ _ h => h) (Or.inl ⟨by rfl, ?_⟩) (by assumption) ?_
      rotate_left
      · (intro w hSw; (try dsimp only at hSw); first | (go_simp; done) | (go_simp; with_reducible rfl))
      try simp only [List.getElem_toArray, List.getElem_cons_succ, List.getElem_cons_zero, Act.put, List.setIfInBounds_toArray, List.set_cons_zero, List.set_cons_succ]
      refine wpAnyH_take (i := 13) (v := ?_) rfl (by kernel_rfl) (by kernel_rfl) (by kernel_rfl) (fun _ _ _ h => h) (Or.inl ⟨by rfl, ?_⟩) (by assumption) ?_
      rotate_left
      · (intro w hSw; (try dsimp only at hSw); first | (go_simp; done) | (go_simp; with_reducible rfl))
      try simp only [List.getElem_toArray, List.getElem_cons_succ, List.getElem_cons_zero, Act.put, List.setIfInBounds_toArray, List.set_cons_zero, List.set_cons_succ]
      refine wpAnyH_take (i := 14) (v := ?_) rfl (by kernel_rfl) (by kernel_rfl) (by kernel_rfl) (fun _ _ _ h => h) (Or.inl ⟨by rfl, ?_⟩) (by assumption) ?_
      rotate_left
      · (intro w hSw; (try dsimp only at hSw); first | (go_simp; done) | (go_simp; with_reducible rfl))
      try simp only [List.getElem_toArray, List.getElem_cons_succ, List.getElem_cons_zero, Act.put, List.setIfInBounds_toArray, List.set_cons_zero, List.set_cons_succ]
      refine wpAnyH_take (i := 15) (v := ?_) rfl (by kernel_rfl) (by kernel_rfl) (by kernel_rfl) (fun _ _ _ h => h) (Or.inl ⟨by rfl, ?_⟩) (by assumption) ?_
      rotate_left
      · (intro w hSw; (try dsimp only at hSw); first | (go_simp; done) | (go_simp; with_reducible rfl))
      try simp only [List.getElem_toArray, List.getElem_cons_succ, List.getElem_cons_zero, Act.put, List.setIfInBounds_toArray, List.set_cons_zero, List.set_cons_succ]
      refine wpAnyH_done (by kernel_rfl) ?_ _
      go_wp2
      all_goals exact bodyPost_ret (v := (.tuple #[.agg #[.int .i64 0, .int .i64 0], .bool false])) (by simp [results, Tryz.results169, go_sem, r0, r1]) rfl ⟨by rfl, by first | exact (BL.setCell (by simp) _).setCell (by simp) _ | (rw [hB]; first | exact (BL.setCell (by simp) _).setCell (by simp) _ | exact ((BL.drew).setCell (by simp) _).setCell (by simp) _)⟩
  · have z0 : (X 0 != 0) = true := by simp [h0]
    rw [if_neg (fun h => h0 h.1)]
    clear h0
    obtain ⟨c00w, c01w⟩ := hk 0 (by omega)
    obtain ⟨c10w, c11w⟩ := hk 1 (by omega)
    obtain ⟨c20w, c21w⟩ := hk 2 (by omega)
    go_enter Tryz.func169, Tryz.ntmps169
    go_wp2_with fail
    have BL : Below w.heap.size w ((w.alloc (.cells #[.int .i64 op] 151)).alloc (.cells #[.int .i64 0, .int .i64 0] 107)) := ((Below.refl w.heap.size w).alloc (Nat.le_refl _) _).alloc (by simp) _
    have kz : w.heap.size + 2 ≤ ((w.alloc (.cells #[.int .i64 op] 151)).alloc (.cells #[.int .i64 0, .int .i64 0] 107)).heap.size := by simp
    have c00 : ((w.alloc (.cells #[.int .i64 op] 151)).alloc (.cells #[.int .i64 0, .int .i64 0] 107)).cell? ⟨KB, 0, none⟩ = some (.int .i64 (X 0)) := cell_later BL (by simpa using c00w)
    have c01 : ((w.alloc (.cells #[.int .i64 op] 151)).alloc (.cells #[.int .i64 0, .int .i64 0] 107)).cell? ⟨KB, 1, none⟩ = some (.int .i64 (Y 0)) := cell_later BL (by simpa using c01w)
    have c10 : ((w.alloc (.cells #[.int .i64 op] 151)).alloc (.cells #[.int .i64 0, .int .i64 0] 107)).cell? ⟨KB, 2, none⟩ = some (.int .i64 (X 1)) := cell_later BL (by simpa using c10w)
    have c11 : ((w.alloc (.cells #[.int .i64 op] 151)).alloc (.cells #[.int .i64 0, .int .i64 0] 107)).cell? ⟨KB, 3, none⟩ = some (.int .i64 (Y 1)) := cell_later BL (by simpa using c11w)
    have c20 : ((w.alloc (.cells #[.int .i64 op] 151)).alloc (.cells #[.int .i64 0, .int .i64 0] 107)).cell? ⟨KB, 4, none⟩ = some (.int .i64 (X 2)) := cell_later BL (by simpa using c20w)
    have c21 : ((w.alloc (.cells #[.int .i64 op] 151)).alloc (.cells #[.int .i64 0, .int .i64 0] 107)).cell? ⟨KB, 5, none⟩ = some (.int .i64 (Y 2)) := cell_later BL (by simpa using c21w)
    have lk : KB < w.heap.size := World.block_lt_of_cell? _ _ c00w
    have p0 : ((w.alloc (.cells #[.int .i64 op] 151)).alloc (.cells #[.int .i64 0, .int .i64 0] 107)).cell? ⟨w.heap.size, 0, none⟩ = some (.int .i64 op) := by simp [go_sem]
    have r0 : ((w.alloc (.cells #[.int .i64 op] 151)).alloc (.cells #[.int .i64 0, .int .i64 0] 107)).cell? ⟨w.heap.size + 1, 0, none⟩ = some (.int .i64 0) := by simp [go_sem]
    have f0 : ((w.alloc (.cells #[.int .i64 op] 151)).alloc (.cells #[.int .i64 0, .int .i64 0] 107)).frozen? ⟨w.heap.size + 1, 0, none⟩ = false := by simp [go_sem]
    have r1 : ((w.alloc (.cells #[.int .i64 op] 151)).alloc (.cells #[.int .i64 0, .int .i64 0] 107)).cell? ⟨w.heap.size + 1, 1, none⟩ = some (.int .i64 0) := by simp [go_sem]
    have f1 : ((w.alloc (.cells #[.int .i64 op] 151)).alloc (.cells #[.int .i64 0, .int .i64 0] 107)).frozen? ⟨w.heap.size + 1, 1, none⟩ = false := by simp [go_sem]
    clear c00w c01w c10w c11w c20w c21w hk
    generalize hB : w.heap.size = B at *
    generalize ((w.alloc (.cells #[.int .i64 op] 151)).alloc (.cells #[.int .i64 0, .int .i64 0] 107)) = wa at *
    have nk : ¬ B + 1 = KB := by omega
    have nb : ¬ B + 1 = B := by omega
    refine wp_region_held_drew (S := (fun w' => w'.cell? ⟨KB, 0, none⟩ = some (.int .i64 (X 0)) ∧ w'.cell? ⟨KB, 1, none⟩ = some (.int .i64 (Y 0)) ∧ w'.cell? ⟨KB, 2, none⟩ = some (.int .i64 (X 1)) ∧ w'.cell? ⟨KB, 3, none⟩ = some (.int .i64 (Y 1)) ∧ w'.cell? ⟨KB, 4, none⟩ = some (.int .i64 (X 2)) ∧ w'.cell? ⟨KB, 5, none⟩ = some (.int .i64 (Y 2)) ∧ w'.cell? ⟨B, 0, none⟩ = some (.int .i64 op))) (by kernel_rfl) ?_ (fun hHeld => ?_)
    · exact ⟨c00, c01, c10, c11, c20, c21, p0⟩
    refine wpAnyH_take (i := 0) (v := ?_) rfl (by kernel_rfl) (by kernel_rfl) (by kernel_rfl) (fun _ _ _ h => h) (Or.inl ⟨by rfl, ?_⟩) (by assumption) ?_
    rotate_left
    · (intro w hSw; (try dsimp only at hSw); first | (go_simp; done) | (go_simp; with_reducible rfl))
    try simp only [List.getElem_toArray, List.getElem_cons_succ, List.getElem_cons_zero, Act.put, List.setIfInBounds_toArray, List.set_cons_zero, List.set_cons_succ]
    refine wpAnyH_take (i := 1) (v := ?_) rfl (by kernel_rfl) (by kernel_rfl) (by kernel_rfl) (fun _ _ _ h => h) (Or.inl ⟨by rfl, ?_⟩) (by assumption) ?_
    rotate_left
    · (intro w hSw; (try dsimp only at hSw); first | (go_simp; done) | (go_simp; with_reducible rfl))
    try simp only [List.getElem_toArray, List.getElem_cons_succ, List.getElem_cons_zero, Act.put, List.setIfInBounds_toArray, List.set_cons_zero, List.set_cons_succ]
    refine wpAnyH_take (i := 2) (v := ?_) rfl (by kernel_rfl) (by kernel_rfl) (by kernel_rfl) (fun _ _ _ h => h) (Or.inl ⟨by rfl, ?_⟩) (by assumption) ?_
    rotate_left
    · (intro w hSw; (try dsimp only at hSw); first | (go_simp; done) | (go_simp; with_reducible rfl))
    try simp only [List.getElem_toArray, List.getElem_cons_succ, List.getElem_cons_zero, Act.put, List.setIfInBounds_toArray, List.set_cons_zero, List.set_cons_succ]
    refine wpAnyH_take (i := 3) (v := ?_) rfl (by kernel_rfl) (by kernel_rfl) (by kernel_rfl) (fun _ _ _ h => h) (Or.inl ⟨by rfl, ?_⟩) (by assumption) ?_
    rotate_left
    · (intro w hSw; (try dsimp only at hSw); first | (go_simp; done) | (go_simp; with_reducible rfl))
    try simp only [List.getElem_toArray, List.getElem_cons_succ, List.getElem_cons_zero, Act.put, List.setIfInBounds_toArray, List.set_cons_zero, List.set_cons_succ]
    refine wpAnyH_take (i := 4) (v := ?_) rfl (by kernel_rfl) (by kernel_rfl) (by kernel_rfl) (fun _ _ _ h => h) (Or.inl ⟨by rfl, ?_⟩) (by assumption) ?_
    rotate_left
    · (intro w hSw; (try dsimp only at hSw); first | (go_simp; done) | (go_simp; with_reducible rfl))
    try simp only [List.getElem_toArray, List.getElem_cons_succ, List.getElem_cons_zero, Act.put, List.setIfInBounds_toArray, List.set_cons_zero, List.set_cons_succ]
    refine wpAnyH_take (i := 5) (v := ?_) rfl (by kernel_rfl) (by kernel_rfl) (by kernel_rfl) (fun _ _ _ h => h) (Or.inl ⟨by rfl, ?_⟩) (by assumption) ?_
    rotate_left
    · (intro w hSw; (try dsimp only at hSw); first | (go_simp; done) | (go_simp; with_reducible rfl))
    try simp only [List.getElem_toArray, List.getElem_cons_succ, List.getElem_cons_zero, Act.put, List.setIfInBounds_toArray, List.set_cons_zero, List.set_cons_succ]
    refine wpAnyH_take (i := 6) (v := undef) rfl (by kernel_rfl) (by kernel_rfl) (by kernel_rfl) (fun _ _ _ h => h) (Or.inr ⟨by rfl, rfl⟩) (by assumption) ?_
    try simp only [List.getElem_toArray, List.getElem_cons_succ, List.getElem_cons_zero, Act.put, List.setIfInBounds_toArray, List.set_cons_zero, List.set_cons_succ]
    refine wpAnyH_take (i := 7) (v := undef) rfl (by kernel_rfl) (by kernel_rfl) (by kernel_rfl) (fun _ _ _ h => h) (Or.inr ⟨by rfl, rfl⟩) (by assumption) ?_
    try simp only [List.getElem_toArray, List.getElem_cons_succ, List.getElem_cons_zero, Act.put, List.setIfInBounds_toArray, List.set_cons_zero, List.set_cons_succ]
    refine wpAnyH_take (i := 8) (v := undef) rfl (by kernel_rfl) (by kernel_rfl) (by kernel_rfl) (fun _ _ _ h => h) (Or.inr ⟨by rfl, rfl⟩) (by assumption) ?_
    try simp only [List.getElem_toArray, List.getElem_cons_succ, List.getElem_cons_zero, Act.put, List.setIfInBounds_toArray, List.set_cons_zero, List.set_cons_succ]
    refine wpAnyH_take (i := 9) (v := undef) rfl (by kernel_rfl) (by kernel_rfl) (by kernel_rfl) (fun _ _ _ h => h) (Or.inr ⟨by rfl, rfl⟩) (by assumption) ?_
    try simp only [List.getElem_toArray, List.getElem_cons_succ, List.getElem_cons_zero, Act.put, List.setIfInBounds_toArray, List.set_cons_zero, List.set_cons_succ]
    refine wpAnyH_take (i := 10) (v := undef) rfl (by kernel_rfl) (by kernel_rfl) (by kernel_rfl) (fun _ _ _ h => h) (Or.inr ⟨by rfl, rfl⟩) (by assumption) ?_
    try simp only [List.getElem_toArray, List.getElem_cons_succ, List.getElem_cons_zero, Act.put, List.setIfInBounds_toArray, List.set_cons_zero, List.set_cons_succ]
    refine wpAnyH_take (i := 11) (v := undef) rfl (by kernel_rfl) (by kernel_rfl) (by kernel_rfl) (fun _ _ _ h => h) (Or.inr ⟨by rfl, rfl⟩) (by assumption) ?_
    try simp only [List.getElem_toArray, List.getElem_cons_succ, List.getElem_cons_zero, Act.put, List.setIfInBounds_toArray, List.set_cons_zero, List.set_cons_succ]
    refine wpAnyH_take (i := 12) (v := undef) rfl (by kernel_rfl) (by kernel_rfl) (by kernel_rfl) (fun _ _ _ h => h) (Or.inr ⟨by rfl, rfl⟩) (by assumption) ?_
    try simp only [List.getElem_toArray, List.getElem_cons_succ, List.getElem_cons_zero, Act.put, List.setIfInBounds_toArray, List.set_cons_zero, List.set_cons_succ]
    refine wpAnyH_take (i := 13) (v := undef) rfl (by kernel_rfl) (by kernel_rfl) (by kernel_rfl) (fun _ _ _ h => h) (Or.inr ⟨by rfl, rfl⟩) (by assumption) ?_
    try simp only [List.getElem_toArray, List.getElem_cons_succ, List.getElem_cons_zero, Act.put, List.setIfInBounds_toArray, List.set_cons_zero, List.set_cons_succ]
    refine wpAnyH_take (i := 14) (v := undef) rfl (by kernel_rfl) (by kernel_rfl) (by kernel_rfl) (fun _ _ _ h => h) (Or.inr ⟨by rfl, rfl⟩) (by assumption) ?_
    try simp only [List.getElem_toArray, List.getElem_cons_succ, List.getElem_cons_zero, Act.put, List.setIfInBounds_toArray, List.set_cons_zero, List.set_cons_succ]
    refine wpAnyH_take (i := 15) (v := ?_) rfl (by kernel_rfl) (by kernel_rfl) (by kernel_rfl) (fun _ _ _ h => h) (Or.inl ⟨by rfl, ?_⟩) (by assumption) ?_
    rotate_left
    · (intro w hSw; (try dsimp only at hSw); first | (go_simp; done) | (go_simp; with_reducible rfl))
    try simp only [List.getElem_toArray, List.getElem_cons_succ, List.getElem_cons_zero, Act.put, List.setIfInBounds_toArray, List.set_cons_zero, List.set_cons_succ]
    refine wpAnyH_done (by kernel_rfl) ?_ _
    go_wp2
    all_goals exact bodyPost_ret (v := (.tuple #[.agg #[.int .i64 0, .int .i64 0], .bool false])) (by simp [results, Tryz.results169, go_sem, r0, r1]) rfl ⟨by rfl, by first | exact (BL.setCell (by simp) _).setCell (by simp) _ | (rw [hB]; first | exact (BL.setCell (by simp) _).setCell (by simp) _ | exact ((BL.drew).setCell (by simp) _).setCell (by simp) _)⟩
end Go.Proofs.YtfopmobopmdahaaGreat
