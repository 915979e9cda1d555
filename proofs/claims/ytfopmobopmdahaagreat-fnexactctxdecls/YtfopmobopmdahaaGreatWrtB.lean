/- What the kinds of the program make of their Kids. -/
import Derived.Test.YtfopmobopmdahaaGreatWrtE
import Derived.Test.YtfopmobopmdahaaGreatVecH
import Derived.Test.YtfopmobopmdahaaGreatVecL
import Derived.Test.YtfopmobopmdahaaGreatVecN
import Derived.Test.YtfopmobopmdahaaGreatVecO
namespace Go.Proofs.YtfopmobopmdahaaGreat
open Go.ChangeShapes Go.WideShapes Go.ChangeAt Go.RowKit Go.Joins
set_option linter.unusedVariables false
set_option linter.unusedSimpArgs false

/-- Numbers of a few bits in a row. -/
def Vecs (w : World) (B n : Nat) (X Y : Nat → Int) : Prop := ∀ i, i < n → w.cell? ⟨B, i * 2, none⟩ = some (.int .i64 (X i)) ∧ w.cell? ⟨B, i * 2 + 1, none⟩ = some (.int .i64 (Y i))
theorem Vecs.later {w w' : World} {B n : Nat} {X Y : Nat → Int} (h : Vecs w B n X Y) (hb : Below w.heap.size w w') : Vecs w' B n X Y := fun i hi => ⟨cell_later hb (h i hi).1, cell_later hb (h i hi).2⟩
theorem fzl {w w' : World} {p : Addr} (hb : Below w.heap.size w w') (hp : p.block < w.heap.size) (hf : w.frozen? p = false) : w'.frozen? p = false := by rw [hb.frozen hp]; exact hf
set_option maxRecDepth 100000 in
set_option maxHeartbeats 2000000 in
theorem worth_un (op : Int) (KB : Nat) (X Y : Nat → Int) (mv : Value) (w : World) (hk : Vecs w KB 1 X Y) :
    Calls Tryz.prog 128 #[.agg #[.int .i64 op], mv, .slice (some ⟨KB, 0, none⟩) 1 1] w fun e w' => e = .returned (unV op (X 0) (Y 0)) ∧ Below w.heap.size w w' := by
  obtain ⟨c, d, tt, hV⟩ := unV_form op (X 0) (Y 0)
  rw [hV]
  have hI := fun w => iVecUn_any op (X 0) (Y 0) w
  simp only [hV] at hI
  have HI := hide hI
  clear hI hV
  obtain ⟨c00w, c01w⟩ := hk 0 (by omega)
  go_enter Tryz.func128, Tryz.ntmps128
  go_wp2_with fail
  have BL : Below w.heap.size w ((w.alloc (.cells #[.int .i64 op] 146)).alloc (.cells #[.int .i64 0, .int .i64 0] 107)) := ((Below.refl w.heap.size w).alloc (Nat.le_refl _) _).alloc (by simp) _
  have kz : w.heap.size + 2 ≤ ((w.alloc (.cells #[.int .i64 op] 146)).alloc (.cells #[.int .i64 0, .int .i64 0] 107)).heap.size := by simp
  have c00 : ((w.alloc (.cells #[.int .i64 op] 146)).alloc (.cells #[.int .i64 0, .int .i64 0] 107)).cell? ⟨KB, 0, none⟩ = some (.int .i64 (X 0)) := cell_later BL (by simpa using c00w)
  have c01 : ((w.alloc (.cells #[.int .i64 op] 146)).alloc (.cells #[.int .i64 0, .int .i64 0] 107)).cell? ⟨KB, 1, none⟩ = some (.int .i64 (Y 0)) := cell_later BL (by simpa using c01w)
  have lk : KB < w.heap.size := World.block_lt_of_cell? _ _ c00w
  have p0 : ((w.alloc (.cells #[.int .i64 op] 146)).alloc (.cells #[.int .i64 0, .int .i64 0] 107)).cell? ⟨w.heap.size, 0, none⟩ = some (.int .i64 op) := by simp [go_sem]
  have r0 : ((w.alloc (.cells #[.int .i64 op] 146)).alloc (.cells #[.int .i64 0, .int .i64 0] 107)).cell? ⟨w.heap.size + 1, 0, none⟩ = some (.int .i64 0) := by simp [go_sem]
  have f0 : ((w.alloc (.cells #[.int .i64 op] 146)).alloc (.cells #[.int .i64 0, .int .i64 0] 107)).frozen? ⟨w.heap.size + 1, 0, none⟩ = false := by simp [go_sem]
  have r1 : ((w.alloc (.cells #[.int .i64 op] 146)).alloc (.cells #[.int .i64 0, .int .i64 0] 107)).cell? ⟨w.heap.size + 1, 1, none⟩ = some (.int .i64 0) := by simp [go_sem]
  have f1 : ((w.alloc (.cells #[.int .i64 op] 146)).alloc (.cells #[.int .i64 0, .int .i64 0] 107)).frozen? ⟨w.heap.size + 1, 1, none⟩ = false := by simp [go_sem]
  clear c00w c01w hk
  generalize hB : w.heap.size = B at *
  generalize ((w.alloc (.cells #[.int .i64 op] 146)).alloc (.cells #[.int .i64 0, .int .i64 0] 107)) = wa at *
  have nk : ¬ B + 1 = KB := by omega
  have nb : ¬ B + 1 = B := by omega
  refine wp_region_held_drew (S := (fun w' => w'.cell? ⟨KB, 0, none⟩ = some (.int .i64 (X 0)) ∧ w'.cell? ⟨KB, 1, none⟩ = some (.int .i64 (Y 0)) ∧ w'.cell? ⟨B, 0, none⟩ = some (.int .i64 op))) (by kernel_rfl) ?_ (fun hHeld => ?_)
  · exact ⟨c00, c01, p0⟩
  refine wpAnyH_take (i := 0) (v := ?_) rfl (by kernel_rfl) (by kernel_rfl) (by kernel_rfl) (fun _ _ _ h => h) (Or.inl ⟨by rfl, ?_⟩) (by assumption) ?_
  rotate_left
  · (intro w hSw; (try dsimp only at hSw); first | (go_simp; done) | (go_simp; with_reducible rfl))
  try simp only [List.getElem_toArray, List.getElem_cons_succ, List.getElem_cons_zero, Act.put, List.setIfInBounds_toArray, List.set_cons_zero, List.set_cons_succ]
  refine wpAnyH_take (i := 1) (v := ?_) rfl (by kernel_rfl) (by kernel_rfl) (by kernel_rfl) (fun _ _ _ h => h) (Or.inl ⟨by rfl, ?_⟩) (by assumption) ?_
  rotate_left
  · (intro w hSw; (try dsimp only at hSw); first | (go_simp; done) | (go_simp; with_reducible rfl))
  try simp only [List.getElem_toArray, List.getElem_cons_succ, List.getElem_cons_zero, Act.put, List.setIfInBounds_toArray, List.set_cons_zero, List.set_cons_succ]
  refine wpAnyH_take (i := 2) (v := ?_) rfl (by kernel_rfl) (by kernel_rfl) (by kernel_rfl) (fun _ _ _ h => h) (Or.inl ⟨by rfl, ?_⟩) (by assumption) ?_
  rotate_left
  · (intro w hSw; (try dsimp only at hSw); first | (go_simp; done) | (go_simp; with_reducible rfl))
  try simp only [List.getElem_toArray, List.getElem_cons_succ, List.getElem_cons_zero, Act.put, List.setIfInBounds_toArray, List.set_cons_zero, List.set_cons_succ]
  refine wpAnyH_take (i := 3) (v := ?_) rfl (by kernel_rfl) (by kernel_rfl) (by kernel_rfl) (fun _ _ _ h => h) (Or.inl ⟨by rfl, ?_⟩) (by assumption) ?_
  rotate_left
  · (intro w hSw; (try dsimp only at hSw); first | (go_simp; done) | (go_simp; with_reducible rfl))
  try simp only [List.getElem_toArray, List.getElem_cons_succ, List.getElem_cons_zero, Act.put, List.setIfInBounds_toArray, List.set_cons_zero, List.set_cons_succ]
  refine wpAnyH_take (i := 4) (v := ?_) rfl (by kernel_rfl) (by kernel_rfl) (by kernel_rfl) (fun _ _ _ h => h) (Or.inl ⟨by rfl, ?_⟩) (by assumption) ?_
  rotate_left
  · (intro w hSw; (try dsimp only at hSw); first | (go_simp; done) | (go_simp; with_reducible rfl))
  try simp only [List.getElem_toArray, List.getElem_cons_succ, List.getElem_cons_zero, Act.put, List.setIfInBounds_toArray, List.set_cons_zero, List.set_cons_succ]
  refine wpAnyH_ready (rs := [5]) (by kernel_rfl) (by simp) ?_
  refine AllReadyH.cons rfl (fun K hK => ?_) AllReadyH.nil
  go_simp
  go_at_call 129
  refine (unhide HI _).mono ?_
  rintro e wq1 ⟨rfl, bq⟩
  replace c00 := cell_later bq (by exact c00)
  replace c01 := cell_later bq (by exact c01)
  replace p0 := cell_later bq (by exact p0)
  replace f0 := fzl bq (World.block_lt_of_cell? _ _ (by exact r0)) (by exact f0)
  replace f1 := fzl bq (World.block_lt_of_cell? _ _ (by exact r1)) (by exact f1)
  replace r0 := cell_later bq (by exact r0)
  replace r1 := cell_later bq (by exact r1)
  replace BL := (show Below B w _ from by first | exact BL.trans (bq.mono (by exact Nat.le_trans (Nat.le_add_right _ _) kz)) | exact BL.drew.trans (bq.mono (by exact Nat.le_trans (Nat.le_add_right _ _) kz)))
  replace kz := Nat.le_trans kz bq.size
  clear bq
  go_wp2_with fail
  refine hK.out _ _ ?_ (fun hHeld => ?_)
  · exact ⟨c00, c01, p0⟩
  clear hK K
  try simp only [List.getElem_toArray, List.getElem_cons_succ, List.getElem_cons_zero, Act.put, List.setIfInBounds_toArray, List.set_cons_zero, List.set_cons_succ]
  refine wpAnyH_take (i := 6) (v := ?_) rfl (by kernel_rfl) (by kernel_rfl) (by kernel_rfl) (fun _ _ _ h => h) (Or.inl ⟨by rfl, ?_⟩) (by assumption) ?_
  rotate_left
  · (intro w hSw; (try dsimp only at hSw); first | (go_simp; done) | (go_simp; with_reducible rfl))
  try simp only [List.getElem_toArray, List.getElem_cons_succ, List.getElem_cons_zero, Act.put, List.setIfInBounds_toArray, List.set_cons_zero, List.set_cons_succ]
  refine wpAnyH_take (i := 7) (v := ?_) rfl (by kernel_rfl) (by kernel_rfl) (by kernel_rfl) (fun _ _ _ h => h) (Or.inl ⟨by rfl, ?_⟩) (by assumption) ?_
  rotate_left
  · (intro w hSw; (try dsimp only at hSw); first | (go_simp; done) | (go_simp; with_reducible rfl))
  try simp only [List.getElem_toArray, List.getElem_cons_succ, List.getElem_cons_zero, Act.put, List.setIfInBounds_toArray, List.set_cons_zero, List.set_cons_succ]
  refine wpAnyH_ready (rs := [8]) (by kernel_rfl) (by simp) ?_
  refine AllReadyH.cons rfl (fun K hK => ?_) AllReadyH.nil
  go_simp
  refine hK.out _ _ ?_ (fun hHeld => ?_)
  · exact (by simp only [World.cell?_setCell_far, nk, nb, ne_eq, not_false_eq_true]; exact ⟨c00, c01, p0⟩)
  clear hK K
  try simp only [List.getElem_toArray, List.getElem_cons_succ, List.getElem_cons_zero, Act.put, List.setIfInBounds_toArray, List.set_cons_zero, List.set_cons_succ]
  refine wpAnyH_take (i := 9) (v := ?_) rfl (by kernel_rfl) (by kernel_rfl) (by kernel_rfl) (fun _ _ _ h => h) (Or.inl ⟨by rfl, ?_⟩) (by assumption) ?_
  rotate_left
  · (intro w hSw; (try dsimp only at hSw); first | (go_simp; done) | (go_simp; with_reducible rfl))
  try simp only [List.getElem_toArray, List.getElem_cons_succ, List.getElem_cons_zero, Act.put, List.setIfInBounds_toArray, List.set_cons_zero, List.set_cons_succ]
  refine wpAnyH_done (by kernel_rfl) ?_ _
  go_wp2
  all_goals exact bodyPost_ret (v := (.tuple #[.agg #[.int .i64 c, .int .i64 d], .bool tt])) (by simp [results, Tryz.results128, go_sem, r0, r1]) rfl ⟨by rfl, by first | exact (BL.setCell (by simp) _).setCell (by simp) _ | (rw [hB]; first | exact (BL.setCell (by simp) _).setCell (by simp) _ | exact ((BL.drew).setCell (by simp) _).setCell (by simp) _)⟩
set_option maxRecDepth 100000 in
set_option maxHeartbeats 2000000 in
theorem worth_bin (op : Int) (KB : Nat) (X Y : Nat → Int) (mv : Value) (w : World) (hk : Vecs w KB 2 X Y) :
    Calls Tryz.prog 139 #[.agg #[.int .i64 op], mv, .slice (some ⟨KB, 0, none⟩) 2 2] w fun e w' => e = .returned (binV op (X 0) (Y 0) (X 1) (Y 1)) ∧ Below w.heap.size w w' := by
  obtain ⟨c, d, tt, hV⟩ := binV_form op (X 0) (Y 0) (X 1) (Y 1)
  rw [hV]
  have hI := fun w => iVecBin_any op (X 0) (Y 0) (X 1) (Y 1) w
  simp only [hV] at hI
  have HI := hide hI
  clear hI hV
  obtain ⟨c00w, c01w⟩ := hk 0 (by omega)
  obtain ⟨c10w, c11w⟩ := hk 1 (by omega)
  go_enter Tryz.func139, Tryz.ntmps139
  go_wp2_with fail
  have BL : Below w.heap.size w ((w.alloc (.cells #[.int .i64 op] 147)).alloc (.cells #[.int .i64 0, .int .i64 0] 107)) := ((Below.refl w.heap.size w).alloc (Nat.le_refl _) _).alloc (by simp) _
  have kz : w.heap.size + 2 ≤ ((w.alloc (.cells #[.int .i64 op] 147)).alloc (.cells #[.int .i64 0, .int .i64 0] 107)).heap.size := by simp
  have c00 : ((w.alloc (.cells #[.int .i64 op] 147)).alloc (.cells #[.int .i64 0, .int .i64 0] 107)).cell? ⟨KB, 0, none⟩ = some (.int .i64 (X 0)) := cell_later BL (by simpa using c00w)
  have c01 : ((w.alloc (.cells #[.int .i64 op] 147)).alloc (.cells #[.int .i64 0, .int .i64 0] 107)).cell? ⟨KB, 1, none⟩ = some (.int .i64 (Y 0)) := cell_later BL (by simpa using c01w)
  have c10 : ((w.alloc (.cells #[.int .i64 op] 147)).alloc (.cells #[.int .i64 0, .int .i64 0] 107)).cell? ⟨KB, 2, none⟩ = some (.int .i64 (X 1)) := cell_later BL (by simpa using c10w)
  have c11 : ((w.alloc (.cells #[.int .i64 op] 147)).alloc (.cells #[.int .i64 0, .int .i64 0] 107)).cell? ⟨KB, 3, none⟩ = some (.int .i64 (Y 1)) := cell_later BL (by simpa using c11w)
  have lk : KB < w.heap.size := World.block_lt_of_cell? _ _ c00w
  have p0 : ((w.alloc (.cells #[.int .i64 op] 147)).alloc (.cells #[.int .i64 0, .int .i64 0] 107)).cell? ⟨w.heap.size, 0, none⟩ = some (.int .i64 op) := by simp [go_sem]
  have r0 : ((w.alloc (.cells #[.int .i64 op] 147)).alloc (.cells #[.int .i64 0, .int .i64 0] 107)).cell? ⟨w.heap.size + 1, 0, none⟩ = some (.int .i64 0) := by simp [go_sem]
  have f0 : ((w.alloc (.cells #[.int .i64 op] 147)).alloc (.cells #[.int .i64 0, .int .i64 0] 107)).frozen? ⟨w.heap.size + 1, 0, none⟩ = false := by simp [go_sem]
  have r1 : ((w.alloc (.cells #[.int .i64 op] 147)).alloc (.cells #[.int .i64 0, .int .i64 0] 107)).cell? ⟨w.heap.size + 1, 1, none⟩ = some (.int .i64 0) := by simp [go_sem]
  have f1 : ((w.alloc (.cells #[.int .i64 op] 147)).alloc (.cells #[.int .i64 0, .int .i64 0] 107)).frozen? ⟨w.heap.size + 1, 1, none⟩ = false := by simp [go_sem]
  clear c00w c01w c10w c11w hk
  generalize hB : w.heap.size = B at *
  generalize ((w.alloc (.cells #[.int .i64 op] 147)).alloc (.cells #[.int .i64 0, .int .i64 0] 107)) = wa at *
  have nk : ¬ B + 1 = KB := by omega
  have nb : ¬ B + 1 = B := by omega
  refine wp_region_held_drew (S := (fun w' => w'.cell? ⟨KB, 0, none⟩ = some (.int .i64 (X 0)) ∧ w'.cell? ⟨KB, 1, none⟩ = some (.int .i64 (Y 0)) ∧ w'.cell? ⟨KB, 2, none⟩ = some (.int .i64 (X 1)) ∧ w'.cell? ⟨KB, 3, none⟩ = some (.int .i64 (Y 1)) ∧ w'.cell? ⟨B, 0, none⟩ = some (.int .i64 op))) (by kernel_rfl) ?_ (fun hHeld => ?_)
  · exact ⟨c00, c01, c10, c11, p0⟩
  refine wpAnyH_take (i := 0) (v := ?_) rfl (by kernel_rfl) (by kernel_rfl) (by kernel_rfl) (fun _ _ _ h => h) (Or.inl ⟨by rfl, ?_⟩) (by assumption) ?_
  rotate_left
  · (intro w hSw; (try dsimp only at hSw); first | (go_simp; done) | (go_simp; with_reducible rfl))
  try simp only [List.getElem_toArray, List.getElem_cons_succ, List.getElem_cons_zero, Act.put, List.setIfInBounds_toArray, List.set_cons_zero, List.set_cons_succ]
  refine wpAnyH_take (i := 1) (v := ?_) rfl (by kernel_rfl) (by kernel_rfl) (by kernel_rfl) (fun _ _ _ h => h) (Or.inl ⟨by rfl, ?_⟩) (by assumption) ?_
  rotate_left
  · (intro w hSw; (try dsimp only at hSw); first | (go_simp; done) | (go_simp; with_reducible rfl))
  try simp only [List.getElem_toArray, List.getElem_cons_succ, List.getElem_cons_zero, Act.put, List.setIfInBounds_toArray, List.set_cons_zero, List.set_cons_succ]
  refine wpAnyH_take (i := 2) (v := ?_) rfl (by kernel_rfl) (by kernel_rfl) (by kernel_rfl) (fun _ _ _ h => h) (Or.inl ⟨by rfl, ?_⟩) (by assumption) ?_
  rotate_left
  · (intro w hSw; (try dsimp only at hSw); first | (go_simp; done) | (go_simp; with_reducible rfl))
  try simp only [List.getElem_toArray, List.getElem_cons_succ, List.getElem_cons_zero, Act.put, List.setIfInBounds_toArray, List.set_cons_zero, List.set_cons_succ]
  refine wpAnyH_take (i := 3) (v := ?_) rfl (by kernel_rfl) (by kernel_rfl) (by kernel_rfl) (fun _ _ _ h => h) (Or.inl ⟨by rfl, ?_⟩) (by assumption) ?_
  rotate_left
  · (intro w hSw; (try dsimp only at hSw); first | (go_simp; done) | (go_simp; with_reducible rfl))
  try simp only [List.getElem_toArray, List.getElem_cons_succ, List.getElem_cons_zero, Act.put, List.setIfInBounds_toArray, List.set_cons_zero, List.set_cons_succ]
  refine wpAnyH_take (i := 4) (v := ?_) rfl (by kernel_rfl) (by kernel_rfl) (by kernel_rfl) (fun _ _ _ h => h) (Or.inl ⟨by rfl, ?_⟩) (by assumption) ?_
  rotate_left
  · (intro w hSw; (try dsimp only at hSw); first | (go_simp; done) | (go_simp; with_reducible rfl))
  try simp only [List.getElem_toArray, List.getElem_cons_succ, List.getElem_cons_zero, Act.put, List.setIfInBounds_toArray, List.set_cons_zero, List.set_cons_succ]
  refine wpAnyH_take (i := 5) (v := ?_) rfl (by kernel_rfl) (by kernel_rfl) (by kernel_rfl) (fun _ _ _ h => h) (Or.inl ⟨by rfl, ?_⟩) (by assumption) ?_
  rotate_left
  · (intro w hSw; (try dsimp only at hSw); first | (go_simp; done) | (go_simp; with_reducible rfl))
  try simp only [List.getElem_toArray, List.getElem_cons_succ, List.getElem_cons_zero, Act.put, List.setIfInBounds_toArray, List.set_cons_zero, List.set_cons_succ]
  refine wpAnyH_take (i := 6) (v := ?_) rfl (by kernel_rfl) (by kernel_rfl) (by kernel_rfl) (fun _ _ _ h => h) (Or.inl ⟨by rfl, ?_⟩) (by assumption) ?_
  rotate_left
  · (intro w hSw; (try dsimp only at hSw); first | (go_simp; done) | (go_simp; with_reducible rfl))
  try simp only [List.getElem_toArray, List.getElem_cons_succ, List.getElem_cons_zero, Act.put, List.setIfInBounds_toArray, List.set_cons_zero, List.set_cons_succ]
  refine wpAnyH_take (i := 7) (v := ?_) rfl (by kernel_rfl) (by kernel_rfl) (by kernel_rfl) (fun _ _ _ h => h) (Or.inl ⟨by rfl, ?_⟩) (by assumption) ?_
  rotate_left
  · (intro w hSw; (try dsimp only at hSw); first | (go_simp; done) | (go_simp; with_reducible rfl))
  try simp only [List.getElem_toArray, List.getElem_cons_succ, List.getElem_cons_zero, Act.put, List.setIfInBounds_toArray, List.set_cons_zero, List.set_cons_succ]
  refine wpAnyH_ready (rs := [8]) (by kernel_rfl) (by simp) ?_
  refine AllReadyH.cons rfl (fun K hK => ?_) AllReadyH.nil
  go_simp
  go_at_call 140
  refine (unhide HI _).mono ?_
  rintro e wq1 ⟨rfl, bq⟩
  replace c00 := cell_later bq (by exact c00)
  replace c01 := cell_later bq (by exact c01)
  replace c10 := cell_later bq (by exact c10)
  replace c11 := cell_later bq (by exact c11)
  replace p0 := cell_later bq (by exact p0)
  replace f0 := fzl bq (World.block_lt_of_cell? _ _ (by exact r0)) (by exact f0)
  replace f1 := fzl bq (World.block_lt_of_cell? _ _ (by exact r1)) (by exact f1)
  replace r0 := cell_later bq (by exact r0)
  replace r1 := cell_later bq (by exact r1)
  replace BL := (show Below B w _ from by first | exact BL.trans (bq.mono (by exact Nat.le_trans (Nat.le_add_right _ _) kz)) | exact BL.drew.trans (bq.mono (by exact Nat.le_trans (Nat.le_add_right _ _) kz)))
  replace kz := Nat.le_trans kz bq.size
  clear bq
  go_wp2_with fail
  refine hK.out _ _ ?_ (fun hHeld => ?_)
  · exact ⟨c00, c01, c10, c11, p0⟩
  clear hK K
  try simp only [List.getElem_toArray, List.getElem_cons_succ, List.getElem_cons_zero, Act.put, List.setIfInBounds_toArray, List.set_cons_zero, List.set_cons_succ]
  refine wpAnyH_take (i := 9) (v := ?_) rfl (by kernel_rfl) (by kernel_rfl) (by kernel_rfl) (fun _ _ _ h => h) (Or.inl ⟨by rfl, ?_⟩) (by assumption) ?_
  rotate_left
  · (intro w hSw; (try dsimp only at hSw); first | (go_simp; done) | (go_simp; with_reducible rfl))
  try simp only [List.getElem_toArray, List.getElem_cons_succ, List.getElem_cons_zero, Act.put, List.setIfInBounds_toArray, List.set_cons_zero, List.set_cons_succ]
  refine wpAnyH_take (i := 10) (v := ?_) rfl (by kernel_rfl) (by kernel_rfl) (by kernel_rfl) (fun _ _ _ h => h) (Or.inl ⟨by rfl, ?_⟩) (by assumption) ?_
  rotate_left
  · (intro w hSw; (try dsimp only at hSw); first | (go_simp; done) | (go_simp; with_reducible rfl))
  try simp only [List.getElem_toArray, List.getElem_cons_succ, List.getElem_cons_zero, Act.put, List.setIfInBounds_toArray, List.set_cons_zero, List.set_cons_succ]
  refine wpAnyH_ready (rs := [11]) (by kernel_rfl) (by simp) ?_
  refine AllReadyH.cons rfl (fun K hK => ?_) AllReadyH.nil
  go_simp
  refine hK.out _ _ ?_ (fun hHeld => ?_)
  · exact (by simp only [World.cell?_setCell_far, nk, nb, ne_eq, not_false_eq_true]; exact ⟨c00, c01, c10, c11, p0⟩)
  clear hK K
  try simp only [List.getElem_toArray, List.getElem_cons_succ, List.getElem_cons_zero, Act.put, List.setIfInBounds_toArray, List.set_cons_zero, List.set_cons_succ]
  refine wpAnyH_take (i := 12) (v := ?_) rfl (by kernel_rfl) (by kernel_rfl) (by kernel_rfl) (fun _ _ _ h => h) (Or.inl ⟨by rfl, ?_⟩) (by assumption) ?_
  rotate_left
  · (intro w hSw; (try dsimp only at hSw); first | (go_simp; done) | (go_simp; with_reducible rfl))
  try simp only [List.getElem_toArray, List.getElem_cons_succ, List.getElem_cons_zero, Act.put, List.setIfInBounds_toArray, List.set_cons_zero, List.set_cons_succ]
  refine wpAnyH_done (by kernel_rfl) ?_ _
  go_wp2
  all_goals exact bodyPost_ret (v := (.tuple #[.agg #[.int .i64 c, .int .i64 d], .bool tt])) (by simp [results, Tryz.results139, go_sem, r0, r1]) rfl ⟨by rfl, by first | exact (BL.setCell (by simp) _).setCell (by simp) _ | (rw [hB]; first | exact (BL.setCell (by simp) _).setCell (by simp) _ | exact ((BL.drew).setCell (by simp) _).setCell (by simp) _)⟩
set_option maxRecDepth 100000 in
set_option maxHeartbeats 2000000 in
theorem worth_cut (hi lo : Int) (KB : Nat) (X Y : Nat → Int) (mv : Value) (w : World) (hk : Vecs w KB 1 X Y) :
    Calls Tryz.prog 166 #[.agg #[.int .i64 hi, .int .i64 lo], mv, .slice (some ⟨KB, 0, none⟩) 1 1] w fun e w' => e = .returned (cutV (X 0) (Y 0) hi lo) ∧ Below w.heap.size w w' := by
  obtain ⟨c, d, tt, hV⟩ := cutV_form (X 0) (Y 0) hi lo
  rw [hV]
  have hI := fun w => iVecCut_any (X 0) (Y 0) hi lo w
  simp only [hV] at hI
  have HI := hide hI
  clear hI hV
  obtain ⟨c00w, c01w⟩ := hk 0 (by omega)
  go_enter Tryz.func166, Tryz.ntmps166
  go_wp2_with fail
  have BL : Below w.heap.size w ((w.alloc (.cells #[.int .i64 hi, .int .i64 lo] 150)).alloc (.cells #[.int .i64 0, .int .i64 0] 107)) := ((Below.refl w.heap.size w).alloc (Nat.le_refl _) _).alloc (by simp) _
  have kz : w.heap.size + 2 ≤ ((w.alloc (.cells #[.int .i64 hi, .int .i64 lo] 150)).alloc (.cells #[.int .i64 0, .int .i64 0] 107)).heap.size := by simp
  have c00 : ((w.alloc (.cells #[.int .i64 hi, .int .i64 lo] 150)).alloc (.cells #[.int .i64 0, .int .i64 0] 107)).cell? ⟨KB, 0, none⟩ = some (.int .i64 (X 0)) := cell_later BL (by simpa using c00w)
  have c01 : ((w.alloc (.cells #[.int .i64 hi, .int .i64 lo] 150)).alloc (.cells #[.int .i64 0, .int .i64 0] 107)).cell? ⟨KB, 1, none⟩ = some (.int .i64 (Y 0)) := cell_later BL (by simpa using c01w)
  have lk : KB < w.heap.size := World.block_lt_of_cell? _ _ c00w
  have p0 : ((w.alloc (.cells #[.int .i64 hi, .int .i64 lo] 150)).alloc (.cells #[.int .i64 0, .int .i64 0] 107)).cell? ⟨w.heap.size, 0, none⟩ = some (.int .i64 hi) := by simp [go_sem]
  have p1 : ((w.alloc (.cells #[.int .i64 hi, .int .i64 lo] 150)).alloc (.cells #[.int .i64 0, .int .i64 0] 107)).cell? ⟨w.heap.size, 1, none⟩ = some (.int .i64 lo) := by simp [go_sem]
  have r0 : ((w.alloc (.cells #[.int .i64 hi, .int .i64 lo] 150)).alloc (.cells #[.int .i64 0, .int .i64 0] 107)).cell? ⟨w.heap.size + 1, 0, none⟩ = some (.int .i64 0) := by simp [go_sem]
  have f0 : ((w.alloc (.cells #[.int .i64 hi, .int .i64 lo] 150)).alloc (.cells #[.int .i64 0, .int .i64 0] 107)).frozen? ⟨w.heap.size + 1, 0, none⟩ = false := by simp [go_sem]
  have r1 : ((w.alloc (.cells #[.int .i64 hi, .int .i64 lo] 150)).alloc (.cells #[.int .i64 0, .int .i64 0] 107)).cell? ⟨w.heap.size + 1, 1, none⟩ = some (.int .i64 0) := by simp [go_sem]
  have f1 : ((w.alloc (.cells #[.int .i64 hi, .int .i64 lo] 150)).alloc (.cells #[.int .i64 0, .int .i64 0] 107)).frozen? ⟨w.heap.size + 1, 1, none⟩ = false := by simp [go_sem]
  clear c00w c01w hk
  generalize hB : w.heap.size = B at *
  generalize ((w.alloc (.cells #[.int .i64 hi, .int .i64 lo] 150)).alloc (.cells #[.int .i64 0, .int .i64 0] 107)) = wa at *
  have nk : ¬ B + 1 = KB := by omega
  have nb : ¬ B + 1 = B := by omega
  refine wp_region_held_drew (S := (fun w' => w'.cell? ⟨KB, 0, none⟩ = some (.int .i64 (X 0)) ∧ w'.cell? ⟨KB, 1, none⟩ = some (.int .i64 (Y 0)) ∧ w'.cell? ⟨B, 0, none⟩ = some (.int .i64 hi) ∧ w'.cell? ⟨B, 1, none⟩ = some (.int .i64 lo))) (by kernel_rfl) ?_ (fun hHeld => ?_)
  · exact ⟨c00, c01, p0, p1⟩
  refine wpAnyH_take (i := 0) (v := ?_) rfl (by kernel_rfl) (by kernel_rfl) (by kernel_rfl) (fun _ _ _ h => h) (Or.inl ⟨by rfl, ?_⟩) (by assumption) ?_
  rotate_left
  · (intro w hSw; (try dsimp only at hSw); first | (go_simp; done) | (go_simp; with_reducible rfl))
  try simp only [List.getElem_toArray, List.getElem_cons_succ, List.getElem_cons_zero, Act.put, List.setIfInBounds_toArray, List.set_cons_zero, List.set_cons_succ]
  refine wpAnyH_take (i := 1) (v := ?_) rfl (by kernel_rfl) (by kernel_rfl) (by kernel_rfl) (fun _ _ _ h => h) (Or.inl ⟨by rfl, ?_⟩) (by assumption) ?_
  rotate_left
  · (intro w hSw; (try dsimp only at hSw); first | (go_simp; done) | (go_simp; with_reducible rfl))
  try simp only [List.getElem_toArray, List.getElem_cons_succ, List.getElem_cons_zero, Act.put, List.setIfInBounds_toArray, List.set_cons_zero, List.set_cons_succ]
  refine wpAnyH_take (i := 2) (v := ?_) rfl (by kernel_rfl) (by kernel_rfl) (by kernel_rfl) (fun _ _ _ h => h) (Or.inl ⟨by rfl, ?_⟩) (by assumption) ?_
  rotate_left
  · (intro w hSw; (try dsimp only at hSw); first | (go_simp; done) | (go_simp; with_reducible rfl))
  try simp only [List.getElem_toArray, List.getElem_cons_succ, List.getElem_cons_zero, Act.put, List.setIfInBounds_toArray, List.set_cons_zero, List.set_cons_succ]
  refine wpAnyH_take (i := 3) (v := ?_) rfl (by kernel_rfl) (by kernel_rfl) (by kernel_rfl) (fun _ _ _ h => h) (Or.inl ⟨by rfl, ?_⟩) (by assumption) ?_
  rotate_left
  · (intro w hSw; (try dsimp only at hSw); first | (go_simp; done) | (go_simp; with_reducible rfl))
  try simp only [List.getElem_toArray, List.getElem_cons_succ, List.getElem_cons_zero, Act.put, List.setIfInBounds_toArray, List.set_cons_zero, List.set_cons_succ]
  refine wpAnyH_take (i := 4) (v := ?_) rfl (by kernel_rfl) (by kernel_rfl) (by kernel_rfl) (fun _ _ _ h => h) (Or.inl ⟨by rfl, ?_⟩) (by assumption) ?_
  rotate_left
  · (intro w hSw; (try dsimp only at hSw); first | (go_simp; done) | (go_simp; with_reducible rfl))
  try simp only [List.getElem_toArray, List.getElem_cons_succ, List.getElem_cons_zero, Act.put, List.setIfInBounds_toArray, List.set_cons_zero, List.set_cons_succ]
  refine wpAnyH_take (i := 5) (v := ?_) rfl (by kernel_rfl) (by kernel_rfl) (by kernel_rfl) (fun _ _ _ h => h) (Or.inl ⟨by rfl, ?_⟩) (by assumption) ?_
  rotate_left
  · (intro w hSw; (try dsimp only at hSw); first | (go_simp; done) | (go_simp; with_reducible rfl))
  try simp only [List.getElem_toArray, List.getElem_cons_succ, List.getElem_cons_zero, Act.put, List.setIfInBounds_toArray, List.set_cons_zero, List.set_cons_succ]
  refine wpAnyH_take (i := 6) (v := ?_) rfl (by kernel_rfl) (by kernel_rfl) (by kernel_rfl) (fun _ _ _ h => h) (Or.inl ⟨by rfl, ?_⟩) (by assumption) ?_
  rotate_left
  · (intro w hSw; (try dsimp only at hSw); first | (go_simp; done) | (go_simp; with_reducible rfl))
  try simp only [List.getElem_toArray, List.getElem_cons_succ, List.getElem_cons_zero, Act.put, List.setIfInBounds_toArray, List.set_cons_zero, List.set_cons_succ]
  refine wpAnyH_ready (rs := [7]) (by kernel_rfl) (by simp) ?_
  refine AllReadyH.cons rfl (fun K hK => ?_) AllReadyH.nil
  go_simp
  go_at_call 167
  refine (unhide HI _).mono ?_
  rintro e wq1 ⟨rfl, bq⟩
  replace c00 := cell_later bq (by exact c00)
  replace c01 := cell_later bq (by exact c01)
  replace p0 := cell_later bq (by exact p0)
  replace p1 := cell_later bq (by exact p1)
  replace f0 := fzl bq (World.block_lt_of_cell? _ _ (by exact r0)) (by exact f0)
  replace f1 := fzl bq (World.block_lt_of_cell? _ _ (by exact r1)) (by exact f1)
  replace r0 := cell_later bq (by exact r0)
  replace r1 := cell_later bq (by exact r1)
  replace BL := (show Below B w _ from by first | exact BL.trans (bq.mono (by exact Nat.le_trans (Nat.le_add_right _ _) kz)) | exact BL.drew.trans (bq.mono (by exact Nat.le_trans (Nat.le_add_right _ _) kz)))
  replace kz := Nat.le_trans kz bq.size
  clear bq
  go_wp2_with fail
  refine hK.out _ _ ?_ (fun hHeld => ?_)
  · exact ⟨c00, c01, p0, p1⟩
  clear hK K
  try simp only [List.getElem_toArray, List.getElem_cons_succ, List.getElem_cons_zero, Act.put, List.setIfInBounds_toArray, List.set_cons_zero, List.set_cons_succ]
  refine wpAnyH_take (i := 8) (v := ?_) rfl (by kernel_rfl) (by kernel_rfl) (by kernel_rfl) (fun _ _ _ h => h) (Or.inl ⟨by rfl, ?_⟩) (by assumption) ?_
  rotate_left
  · (intro w hSw; (try dsimp only at hSw); first | (go_simp; done) | (go_simp; with_reducible rfl))
  try simp only [List.getElem_toArray, List.getElem_cons_succ, List.getElem_cons_zero, Act.put, List.setIfInBounds_toArray, List.set_cons_zero, List.set_cons_succ]
  refine wpAnyH_take (i := 9) (v := ?_) rfl (by kernel_rfl) (by kernel_rfl) (by kernel_rfl) (fun _ _ _ h => h) (Or.inl ⟨by rfl, ?_⟩) (by assumption) ?_
  rotate_left
  · (intro w hSw; (try dsimp only at hSw); first | (go_simp; done) | (go_simp; with_reducible rfl))
  try simp only [List.getElem_toArray, List.getElem_cons_succ, List.getElem_cons_zero, Act.put, List.setIfInBounds_toArray, List.set_cons_zero, List.set_cons_succ]
  refine wpAnyH_ready (rs := [10]) (by kernel_rfl) (by simp) ?_
  refine AllReadyH.cons rfl (fun K hK => ?_) AllReadyH.nil
  go_simp
  refine hK.out _ _ ?_ (fun hHeld => ?_)
  · exact (by simp only [World.cell?_setCell_far, nk, nb, ne_eq, not_false_eq_true]; exact ⟨c00, c01, p0, p1⟩)
  clear hK K
  try simp only [List.getElem_toArray, List.getElem_cons_succ, List.getElem_cons_zero, Act.put, List.setIfInBounds_toArray, List.set_cons_zero, List.set_cons_succ]
  refine wpAnyH_take (i := 11) (v := ?_) rfl (by kernel_rfl) (by kernel_rfl) (by kernel_rfl) (fun _ _ _ h => h) (Or.inl ⟨by rfl, ?_⟩) (by assumption) ?_
  rotate_left
  · (intro w hSw; (try dsimp only at hSw); first | (go_simp; done) | (go_simp; with_reducible rfl))
  try simp only [List.getElem_toArray, List.getElem_cons_succ, List.getElem_cons_zero, Act.put, List.setIfInBounds_toArray, List.set_cons_zero, List.set_cons_succ]
  refine wpAnyH_done (by kernel_rfl) ?_ _
  go_wp2
  all_goals exact bodyPost_ret (v := (.tuple #[.agg #[.int .i64 c, .int .i64 d], .bool tt])) (by simp [results, Tryz.results166, go_sem, r0, r1]) rfl ⟨by rfl, by first | exact (BL.setCell (by simp) _).setCell (by simp) _ | (rw [hB]; first | exact (BL.setCell (by simp) _).setCell (by simp) _ | exact ((BL.drew).setCell (by simp) _).setCell (by simp) _)⟩
set_option maxRecDepth 100000 in
set_option maxHeartbeats 2000000 in
theorem worth_vec (hi lo : Int) (KB : Nat) (X Y : Nat → Int) (mv : Value) (w : World) (hk : Vecs w KB 0 X Y) :
    Calls Tryz.prog 117 #[.agg #[.int .i64 hi, .int .i64 lo], mv, .slice (some ⟨KB, 0, none⟩) 0 0] w fun e w' => e = .returned (.tuple #[.agg #[.int .i64 hi, .int .i64 lo], .bool (okB hi lo)]) ∧ Below w.heap.size w w' := by
  go_enter Tryz.func117, Tryz.ntmps117
  go_wp2_with fail
  have BL : Below w.heap.size w ((w.alloc (.cells #[.int .i64 hi, .int .i64 lo] 140)).alloc (.cells #[.int .i64 0, .int .i64 0] 107)) := ((Below.refl w.heap.size w).alloc (Nat.le_refl _) _).alloc (by simp) _
  have kz : w.heap.size + 2 ≤ ((w.alloc (.cells #[.int .i64 hi, .int .i64 lo] 140)).alloc (.cells #[.int .i64 0, .int .i64 0] 107)).heap.size := by simp
  have p0 : ((w.alloc (.cells #[.int .i64 hi, .int .i64 lo] 140)).alloc (.cells #[.int .i64 0, .int .i64 0] 107)).cell? ⟨w.heap.size, 0, none⟩ = some (.int .i64 hi) := by simp [go_sem]
  have p1 : ((w.alloc (.cells #[.int .i64 hi, .int .i64 lo] 140)).alloc (.cells #[.int .i64 0, .int .i64 0] 107)).cell? ⟨w.heap.size, 1, none⟩ = some (.int .i64 lo) := by simp [go_sem]
  have r0 : ((w.alloc (.cells #[.int .i64 hi, .int .i64 lo] 140)).alloc (.cells #[.int .i64 0, .int .i64 0] 107)).cell? ⟨w.heap.size + 1, 0, none⟩ = some (.int .i64 0) := by simp [go_sem]
  have f0 : ((w.alloc (.cells #[.int .i64 hi, .int .i64 lo] 140)).alloc (.cells #[.int .i64 0, .int .i64 0] 107)).frozen? ⟨w.heap.size + 1, 0, none⟩ = false := by simp [go_sem]
  have r1 : ((w.alloc (.cells #[.int .i64 hi, .int .i64 lo] 140)).alloc (.cells #[.int .i64 0, .int .i64 0] 107)).cell? ⟨w.heap.size + 1, 1, none⟩ = some (.int .i64 0) := by simp [go_sem]
  have f1 : ((w.alloc (.cells #[.int .i64 hi, .int .i64 lo] 140)).alloc (.cells #[.int .i64 0, .int .i64 0] 107)).frozen? ⟨w.heap.size + 1, 1, none⟩ = false := by simp [go_sem]
  generalize hB : w.heap.size = B at *
  generalize ((w.alloc (.cells #[.int .i64 hi, .int .i64 lo] 140)).alloc (.cells #[.int .i64 0, .int .i64 0] 107)) = wa at *
  have nk : ¬ B + 1 = B := by omega
  have nb : ¬ B + 1 = B := by omega
  refine wp_region_held_drew (S := (fun w' => w'.cell? ⟨B, 0, none⟩ = some (.int .i64 hi) ∧ w'.cell? ⟨B, 1, none⟩ = some (.int .i64 lo))) (by kernel_rfl) ?_ (fun hHeld => ?_)
  · exact ⟨p0, p1⟩
  refine wpAnyH_take (i := 0) (v := ?_) rfl (by kernel_rfl) (by kernel_rfl) (by kernel_rfl) (fun _ _ _ h => h) (Or.inl ⟨by rfl, ?_⟩) (by assumption) ?_
  rotate_left
  · (intro w hSw; (try dsimp only at hSw); first | (go_simp; done) | (go_simp; with_reducible rfl))
  try simp only [List.getElem_toArray, List.getElem_cons_succ, List.getElem_cons_zero, Act.put, List.setIfInBounds_toArray, List.set_cons_zero, List.set_cons_succ]
  refine wpAnyH_take (i := 1) (v := ?_) rfl (by kernel_rfl) (by kernel_rfl) (by kernel_rfl) (fun _ _ _ h => h) (Or.inl ⟨by rfl, ?_⟩) (by assumption) ?_
  rotate_left
  · (intro w hSw; (try dsimp only at hSw); first | (go_simp; done) | (go_simp; with_reducible rfl))
  try simp only [List.getElem_toArray, List.getElem_cons_succ, List.getElem_cons_zero, Act.put, List.setIfInBounds_toArray, List.set_cons_zero, List.set_cons_succ]
  refine wpAnyH_take (i := 2) (v := ?_) rfl (by kernel_rfl) (by kernel_rfl) (by kernel_rfl) (fun _ _ _ h => h) (Or.inl ⟨by rfl, ?_⟩) (by assumption) ?_
  rotate_left
  · (intro w hSw; (try dsimp only at hSw); first | (go_simp; done) | (go_simp; with_reducible rfl))
  try simp only [List.getElem_toArray, List.getElem_cons_succ, List.getElem_cons_zero, Act.put, List.setIfInBounds_toArray, List.set_cons_zero, List.set_cons_succ]
  refine wpAnyH_take (i := 3) (v := ?_) rfl (by kernel_rfl) (by kernel_rfl) (by kernel_rfl) (fun _ _ _ h => h) (Or.inl ⟨by rfl, ?_⟩) (by assumption) ?_
  rotate_left
  · (intro w hSw; (try dsimp only at hSw); first | (go_simp; done) | (go_simp; with_reducible rfl))
  try simp only [List.getElem_toArray, List.getElem_cons_succ, List.getElem_cons_zero, Act.put, List.setIfInBounds_toArray, List.set_cons_zero, List.set_cons_succ]
  refine wpAnyH_ready (rs := [4]) (by kernel_rfl) (by simp) ?_
  refine AllReadyH.cons rfl (fun K hK => ?_) AllReadyH.nil
  go_simp
  go_at_call 92
  refine (iVecOk_any _ _ _).mono ?_
  rintro e wq1 ⟨rfl, bq⟩
  replace p0 := cell_later bq (by exact p0)
  replace p1 := cell_later bq (by exact p1)
  replace f0 := fzl bq (World.block_lt_of_cell? _ _ (by exact r0)) (by exact f0)
  replace f1 := fzl bq (World.block_lt_of_cell? _ _ (by exact r1)) (by exact f1)
  replace r0 := cell_later bq (by exact r0)
  replace r1 := cell_later bq (by exact r1)
  replace BL := (show Below B w _ from by first | exact BL.trans (bq.mono (by exact Nat.le_trans (Nat.le_add_right _ _) kz)) | exact BL.drew.trans (bq.mono (by exact Nat.le_trans (Nat.le_add_right _ _) kz)))
  replace kz := Nat.le_trans kz bq.size
  clear bq
  go_wp2_with fail
  refine hK.out _ _ ?_ (fun hHeld => ?_)
  · exact ⟨p0, p1⟩
  clear hK K
  try simp only [List.getElem_toArray, List.getElem_cons_succ, List.getElem_cons_zero, Act.put, List.setIfInBounds_toArray, List.set_cons_zero, List.set_cons_succ]
  refine wpAnyH_ready (rs := [5]) (by kernel_rfl) (by simp) ?_
  refine AllReadyH.cons rfl (fun K hK => ?_) AllReadyH.nil
  go_simp
  refine hK.out _ _ ?_ (fun hHeld => ?_)
  · exact (by simp only [World.cell?_setCell_far, nk, nb, ne_eq, not_false_eq_true]; exact ⟨p0, p1⟩)
  clear hK K
  try simp only [List.getElem_toArray, List.getElem_cons_succ, List.getElem_cons_zero, Act.put, List.setIfInBounds_toArray, List.set_cons_zero, List.set_cons_succ]
  refine wpAnyH_take (i := 6) (v := ?_) rfl (by kernel_rfl) (by kernel_rfl) (by kernel_rfl) (fun _ _ _ h => h) (Or.inl ⟨by rfl, ?_⟩) (by assumption) ?_
  rotate_left
  · (intro w hSw; (try dsimp only at hSw); first | (go_simp; done) | (go_simp; with_reducible rfl))
  try simp only [List.getElem_toArray, List.getElem_cons_succ, List.getElem_cons_zero, Act.put, List.setIfInBounds_toArray, List.set_cons_zero, List.set_cons_succ]
  refine wpAnyH_done (by kernel_rfl) ?_ _
  go_wp2
  all_goals exact bodyPost_ret (v := (.tuple #[.agg #[.int .i64 hi, .int .i64 lo], .bool (okB hi lo)])) (by simp [results, Tryz.results117, go_sem, r0, r1]) rfl ⟨by rfl, by first | exact (BL.setCell (by simp) _).setCell (by simp) _ | (rw [hB]; first | exact (BL.setCell (by simp) _).setCell (by simp) _ | exact ((BL.drew).setCell (by simp) _).setCell (by simp) _)⟩
set_option maxRecDepth 100000 in
set_option maxHeartbeats 2000000 in
theorem worth_no (op : Int) (KB : Nat) (X Y : Nat → Int) (mv : Value) (w : World) (hk : Vecs w KB 1 X Y) :
    Calls Tryz.prog 172 #[.agg #[.int .i64 op], mv, .slice (some ⟨KB, 0, none⟩) 1 1] w fun e w' => e = .returned (.tuple #[.agg #[.int .i64 0, .int .i64 (b01 (!isT (X 0) (Y 0)))], .bool (X 0 == 0)]) ∧ Below w.heap.size w w' := by
  obtain ⟨c00w, c01w⟩ := hk 0 (by omega)
  go_enter Tryz.func172, Tryz.ntmps172
  go_wp2_with fail
  have BL : Below w.heap.size w ((w.alloc (.cells #[.int .i64 op] 152)).alloc (.cells #[.int .i64 0, .int .i64 0] 107)) := ((Below.refl w.heap.size w).alloc (Nat.le_refl _) _).alloc (by simp) _
  have kz : w.heap.size + 2 ≤ ((w.alloc (.cells #[.int .i64 op] 152)).alloc (.cells #[.int .i64 0, .int .i64 0] 107)).heap.size := by simp
  have c00 : ((w.alloc (.cells #[.int .i64 op] 152)).alloc (.cells #[.int .i64 0, .int .i64 0] 107)).cell? ⟨KB, 0, none⟩ = some (.int .i64 (X 0)) := cell_later BL (by simpa using c00w)
  have c01 : ((w.alloc (.cells #[.int .i64 op] 152)).alloc (.cells #[.int .i64 0, .int .i64 0] 107)).cell? ⟨KB, 1, none⟩ = some (.int .i64 (Y 0)) := cell_later BL (by simpa using c01w)
  have lk : KB < w.heap.size := World.block_lt_of_cell? _ _ c00w
  have p0 : ((w.alloc (.cells #[.int .i64 op] 152)).alloc (.cells #[.int .i64 0, .int .i64 0] 107)).cell? ⟨w.heap.size, 0, none⟩ = some (.int .i64 op) := by simp [go_sem]
  have r0 : ((w.alloc (.cells #[.int .i64 op] 152)).alloc (.cells #[.int .i64 0, .int .i64 0] 107)).cell? ⟨w.heap.size + 1, 0, none⟩ = some (.int .i64 0) := by simp [go_sem]
  have f0 : ((w.alloc (.cells #[.int .i64 op] 152)).alloc (.cells #[.int .i64 0, .int .i64 0] 107)).frozen? ⟨w.heap.size + 1, 0, none⟩ = false := by simp [go_sem]
  have r1 : ((w.alloc (.cells #[.int .i64 op] 152)).alloc (.cells #[.int .i64 0, .int .i64 0] 107)).cell? ⟨w.heap.size + 1, 1, none⟩ = some (.int .i64 0) := by simp [go_sem]
  have f1 : ((w.alloc (.cells #[.int .i64 op] 152)).alloc (.cells #[.int .i64 0, .int .i64 0] 107)).frozen? ⟨w.heap.size + 1, 1, none⟩ = false := by simp [go_sem]
  clear c00w c01w hk
  generalize hB : w.heap.size = B at *
  generalize ((w.alloc (.cells #[.int .i64 op] 152)).alloc (.cells #[.int .i64 0, .int .i64 0] 107)) = wa at *
  have nk : ¬ B + 1 = KB := by omega
  have nb : ¬ B + 1 = B := by omega
  refine wp_region_held_drew (S := (fun w' => w'.cell? ⟨KB, 0, none⟩ = some (.int .i64 (X 0)) ∧ w'.cell? ⟨KB, 1, none⟩ = some (.int .i64 (Y 0)) ∧ w'.cell? ⟨B, 0, none⟩ = some (.int .i64 op))) (by kernel_rfl) ?_ (fun hHeld => ?_)
  · exact ⟨c00, c01, p0⟩
  refine wpAnyH_take (i := 0) (v := ?_) rfl (by kernel_rfl) (by kernel_rfl) (by kernel_rfl) (fun _ _ _ h => h) (Or.inl ⟨by rfl, ?_⟩) (by assumption) ?_
  rotate_left
  · (intro w hSw; (try dsimp only at hSw); first | (go_simp; done) | (go_simp; with_reducible rfl))
  try simp only [List.getElem_toArray, List.getElem_cons_succ, List.getElem_cons_zero, Act.put, List.setIfInBounds_toArray, List.set_cons_zero, List.set_cons_succ]
  refine wpAnyH_take (i := 1) (v := ?_) rfl (by kernel_rfl) (by kernel_rfl) (by kernel_rfl) (fun _ _ _ h => h) (Or.inl ⟨by rfl, ?_⟩) (by assumption) ?_
  rotate_left
  · (intro w hSw; (try dsimp only at hSw); first | (go_simp; done) | (go_simp; with_reducible rfl))
  try simp only [List.getElem_toArray, List.getElem_cons_succ, List.getElem_cons_zero, Act.put, List.setIfInBounds_toArray, List.set_cons_zero, List.set_cons_succ]
  refine wpAnyH_take (i := 2) (v := ?_) rfl (by kernel_rfl) (by kernel_rfl) (by kernel_rfl) (fun _ _ _ h => h) (Or.inl ⟨by rfl, ?_⟩) (by assumption) ?_
  rotate_left
  · (intro w hSw; (try dsimp only at hSw); first | (go_simp; done) | (go_simp; with_reducible rfl))
  try simp only [List.getElem_toArray, List.getElem_cons_succ, List.getElem_cons_zero, Act.put, List.setIfInBounds_toArray, List.set_cons_zero, List.set_cons_succ]
  refine wpAnyH_take (i := 6) (v := ?_) rfl (by kernel_rfl) (by kernel_rfl) (by kernel_rfl) (fun _ _ _ h => h) (Or.inl ⟨by rfl, ?_⟩) (by assumption) ?_
  rotate_left
  · (intro w hSw; (try dsimp only at hSw); first | (go_simp; done) | (go_simp; with_reducible rfl))
  try simp only [List.getElem_toArray, List.getElem_cons_succ, List.getElem_cons_zero, Act.put, List.setIfInBounds_toArray, List.set_cons_zero, List.set_cons_succ]
  refine wpAnyH_take (i := 7) (v := ?_) rfl (by kernel_rfl) (by kernel_rfl) (by kernel_rfl) (fun _ _ _ h => h) (Or.inl ⟨by rfl, ?_⟩) (by assumption) ?_
  rotate_left
  · (intro w hSw; (try dsimp only at hSw); first | (go_simp; done) | (go_simp; with_reducible rfl))
  try simp only [List.getElem_toArray, List.getElem_cons_succ, List.getElem_cons_zero, Act.put, List.setIfInBounds_toArray, List.set_cons_zero, List.set_cons_succ]
  refine wpAnyH_take (i := 8) (v := ?_) rfl (by kernel_rfl) (by kernel_rfl) (by kernel_rfl) (fun _ _ _ h => h) (Or.inl ⟨by rfl, ?_⟩) (by assumption) ?_
  rotate_left
  · (intro w hSw; (try dsimp only at hSw); first | (go_simp; done) | (go_simp; with_reducible rfl))
  try simp only [List.getElem_toArray, List.getElem_cons_succ, List.getElem_cons_zero, Act.put, List.setIfInBounds_toArray, List.set_cons_zero, List.set_cons_succ]
  refine wpAnyH_take (i := 9) (v := ?_) rfl (by kernel_rfl) (by kernel_rfl) (by kernel_rfl) (fun _ _ _ h => h) (Or.inl ⟨by rfl, ?_⟩) (by assumption) ?_
  rotate_left
  · (intro w hSw; (try dsimp only at hSw); first | (go_simp; done) | (go_simp; with_reducible rfl))
  try simp only [List.getElem_toArray, List.getElem_cons_succ, List.getElem_cons_zero, Act.put, List.setIfInBounds_toArray, List.set_cons_zero, List.set_cons_succ]
  refine wpAnyH_take (i := 10) (v := ?_) rfl (by kernel_rfl) (by kernel_rfl) (by kernel_rfl) (fun _ _ _ h => h) (Or.inl ⟨by rfl, ?_⟩) (by assumption) ?_
  rotate_left
  · (intro w hSw; (try dsimp only at hSw); first | (go_simp; done) | (go_simp; with_reducible rfl))
  try simp only [List.getElem_toArray, List.getElem_cons_succ, List.getElem_cons_zero, Act.put, List.setIfInBounds_toArray, List.set_cons_zero, List.set_cons_succ]
  refine wpAnyH_ready (rs := [3]) (by kernel_rfl) (by simp) ?_
  refine AllReadyH.cons rfl (fun K hK => ?_) AllReadyH.nil
  go_simp
  go_at_call 170
  refine (isTrue_any _ _ _).mono ?_
  rintro e wq1 ⟨rfl, bq⟩
  replace c00 := cell_later bq (by exact c00)
  replace c01 := cell_later bq (by exact c01)
  replace p0 := cell_later bq (by exact p0)
  replace f0 := fzl bq (World.block_lt_of_cell? _ _ (by exact r0)) (by exact f0)
  replace f1 := fzl bq (World.block_lt_of_cell? _ _ (by exact r1)) (by exact f1)
  replace r0 := cell_later bq (by exact r0)
  replace r1 := cell_later bq (by exact r1)
  replace BL := (show Below B w _ from by first | exact BL.trans (bq.mono (by exact Nat.le_trans (Nat.le_add_right _ _) kz)) | exact BL.drew.trans (bq.mono (by exact Nat.le_trans (Nat.le_add_right _ _) kz)))
  replace kz := Nat.le_trans kz bq.size
  clear bq
  go_wp2_with fail
  refine hK.out _ _ ?_ (fun hHeld => ?_)
  · exact ⟨c00, c01, p0⟩
  clear hK K
  try simp only [List.getElem_toArray, List.getElem_cons_succ, List.getElem_cons_zero, Act.put, List.setIfInBounds_toArray, List.set_cons_zero, List.set_cons_succ]
  refine wpAnyH_take (i := 4) (v := ?_) rfl (by kernel_rfl) (by kernel_rfl) (by kernel_rfl) (fun _ _ _ h => h) (Or.inl ⟨by rfl, ?_⟩) (by assumption) ?_
  rotate_left
  · (intro w hSw; (try dsimp only at hSw); first | (go_simp; done) | (go_simp; with_reducible rfl))
  try simp only [List.getElem_toArray, List.getElem_cons_succ, List.getElem_cons_zero, Act.put, List.setIfInBounds_toArray, List.set_cons_zero, List.set_cons_succ]
  refine wpAnyH_ready (rs := [5]) (by kernel_rfl) (by simp) ?_
  refine AllReadyH.cons rfl (fun K hK => ?_) AllReadyH.nil
  go_simp
  go_at_call 126
  refine (truth_any _ _).mono ?_
  rintro e wq2 ⟨rfl, bq⟩
  replace c00 := cell_later bq (by exact c00)
  replace c01 := cell_later bq (by exact c01)
  replace p0 := cell_later bq (by exact p0)
  replace f0 := fzl bq (World.block_lt_of_cell? _ _ (by exact r0)) (by exact f0)
  replace f1 := fzl bq (World.block_lt_of_cell? _ _ (by exact r1)) (by exact f1)
  replace r0 := cell_later bq (by exact r0)
  replace r1 := cell_later bq (by exact r1)
  replace BL := (show Below B w _ from by first | exact BL.trans (bq.mono (by exact Nat.le_trans (Nat.le_add_right _ _) kz)) | exact BL.drew.trans (bq.mono (by exact Nat.le_trans (Nat.le_add_right _ _) kz)))
  replace kz := Nat.le_trans kz bq.size
  clear bq
  go_wp2_with fail
  refine hK.out _ _ ?_ (fun hHeld => ?_)
  · exact ⟨c00, c01, p0⟩
  clear hK K
  try simp only [List.getElem_toArray, List.getElem_cons_succ, List.getElem_cons_zero, Act.put, List.setIfInBounds_toArray, List.set_cons_zero, List.set_cons_succ]
  refine wpAnyH_ready (rs := [11]) (by kernel_rfl) (by simp) ?_
  refine AllReadyH.cons rfl (fun K hK => ?_) AllReadyH.nil
  go_simp
  refine hK.out _ _ ?_ (fun hHeld => ?_)
  · exact (by simp only [World.cell?_setCell_far, nk, nb, ne_eq, not_false_eq_true]; exact ⟨c00, c01, p0⟩)
  clear hK K
  try simp only [List.getElem_toArray, List.getElem_cons_succ, List.getElem_cons_zero, Act.put, List.setIfInBounds_toArray, List.set_cons_zero, List.set_cons_succ]
  refine wpAnyH_take (i := 12) (v := ?_) rfl (by kernel_rfl) (by kernel_rfl) (by kernel_rfl) (fun _ _ _ h => h) (Or.inl ⟨by rfl, ?_⟩) (by assumption) ?_
  rotate_left
  · (intro w hSw; (try dsimp only at hSw); first | (go_simp; done) | (go_simp; with_reducible rfl))
  try simp only [List.getElem_toArray, List.getElem_cons_succ, List.getElem_cons_zero, Act.put, List.setIfInBounds_toArray, List.set_cons_zero, List.set_cons_succ]
  refine wpAnyH_done (by kernel_rfl) ?_ _
  go_wp2
  all_goals exact bodyPost_ret (v := (.tuple #[.agg #[.int .i64 0, .int .i64 (b01 (!isT (X 0) (Y 0)))], .bool (X 0 == 0)])) (by simp [results, Tryz.results172, go_sem, r0, r1]) rfl ⟨by rfl, by first | exact (BL.setCell (by simp) _).setCell (by simp) _ | (rw [hB]; first | exact (BL.setCell (by simp) _).setCell (by simp) _ | exact ((BL.drew).setCell (by simp) _).setCell (by simp) _)⟩
set_option maxRecDepth 100000 in
set_option maxHeartbeats 2000000 in
theorem worth_both (op : Int) (KB : Nat) (X Y : Nat → Int) (mv : Value) (w : World) (hk : Vecs w KB 2 X Y) :
    Calls Tryz.prog 174 #[.agg #[.int .i64 op], mv, .slice (some ⟨KB, 0, none⟩) 2 2] w fun e w' => e = .returned (.tuple #[.agg #[.int .i64 0, .int .i64 (b01 (isT (X 0) (Y 0) && isT (X 1) (Y 1)))], .bool ((X 0 == 0) && (X 1 == 0))]) ∧ Below w.heap.size w w' := by
  cases ht0 : isT (X 0) (Y 0)
  · cases hx0 : (X 0 == 0)
    · simp only [Bool.false_and, Bool.false_or]
      obtain ⟨c00w, c01w⟩ := hk 0 (by omega)
      obtain ⟨c10w, c11w⟩ := hk 1 (by omega)
      go_enter Tryz.func174, Tryz.ntmps174
      go_wp2_with fail
      have BL : Below w.heap.size w ((w.alloc (.cells #[.int .i64 op] 153)).alloc (.cells #[.int .i64 0, .int .i64 0] 107)) := ((Below.refl w.heap.size w).alloc (Nat.le_refl _) _).alloc (by simp) _
      have kz : w.heap.size + 2 ≤ ((w.alloc (.cells #[.int .i64 op] 153)).alloc (.cells #[.int .i64 0, .int .i64 0] 107)).heap.size := by simp
      have c00 : ((w.alloc (.cells #[.int .i64 op] 153)).alloc (.cells #[.int .i64 0, .int .i64 0] 107)).cell? ⟨KB, 0, none⟩ = some (.int .i64 (X 0)) := cell_later BL (by simpa using c00w)
      have c01 : ((w.alloc (.cells #[.int .i64 op] 153)).alloc (.cells #[.int .i64 0, .int .i64 0] 107)).cell? ⟨KB, 1, none⟩ = some (.int .i64 (Y 0)) := cell_later BL (by simpa using c01w)
      have c10 : ((w.alloc (.cells #[.int .i64 op] 153)).alloc (.cells #[.int .i64 0, .int .i64 0] 107)).cell? ⟨KB, 2, none⟩ = some (.int .i64 (X 1)) := cell_later BL (by simpa using c10w)
      have c11 : ((w.alloc (.cells #[.int .i64 op] 153)).alloc (.cells #[.int .i64 0, .int .i64 0] 107)).cell? ⟨KB, 3, none⟩ = some (.int .i64 (Y 1)) := cell_later BL (by simpa using c11w)
      have lk : KB < w.heap.size := World.block_lt_of_cell? _ _ c00w
      have p0 : ((w.alloc (.cells #[.int .i64 op] 153)).alloc (.cells #[.int .i64 0, .int .i64 0] 107)).cell? ⟨w.heap.size, 0, none⟩ = some (.int .i64 op) := by simp [go_sem]
      have r0 : ((w.alloc (.cells #[.int .i64 op] 153)).alloc (.cells #[.int .i64 0, .int .i64 0] 107)).cell? ⟨w.heap.size + 1, 0, none⟩ = some (.int .i64 0) := by simp [go_sem]
      have f0 : ((w.alloc (.cells #[.int .i64 op] 153)).alloc (.cells #[.int .i64 0, .int .i64 0] 107)).frozen? ⟨w.heap.size + 1, 0, none⟩ = false := by simp [go_sem]
      have r1 : ((w.alloc (.cells #[.int .i64 op] 153)).alloc (.cells #[.int .i64 0, .int .i64 0] 107)).cell? ⟨w.heap.size + 1, 1, none⟩ = some (.int .i64 0) := by simp [go_sem]
      have f1 : ((w.alloc (.cells #[.int .i64 op] 153)).alloc (.cells #[.int .i64 0, .int .i64 0] 107)).frozen? ⟨w.heap.size + 1, 1, none⟩ = false := by simp [go_sem]
      clear c00w c01w c10w c11w hk
      generalize hB : w.heap.size = B at *
      generalize ((w.alloc (.cells #[.int .i64 op] 153)).alloc (.cells #[.int .i64 0, .int .i64 0] 107)) = wa at *
      have nk : ¬ B + 1 = KB := by omega
      have nb : ¬ B + 1 = B := by omega
      refine wp_region_held_drew (S := (fun w' => w'.cell? ⟨KB, 0, none⟩ = some (.int .i64 (X 0)) ∧ w'.cell? ⟨KB, 1, none⟩ = some (.int .i64 (Y 0)) ∧ w'.cell? ⟨KB, 2, none⟩ = some (.int .i64 (X 1)) ∧ w'.cell? ⟨KB, 3, none⟩ = some (.int .i64 (Y 1)) ∧ w'.cell? ⟨B, 0, none⟩ = some (.int .i64 op))) (by kernel_rfl) ?_ (fun hHeld => ?_)
      · exact ⟨c00, c01, c10, c11, p0⟩
      refine wpAnyH_take (i := 0) (v := ?_) rfl (by kernel_rfl) (by kernel_rfl) (by kernel_rfl) (fun _ _ _ h => h) (Or.inl ⟨by rfl, ?_⟩) (by assumption) ?_
      rotate_left
      · (intro w hSw; (try dsimp only at hSw); first | (go_simp; done) | (go_simp; with_reducible rfl))
      try simp only [List.getElem_toArray, List.getElem_cons_succ, List.getElem_cons_zero, Act.put, List.setIfInBounds_toArray, List.set_cons_zero, List.set_cons_succ]
      refine wpAnyH_take (i := 1) (v := ?_) rfl (by kernel_rfl) (by kernel_rfl) (by kernel_rfl) (fun _ _ _ h => h) (Or.inl ⟨by rfl, ?_⟩) (by assumption) ?_
      rotate_left
      · (intro w hSw; (try dsimp only at hSw); first | (go_simp; done) | (go_simp; with_reducible rfl))
      try simp only [List.getElem_toArray, List.getElem_cons_succ, List.getElem_cons_zero, Act.put, List.setIfInBounds_toArray, List.set_cons_zero, List.set_cons_succ]
      refine wpAnyH_take (i := 2) (v := ?_) rfl (by kernel_rfl) (by kernel_rfl) (by kernel_rfl) (fun _ _ _ h => h) (Or.inl ⟨by rfl, ?_⟩) (by assumption) ?_
      rotate_left
      · (intro w hSw; (try dsimp only at hSw); first | (go_simp; done) | (go_simp; with_reducible rfl))
      try simp only [List.getElem_toArray, List.getElem_cons_succ, List.getElem_cons_zero, Act.put, List.setIfInBounds_toArray, List.set_cons_zero, List.set_cons_succ]
      refine wpAnyH_take (i := 11) (v := ?_) rfl (by kernel_rfl) (by kernel_rfl) (by kernel_rfl) (fun _ _ _ h => h) (Or.inl ⟨by rfl, ?_⟩) (by assumption) ?_
      rotate_left
      · (intro w hSw; (try dsimp only at hSw); first | (go_simp; done) | (go_simp; with_reducible rfl))
      try simp only [List.getElem_toArray, List.getElem_cons_succ, List.getElem_cons_zero, Act.put, List.setIfInBounds_toArray, List.set_cons_zero, List.set_cons_succ]
      refine wpAnyH_take (i := 12) (v := ?_) rfl (by kernel_rfl) (by kernel_rfl) (by kernel_rfl) (fun _ _ _ h => h) (Or.inl ⟨by rfl, ?_⟩) (by assumption) ?_
      rotate_left
      · (intro w hSw; (try dsimp only at hSw); first | (go_simp; done) | (go_simp; with_reducible rfl))
      try simp only [List.getElem_toArray, List.getElem_cons_succ, List.getElem_cons_zero, Act.put, List.setIfInBounds_toArray, List.set_cons_zero, List.set_cons_succ]
      refine wpAnyH_take (i := 13) (v := ?_) rfl (by kernel_rfl) (by kernel_rfl) (by kernel_rfl) (fun _ _ _ h => h) (Or.inl ⟨by rfl, ?_⟩) (by assumption) ?_
      rotate_left
      · (intro w hSw; (try dsimp only at hSw); first | (go_simp; done) | (go_simp; with_reducible rfl))
      try simp only [List.getElem_toArray, List.getElem_cons_succ, List.getElem_cons_zero, Act.put, List.setIfInBounds_toArray, List.set_cons_zero, List.set_cons_succ]
      refine wpAnyH_take (i := 14) (v := ?_) rfl (by kernel_rfl) (by kernel_rfl) (by kernel_rfl) (fun _ _ _ h => h) (Or.inl ⟨by rfl, ?_⟩) (by assumption) ?_
      rotate_left
      · (intro w hSw; (try dsimp only at hSw); first | (go_simp; done) | (go_simp; with_reducible rfl))
      try simp only [List.getElem_toArray, List.getElem_cons_succ, List.getElem_cons_zero, Act.put, List.setIfInBounds_toArray, List.set_cons_zero, List.set_cons_succ]
      refine wpAnyH_take (i := 15) (v := ?_) rfl (by kernel_rfl) (by kernel_rfl) (by kernel_rfl) (fun _ _ _ h => h) (Or.inl ⟨by rfl, ?_⟩) (by assumption) ?_
      rotate_left
      · (intro w hSw; (try dsimp only at hSw); first | (go_simp; done) | (go_simp; with_reducible rfl))
      try simp only [List.getElem_toArray, List.getElem_cons_succ, List.getElem_cons_zero, Act.put, List.setIfInBounds_toArray, List.set_cons_zero, List.set_cons_succ]
      refine wpAnyH_ready (rs := [3]) (by kernel_rfl) (by simp) ?_
      refine AllReadyH.cons rfl (fun K hK => ?_) AllReadyH.nil
      go_simp
      go_at_call 170
      refine (isTrue_any _ _ _).mono ?_
      rintro e wq1 ⟨rfl, bq⟩
      replace c00 := cell_later bq (by exact c00)
      replace c01 := cell_later bq (by exact c01)
      replace c10 := cell_later bq (by exact c10)
      replace c11 := cell_later bq (by exact c11)
      replace p0 := cell_later bq (by exact p0)
      replace f0 := fzl bq (World.block_lt_of_cell? _ _ (by exact r0)) (by exact f0)
      replace f1 := fzl bq (World.block_lt_of_cell? _ _ (by exact r1)) (by exact f1)
      replace r0 := cell_later bq (by exact r0)
      replace r1 := cell_later bq (by exact r1)
      replace BL := (show Below B w _ from by first | exact BL.trans (bq.mono (by exact Nat.le_trans (Nat.le_add_right _ _) kz)) | exact BL.drew.trans (bq.mono (by exact Nat.le_trans (Nat.le_add_right _ _) kz)))
      replace kz := Nat.le_trans kz bq.size
      clear bq
      rw [ht0]
      go_wp2_with fail
      refine hK.out _ _ ?_ (fun hHeld => ?_)
      · exact ⟨c00, c01, c10, c11, p0⟩
      clear hK K
      try simp only [List.getElem_toArray, List.getElem_cons_succ, List.getElem_cons_zero, Act.put, List.setIfInBounds_toArray, List.set_cons_zero, List.set_cons_succ]
      refine wpAnyH_take (i := 4) (v := ?_) rfl (by kernel_rfl) (by kernel_rfl) (by kernel_rfl) (fun _ _ _ h => h) (Or.inl ⟨by rfl, ?_⟩) (by assumption) ?_
      rotate_left
      · (intro w hSw; (try dsimp only at hSw); first | (go_simp; done) | (go_simp; with_reducible rfl))
      try simp only [List.getElem_toArray, List.getElem_cons_succ, List.getElem_cons_zero, Act.put, List.setIfInBounds_toArray, List.set_cons_zero, List.set_cons_succ]
      refine wpAnyH_take (i := 5) (v := undef) rfl (by kernel_rfl) (by kernel_rfl) (by kernel_rfl) (fun _ _ _ h => h) (Or.inr ⟨by rfl, rfl⟩) (by assumption) ?_
      try simp only [List.getElem_toArray, List.getElem_cons_succ, List.getElem_cons_zero, Act.put, List.setIfInBounds_toArray, List.set_cons_zero, List.set_cons_succ]
      refine wpAnyH_take (i := 6) (v := undef) rfl (by kernel_rfl) (by kernel_rfl) (by kernel_rfl) (fun _ _ _ h => h) (Or.inr ⟨by rfl, rfl⟩) (by assumption) ?_
      try simp only [List.getElem_toArray, List.getElem_cons_succ, List.getElem_cons_zero, Act.put, List.setIfInBounds_toArray, List.set_cons_zero, List.set_cons_succ]
      refine wpAnyH_take (i := 7) (v := undef) rfl (by kernel_rfl) (by kernel_rfl) (by kernel_rfl) (fun _ _ _ h => h) (Or.inr ⟨by rfl, rfl⟩) (by assumption) ?_
      try simp only [List.getElem_toArray, List.getElem_cons_succ, List.getElem_cons_zero, Act.put, List.setIfInBounds_toArray, List.set_cons_zero, List.set_cons_succ]
      refine wpAnyH_take (i := 8) (v := undef) rfl (by kernel_rfl) (by kernel_rfl) (by kernel_rfl) (fun _ _ _ h => h) (Or.inr ⟨by rfl, rfl⟩) (by assumption) ?_
      try simp only [List.getElem_toArray, List.getElem_cons_succ, List.getElem_cons_zero, Act.put, List.setIfInBounds_toArray, List.set_cons_zero, List.set_cons_succ]
      refine wpAnyH_take (i := 9) (v := ?_) rfl (by kernel_rfl) (by kernel_rfl) (by kernel_rfl) (fun _ _ _ h => h) (Or.inl ⟨by rfl, ?_⟩) (by assumption) ?_
      rotate_left
      · (intro w hSw; (try dsimp only at hSw); first | (go_simp; done) | (go_simp; with_reducible rfl))
      try simp only [List.getElem_toArray, List.getElem_cons_succ, List.getElem_cons_zero, Act.put, List.setIfInBounds_toArray, List.set_cons_zero, List.set_cons_succ]
      refine wpAnyH_ready (rs := [10]) (by kernel_rfl) (by simp) ?_
      refine AllReadyH.cons rfl (fun K hK => ?_) AllReadyH.nil
      go_simp
      go_at_call 126
      refine (truth_any _ _).mono ?_
      rintro e wq2 ⟨rfl, bq⟩
      replace c00 := cell_later bq (by exact c00)
      replace c01 := cell_later bq (by exact c01)
      replace c10 := cell_later bq (by exact c10)
      replace c11 := cell_later bq (by exact c11)
      replace p0 := cell_later bq (by exact p0)
      replace f0 := fzl bq (World.block_lt_of_cell? _ _ (by exact r0)) (by exact f0)
      replace f1 := fzl bq (World.block_lt_of_cell? _ _ (by exact r1)) (by exact f1)
      replace r0 := cell_later bq (by exact r0)
      replace r1 := cell_later bq (by exact r1)
      replace BL := (show Below B w _ from by first | exact BL.trans (bq.mono (by exact Nat.le_trans (Nat.le_add_right _ _) kz)) | exact BL.drew.trans (bq.mono (by exact Nat.le_trans (Nat.le_add_right _ _) kz)))
      replace kz := Nat.le_trans kz bq.size
      clear bq
      go_wp2_with fail
      refine hK.out _ _ ?_ (fun hHeld => ?_)
      · exact ⟨c00, c01, c10, c11, p0⟩
      clear hK K
      try simp only [List.getElem_toArray, List.getElem_cons_succ, List.getElem_cons_zero, Act.put, List.setIfInBounds_toArray, List.set_cons_zero, List.set_cons_succ]
      refine wpAnyH_take (i := 16) (v := ?_) rfl (by kernel_rfl) (by kernel_rfl) (by kernel_rfl) (fun _ _ _ h => h) (Or.inl ⟨by rfl, ?_⟩) (by assumption) ?_
      rotate_left
      · (intro w hSw; (try dsimp only at hSw); first | (go_simp; done) | (go_simp; with_reducible rfl))
      try simp only [List.getElem_toArray, List.getElem_cons_succ, List.getElem_cons_zero, Act.put, List.setIfInBounds_toArray, List.set_cons_zero, List.set_cons_succ]
      refine wpAnyH_take (i := 17) (v := undef) rfl (by kernel_rfl) (by kernel_rfl) (by kernel_rfl) (fun _ _ _ h => h) (Or.inr ⟨by rfl, rfl⟩) (by assumption) ?_
      try simp only [List.getElem_toArray, List.getElem_cons_succ, List.getElem_cons_zero, Act.put, List.setIfInBounds_toArray, List.set_cons_zero, List.set_cons_succ]
      refine wpAnyH_take (i := 18) (v := undef) rfl (by kernel_rfl) (by kernel_rfl) (by kernel_rfl) (fun _ _ _ h => h) (Or.inr ⟨by rfl, rfl⟩) (by assumption) ?_
      try simp only [List.getElem_toArray, List.getElem_cons_succ, List.getElem_cons_zero, Act.put, List.setIfInBounds_toArray, List.set_cons_zero, List.set_cons_succ]
      refine wpAnyH_take (i := 19) (v := undef) rfl (by kernel_rfl) (by kernel_rfl) (by kernel_rfl) (fun _ _ _ h => h) (Or.inr ⟨by rfl, rfl⟩) (by assumption) ?_
      try simp only [List.getElem_toArray, List.getElem_cons_succ, List.getElem_cons_zero, Act.put, List.setIfInBounds_toArray, List.set_cons_zero, List.set_cons_succ]
      refine wpAnyH_take (i := 20) (v := undef) rfl (by kernel_rfl) (by kernel_rfl) (by kernel_rfl) (fun _ _ _ h => h) (Or.inr ⟨by rfl, rfl⟩) (by assumption) ?_
      try simp only [List.getElem_toArray, List.getElem_cons_succ, List.getElem_cons_zero, Act.put, List.setIfInBounds_toArray, List.set_cons_zero, List.set_cons_succ]
      refine wpAnyH_take (i := 21) (v := undef) rfl (by kernel_rfl) (by kernel_rfl) (by kernel_rfl) (fun _ _ _ h => h) (Or.inr ⟨by rfl, rfl⟩) (by assumption) ?_
      try simp only [List.getElem_toArray, List.getElem_cons_succ, List.getElem_cons_zero, Act.put, List.setIfInBounds_toArray, List.set_cons_zero, List.set_cons_succ]
      refine wpAnyH_take (i := 22) (v := ?_) rfl (by kernel_rfl) (by kernel_rfl) (by kernel_rfl) (fun _ _ _ h => h) (Or.inl ⟨by rfl, ?_⟩) (by assumption) ?_
      rotate_left
      · (intro w hSw; (try dsimp only at hSw); first | (go_simp; done) | (go_simp; with_reducible rfl))
      try simp only [List.getElem_toArray, List.getElem_cons_succ, List.getElem_cons_zero, Act.put, List.setIfInBounds_toArray, List.set_cons_zero, List.set_cons_succ]
      refine wpAnyH_ready (rs := [23]) (by kernel_rfl) (by simp) ?_
      refine AllReadyH.cons rfl (fun K hK => ?_) AllReadyH.nil
      go_simp
      refine hK.out _ _ ?_ (fun hHeld => ?_)
      · exact (by simp only [World.cell?_setCell_far, nk, nb, ne_eq, not_false_eq_true]; exact ⟨c00, c01, c10, c11, p0⟩)
      clear hK K
      try simp only [List.getElem_toArray, List.getElem_cons_succ, List.getElem_cons_zero, Act.put, List.setIfInBounds_toArray, List.set_cons_zero, List.set_cons_succ]
      refine wpAnyH_take (i := 24) (v := ?_) rfl (by kernel_rfl) (by kernel_rfl) (by kernel_rfl) (fun _ _ _ h => h) (Or.inl ⟨by rfl, ?_⟩) (by assumption) ?_
      rotate_left
      · (intro w hSw; (try dsimp only at hSw); first | (go_simp; done) | (go_simp; with_reducible rfl))
      try simp only [List.getElem_toArray, List.getElem_cons_succ, List.getElem_cons_zero, Act.put, List.setIfInBounds_toArray, List.set_cons_zero, List.set_cons_succ]
      refine wpAnyH_done (by kernel_rfl) ?_ _
      go_wp2
      all_goals exact bodyPost_ret (v := (.tuple #[.agg #[.int .i64 0, .int .i64 (b01 (false))], .bool (false)])) (by simp [results, Tryz.results174, go_sem, r0, r1]) rfl ⟨by rfl, by first | exact (BL.setCell (by simp) _).setCell (by simp) _ | (rw [hB]; first | exact (BL.setCell (by simp) _).setCell (by simp) _ | exact ((BL.drew).setCell (by simp) _).setCell (by simp) _)⟩
    · simp only [Bool.true_and, Bool.false_and, Bool.false_or]
      obtain ⟨c00w, c01w⟩ := hk 0 (by omega)
      obtain ⟨c10w, c11w⟩ := hk 1 (by omega)
      go_enter Tryz.func174, Tryz.ntmps174
      go_wp2_with fail
      have BL : Below w.heap.size w ((w.alloc (.cells #[.int .i64 op] 153)).alloc (.cells #[.int .i64 0, .int .i64 0] 107)) := ((Below.refl w.heap.size w).alloc (Nat.le_refl _) _).alloc (by simp) _
      have kz : w.heap.size + 2 ≤ ((w.alloc (.cells #[.int .i64 op] 153)).alloc (.cells #[.int .i64 0, .int .i64 0] 107)).heap.size := by simp
      have c00 : ((w.alloc (.cells #[.int .i64 op] 153)).alloc (.cells #[.int .i64 0, .int .i64 0] 107)).cell? ⟨KB, 0, none⟩ = some (.int .i64 (X 0)) := cell_later BL (by simpa using c00w)
      have c01 : ((w.alloc (.cells #[.int .i64 op] 153)).alloc (.cells #[.int .i64 0, .int .i64 0] 107)).cell? ⟨KB, 1, none⟩ = some (.int .i64 (Y 0)) := cell_later BL (by simpa using c01w)
      have c10 : ((w.alloc (.cells #[.int .i64 op] 153)).alloc (.cells #[.int .i64 0, .int .i64 0] 107)).cell? ⟨KB, 2, none⟩ = some (.int .i64 (X 1)) := cell_later BL (by simpa using c10w)
      have c11 : ((w.alloc (.cells #[.int .i64 op] 153)).alloc (.cells #[.int .i64 0, .int .i64 0] 107)).cell? ⟨KB, 3, none⟩ = some (.int .i64 (Y 1)) := cell_later BL (by simpa using c11w)
      have lk : KB < w.heap.size := World.block_lt_of_cell? _ _ c00w
      have p0 : ((w.alloc (.cells #[.int .i64 op] 153)).alloc (.cells #[.int .i64 0, .int .i64 0] 107)).cell? ⟨w.heap.size, 0, none⟩ = some (.int .i64 op) := by simp [go_sem]
      have r0 : ((w.alloc (.cells #[.int .i64 op] 153)).alloc (.cells #[.int .i64 0, .int .i64 0] 107)).cell? ⟨w.heap.size + 1, 0, none⟩ = some (.int .i64 0) := by simp [go_sem]
      have f0 : ((w.alloc (.cells #[.int .i64 op] 153)).alloc (.cells #[.int .i64 0, .int .i64 0] 107)).frozen? ⟨w.heap.size + 1, 0, none⟩ = false := by simp [go_sem]
      have r1 : ((w.alloc (.cells #[.int .i64 op] 153)).alloc (.cells #[.int .i64 0, .int .i64 0] 107)).cell? ⟨w.heap.size + 1, 1, none⟩ = some (.int .i64 0) := by simp [go_sem]
      have f1 : ((w.alloc (.cells #[.int .i64 op] 153)).alloc (.cells #[.int .i64 0, .int .i64 0] 107)).frozen? ⟨w.heap.size + 1, 1, none⟩ = false := by simp [go_sem]
      clear c00w c01w c10w c11w hk
      generalize hB : w.heap.size = B at *
      generalize ((w.alloc (.cells #[.int .i64 op] 153)).alloc (.cells #[.int .i64 0, .int .i64 0] 107)) = wa at *
      have nk : ¬ B + 1 = KB := by omega
      have nb : ¬ B + 1 = B := by omega
      refine wp_region_held_drew (S := (fun w' => w'.cell? ⟨KB, 0, none⟩ = some (.int .i64 (X 0)) ∧ w'.cell? ⟨KB, 1, none⟩ = some (.int .i64 (Y 0)) ∧ w'.cell? ⟨KB, 2, none⟩ = some (.int .i64 (X 1)) ∧ w'.cell? ⟨KB, 3, none⟩ = some (.int .i64 (Y 1)) ∧ w'.cell? ⟨B, 0, none⟩ = some (.int .i64 op))) (by kernel_rfl) ?_ (fun hHeld => ?_)
      · exact ⟨c00, c01, c10, c11, p0⟩
      refine wpAnyH_take (i := 0) (v := ?_) rfl (by kernel_rfl) (by kernel_rfl) (by kernel_rfl) (fun _ _ _ h => h) (Or.inl ⟨by rfl, ?_⟩) (by assumption) ?_
      rotate_left
      · (intro w hSw; (try dsimp only at hSw); first | (go_simp; done) | (go_simp; with_reducible rfl))
      try simp only [List.getElem_toArray, List.getElem_cons_succ, List.getElem_cons_zero, Act.put, List.setIfInBounds_toArray, List.set_cons_zero, List.set_cons_succ]
      refine wpAnyH_take (i := 1) (v := ?_) rfl (by kernel_rfl) (by kernel_rfl) (by kernel_rfl) (fun _ _ _ h => h) (Or.inl ⟨by rfl, ?_⟩) (by assumption) ?_
      rotate_left
      · (intro w hSw; (try dsimp only at hSw); first | (go_simp; done) | (go_simp; with_reducible rfl))
      try simp only [List.getElem_toArray, List.getElem_cons_succ, List.getElem_cons_zero, Act.put, List.setIfInBounds_toArray, List.set_cons_zero, List.set_cons_succ]
      refine wpAnyH_take (i := 2) (v := ?_) rfl (by kernel_rfl) (by kernel_rfl) (by kernel_rfl) (fun _ _ _ h => h) (Or.inl ⟨by rfl, ?_⟩) (by assumption) ?_
      rotate_left
      · (intro w hSw; (try dsimp only at hSw); first | (go_simp; done) | (go_simp; with_reducible rfl))
      try simp only [List.getElem_toArray, List.getElem_cons_succ, List.getElem_cons_zero, Act.put, List.setIfInBounds_toArray, List.set_cons_zero, List.set_cons_succ]
      refine wpAnyH_take (i := 11) (v := ?_) rfl (by kernel_rfl) (by kernel_rfl) (by kernel_rfl) (fun _ _ _ h => h) (Or.inl ⟨by rfl, ?_⟩) (by assumption) ?_
      rotate_left
      · (intro w hSw; (try dsimp only at hSw); first | (go_simp; done) | (go_simp; with_reducible rfl))
      try simp only [List.getElem_toArray, List.getElem_cons_succ, List.getElem_cons_zero, Act.put, List.setIfInBounds_toArray, List.set_cons_zero, List.set_cons_succ]
      refine wpAnyH_take (i := 12) (v := ?_) rfl (by kernel_rfl) (by kernel_rfl) (by kernel_rfl) (fun _ _ _ h => h) (Or.inl ⟨by rfl, ?_⟩) (by assumption) ?_
      rotate_left
      · (intro w hSw; (try dsimp only at hSw); first | (go_simp; done) | (go_simp; with_reducible rfl))
      try simp only [List.getElem_toArray, List.getElem_cons_succ, List.getElem_cons_zero, Act.put, List.setIfInBounds_toArray, List.set_cons_zero, List.set_cons_succ]
      refine wpAnyH_take (i := 13) (v := ?_) rfl (by kernel_rfl) (by kernel_rfl) (by kernel_rfl) (fun _ _ _ h => h) (Or.inl ⟨by rfl, ?_⟩) (by assumption) ?_
      rotate_left
      · (intro w hSw; (try dsimp only at hSw); first | (go_simp; done) | (go_simp; with_reducible rfl))
      try simp only [List.getElem_toArray, List.getElem_cons_succ, List.getElem_cons_zero, Act.put, List.setIfInBounds_toArray, List.set_cons_zero, List.set_cons_succ]
      refine wpAnyH_take (i := 14) (v := ?_) rfl (by kernel_rfl) (by kernel_rfl) (by kernel_rfl) (fun _ _ _ h => h) (Or.inl ⟨by rfl, ?_⟩) (by assumption) ?_
      rotate_left
      · (intro w hSw; (try dsimp only at hSw); first | (go_simp; done) | (go_simp; with_reducible rfl))
      try simp only [List.getElem_toArray, List.getElem_cons_succ, List.getElem_cons_zero, Act.put, List.setIfInBounds_toArray, List.set_cons_zero, List.set_cons_succ]
      refine wpAnyH_take (i := 15) (v := ?_) rfl (by kernel_rfl) (by kernel_rfl) (by kernel_rfl) (fun _ _ _ h => h) (Or.inl ⟨by rfl, ?_⟩) (by assumption) ?_
      rotate_left
      · (intro w hSw; (try dsimp only at hSw); first | (go_simp; done) | (go_simp; with_reducible rfl))
      try simp only [List.getElem_toArray, List.getElem_cons_succ, List.getElem_cons_zero, Act.put, List.setIfInBounds_toArray, List.set_cons_zero, List.set_cons_succ]
      refine wpAnyH_ready (rs := [3]) (by kernel_rfl) (by simp) ?_
      refine AllReadyH.cons rfl (fun K hK => ?_) AllReadyH.nil
      go_simp
      go_at_call 170
      refine (isTrue_any _ _ _).mono ?_
      rintro e wq1 ⟨rfl, bq⟩
      replace c00 := cell_later bq (by exact c00)
      replace c01 := cell_later bq (by exact c01)
      replace c10 := cell_later bq (by exact c10)
      replace c11 := cell_later bq (by exact c11)
      replace p0 := cell_later bq (by exact p0)
      replace f0 := fzl bq (World.block_lt_of_cell? _ _ (by exact r0)) (by exact f0)
      replace f1 := fzl bq (World.block_lt_of_cell? _ _ (by exact r1)) (by exact f1)
      replace r0 := cell_later bq (by exact r0)
      replace r1 := cell_later bq (by exact r1)
      replace BL := (show Below B w _ from by first | exact BL.trans (bq.mono (by exact Nat.le_trans (Nat.le_add_right _ _) kz)) | exact BL.drew.trans (bq.mono (by exact Nat.le_trans (Nat.le_add_right _ _) kz)))
      replace kz := Nat.le_trans kz bq.size
      clear bq
      rw [ht0]
      go_wp2_with fail
      refine hK.out _ _ ?_ (fun hHeld => ?_)
      · exact ⟨c00, c01, c10, c11, p0⟩
      clear hK K
      try simp only [List.getElem_toArray, List.getElem_cons_succ, List.getElem_cons_zero, Act.put, List.setIfInBounds_toArray, List.set_cons_zero, List.set_cons_succ]
      refine wpAnyH_take (i := 4) (v := ?_) rfl (by kernel_rfl) (by kernel_rfl) (by kernel_rfl) (fun _ _ _ h => h) (Or.inl ⟨by rfl, ?_⟩) (by assumption) ?_
      rotate_left
      · (intro w hSw; (try dsimp only at hSw); first | (go_simp; done) | (go_simp; with_reducible rfl))
      try simp only [List.getElem_toArray, List.getElem_cons_succ, List.getElem_cons_zero, Act.put, List.setIfInBounds_toArray, List.set_cons_zero, List.set_cons_succ]
      refine wpAnyH_take (i := 5) (v := undef) rfl (by kernel_rfl) (by kernel_rfl) (by kernel_rfl) (fun _ _ _ h => h) (Or.inr ⟨by rfl, rfl⟩) (by assumption) ?_
      try simp only [List.getElem_toArray, List.getElem_cons_succ, List.getElem_cons_zero, Act.put, List.setIfInBounds_toArray, List.set_cons_zero, List.set_cons_succ]
      refine wpAnyH_take (i := 6) (v := undef) rfl (by kernel_rfl) (by kernel_rfl) (by kernel_rfl) (fun _ _ _ h => h) (Or.inr ⟨by rfl, rfl⟩) (by assumption) ?_
      try simp only [List.getElem_toArray, List.getElem_cons_succ, List.getElem_cons_zero, Act.put, List.setIfInBounds_toArray, List.set_cons_zero, List.set_cons_succ]
      refine wpAnyH_take (i := 7) (v := undef) rfl (by kernel_rfl) (by kernel_rfl) (by kernel_rfl) (fun _ _ _ h => h) (Or.inr ⟨by rfl, rfl⟩) (by assumption) ?_
      try simp only [List.getElem_toArray, List.getElem_cons_succ, List.getElem_cons_zero, Act.put, List.setIfInBounds_toArray, List.set_cons_zero, List.set_cons_succ]
      refine wpAnyH_take (i := 8) (v := undef) rfl (by kernel_rfl) (by kernel_rfl) (by kernel_rfl) (fun _ _ _ h => h) (Or.inr ⟨by rfl, rfl⟩) (by assumption) ?_
      try simp only [List.getElem_toArray, List.getElem_cons_succ, List.getElem_cons_zero, Act.put, List.setIfInBounds_toArray, List.set_cons_zero, List.set_cons_succ]
      refine wpAnyH_take (i := 9) (v := ?_) rfl (by kernel_rfl) (by kernel_rfl) (by kernel_rfl) (fun _ _ _ h => h) (Or.inl ⟨by rfl, ?_⟩) (by assumption) ?_
      rotate_left
      · (intro w hSw; (try dsimp only at hSw); first | (go_simp; done) | (go_simp; with_reducible rfl))
      try simp only [List.getElem_toArray, List.getElem_cons_succ, List.getElem_cons_zero, Act.put, List.setIfInBounds_toArray, List.set_cons_zero, List.set_cons_succ]
      refine wpAnyH_ready (rs := [10]) (by kernel_rfl) (by simp) ?_
      refine AllReadyH.cons rfl (fun K hK => ?_) AllReadyH.nil
      go_simp
      go_at_call 126
      refine (truth_any _ _).mono ?_
      rintro e wq2 ⟨rfl, bq⟩
      replace c00 := cell_later bq (by exact c00)
      replace c01 := cell_later bq (by exact c01)
      replace c10 := cell_later bq (by exact c10)
      replace c11 := cell_later bq (by exact c11)
      replace p0 := cell_later bq (by exact p0)
      replace f0 := fzl bq (World.block_lt_of_cell? _ _ (by exact r0)) (by exact f0)
      replace f1 := fzl bq (World.block_lt_of_cell? _ _ (by exact r1)) (by exact f1)
      replace r0 := cell_later bq (by exact r0)
      replace r1 := cell_later bq (by exact r1)
      replace BL := (show Below B w _ from by first | exact BL.trans (bq.mono (by exact Nat.le_trans (Nat.le_add_right _ _) kz)) | exact BL.drew.trans (bq.mono (by exact Nat.le_trans (Nat.le_add_right _ _) kz)))
      replace kz := Nat.le_trans kz bq.size
      clear bq
      go_wp2_with fail
      refine hK.out _ _ ?_ (fun hHeld => ?_)
      · exact ⟨c00, c01, c10, c11, p0⟩
      clear hK K
      try simp only [List.getElem_toArray, List.getElem_cons_succ, List.getElem_cons_zero, Act.put, List.setIfInBounds_toArray, List.set_cons_zero, List.set_cons_succ]
      refine wpAnyH_take (i := 16) (v := ?_) rfl (by kernel_rfl) (by kernel_rfl) (by kernel_rfl) (fun _ _ _ h => h) (Or.inl ⟨by rfl, ?_⟩) (by assumption) ?_
      rotate_left
      · (intro w hSw; (try dsimp only at hSw); first | (go_simp; done) | (go_simp; with_reducible rfl))
      try simp only [List.getElem_toArray, List.getElem_cons_succ, List.getElem_cons_zero, Act.put, List.setIfInBounds_toArray, List.set_cons_zero, List.set_cons_succ]
      refine wpAnyH_take (i := 17) (v := ?_) rfl (by kernel_rfl) (by kernel_rfl) (by kernel_rfl) (fun _ _ _ h => h) (Or.inl ⟨by rfl, ?_⟩) (by assumption) ?_
      rotate_left
      · (intro w hSw; (try dsimp only at hSw); first | (go_simp; done) | (go_simp; with_reducible rfl))
      try simp only [List.getElem_toArray, List.getElem_cons_succ, List.getElem_cons_zero, Act.put, List.setIfInBounds_toArray, List.set_cons_zero, List.set_cons_succ]
      refine wpAnyH_take (i := 18) (v := ?_) rfl (by kernel_rfl) (by kernel_rfl) (by kernel_rfl) (fun _ _ _ h => h) (Or.inl ⟨by rfl, ?_⟩) (by assumption) ?_
      rotate_left
      · (intro w hSw; (try dsimp only at hSw); first | (go_simp; done) | (go_simp; with_reducible rfl))
      try simp only [List.getElem_toArray, List.getElem_cons_succ, List.getElem_cons_zero, Act.put, List.setIfInBounds_toArray, List.set_cons_zero, List.set_cons_succ]
      refine wpAnyH_take (i := 19) (v := ?_) rfl (by kernel_rfl) (by kernel_rfl) (by kernel_rfl) (fun _ _ _ h => h) (Or.inl ⟨by rfl, ?_⟩) (by assumption) ?_
      rotate_left
      · (intro w hSw; (try dsimp only at hSw); first | (go_simp; done) | (go_simp; with_reducible rfl))
      try simp only [List.getElem_toArray, List.getElem_cons_succ, List.getElem_cons_zero, Act.put, List.setIfInBounds_toArray, List.set_cons_zero, List.set_cons_succ]
      refine wpAnyH_take (i := 20) (v := ?_) rfl (by kernel_rfl) (by kernel_rfl) (by kernel_rfl) (fun _ _ _ h => h) (Or.inl ⟨by rfl, ?_⟩) (by assumption) ?_
      rotate_left
      · (intro w hSw; (try dsimp only at hSw); first | (go_simp; done) | (go_simp; with_reducible rfl))
      try simp only [List.getElem_toArray, List.getElem_cons_succ, List.getElem_cons_zero, Act.put, List.setIfInBounds_toArray, List.set_cons_zero, List.set_cons_succ]
      refine wpAnyH_take (i := 21) (v := ?_) rfl (by kernel_rfl) (by kernel_rfl) (by kernel_rfl) (fun _ _ _ h => h) (Or.inl ⟨by rfl, ?_⟩) (by assumption) ?_
      rotate_left
      · (intro w hSw; (try dsimp only at hSw); first | (go_simp; done) | (go_simp; with_reducible rfl))
      try simp only [List.getElem_toArray, List.getElem_cons_succ, List.getElem_cons_zero, Act.put, List.setIfInBounds_toArray, List.set_cons_zero, List.set_cons_succ]
      refine wpAnyH_take (i := 22) (v := ?_) rfl (by kernel_rfl) (by kernel_rfl) (by kernel_rfl) (fun _ _ _ h => h) (Or.inl ⟨by rfl, ?_⟩) (by assumption) ?_
      rotate_left
      · (intro w hSw; (try dsimp only at hSw); first | (go_simp; done) | (go_simp; with_reducible rfl))
      try simp only [List.getElem_toArray, List.getElem_cons_succ, List.getElem_cons_zero, Act.put, List.setIfInBounds_toArray, List.set_cons_zero, List.set_cons_succ]
      refine wpAnyH_ready (rs := [23]) (by kernel_rfl) (by simp) ?_
      refine AllReadyH.cons rfl (fun K hK => ?_) AllReadyH.nil
      go_simp
      refine hK.out _ _ ?_ (fun hHeld => ?_)
      · exact (by simp only [World.cell?_setCell_far, nk, nb, ne_eq, not_false_eq_true]; exact ⟨c00, c01, c10, c11, p0⟩)
      clear hK K
      try simp only [List.getElem_toArray, List.getElem_cons_succ, List.getElem_cons_zero, Act.put, List.setIfInBounds_toArray, List.set_cons_zero, List.set_cons_succ]
      refine wpAnyH_take (i := 24) (v := ?_) rfl (by kernel_rfl) (by kernel_rfl) (by kernel_rfl) (fun _ _ _ h => h) (Or.inl ⟨by rfl, ?_⟩) (by assumption) ?_
      rotate_left
      · (intro w hSw; (try dsimp only at hSw); first | (go_simp; done) | (go_simp; with_reducible rfl))
      try simp only [List.getElem_toArray, List.getElem_cons_succ, List.getElem_cons_zero, Act.put, List.setIfInBounds_toArray, List.set_cons_zero, List.set_cons_succ]
      refine wpAnyH_done (by kernel_rfl) ?_ _
      go_wp2
      all_goals exact bodyPost_ret (v := (.tuple #[.agg #[.int .i64 0, .int .i64 (b01 (false))], .bool ((X 1 == 0))])) (by simp [results, Tryz.results174, go_sem, r0, r1]) rfl ⟨by rfl, by first | exact (BL.setCell (by simp) _).setCell (by simp) _ | (rw [hB]; first | exact (BL.setCell (by simp) _).setCell (by simp) _ | exact ((BL.drew).setCell (by simp) _).setCell (by simp) _)⟩
  · have hx0 : (X 0 == 0) = true := by simp only [isT, Bool.and_eq_true] at ht0; exact ht0.1
    rw [hx0]
    simp only [Bool.true_and, Bool.true_or]
    obtain ⟨c00w, c01w⟩ := hk 0 (by omega)
    obtain ⟨c10w, c11w⟩ := hk 1 (by omega)
    go_enter Tryz.func174, Tryz.ntmps174
    go_wp2_with fail
    have BL : Below w.heap.size w ((w.alloc (.cells #[.int .i64 op] 153)).alloc (.cells #[.int .i64 0, .int .i64 0] 107)) := ((Below.refl w.heap.size w).alloc (Nat.le_refl _) _).alloc (by simp) _
    have kz : w.heap.size + 2 ≤ ((w.alloc (.cells #[.int .i64 op] 153)).alloc (.cells #[.int .i64 0, .int .i64 0] 107)).heap.size := by simp
    have c00 : ((w.alloc (.cells #[.int .i64 op] 153)).alloc (.cells #[.int .i64 0, .int .i64 0] 107)).cell? ⟨KB, 0, none⟩ = some (.int .i64 (X 0)) := cell_later BL (by simpa using c00w)
    have c01 : ((w.alloc (.cells #[.int .i64 op] 153)).alloc (.cells #[.int .i64 0, .int .i64 0] 107)).cell? ⟨KB, 1, none⟩ = some (.int .i64 (Y 0)) := cell_later BL (by simpa using c01w)
    have c10 : ((w.alloc (.cells #[.int .i64 op] 153)).alloc (.cells #[.int .i64 0, .int .i64 0] 107)).cell? ⟨KB, 2, none⟩ = some (.int .i64 (X 1)) := cell_later BL (by simpa using c10w)
    have c11 : ((w.alloc (.cells #[.int .i64 op] 153)).alloc (.cells #[.int .i64 0, .int .i64 0] 107)).cell? ⟨KB, 3, none⟩ = some (.int .i64 (Y 1)) := cell_later BL (by simpa using c11w)
    have lk : KB < w.heap.size := World.block_lt_of_cell? _ _ c00w
    have p0 : ((w.alloc (.cells #[.int .i64 op] 153)).alloc (.cells #[.int .i64 0, .int .i64 0] 107)).cell? ⟨w.heap.size, 0, none⟩ = some (.int .i64 op) := by simp [go_sem]
    have r0 : ((w.alloc (.cells #[.int .i64 op] 153)).alloc (.cells #[.int .i64 0, .int .i64 0] 107)).cell? ⟨w.heap.size + 1, 0, none⟩ = some (.int .i64 0) := by simp [go_sem]
    have f0 : ((w.alloc (.cells #[.int .i64 op] 153)).alloc (.cells #[.int .i64 0, .int .i64 0] 107)).frozen? ⟨w.heap.size + 1, 0, none⟩ = false := by simp [go_sem]
    have r1 : ((w.alloc (.cells #[.int .i64 op] 153)).alloc (.cells #[.int .i64 0, .int .i64 0] 107)).cell? ⟨w.heap.size + 1, 1, none⟩ = some (.int .i64 0) := by simp [go_sem]
    have f1 : ((w.alloc (.cells #[.int .i64 op] 153)).alloc (.cells #[.int .i64 0, .int .i64 0] 107)).frozen? ⟨w.heap.size + 1, 1, none⟩ = false := by simp [go_sem]
    clear c00w c01w c10w c11w hk
    generalize hB : w.heap.size = B at *
    generalize ((w.alloc (.cells #[.int .i64 op] 153)).alloc (.cells #[.int .i64 0, .int .i64 0] 107)) = wa at *
    have nk : ¬ B + 1 = KB := by omega
    have nb : ¬ B + 1 = B := by omega
    refine wp_region_held_drew (S := (fun w' => w'.cell? ⟨KB, 0, none⟩ = some (.int .i64 (X 0)) ∧ w'.cell? ⟨KB, 1, none⟩ = some (.int .i64 (Y 0)) ∧ w'.cell? ⟨KB, 2, none⟩ = some (.int .i64 (X 1)) ∧ w'.cell? ⟨KB, 3, none⟩ = some (.int .i64 (Y 1)) ∧ w'.cell? ⟨B, 0, none⟩ = some (.int .i64 op))) (by kernel_rfl) ?_ (fun hHeld => ?_)
    · exact ⟨c00, c01, c10, c11, p0⟩
    refine wpAnyH_take (i := 0) (v := ?_) rfl (by kernel_rfl) (by kernel_rfl) (by kernel_rfl) (fun _ _ _ h => h) (Or.inl ⟨by rfl, ?_⟩) (by assumption) ?_
    rotate_left
    · (intro w hSw; (try dsimp only at hSw); first | (go_simp; done) | (go_simp; with_reducible rfl))
    try simp only [List.getElem_toArray, List.getElem_cons_succ, List.getElem_cons_zero, Act.put, List.setIfInBounds_toArray, List.set_cons_zero, List.set_cons_succ]
    refine wpAnyH_take (i := 1) (v := ?_) rfl (by kernel_rfl) (by kernel_rfl) (by kernel_rfl) (fun _ _ _ h => h) (Or.inl ⟨by rfl, ?_⟩) (by assumption) ?_
    rotate_left
    · (intro w hSw; (try dsimp only at hSw); first | (go_simp; done) | (go_simp; with_reducible rfl))
    try simp only [List.getElem_toArray, List.getElem_cons_succ, List.getElem_cons_zero, Act.put, List.setIfInBounds_toArray, List.set_cons_zero, List.set_cons_succ]
    refine wpAnyH_take (i := 2) (v := ?_) rfl (by kernel_rfl) (by kernel_rfl) (by kernel_rfl) (fun _ _ _ h => h) (Or.inl ⟨by rfl, ?_⟩) (by assumption) ?_
    rotate_left
    · (intro w hSw; (try dsimp only at hSw); first | (go_simp; done) | (go_simp; with_reducible rfl))
    try simp only [List.getElem_toArray, List.getElem_cons_succ, List.getElem_cons_zero, Act.put, List.setIfInBounds_toArray, List.set_cons_zero, List.set_cons_succ]
    refine wpAnyH_take (i := 11) (v := ?_) rfl (by kernel_rfl) (by kernel_rfl) (by kernel_rfl) (fun _ _ _ h => h) (Or.inl ⟨by rfl, ?_⟩) (by assumption) ?_
    rotate_left
    · (intro w hSw; (try dsimp only at hSw); first | (go_simp; done) | (go_simp; with_reducible rfl))
    try simp only [List.getElem_toArray, List.getElem_cons_succ, List.getElem_cons_zero, Act.put, List.setIfInBounds_toArray, List.set_cons_zero, List.set_cons_succ]
    refine wpAnyH_take (i := 12) (v := ?_) rfl (by kernel_rfl) (by kernel_rfl) (by kernel_rfl) (fun _ _ _ h => h) (Or.inl ⟨by rfl, ?_⟩) (by assumption) ?_
    rotate_left
    · (intro w hSw; (try dsimp only at hSw); first | (go_simp; done) | (go_simp; with_reducible rfl))
    try simp only [List.getElem_toArray, List.getElem_cons_succ, List.getElem_cons_zero, Act.put, List.setIfInBounds_toArray, List.set_cons_zero, List.set_cons_succ]
    refine wpAnyH_take (i := 13) (v := ?_) rfl (by kernel_rfl) (by kernel_rfl) (by kernel_rfl) (fun _ _ _ h => h) (Or.inl ⟨by rfl, ?_⟩) (by assumption) ?_
    rotate_left
    · (intro w hSw; (try dsimp only at hSw); first | (go_simp; done) | (go_simp; with_reducible rfl))
    try simp only [List.getElem_toArray, List.getElem_cons_succ, List.getElem_cons_zero, Act.put, List.setIfInBounds_toArray, List.set_cons_zero, List.set_cons_succ]
    refine wpAnyH_take (i := 14) (v := ?_) rfl (by kernel_rfl) (by kernel_rfl) (by kernel_rfl) (fun _ _ _ h => h) (Or.inl ⟨by rfl, ?_⟩) (by assumption) ?_
    rotate_left
    · (intro w hSw; (try dsimp only at hSw); first | (go_simp; done) | (go_simp; with_reducible rfl))
    try simp only [List.getElem_toArray, List.getElem_cons_succ, List.getElem_cons_zero, Act.put, List.setIfInBounds_toArray, List.set_cons_zero, List.set_cons_succ]
    refine wpAnyH_take (i := 15) (v := ?_) rfl (by kernel_rfl) (by kernel_rfl) (by kernel_rfl) (fun _ _ _ h => h) (Or.inl ⟨by rfl, ?_⟩) (by assumption) ?_
    rotate_left
    · (intro w hSw; (try dsimp only at hSw); first | (go_simp; done) | (go_simp; with_reducible rfl))
    try simp only [List.getElem_toArray, List.getElem_cons_succ, List.getElem_cons_zero, Act.put, List.setIfInBounds_toArray, List.set_cons_zero, List.set_cons_succ]
    refine wpAnyH_ready (rs := [3]) (by kernel_rfl) (by simp) ?_
    refine AllReadyH.cons rfl (fun K hK => ?_) AllReadyH.nil
    go_simp
    go_at_call 170
    refine (isTrue_any _ _ _).mono ?_
    rintro e wq1 ⟨rfl, bq⟩
    replace c00 := cell_later bq (by exact c00)
    replace c01 := cell_later bq (by exact c01)
    replace c10 := cell_later bq (by exact c10)
    replace c11 := cell_later bq (by exact c11)
    replace p0 := cell_later bq (by exact p0)
    replace f0 := fzl bq (World.block_lt_of_cell? _ _ (by exact r0)) (by exact f0)
    replace f1 := fzl bq (World.block_lt_of_cell? _ _ (by exact r1)) (by exact f1)
    replace r0 := cell_later bq (by exact r0)
    replace r1 := cell_later bq (by exact r1)
    replace BL := (show Below B w _ from by first | exact BL.trans (bq.mono (by exact Nat.le_trans (Nat.le_add_right _ _) kz)) | exact BL.drew.trans (bq.mono (by exact Nat.le_trans (Nat.le_add_right _ _) kz)))
    replace kz := Nat.le_trans kz bq.size
    clear bq
    rw [ht0]
    go_wp2_with fail
    refine hK.out _ _ ?_ (fun hHeld => ?_)
    · exact ⟨c00, c01, c10, c11, p0⟩
    clear hK K
    try simp only [List.getElem_toArray, List.getElem_cons_succ, List.getElem_cons_zero, Act.put, List.setIfInBounds_toArray, List.set_cons_zero, List.set_cons_succ]
    refine wpAnyH_take (i := 4) (v := ?_) rfl (by kernel_rfl) (by kernel_rfl) (by kernel_rfl) (fun _ _ _ h => h) (Or.inl ⟨by rfl, ?_⟩) (by assumption) ?_
    rotate_left
    · (intro w hSw; (try dsimp only at hSw); first | (go_simp; done) | (go_simp; with_reducible rfl))
    try simp only [List.getElem_toArray, List.getElem_cons_succ, List.getElem_cons_zero, Act.put, List.setIfInBounds_toArray, List.set_cons_zero, List.set_cons_succ]
    refine wpAnyH_take (i := 5) (v := ?_) rfl (by kernel_rfl) (by kernel_rfl) (by kernel_rfl) (fun _ _ _ h => h) (Or.inl ⟨by rfl, ?_⟩) (by assumption) ?_
    rotate_left
    · (intro w hSw; (try dsimp only at hSw); first | (go_simp; done) | (go_simp; with_reducible rfl))
    try simp only [List.getElem_toArray, List.getElem_cons_succ, List.getElem_cons_zero, Act.put, List.setIfInBounds_toArray, List.set_cons_zero, List.set_cons_succ]
    refine wpAnyH_take (i := 6) (v := ?_) rfl (by kernel_rfl) (by kernel_rfl) (by kernel_rfl) (fun _ _ _ h => h) (Or.inl ⟨by rfl, ?_⟩) (by assumption) ?_
    rotate_left
    · (intro w hSw; (try dsimp only at hSw); first | (go_simp; done) | (go_simp; with_reducible rfl))
    try simp only [List.getElem_toArray, List.getElem_cons_succ, List.getElem_cons_zero, Act.put, List.setIfInBounds_toArray, List.set_cons_zero, List.set_cons_succ]
    refine wpAnyH_take (i := 7) (v := ?_) rfl (by kernel_rfl) (by kernel_rfl) (by kernel_rfl) (fun _ _ _ h => h) (Or.inl ⟨by rfl, ?_⟩) (by assumption) ?_
    rotate_left
    · (intro w hSw; (try dsimp only at hSw); first | (go_simp; done) | (go_simp; with_reducible rfl))
    try simp only [List.getElem_toArray, List.getElem_cons_succ, List.getElem_cons_zero, Act.put, List.setIfInBounds_toArray, List.set_cons_zero, List.set_cons_succ]
    refine wpAnyH_ready (rs := [8]) (by kernel_rfl) (by simp) ?_
    refine AllReadyH.cons rfl (fun K hK => ?_) AllReadyH.nil
    go_simp
    go_at_call 170
    refine (isTrue_any _ _ _).mono ?_
    rintro e wq2 ⟨rfl, bq⟩
    replace c00 := cell_later bq (by exact c00)
    replace c01 := cell_later bq (by exact c01)
    replace c10 := cell_later bq (by exact c10)
    replace c11 := cell_later bq (by exact c11)
    replace p0 := cell_later bq (by exact p0)
    replace f0 := fzl bq (World.block_lt_of_cell? _ _ (by exact r0)) (by exact f0)
    replace f1 := fzl bq (World.block_lt_of_cell? _ _ (by exact r1)) (by exact f1)
    replace r0 := cell_later bq (by exact r0)
    replace r1 := cell_later bq (by exact r1)
    replace BL := (show Below B w _ from by first | exact BL.trans (bq.mono (by exact Nat.le_trans (Nat.le_add_right _ _) kz)) | exact BL.drew.trans (bq.mono (by exact Nat.le_trans (Nat.le_add_right _ _) kz)))
    replace kz := Nat.le_trans kz bq.size
    clear bq
    go_wp2_with fail
    refine hK.out _ _ ?_ (fun hHeld => ?_)
    · exact ⟨c00, c01, c10, c11, p0⟩
    clear hK K
    try simp only [List.getElem_toArray, List.getElem_cons_succ, List.getElem_cons_zero, Act.put, List.setIfInBounds_toArray, List.set_cons_zero, List.set_cons_succ]
    refine wpAnyH_take (i := 9) (v := ?_) rfl (by kernel_rfl) (by kernel_rfl) (by kernel_rfl) (fun _ _ _ h => h) (Or.inl ⟨by rfl, ?_⟩) (by assumption) ?_
    rotate_left
    · (intro w hSw; (try dsimp only at hSw); first | (go_simp; done) | (go_simp; with_reducible rfl))
    try simp only [List.getElem_toArray, List.getElem_cons_succ, List.getElem_cons_zero, Act.put, List.setIfInBounds_toArray, List.set_cons_zero, List.set_cons_succ]
    refine wpAnyH_ready (rs := [10]) (by kernel_rfl) (by simp) ?_
    refine AllReadyH.cons rfl (fun K hK => ?_) AllReadyH.nil
    go_simp
    go_at_call 126
    refine (truth_any _ _).mono ?_
    rintro e wq3 ⟨rfl, bq⟩
    replace c00 := cell_later bq (by exact c00)
    replace c01 := cell_later bq (by exact c01)
    replace c10 := cell_later bq (by exact c10)
    replace c11 := cell_later bq (by exact c11)
    replace p0 := cell_later bq (by exact p0)
    replace f0 := fzl bq (World.block_lt_of_cell? _ _ (by exact r0)) (by exact f0)
    replace f1 := fzl bq (World.block_lt_of_cell? _ _ (by exact r1)) (by exact f1)
    replace r0 := cell_later bq (by exact r0)
    replace r1 := cell_later bq (by exact r1)
    replace BL := (show Below B w _ from by first | exact BL.trans (bq.mono (by exact Nat.le_trans (Nat.le_add_right _ _) kz)) | exact BL.drew.trans (bq.mono (by exact Nat.le_trans (Nat.le_add_right _ _) kz)))
    replace kz := Nat.le_trans kz bq.size
    clear bq
    go_wp2_with fail
    refine hK.out _ _ ?_ (fun hHeld => ?_)
    · exact ⟨c00, c01, c10, c11, p0⟩
    clear hK K
    try simp only [List.getElem_toArray, List.getElem_cons_succ, List.getElem_cons_zero, Act.put, List.setIfInBounds_toArray, List.set_cons_zero, List.set_cons_succ]
    refine wpAnyH_take (i := 16) (v := ?_) rfl (by kernel_rfl) (by kernel_rfl) (by kernel_rfl) (fun _ _ _ h => h) (Or.inl ⟨by rfl, ?_⟩) (by assumption) ?_
    rotate_left
    · (intro w hSw; (try dsimp only at hSw); first | (go_simp; done) | (go_simp; with_reducible rfl))
    try simp only [List.getElem_toArray, List.getElem_cons_succ, List.getElem_cons_zero, Act.put, List.setIfInBounds_toArray, List.set_cons_zero, List.set_cons_succ]
    refine wpAnyH_take (i := 17) (v := ?_) rfl (by kernel_rfl) (by kernel_rfl) (by kernel_rfl) (fun _ _ _ h => h) (Or.inl ⟨by rfl, ?_⟩) (by assumption) ?_
    rotate_left
    · (intro w hSw; (try dsimp only at hSw); first | (go_simp; done) | (go_simp; with_reducible rfl))
    try simp only [List.getElem_toArray, List.getElem_cons_succ, List.getElem_cons_zero, Act.put, List.setIfInBounds_toArray, List.set_cons_zero, List.set_cons_succ]
    refine wpAnyH_take (i := 18) (v := ?_) rfl (by kernel_rfl) (by kernel_rfl) (by kernel_rfl) (fun _ _ _ h => h) (Or.inl ⟨by rfl, ?_⟩) (by assumption) ?_
    rotate_left
    · (intro w hSw; (try dsimp only at hSw); first | (go_simp; done) | (go_simp; with_reducible rfl))
    try simp only [List.getElem_toArray, List.getElem_cons_succ, List.getElem_cons_zero, Act.put, List.setIfInBounds_toArray, List.set_cons_zero, List.set_cons_succ]
    refine wpAnyH_take (i := 19) (v := ?_) rfl (by kernel_rfl) (by kernel_rfl) (by kernel_rfl) (fun _ _ _ h => h) (Or.inl ⟨by rfl, ?_⟩) (by assumption) ?_
    rotate_left
    · (intro w hSw; (try dsimp only at hSw); first | (go_simp; done) | (go_simp; with_reducible rfl))
    try simp only [List.getElem_toArray, List.getElem_cons_succ, List.getElem_cons_zero, Act.put, List.setIfInBounds_toArray, List.set_cons_zero, List.set_cons_succ]
    refine wpAnyH_take (i := 20) (v := ?_) rfl (by kernel_rfl) (by kernel_rfl) (by kernel_rfl) (fun _ _ _ h => h) (Or.inl ⟨by rfl, ?_⟩) (by assumption) ?_
    rotate_left
    · (intro w hSw; (try dsimp only at hSw); first | (go_simp; done) | (go_simp; with_reducible rfl))
    try simp only [List.getElem_toArray, List.getElem_cons_succ, List.getElem_cons_zero, Act.put, List.setIfInBounds_toArray, List.set_cons_zero, List.set_cons_succ]
    refine wpAnyH_take (i := 21) (v := ?_) rfl (by kernel_rfl) (by kernel_rfl) (by kernel_rfl) (fun _ _ _ h => h) (Or.inl ⟨by rfl, ?_⟩) (by assumption) ?_
    rotate_left
    · (intro w hSw; (try dsimp only at hSw); first | (go_simp; done) | (go_simp; with_reducible rfl))
    try simp only [List.getElem_toArray, List.getElem_cons_succ, List.getElem_cons_zero, Act.put, List.setIfInBounds_toArray, List.set_cons_zero, List.set_cons_succ]
    refine wpAnyH_take (i := 22) (v := ?_) rfl (by kernel_rfl) (by kernel_rfl) (by kernel_rfl) (fun _ _ _ h => h) (Or.inl ⟨by rfl, ?_⟩) (by assumption) ?_
    rotate_left
    · (intro w hSw; (try dsimp only at hSw); first | (go_simp; done) | (go_simp; with_reducible rfl))
    try simp only [List.getElem_toArray, List.getElem_cons_succ, List.getElem_cons_zero, Act.put, List.setIfInBounds_toArray, List.set_cons_zero, List.set_cons_succ]
    refine wpAnyH_ready (rs := [23]) (by kernel_rfl) (by simp) ?_
    refine AllReadyH.cons rfl (fun K hK => ?_) AllReadyH.nil
    go_simp
    refine hK.out _ _ ?_ (fun hHeld => ?_)
    · exact (by simp only [World.cell?_setCell_far, nk, nb, ne_eq, not_false_eq_true]; exact ⟨c00, c01, c10, c11, p0⟩)
    clear hK K
    try simp only [List.getElem_toArray, List.getElem_cons_succ, List.getElem_cons_zero, Act.put, List.setIfInBounds_toArray, List.set_cons_zero, List.set_cons_succ]
    refine wpAnyH_take (i := 24) (v := ?_) rfl (by kernel_rfl) (by kernel_rfl) (by kernel_rfl) (fun _ _ _ h => h) (Or.inl ⟨by rfl, ?_⟩) (by assumption) ?_
    rotate_left
    · (intro w hSw; (try dsimp only at hSw); first | (go_simp; done) | (go_simp; with_reducible rfl))
    try simp only [List.getElem_toArray, List.getElem_cons_succ, List.getElem_cons_zero, Act.put, List.setIfInBounds_toArray, List.set_cons_zero, List.set_cons_succ]
    refine wpAnyH_done (by kernel_rfl) ?_ _
    go_wp2
    all_goals exact bodyPost_ret (v := (.tuple #[.agg #[.int .i64 0, .int .i64 (b01 (isT (X 1) (Y 1)))], .bool ((X 1 == 0))])) (by simp [results, Tryz.results174, go_sem, r0, r1]) rfl ⟨by rfl, by first | exact (BL.setCell (by simp) _).setCell (by simp) _ | (rw [hB]; first | exact (BL.setCell (by simp) _).setCell (by simp) _ | exact ((BL.drew).setCell (by simp) _).setCell (by simp) _)⟩
set_option maxRecDepth 100000 in
set_option maxHeartbeats 2000000 in
theorem worth_any (op : Int) (KB : Nat) (X Y : Nat → Int) (mv : Value) (w : World) (hk : Vecs w KB 2 X Y) :
    Calls Tryz.prog 176 #[.agg #[.int .i64 op], mv, .slice (some ⟨KB, 0, none⟩) 2 2] w fun e w' => e = .returned (.tuple #[.agg #[.int .i64 0, .int .i64 (b01 (isT (X 0) (Y 0) || isT (X 1) (Y 1)))], .bool ((X 0 == 0) && (X 1 == 0))]) ∧ Below w.heap.size w w' := by
  cases ht0 : isT (X 0) (Y 0)
  · cases hx0 : (X 0 == 0)
    · simp only [Bool.false_and, Bool.false_or]
      obtain ⟨c00w, c01w⟩ := hk 0 (by omega)
      obtain ⟨c10w, c11w⟩ := hk 1 (by omega)
      go_enter Tryz.func176, Tryz.ntmps176
      go_wp2_with fail
      have BL : Below w.heap.size w ((w.alloc (.cells #[.int .i64 op] 154)).alloc (.cells #[.int .i64 0, .int .i64 0] 107)) := ((Below.refl w.heap.size w).alloc (Nat.le_refl _) _).alloc (by simp) _
      have kz : w.heap.size + 2 ≤ ((w.alloc (.cells #[.int .i64 op] 154)).alloc (.cells #[.int .i64 0, .int .i64 0] 107)).heap.size := by simp
      have c00 : ((w.alloc (.cells #[.int .i64 op] 154)).alloc (.cells #[.int .i64 0, .int .i64 0] 107)).cell? ⟨KB, 0, none⟩ = some (.int .i64 (X 0)) := cell_later BL (by simpa using c00w)
      have c01 : ((w.alloc (.cells #[.int .i64 op] 154)).alloc (.cells #[.int .i64 0, .int .i64 0] 107)).cell? ⟨KB, 1, none⟩ = some (.int .i64 (Y 0)) := cell_later BL (by simpa using c01w)
      have c10 : ((w.alloc (.cells #[.int .i64 op] 154)).alloc (.cells #[.int .i64 0, .int .i64 0] 107)).cell? ⟨KB, 2, none⟩ = some (.int .i64 (X 1)) := cell_later BL (by simpa using c10w)
      have c11 : ((w.alloc (.cells #[.int .i64 op] 154)).alloc (.cells #[.int .i64 0, .int .i64 0] 107)).cell? ⟨KB, 3, none⟩ = some (.int .i64 (Y 1)) := cell_later BL (by simpa using c11w)
      have lk : KB < w.heap.size := World.block_lt_of_cell? _ _ c00w
      have p0 : ((w.alloc (.cells #[.int .i64 op] 154)).alloc (.cells #[.int .i64 0, .int .i64 0] 107)).cell? ⟨w.heap.size, 0, none⟩ = some (.int .i64 op) := by simp [go_sem]
      have r0 : ((w.alloc (.cells #[.int .i64 op] 154)).alloc (.cells #[.int .i64 0, .int .i64 0] 107)).cell? ⟨w.heap.size + 1, 0, none⟩ = some (.int .i64 0) := by simp [go_sem]
      have f0 : ((w.alloc (.cells #[.int .i64 op] 154)).alloc (.cells #[.int .i64 0, .int .i64 0] 107)).frozen? ⟨w.heap.size + 1, 0, none⟩ = false := by simp [go_sem]
      have r1 : ((w.alloc (.cells #[.int .i64 op] 154)).alloc (.cells #[.int .i64 0, .int .i64 0] 107)).cell? ⟨w.heap.size + 1, 1, none⟩ = some (.int .i64 0) := by simp [go_sem]
      have f1 : ((w.alloc (.cells #[.int .i64 op] 154)).alloc (.cells #[.int .i64 0, .int .i64 0] 107)).frozen? ⟨w.heap.size + 1, 1, none⟩ = false := by simp [go_sem]
      clear c00w c01w c10w c11w hk
      generalize hB : w.heap.size = B at *
      generalize ((w.alloc (.cells #[.int .i64 op] 154)).alloc (.cells #[.int .i64 0, .int .i64 0] 107)) = wa at *
      have nk : ¬ B + 1 = KB := by omega
      have nb : ¬ B + 1 = B := by omega
      refine wp_region_held_drew (S := (fun w' => w'.cell? ⟨KB, 0, none⟩ = some (.int .i64 (X 0)) ∧ w'.cell? ⟨KB, 1, none⟩ = some (.int .i64 (Y 0)) ∧ w'.cell? ⟨KB, 2, none⟩ = some (.int .i64 (X 1)) ∧ w'.cell? ⟨KB, 3, none⟩ = some (.int .i64 (Y 1)) ∧ w'.cell? ⟨B, 0, none⟩ = some (.int .i64 op))) (by kernel_rfl) ?_ (fun hHeld => ?_)
      · exact ⟨c00, c01, c10, c11, p0⟩
      refine wpAnyH_take (i := 0) (v := ?_) rfl (by kernel_rfl) (by kernel_rfl) (by kernel_rfl) (fun _ _ _ h => h) (Or.inl ⟨by rfl, ?_⟩) (by assumption) ?_
      rotate_left
      · (intro w hSw; (try dsimp only at hSw); first | (go_simp; done) | (go_simp; with_reducible rfl))
      try simp only [List.getElem_toArray, List.getElem_cons_succ, List.getElem_cons_zero, Act.put, List.setIfInBounds_toArray, List.set_cons_zero, List.set_cons_succ]
      refine wpAnyH_take (i := 1) (v := ?_) rfl (by kernel_rfl) (by kernel_rfl) (by kernel_rfl) (fun _ _ _ h => h) (Or.inl ⟨by rfl, ?_⟩) (by assumption) ?_
      rotate_left
      · (intro w hSw; (try dsimp only at hSw); first | (go_simp; done) | (go_simp; with_reducible rfl))
      try simp only [List.getElem_toArray, List.getElem_cons_succ, List.getElem_cons_zero, Act.put, List.setIfInBounds_toArray, List.set_cons_zero, List.set_cons_succ]
      refine wpAnyH_take (i := 2) (v := ?_) rfl (by kernel_rfl) (by kernel_rfl) (by kernel_rfl) (fun _ _ _ h => h) (Or.inl ⟨by rfl, ?_⟩) (by assumption) ?_
      rotate_left
      · (intro w hSw; (try dsimp only at hSw); first | (go_simp; done) | (go_simp; with_reducible rfl))
      try simp only [List.getElem_toArray, List.getElem_cons_succ, List.getElem_cons_zero, Act.put, List.setIfInBounds_toArray, List.set_cons_zero, List.set_cons_succ]
      refine wpAnyH_take (i := 11) (v := ?_) rfl (by kernel_rfl) (by kernel_rfl) (by kernel_rfl) (fun _ _ _ h => h) (Or.inl ⟨by rfl, ?_⟩) (by assumption) ?_
      rotate_left
      · (intro w hSw; (try dsimp only at hSw); first | (go_simp; done) | (go_simp; with_reducible rfl))
      try simp only [List.getElem_toArray, List.getElem_cons_succ, List.getElem_cons_zero, Act.put, List.setIfInBounds_toArray, List.set_cons_zero, List.set_cons_succ]
      refine wpAnyH_take (i := 12) (v := ?_) rfl (by kernel_rfl) (by kernel_rfl) (by kernel_rfl) (fun _ _ _ h => h) (Or.inl ⟨by rfl, ?_⟩) (by assumption) ?_
      rotate_left
      · (intro w hSw; (try dsimp only at hSw); first | (go_simp; done) | (go_simp; with_reducible rfl))
      try simp only [List.getElem_toArray, List.getElem_cons_succ, List.getElem_cons_zero, Act.put, List.setIfInBounds_toArray, List.set_cons_zero, List.set_cons_succ]
      refine wpAnyH_take (i := 13) (v := ?_) rfl (by kernel_rfl) (by kernel_rfl) (by kernel_rfl) (fun _ _ _ h => h) (Or.inl ⟨by rfl, ?_⟩) (by assumption) ?_
      rotate_left
      · (intro w hSw; (try dsimp only at hSw); first | (go_simp; done) | (go_simp; with_reducible rfl))
      try simp only [List.getElem_toArray, List.getElem_cons_succ, List.getElem_cons_zero, Act.put, List.setIfInBounds_toArray, List.set_cons_zero, List.set_cons_succ]
      refine wpAnyH_take (i := 14) (v := ?_) rfl (by kernel_rfl) (by kernel_rfl) (by kernel_rfl) (fun _ _ _ h => h) (Or.inl ⟨by rfl, ?_⟩) (by assumption) ?_
      rotate_left
      · (intro w hSw; (try dsimp only at hSw); first | (go_simp; done) | (go_simp; with_reducible rfl))
      try simp only [List.getElem_toArray, List.getElem_cons_succ, List.getElem_cons_zero, Act.put, List.setIfInBounds_toArray, List.set_cons_zero, List.set_cons_succ]
      refine wpAnyH_take (i := 15) (v := ?_) rfl (by kernel_rfl) (by kernel_rfl) (by kernel_rfl) (fun _ _ _ h => h) (Or.inl ⟨by rfl, ?_⟩) (by assumption) ?_
      rotate_left
      · (intro w hSw; (try dsimp only at hSw); first | (go_simp; done) | (go_simp; with_reducible rfl))
      try simp only [List.getElem_toArray, List.getElem_cons_succ, List.getElem_cons_zero, Act.put, List.setIfInBounds_toArray, List.set_cons_zero, List.set_cons_succ]
      refine wpAnyH_ready (rs := [3]) (by kernel_rfl) (by simp) ?_
      refine AllReadyH.cons rfl (fun K hK => ?_) AllReadyH.nil
      go_simp
      go_at_call 170
      refine (isTrue_any _ _ _).mono ?_
      rintro e wq1 ⟨rfl, bq⟩
      replace c00 := cell_later bq (by exact c00)
      replace c01 := cell_later bq (by exact c01)
      replace c10 := cell_later bq (by exact c10)
      replace c11 := cell_later bq (by exact c11)
      replace p0 := cell_later bq (by exact p0)
      replace f0 := fzl bq (World.block_lt_of_cell? _ _ (by exact r0)) (by exact f0)
      replace f1 := fzl bq (World.block_lt_of_cell? _ _ (by exact r1)) (by exact f1)
      replace r0 := cell_later bq (by exact r0)
      replace r1 := cell_later bq (by exact r1)
      replace BL := (show Below B w _ from by first | exact BL.trans (bq.mono (by exact Nat.le_trans (Nat.le_add_right _ _) kz)) | exact BL.drew.trans (bq.mono (by exact Nat.le_trans (Nat.le_add_right _ _) kz)))
      replace kz := Nat.le_trans kz bq.size
      clear bq
      rw [ht0]
      go_wp2_with fail
      refine hK.out _ _ ?_ (fun hHeld => ?_)
      · exact ⟨c00, c01, c10, c11, p0⟩
      clear hK K
      try simp only [List.getElem_toArray, List.getElem_cons_succ, List.getElem_cons_zero, Act.put, List.setIfInBounds_toArray, List.set_cons_zero, List.set_cons_succ]
      refine wpAnyH_take (i := 4) (v := ?_) rfl (by kernel_rfl) (by kernel_rfl) (by kernel_rfl) (fun _ _ _ h => h) (Or.inl ⟨by rfl, ?_⟩) (by assumption) ?_
      rotate_left
      · (intro w hSw; (try dsimp only at hSw); first | (go_simp; done) | (go_simp; with_reducible rfl))
      try simp only [List.getElem_toArray, List.getElem_cons_succ, List.getElem_cons_zero, Act.put, List.setIfInBounds_toArray, List.set_cons_zero, List.set_cons_succ]
      refine wpAnyH_take (i := 5) (v := ?_) rfl (by kernel_rfl) (by kernel_rfl) (by kernel_rfl) (fun _ _ _ h => h) (Or.inl ⟨by rfl, ?_⟩) (by assumption) ?_
      rotate_left
      · (intro w hSw; (try dsimp only at hSw); first | (go_simp; done) | (go_simp; with_reducible rfl))
      try simp only [List.getElem_toArray, List.getElem_cons_succ, List.getElem_cons_zero, Act.put, List.setIfInBounds_toArray, List.set_cons_zero, List.set_cons_succ]
      refine wpAnyH_take (i := 6) (v := ?_) rfl (by kernel_rfl) (by kernel_rfl) (by kernel_rfl) (fun _ _ _ h => h) (Or.inl ⟨by rfl, ?_⟩) (by assumption) ?_
      rotate_left
      · (intro w hSw; (try dsimp only at hSw); first | (go_simp; done) | (go_simp; with_reducible rfl))
      try simp only [List.getElem_toArray, List.getElem_cons_succ, List.getElem_cons_zero, Act.put, List.setIfInBounds_toArray, List.set_cons_zero, List.set_cons_succ]
      refine wpAnyH_take (i := 7) (v := ?_) rfl (by kernel_rfl) (by kernel_rfl) (by kernel_rfl) (fun _ _ _ h => h) (Or.inl ⟨by rfl, ?_⟩) (by assumption) ?_
      rotate_left
      · (intro w hSw; (try dsimp only at hSw); first | (go_simp; done) | (go_simp; with_reducible rfl))
      try simp only [List.getElem_toArray, List.getElem_cons_succ, List.getElem_cons_zero, Act.put, List.setIfInBounds_toArray, List.set_cons_zero, List.set_cons_succ]
      refine wpAnyH_ready (rs := [8]) (by kernel_rfl) (by simp) ?_
      refine AllReadyH.cons rfl (fun K hK => ?_) AllReadyH.nil
      go_simp
      go_at_call 170
      refine (isTrue_any _ _ _).mono ?_
      rintro e wq2 ⟨rfl, bq⟩
      replace c00 := cell_later bq (by exact c00)
      replace c01 := cell_later bq (by exact c01)
      replace c10 := cell_later bq (by exact c10)
      replace c11 := cell_later bq (by exact c11)
      replace p0 := cell_later bq (by exact p0)
      replace f0 := fzl bq (World.block_lt_of_cell? _ _ (by exact r0)) (by exact f0)
      replace f1 := fzl bq (World.block_lt_of_cell? _ _ (by exact r1)) (by exact f1)
      replace r0 := cell_later bq (by exact r0)
      replace r1 := cell_later bq (by exact r1)
      replace BL := (show Below B w _ from by first | exact BL.trans (bq.mono (by exact Nat.le_trans (Nat.le_add_right _ _) kz)) | exact BL.drew.trans (bq.mono (by exact Nat.le_trans (Nat.le_add_right _ _) kz)))
      replace kz := Nat.le_trans kz bq.size
      clear bq
      go_wp2_with fail
      refine hK.out _ _ ?_ (fun hHeld => ?_)
      · exact ⟨c00, c01, c10, c11, p0⟩
      clear hK K
      try simp only [List.getElem_toArray, List.getElem_cons_succ, List.getElem_cons_zero, Act.put, List.setIfInBounds_toArray, List.set_cons_zero, List.set_cons_succ]
      refine wpAnyH_take (i := 9) (v := ?_) rfl (by kernel_rfl) (by kernel_rfl) (by kernel_rfl) (fun _ _ _ h => h) (Or.inl ⟨by rfl, ?_⟩) (by assumption) ?_
      rotate_left
      · (intro w hSw; (try dsimp only at hSw); first | (go_simp; done) | (go_simp; with_reducible rfl))
      try simp only [List.getElem_toArray, List.getElem_cons_succ, List.getElem_cons_zero, Act.put, List.setIfInBounds_toArray, List.set_cons_zero, List.set_cons_succ]
      refine wpAnyH_ready (rs := [10]) (by kernel_rfl) (by simp) ?_
      refine AllReadyH.cons rfl (fun K hK => ?_) AllReadyH.nil
      go_simp
      go_at_call 126
      refine (truth_any _ _).mono ?_
      rintro e wq3 ⟨rfl, bq⟩
      replace c00 := cell_later bq (by exact c00)
      replace c01 := cell_later bq (by exact c01)
      replace c10 := cell_later bq (by exact c10)
      replace c11 := cell_later bq (by exact c11)
      replace p0 := cell_later bq (by exact p0)
      replace f0 := fzl bq (World.block_lt_of_cell? _ _ (by exact r0)) (by exact f0)
      replace f1 := fzl bq (World.block_lt_of_cell? _ _ (by exact r1)) (by exact f1)
      replace r0 := cell_later bq (by exact r0)
      replace r1 := cell_later bq (by exact r1)
      replace BL := (show Below B w _ from by first | exact BL.trans (bq.mono (by exact Nat.le_trans (Nat.le_add_right _ _) kz)) | exact BL.drew.trans (bq.mono (by exact Nat.le_trans (Nat.le_add_right _ _) kz)))
      replace kz := Nat.le_trans kz bq.size
      clear bq
      go_wp2_with fail
      refine hK.out _ _ ?_ (fun hHeld => ?_)
      · exact ⟨c00, c01, c10, c11, p0⟩
      clear hK K
      try simp only [List.getElem_toArray, List.getElem_cons_succ, List.getElem_cons_zero, Act.put, List.setIfInBounds_toArray, List.set_cons_zero, List.set_cons_succ]
      refine wpAnyH_take (i := 16) (v := ?_) rfl (by kernel_rfl) (by kernel_rfl) (by kernel_rfl) (fun _ _ _ h => h) (Or.inl ⟨by rfl, ?_⟩) (by assumption) ?_
      rotate_left
      · (intro w hSw; (try dsimp only at hSw); first | (go_simp; done) | (go_simp; with_reducible rfl))
      try simp only [List.getElem_toArray, List.getElem_cons_succ, List.getElem_cons_zero, Act.put, List.setIfInBounds_toArray, List.set_cons_zero, List.set_cons_succ]
      refine wpAnyH_take (i := 17) (v := undef) rfl (by kernel_rfl) (by kernel_rfl) (by kernel_rfl) (fun _ _ _ h => h) (Or.inr ⟨by rfl, rfl⟩) (by assumption) ?_
      try simp only [List.getElem_toArray, List.getElem_cons_succ, List.getElem_cons_zero, Act.put, List.setIfInBounds_toArray, List.set_cons_zero, List.set_cons_succ]
      refine wpAnyH_take (i := 18) (v := undef) rfl (by kernel_rfl) (by kernel_rfl) (by kernel_rfl) (fun _ _ _ h => h) (Or.inr ⟨by rfl, rfl⟩) (by assumption) ?_
      try simp only [List.getElem_toArray, List.getElem_cons_succ, List.getElem_cons_zero, Act.put, List.setIfInBounds_toArray, List.set_cons_zero, List.set_cons_succ]
      refine wpAnyH_take (i := 19) (v := undef) rfl (by kernel_rfl) (by kernel_rfl) (by kernel_rfl) (fun _ _ _ h => h) (Or.inr ⟨by rfl, rfl⟩) (by assumption) ?_
      try simp only [List.getElem_toArray, List.getElem_cons_succ, List.getElem_cons_zero, Act.put, List.setIfInBounds_toArray, List.set_cons_zero, List.set_cons_succ]
      refine wpAnyH_take (i := 20) (v := undef) rfl (by kernel_rfl) (by kernel_rfl) (by kernel_rfl) (fun _ _ _ h => h) (Or.inr ⟨by rfl, rfl⟩) (by assumption) ?_
      try simp only [List.getElem_toArray, List.getElem_cons_succ, List.getElem_cons_zero, Act.put, List.setIfInBounds_toArray, List.set_cons_zero, List.set_cons_succ]
      refine wpAnyH_take (i := 21) (v := undef) rfl (by kernel_rfl) (by kernel_rfl) (by kernel_rfl) (fun _ _ _ h => h) (Or.inr ⟨by rfl, rfl⟩) (by assumption) ?_
      try simp only [List.getElem_toArray, List.getElem_cons_succ, List.getElem_cons_zero, Act.put, List.setIfInBounds_toArray, List.set_cons_zero, List.set_cons_succ]
      refine wpAnyH_take (i := 22) (v := ?_) rfl (by kernel_rfl) (by kernel_rfl) (by kernel_rfl) (fun _ _ _ h => h) (Or.inl ⟨by rfl, ?_⟩) (by assumption) ?_
      rotate_left
      · (intro w hSw; (try dsimp only at hSw); first | (go_simp; done) | (go_simp; with_reducible rfl))
      try simp only [List.getElem_toArray, List.getElem_cons_succ, List.getElem_cons_zero, Act.put, List.setIfInBounds_toArray, List.set_cons_zero, List.set_cons_succ]
      refine wpAnyH_ready (rs := [23]) (by kernel_rfl) (by simp) ?_
      refine AllReadyH.cons rfl (fun K hK => ?_) AllReadyH.nil
      go_simp
      refine hK.out _ _ ?_ (fun hHeld => ?_)
      · exact (by simp only [World.cell?_setCell_far, nk, nb, ne_eq, not_false_eq_true]; exact ⟨c00, c01, c10, c11, p0⟩)
      clear hK K
      try simp only [List.getElem_toArray, List.getElem_cons_succ, List.getElem_cons_zero, Act.put, List.setIfInBounds_toArray, List.set_cons_zero, List.set_cons_succ]
      refine wpAnyH_take (i := 24) (v := ?_) rfl (by kernel_rfl) (by kernel_rfl) (by kernel_rfl) (fun _ _ _ h => h) (Or.inl ⟨by rfl, ?_⟩) (by assumption) ?_
      rotate_left
      · (intro w hSw; (try dsimp only at hSw); first | (go_simp; done) | (go_simp; with_reducible rfl))
      try simp only [List.getElem_toArray, List.getElem_cons_succ, List.getElem_cons_zero, Act.put, List.setIfInBounds_toArray, List.set_cons_zero, List.set_cons_succ]
      refine wpAnyH_done (by kernel_rfl) ?_ _
      go_wp2
      all_goals exact bodyPost_ret (v := (.tuple #[.agg #[.int .i64 0, .int .i64 (b01 (isT (X 1) (Y 1)))], .bool (false)])) (by simp [results, Tryz.results176, go_sem, r0, r1]) rfl ⟨by rfl, by first | exact (BL.setCell (by simp) _).setCell (by simp) _ | (rw [hB]; first | exact (BL.setCell (by simp) _).setCell (by simp) _ | exact ((BL.drew).setCell (by simp) _).setCell (by simp) _)⟩
    · simp only [Bool.true_and, Bool.false_and, Bool.false_or]
      obtain ⟨c00w, c01w⟩ := hk 0 (by omega)
      obtain ⟨c10w, c11w⟩ := hk 1 (by omega)
      go_enter Tryz.func176, Tryz.ntmps176
      go_wp2_with fail
      have BL : Below w.heap.size w ((w.alloc (.cells #[.int .i64 op] 154)).alloc (.cells #[.int .i64 0, .int .i64 0] 107)) := ((Below.refl w.heap.size w).alloc (Nat.le_refl _) _).alloc (by simp) _
      have kz : w.heap.size + 2 ≤ ((w.alloc (.cells #[.int .i64 op] 154)).alloc (.cells #[.int .i64 0, .int .i64 0] 107)).heap.size := by simp
      have c00 : ((w.alloc (.cells #[.int .i64 op] 154)).alloc (.cells #[.int .i64 0, .int .i64 0] 107)).cell? ⟨KB, 0, none⟩ = some (.int .i64 (X 0)) := cell_later BL (by simpa using c00w)
      have c01 : ((w.alloc (.cells #[.int .i64 op] 154)).alloc (.cells #[.int .i64 0, .int .i64 0] 107)).cell? ⟨KB, 1, none⟩ = some (.int .i64 (Y 0)) := cell_later BL (by simpa using c01w)
      have c10 : ((w.alloc (.cells #[.int .i64 op] 154)).alloc (.cells #[.int .i64 0, .int .i64 0] 107)).cell? ⟨KB, 2, none⟩ = some (.int .i64 (X 1)) := cell_later BL (by simpa using c10w)
      have c11 : ((w.alloc (.cells #[.int .i64 op] 154)).alloc (.cells #[.int .i64 0, .int .i64 0] 107)).cell? ⟨KB, 3, none⟩ = some (.int .i64 (Y 1)) := cell_later BL (by simpa using c11w)
      have lk : KB < w.heap.size := World.block_lt_of_cell? _ _ c00w
      have p0 : ((w.alloc (.cells #[.int .i64 op] 154)).alloc (.cells #[.int .i64 0, .int .i64 0] 107)).cell? ⟨w.heap.size, 0, none⟩ = some (.int .i64 op) := by simp [go_sem]
      have r0 : ((w.alloc (.cells #[.int .i64 op] 154)).alloc (.cells #[.int .i64 0, .int .i64 0] 107)).cell? ⟨w.heap.size + 1, 0, none⟩ = some (.int .i64 0) := by simp [go_sem]
      have f0 : ((w.alloc (.cells #[.int .i64 op] 154)).alloc (.cells #[.int .i64 0, .int .i64 0] 107)).frozen? ⟨w.heap.size + 1, 0, none⟩ = false := by simp [go_sem]
      have r1 : ((w.alloc (.cells #[.int .i64 op] 154)).alloc (.cells #[.int .i64 0, .int .i64 0] 107)).cell? ⟨w.heap.size + 1, 1, none⟩ = some (.int .i64 0) := by simp [go_sem]
      have f1 : ((w.alloc (.cells #[.int .i64 op] 154)).alloc (.cells #[.int .i64 0, .int .i64 0] 107)).frozen? ⟨w.heap.size + 1, 1, none⟩ = false := by simp [go_sem]
      clear c00w c01w c10w c11w hk
      generalize hB : w.heap.size = B at *
      generalize ((w.alloc (.cells #[.int .i64 op] 154)).alloc (.cells #[.int .i64 0, .int .i64 0] 107)) = wa at *
      have nk : ¬ B + 1 = KB := by omega
      have nb : ¬ B + 1 = B := by omega
      refine wp_region_held_drew (S := (fun w' => w'.cell? ⟨KB, 0, none⟩ = some (.int .i64 (X 0)) ∧ w'.cell? ⟨KB, 1, none⟩ = some (.int .i64 (Y 0)) ∧ w'.cell? ⟨KB, 2, none⟩ = some (.int .i64 (X 1)) ∧ w'.cell? ⟨KB, 3, none⟩ = some (.int .i64 (Y 1)) ∧ w'.cell? ⟨B, 0, none⟩ = some (.int .i64 op))) (by kernel_rfl) ?_ (fun hHeld => ?_)
      · exact ⟨c00, c01, c10, c11, p0⟩
      refine wpAnyH_take (i := 0) (v := ?_) rfl (by kernel_rfl) (by kernel_rfl) (by kernel_rfl) (fun _ _ _ h => h) (Or.inl ⟨by rfl, ?_⟩) (by assumption) ?_
      rotate_left
      · (intro w hSw; (try dsimp only at hSw); first | (go_simp; done) | (go_simp; with_reducible rfl))
      try simp only [List.getElem_toArray, List.getElem_cons_succ, List.getElem_cons_zero, Act.put, List.setIfInBounds_toArray, List.set_cons_zero, List.set_cons_succ]
      refine wpAnyH_take (i := 1) (v := ?_) rfl (by kernel_rfl) (by kernel_rfl) (by kernel_rfl) (fun _ _ _ h => h) (Or.inl ⟨by rfl, ?_⟩) (by assumption) ?_
      rotate_left
      · (intro w hSw; (try dsimp only at hSw); first | (go_simp; done) | (go_simp; with_reducible rfl))
      try simp only [List.getElem_toArray, List.getElem_cons_succ, List.getElem_cons_zero, Act.put, List.setIfInBounds_toArray, List.set_cons_zero, List.set_cons_succ]
      refine wpAnyH_take (i := 2) (v := ?_) rfl (by kernel_rfl) (by kernel_rfl) (by kernel_rfl) (fun _ _ _ h => h) (Or.inl ⟨by rfl, ?_⟩) (by assumption) ?_
      rotate_left
      · (intro w hSw; (try dsimp only at hSw); first | (go_simp; done) | (go_simp; with_reducible rfl))
      try simp only [List.getElem_toArray, List.getElem_cons_succ, List.getElem_cons_zero, Act.put, List.setIfInBounds_toArray, List.set_cons_zero, List.set_cons_succ]
      refine wpAnyH_take (i := 11) (v := ?_) rfl (by kernel_rfl) (by kernel_rfl) (by kernel_rfl) (fun _ _ _ h => h) (Or.inl ⟨by rfl, ?_⟩) (by assumption) ?_
      rotate_left
      · (intro w hSw; (try dsimp only at hSw); first | (go_simp; done) | (go_simp; with_reducible rfl))
      try simp only [List.getElem_toArray, List.getElem_cons_succ, List.getElem_cons_zero, Act.put, List.setIfInBounds_toArray, List.set_cons_zero, List.set_cons_succ]
      refine wpAnyH_take (i := 12) (v := ?_) rfl (by kernel_rfl) (by kernel_rfl) (by kernel_rfl) (fun _ _ _ h => h) (Or.inl ⟨by rfl, ?_⟩) (by assumption) ?_
      rotate_left
      · (intro w hSw; (try dsimp only at hSw); first | (go_simp; done) | (go_simp; with_reducible rfl))
      try simp only [List.getElem_toArray, List.getElem_cons_succ, List.getElem_cons_zero, Act.put, List.setIfInBounds_toArray, List.set_cons_zero, List.set_cons_succ]
      refine wpAnyH_take (i := 13) (v := ?_) rfl (by kernel_rfl) (by kernel_rfl) (by kernel_rfl) (fun _ _ _ h => h) (Or.inl ⟨by rfl, ?_⟩) (by assumption) ?_
      rotate_left
      · (intro w hSw; (try dsimp only at hSw); first | (go_simp; done) | (go_simp; with_reducible rfl))
      try simp only [List.getElem_toArray, List.getElem_cons_succ, List.getElem_cons_zero, Act.put, List.setIfInBounds_toArray, List.set_cons_zero, List.set_cons_succ]
      refine wpAnyH_take (i := 14) (v := ?_) rfl (by kernel_rfl) (by kernel_rfl) (by kernel_rfl) (fun _ _ _ h => h) (Or.inl ⟨by rfl, ?_⟩) (by assumption) ?_
      rotate_left
      · (intro w hSw; (try dsimp only at hSw); first | (go_simp; done) | (go_simp; with_reducible rfl))
      try simp only [List.getElem_toArray, List.getElem_cons_succ, List.getElem_cons_zero, Act.put, List.setIfInBounds_toArray, List.set_cons_zero, List.set_cons_succ]
      refine wpAnyH_take (i := 15) (v := ?_) rfl (by kernel_rfl) (by kernel_rfl) (by kernel_rfl) (fun _ _ _ h => h) (Or.inl ⟨by rfl, ?_⟩) (by assumption) ?_
      rotate_left
      · (intro w hSw; (try dsimp only at hSw); first | (go_simp; done) | (go_simp; with_reducible rfl))
      try simp only [List.getElem_toArray, List.getElem_cons_succ, List.getElem_cons_zero, Act.put, List.setIfInBounds_toArray, List.set_cons_zero, List.set_cons_succ]
      refine wpAnyH_ready (rs := [3]) (by kernel_rfl) (by simp) ?_
      refine AllReadyH.cons rfl (fun K hK => ?_) AllReadyH.nil
      go_simp
      go_at_call 170
      refine (isTrue_any _ _ _).mono ?_
      rintro e wq1 ⟨rfl, bq⟩
      replace c00 := cell_later bq (by exact c00)
      replace c01 := cell_later bq (by exact c01)
      replace c10 := cell_later bq (by exact c10)
      replace c11 := cell_later bq (by exact c11)
      replace p0 := cell_later bq (by exact p0)
      replace f0 := fzl bq (World.block_lt_of_cell? _ _ (by exact r0)) (by exact f0)
      replace f1 := fzl bq (World.block_lt_of_cell? _ _ (by exact r1)) (by exact f1)
      replace r0 := cell_later bq (by exact r0)
      replace r1 := cell_later bq (by exact r1)
      replace BL := (show Below B w _ from by first | exact BL.trans (bq.mono (by exact Nat.le_trans (Nat.le_add_right _ _) kz)) | exact BL.drew.trans (bq.mono (by exact Nat.le_trans (Nat.le_add_right _ _) kz)))
      replace kz := Nat.le_trans kz bq.size
      clear bq
      rw [ht0]
      go_wp2_with fail
      refine hK.out _ _ ?_ (fun hHeld => ?_)
      · exact ⟨c00, c01, c10, c11, p0⟩
      clear hK K
      try simp only [List.getElem_toArray, List.getElem_cons_succ, List.getElem_cons_zero, Act.put, List.setIfInBounds_toArray, List.set_cons_zero, List.set_cons_succ]
      refine wpAnyH_take (i := 4) (v := ?_) rfl (by kernel_rfl) (by kernel_rfl) (by kernel_rfl) (fun _ _ _ h => h) (Or.inl ⟨by rfl, ?_⟩) (by assumption) ?_
      rotate_left
      · (intro w hSw; (try dsimp only at hSw); first | (go_simp; done) | (go_simp; with_reducible rfl))
      try simp only [List.getElem_toArray, List.getElem_cons_succ, List.getElem_cons_zero, Act.put, List.setIfInBounds_toArray, List.set_cons_zero, List.set_cons_succ]
      refine wpAnyH_take (i := 5) (v := ?_) rfl (by kernel_rfl) (by kernel_rfl) (by kernel_rfl) (fun _ _ _ h => h) (Or.inl ⟨by rfl, ?_⟩) (by assumption) ?_
      rotate_left
      · (intro w hSw; (try dsimp only at hSw); first | (go_simp; done) | (go_simp; with_reducible rfl))
      try simp only [List.getElem_toArray, List.getElem_cons_succ, List.getElem_cons_zero, Act.put, List.setIfInBounds_toArray, List.set_cons_zero, List.set_cons_succ]
      refine wpAnyH_take (i := 6) (v := ?_) rfl (by kernel_rfl) (by kernel_rfl) (by kernel_rfl) (fun _ _ _ h => h) (Or.inl ⟨by rfl, ?_⟩) (by assumption) ?_
      rotate_left
      · (intro w hSw; (try dsimp only at hSw); first | (go_simp; done) | (go_simp; with_reducible rfl))
      try simp only [List.getElem_toArray, List.getElem_cons_succ, List.getElem_cons_zero, Act.put, List.setIfInBounds_toArray, List.set_cons_zero, List.set_cons_succ]
      refine wpAnyH_take (i := 7) (v := ?_) rfl (by kernel_rfl) (by kernel_rfl) (by kernel_rfl) (fun _ _ _ h => h) (Or.inl ⟨by rfl, ?_⟩) (by assumption) ?_
      rotate_left
      · (intro w hSw; (try dsimp only at hSw); first | (go_simp; done) | (go_simp; with_reducible rfl))
      try simp only [List.getElem_toArray, List.getElem_cons_succ, List.getElem_cons_zero, Act.put, List.setIfInBounds_toArray, List.set_cons_zero, List.set_cons_succ]
      refine wpAnyH_ready (rs := [8]) (by kernel_rfl) (by simp) ?_
      refine AllReadyH.cons rfl (fun K hK => ?_) AllReadyH.nil
      go_simp
      go_at_call 170
      refine (isTrue_any _ _ _).mono ?_
      rintro e wq2 ⟨rfl, bq⟩
      replace c00 := cell_later bq (by exact c00)
      replace c01 := cell_later bq (by exact c01)
      replace c10 := cell_later bq (by exact c10)
      replace c11 := cell_later bq (by exact c11)
      replace p0 := cell_later bq (by exact p0)
      replace f0 := fzl bq (World.block_lt_of_cell? _ _ (by exact r0)) (by exact f0)
      replace f1 := fzl bq (World.block_lt_of_cell? _ _ (by exact r1)) (by exact f1)
      replace r0 := cell_later bq (by exact r0)
      replace r1 := cell_later bq (by exact r1)
      replace BL := (show Below B w _ from by first | exact BL.trans (bq.mono (by exact Nat.le_trans (Nat.le_add_right _ _) kz)) | exact BL.drew.trans (bq.mono (by exact Nat.le_trans (Nat.le_add_right _ _) kz)))
      replace kz := Nat.le_trans kz bq.size
      clear bq
      go_wp2_with fail
      refine hK.out _ _ ?_ (fun hHeld => ?_)
      · exact ⟨c00, c01, c10, c11, p0⟩
      clear hK K
      try simp only [List.getElem_toArray, List.getElem_cons_succ, List.getElem_cons_zero, Act.put, List.setIfInBounds_toArray, List.set_cons_zero, List.set_cons_succ]
      refine wpAnyH_take (i := 9) (v := ?_) rfl (by kernel_rfl) (by kernel_rfl) (by kernel_rfl) (fun _ _ _ h => h) (Or.inl ⟨by rfl, ?_⟩) (by assumption) ?_
      rotate_left
      · (intro w hSw; (try dsimp only at hSw); first | (go_simp; done) | (go_simp; with_reducible rfl))
      try simp only [List.getElem_toArray, List.getElem_cons_succ, List.getElem_cons_zero, Act.put, List.setIfInBounds_toArray, List.set_cons_zero, List.set_cons_succ]
      refine wpAnyH_ready (rs := [10]) (by kernel_rfl) (by simp) ?_
      refine AllReadyH.cons rfl (fun K hK => ?_) AllReadyH.nil
      go_simp
      go_at_call 126
      refine (truth_any _ _).mono ?_
      rintro e wq3 ⟨rfl, bq⟩
      replace c00 := cell_later bq (by exact c00)
      replace c01 := cell_later bq (by exact c01)
      replace c10 := cell_later bq (by exact c10)
      replace c11 := cell_later bq (by exact c11)
      replace p0 := cell_later bq (by exact p0)
      replace f0 := fzl bq (World.block_lt_of_cell? _ _ (by exact r0)) (by exact f0)
      replace f1 := fzl bq (World.block_lt_of_cell? _ _ (by exact r1)) (by exact f1)
      replace r0 := cell_later bq (by exact r0)
      replace r1 := cell_later bq (by exact r1)
      replace BL := (show Below B w _ from by first | exact BL.trans (bq.mono (by exact Nat.le_trans (Nat.le_add_right _ _) kz)) | exact BL.drew.trans (bq.mono (by exact Nat.le_trans (Nat.le_add_right _ _) kz)))
      replace kz := Nat.le_trans kz bq.size
      clear bq
      go_wp2_with fail
      refine hK.out _ _ ?_ (fun hHeld => ?_)
      · exact ⟨c00, c01, c10, c11, p0⟩
      clear hK K
      try simp only [List.getElem_toArray, List.getElem_cons_succ, List.getElem_cons_zero, Act.put, List.setIfInBounds_toArray, List.set_cons_zero, List.set_cons_succ]
      refine wpAnyH_take (i := 16) (v := ?_) rfl (by kernel_rfl) (by kernel_rfl) (by kernel_rfl) (fun _ _ _ h => h) (Or.inl ⟨by rfl, ?_⟩) (by assumption) ?_
      rotate_left
      · (intro w hSw; (try dsimp only at hSw); first | (go_simp; done) | (go_simp; with_reducible rfl))
      try simp only [List.getElem_toArray, List.getElem_cons_succ, List.getElem_cons_zero, Act.put, List.setIfInBounds_toArray, List.set_cons_zero, List.set_cons_succ]
      refine wpAnyH_take (i := 17) (v := ?_) rfl (by kernel_rfl) (by kernel_rfl) (by kernel_rfl) (fun _ _ _ h => h) (Or.inl ⟨by rfl, ?_⟩) (by assumption) ?_
      rotate_left
      · (intro w hSw; (try dsimp only at hSw); first | (go_simp; done) | (go_simp; with_reducible rfl))
      try simp only [List.getElem_toArray, List.getElem_cons_succ, List.getElem_cons_zero, Act.put, List.setIfInBounds_toArray, List.set_cons_zero, List.set_cons_succ]
      refine wpAnyH_take (i := 18) (v := ?_) rfl (by kernel_rfl) (by kernel_rfl) (by kernel_rfl) (fun _ _ _ h => h) (Or.inl ⟨by rfl, ?_⟩) (by assumption) ?_
      rotate_left
      · (intro w hSw; (try dsimp only at hSw); first | (go_simp; done) | (go_simp; with_reducible rfl))
      try simp only [List.getElem_toArray, List.getElem_cons_succ, List.getElem_cons_zero, Act.put, List.setIfInBounds_toArray, List.set_cons_zero, List.set_cons_succ]
      refine wpAnyH_take (i := 19) (v := ?_) rfl (by kernel_rfl) (by kernel_rfl) (by kernel_rfl) (fun _ _ _ h => h) (Or.inl ⟨by rfl, ?_⟩) (by assumption) ?_
      rotate_left
      · (intro w hSw; (try dsimp only at hSw); first | (go_simp; done) | (go_simp; with_reducible rfl))
      try simp only [List.getElem_toArray, List.getElem_cons_succ, List.getElem_cons_zero, Act.put, List.setIfInBounds_toArray, List.set_cons_zero, List.set_cons_succ]
      refine wpAnyH_take (i := 20) (v := ?_) rfl (by kernel_rfl) (by kernel_rfl) (by kernel_rfl) (fun _ _ _ h => h) (Or.inl ⟨by rfl, ?_⟩) (by assumption) ?_
      rotate_left
      · (intro w hSw; (try dsimp only at hSw); first | (go_simp; done) | (go_simp; with_reducible rfl))
      try simp only [List.getElem_toArray, List.getElem_cons_succ, List.getElem_cons_zero, Act.put, List.setIfInBounds_toArray, List.set_cons_zero, List.set_cons_succ]
      refine wpAnyH_take (i := 21) (v := ?_) rfl (by kernel_rfl) (by kernel_rfl) (by kernel_rfl) (fun _ _ _ h => h) (Or.inl ⟨by rfl, ?_⟩) (by assumption) ?_
      rotate_left
      · (intro w hSw; (try dsimp only at hSw); first | (go_simp; done) | (go_simp; with_reducible rfl))
      try simp only [List.getElem_toArray, List.getElem_cons_succ, List.getElem_cons_zero, Act.put, List.setIfInBounds_toArray, List.set_cons_zero, List.set_cons_succ]
      refine wpAnyH_take (i := 22) (v := ?_) rfl (by kernel_rfl) (by kernel_rfl) (by kernel_rfl) (fun _ _ _ h => h) (Or.inl ⟨by rfl, ?_⟩) (by assumption) ?_
      rotate_left
      · (intro w hSw; (try dsimp only at hSw); first | (go_simp; done) | (go_simp; with_reducible rfl))
      try simp only [List.getElem_toArray, List.getElem_cons_succ, List.getElem_cons_zero, Act.put, List.setIfInBounds_toArray, List.set_cons_zero, List.set_cons_succ]
      refine wpAnyH_ready (rs := [23]) (by kernel_rfl) (by simp) ?_
      refine AllReadyH.cons rfl (fun K hK => ?_) AllReadyH.nil
      go_simp
      refine hK.out _ _ ?_ (fun hHeld => ?_)
      · exact (by simp only [World.cell?_setCell_far, nk, nb, ne_eq, not_false_eq_true]; exact ⟨c00, c01, c10, c11, p0⟩)
      clear hK K
      try simp only [List.getElem_toArray, List.getElem_cons_succ, List.getElem_cons_zero, Act.put, List.setIfInBounds_toArray, List.set_cons_zero, List.set_cons_succ]
      refine wpAnyH_take (i := 24) (v := ?_) rfl (by kernel_rfl) (by kernel_rfl) (by kernel_rfl) (fun _ _ _ h => h) (Or.inl ⟨by rfl, ?_⟩) (by assumption) ?_
      rotate_left
      · (intro w hSw; (try dsimp only at hSw); first | (go_simp; done) | (go_simp; with_reducible rfl))
      try simp only [List.getElem_toArray, List.getElem_cons_succ, List.getElem_cons_zero, Act.put, List.setIfInBounds_toArray, List.set_cons_zero, List.set_cons_succ]
      refine wpAnyH_done (by kernel_rfl) ?_ _
      go_wp2
      all_goals exact bodyPost_ret (v := (.tuple #[.agg #[.int .i64 0, .int .i64 (b01 (isT (X 1) (Y 1)))], .bool ((X 1 == 0))])) (by simp [results, Tryz.results176, go_sem, r0, r1]) rfl ⟨by rfl, by first | exact (BL.setCell (by simp) _).setCell (by simp) _ | (rw [hB]; first | exact (BL.setCell (by simp) _).setCell (by simp) _ | exact ((BL.drew).setCell (by simp) _).setCell (by simp) _)⟩
  · have hx0 : (X 0 == 0) = true := by simp only [isT, Bool.and_eq_true] at ht0; exact ht0.1
    rw [hx0]
    simp only [Bool.true_and, Bool.true_or]
    obtain ⟨c00w, c01w⟩ := hk 0 (by omega)
    obtain ⟨c10w, c11w⟩ := hk 1 (by omega)
    go_enter Tryz.func176, Tryz.ntmps176
    go_wp2_with fail
    have BL : Below w.heap.size w ((w.alloc (.cells #[.int .i64 op] 154)).alloc (.cells #[.int .i64 0, .int .i64 0] 107)) := ((Below.refl w.heap.size w).alloc (Nat.le_refl _) _).alloc (by simp) _
    have kz : w.heap.size + 2 ≤ ((w.alloc (.cells #[.int .i64 op] 154)).alloc (.cells #[.int .i64 0, .int .i64 0] 107)).heap.size := by simp
    have c00 : ((w.alloc (.cells #[.int .i64 op] 154)).alloc (.cells #[.int .i64 0, .int .i64 0] 107)).cell? ⟨KB, 0, none⟩ = some (.int .i64 (X 0)) := cell_later BL (by simpa using c00w)
    have c01 : ((w.alloc (.cells #[.int .i64 op] 154)).alloc (.cells #[.int .i64 0, .int .i64 0] 107)).cell? ⟨KB, 1, none⟩ = some (.int .i64 (Y 0)) := cell_later BL (by simpa using c01w)
    have c10 : ((w.alloc (.cells #[.int .i64 op] 154)).alloc (.cells #[.int .i64 0, .int .i64 0] 107)).cell? ⟨KB, 2, none⟩ = some (.int .i64 (X 1)) := cell_later BL (by simpa using c10w)
    have c11 : ((w.alloc (.cells #[.int .i64 op] 154)).alloc (.cells #[.int .i64 0, .int .i64 0] 107)).cell? ⟨KB, 3, none⟩ = some (.int .i64 (Y 1)) := cell_later BL (by simpa using c11w)
    have lk : KB < w.heap.size := World.block_lt_of_cell? _ _ c00w
    have p0 : ((w.alloc (.cells #[.int .i64 op] 154)).alloc (.cells #[.int .i64 0, .int .i64 0] 107)).cell? ⟨w.heap.size, 0, none⟩ = some (.int .i64 op) := by simp [go_sem]
    have r0 : ((w.alloc (.cells #[.int .i64 op] 154)).alloc (.cells #[.int .i64 0, .int .i64 0] 107)).cell? ⟨w.heap.size + 1, 0, none⟩ = some (.int .i64 0) := by simp [go_sem]
    have f0 : ((w.alloc (.cells #[.int .i64 op] 154)).alloc (.cells #[.int .i64 0, .int .i64 0] 107)).frozen? ⟨w.heap.size + 1, 0, none⟩ = false := by simp [go_sem]
    have r1 : ((w.alloc (.cells #[.int .i64 op] 154)).alloc (.cells #[.int .i64 0, .int .i64 0] 107)).cell? ⟨w.heap.size + 1, 1, none⟩ = some (.int .i64 0) := by simp [go_sem]
    have f1 : ((w.alloc (.cells #[.int .i64 op] 154)).alloc (.cells #[.int .i64 0, .int .i64 0] 107)).frozen? ⟨w.heap.size + 1, 1, none⟩ = false := by simp [go_sem]
    clear c00w c01w c10w c11w hk
    generalize hB : w.heap.size = B at *
    generalize ((w.alloc (.cells #[.int .i64 op] 154)).alloc (.cells #[.int .i64 0, .int .i64 0] 107)) = wa at *
    have nk : ¬ B + 1 = KB := by omega
    have nb : ¬ B + 1 = B := by omega
    refine wp_region_held_drew (S := (fun w' => w'.cell? ⟨KB, 0, none⟩ = some (.int .i64 (X 0)) ∧ w'.cell? ⟨KB, 1, none⟩ = some (.int .i64 (Y 0)) ∧ w'.cell? ⟨KB, 2, none⟩ = some (.int .i64 (X 1)) ∧ w'.cell? ⟨KB, 3, none⟩ = some (.int .i64 (Y 1)) ∧ w'.cell? ⟨B, 0, none⟩ = some (.int .i64 op))) (by kernel_rfl) ?_ (fun hHeld => ?_)
    · exact ⟨c00, c01, c10, c11, p0⟩
    refine wpAnyH_take (i := 0) (v := ?_) rfl (by kernel_rfl) (by kernel_rfl) (by kernel_rfl) (fun _ _ _ h => h) (Or.inl ⟨by rfl, ?_⟩) (by assumption) ?_
    rotate_left
    · (intro w hSw; (try dsimp only at hSw); first | (go_simp; done) | (go_simp; with_reducible rfl))
    try simp only [List.getElem_toArray, List.getElem_cons_succ, List.getElem_cons_zero, Act.put, List.setIfInBounds_toArray, List.set_cons_zero, List.set_cons_succ]
    refine wpAnyH_take (i := 1) (v := ?_) rfl (by kernel_rfl) (by kernel_rfl) (by kernel_rfl) (fun _ _ _ h => h) (Or.inl ⟨by rfl, ?_⟩) (by assumption) ?_
    rotate_left
    · (intro w hSw; (try dsimp only at hSw); first | (go_simp; done) | (go_simp; with_reducible rfl))
    try simp only [List.getElem_toArray, List.getElem_cons_succ, List.getElem_cons_zero, Act.put, List.setIfInBounds_toArray, List.set_cons_zero, List.set_cons_succ]
    refine wpAnyH_take (i := 2) (v := ?_) rfl (by kernel_rfl) (by kernel_rfl) (by kernel_rfl) (fun _ _ _ h => h) (Or.inl ⟨by rfl, ?_⟩) (by assumption) ?_
    rotate_left
    · (intro w hSw; (try dsimp only at hSw); first | (go_simp; done) | (go_simp; with_reducible rfl))
    try simp only [List.getElem_toArray, List.getElem_cons_succ, List.getElem_cons_zero, Act.put, List.setIfInBounds_toArray, List.set_cons_zero, List.set_cons_succ]
    refine wpAnyH_take (i := 11) (v := ?_) rfl (by kernel_rfl) (by kernel_rfl) (by kernel_rfl) (fun _ _ _ h => h) (Or.inl ⟨by rfl, ?_⟩) (by assumption) ?_
    rotate_left
    · (intro w hSw; (try dsimp only at hSw); first | (go_simp; done) | (go_simp; with_reducible rfl))
    try simp only [List.getElem_toArray, List.getElem_cons_succ, List.getElem_cons_zero, Act.put, List.setIfInBounds_toArray, List.set_cons_zero, List.set_cons_succ]
    refine wpAnyH_take (i := 12) (v := ?_) rfl (by kernel_rfl) (by kernel_rfl) (by kernel_rfl) (fun _ _ _ h => h) (Or.inl ⟨by rfl, ?_⟩) (by assumption) ?_
    rotate_left
    · (intro w hSw; (try dsimp only at hSw); first | (go_simp; done) | (go_simp; with_reducible rfl))
    try simp only [List.getElem_toArray, List.getElem_cons_succ, List.getElem_cons_zero, Act.put, List.setIfInBounds_toArray, List.set_cons_zero, List.set_cons_succ]
    refine wpAnyH_take (i := 13) (v := ?_) rfl (by kernel_rfl) (by kernel_rfl) (by kernel_rfl) (fun _ _ _ h => h) (Or.inl ⟨by rfl, ?_⟩) (by assumption) ?_
    rotate_left
    · (intro w hSw; (try dsimp only at hSw); first | (go_simp; done) | (go_simp; with_reducible rfl))
    try simp only [List.getElem_toArray, List.getElem_cons_succ, List.getElem_cons_zero, Act.put, List.setIfInBounds_toArray, List.set_cons_zero, List.set_cons_succ]
    refine wpAnyH_take (i := 14) (v := ?_) rfl (by kernel_rfl) (by kernel_rfl) (by kernel_rfl) (fun _ _ _ h => h) (Or.inl ⟨by rfl, ?_⟩) (by assumption) ?_
    rotate_left
    · (intro w hSw; (try dsimp only at hSw); first | (go_simp; done) | (go_simp; with_reducible rfl))
    try simp only [List.getElem_toArray, List.getElem_cons_succ, List.getElem_cons_zero, Act.put, List.setIfInBounds_toArray, List.set_cons_zero, List.set_cons_succ]
    refine wpAnyH_take (i := 15) (v := ?_) rfl (by kernel_rfl) (by kernel_rfl) (by kernel_rfl) (fun _ _ _ h => h) (Or.inl ⟨by rfl, ?_⟩) (by assumption) ?_
    rotate_left
    · (intro w hSw; (try dsimp only at hSw); first | (go_simp; done) | (go_simp; with_reducible rfl))
    try simp only [List.getElem_toArray, List.getElem_cons_succ, List.getElem_cons_zero, Act.put, List.setIfInBounds_toArray, List.set_cons_zero, List.set_cons_succ]
    refine wpAnyH_ready (rs := [3]) (by kernel_rfl) (by simp) ?_
    refine AllReadyH.cons rfl (fun K hK => ?_) AllReadyH.nil
    go_simp
    go_at_call 170
    refine (isTrue_any _ _ _).mono ?_
    rintro e wq1 ⟨rfl, bq⟩
    replace c00 := cell_later bq (by exact c00)
    replace c01 := cell_later bq (by exact c01)
    replace c10 := cell_later bq (by exact c10)
    replace c11 := cell_later bq (by exact c11)
    replace p0 := cell_later bq (by exact p0)
    replace f0 := fzl bq (World.block_lt_of_cell? _ _ (by exact r0)) (by exact f0)
    replace f1 := fzl bq (World.block_lt_of_cell? _ _ (by exact r1)) (by exact f1)
    replace r0 := cell_later bq (by exact r0)
    replace r1 := cell_later bq (by exact r1)
    replace BL := (show Below B w _ from by first | exact BL.trans (bq.mono (by exact Nat.le_trans (Nat.le_add_right _ _) kz)) | exact BL.drew.trans (bq.mono (by exact Nat.le_trans (Nat.le_add_right _ _) kz)))
    replace kz := Nat.le_trans kz bq.size
    clear bq
    rw [ht0]
    go_wp2_with fail
    refine hK.out _ _ ?_ (fun hHeld => ?_)
    · exact ⟨c00, c01, c10, c11, p0⟩
    clear hK K
    try simp only [List.getElem_toArray, List.getElem_cons_succ, List.getElem_cons_zero, Act.put, List.setIfInBounds_toArray, List.set_cons_zero, List.set_cons_succ]
    refine wpAnyH_take (i := 4) (v := ?_) rfl (by kernel_rfl) (by kernel_rfl) (by kernel_rfl) (fun _ _ _ h => h) (Or.inl ⟨by rfl, ?_⟩) (by assumption) ?_
    rotate_left
    · (intro w hSw; (try dsimp only at hSw); first | (go_simp; done) | (go_simp; with_reducible rfl))
    try simp only [List.getElem_toArray, List.getElem_cons_succ, List.getElem_cons_zero, Act.put, List.setIfInBounds_toArray, List.set_cons_zero, List.set_cons_succ]
    refine wpAnyH_take (i := 5) (v := undef) rfl (by kernel_rfl) (by kernel_rfl) (by kernel_rfl) (fun _ _ _ h => h) (Or.inr ⟨by rfl, rfl⟩) (by assumption) ?_
    try simp only [List.getElem_toArray, List.getElem_cons_succ, List.getElem_cons_zero, Act.put, List.setIfInBounds_toArray, List.set_cons_zero, List.set_cons_succ]
    refine wpAnyH_take (i := 6) (v := undef) rfl (by kernel_rfl) (by kernel_rfl) (by kernel_rfl) (fun _ _ _ h => h) (Or.inr ⟨by rfl, rfl⟩) (by assumption) ?_
    try simp only [List.getElem_toArray, List.getElem_cons_succ, List.getElem_cons_zero, Act.put, List.setIfInBounds_toArray, List.set_cons_zero, List.set_cons_succ]
    refine wpAnyH_take (i := 7) (v := undef) rfl (by kernel_rfl) (by kernel_rfl) (by kernel_rfl) (fun _ _ _ h => h) (Or.inr ⟨by rfl, rfl⟩) (by assumption) ?_
    try simp only [List.getElem_toArray, List.getElem_cons_succ, List.getElem_cons_zero, Act.put, List.setIfInBounds_toArray, List.set_cons_zero, List.set_cons_succ]
    refine wpAnyH_take (i := 8) (v := undef) rfl (by kernel_rfl) (by kernel_rfl) (by kernel_rfl) (fun _ _ _ h => h) (Or.inr ⟨by rfl, rfl⟩) (by assumption) ?_
    try simp only [List.getElem_toArray, List.getElem_cons_succ, List.getElem_cons_zero, Act.put, List.setIfInBounds_toArray, List.set_cons_zero, List.set_cons_succ]
    refine wpAnyH_take (i := 9) (v := ?_) rfl (by kernel_rfl) (by kernel_rfl) (by kernel_rfl) (fun _ _ _ h => h) (Or.inl ⟨by rfl, ?_⟩) (by assumption) ?_
    rotate_left
    · (intro w hSw; (try dsimp only at hSw); first | (go_simp; done) | (go_simp; with_reducible rfl))
    try simp only [List.getElem_toArray, List.getElem_cons_succ, List.getElem_cons_zero, Act.put, List.setIfInBounds_toArray, List.set_cons_zero, List.set_cons_succ]
    refine wpAnyH_ready (rs := [10]) (by kernel_rfl) (by simp) ?_
    refine AllReadyH.cons rfl (fun K hK => ?_) AllReadyH.nil
    go_simp
    go_at_call 126
    refine (truth_any _ _).mono ?_
    rintro e wq2 ⟨rfl, bq⟩
    replace c00 := cell_later bq (by exact c00)
    replace c01 := cell_later bq (by exact c01)
    replace c10 := cell_later bq (by exact c10)
    replace c11 := cell_later bq (by exact c11)
    replace p0 := cell_later bq (by exact p0)
    replace f0 := fzl bq (World.block_lt_of_cell? _ _ (by exact r0)) (by exact f0)
    replace f1 := fzl bq (World.block_lt_of_cell? _ _ (by exact r1)) (by exact f1)
    replace r0 := cell_later bq (by exact r0)
    replace r1 := cell_later bq (by exact r1)
    replace BL := (show Below B w _ from by first | exact BL.trans (bq.mono (by exact Nat.le_trans (Nat.le_add_right _ _) kz)) | exact BL.drew.trans (bq.mono (by exact Nat.le_trans (Nat.le_add_right _ _) kz)))
    replace kz := Nat.le_trans kz bq.size
    clear bq
    go_wp2_with fail
    refine hK.out _ _ ?_ (fun hHeld => ?_)
    · exact ⟨c00, c01, c10, c11, p0⟩
    clear hK K
    try simp only [List.getElem_toArray, List.getElem_cons_succ, List.getElem_cons_zero, Act.put, List.setIfInBounds_toArray, List.set_cons_zero, List.set_cons_succ]
    refine wpAnyH_take (i := 16) (v := ?_) rfl (by kernel_rfl) (by kernel_rfl) (by kernel_rfl) (fun _ _ _ h => h) (Or.inl ⟨by rfl, ?_⟩) (by assumption) ?_
    rotate_left
    · (intro w hSw; (try dsimp only at hSw); first | (go_simp; done) | (go_simp; with_reducible rfl))
    try simp only [List.getElem_toArray, List.getElem_cons_succ, List.getElem_cons_zero, Act.put, List.setIfInBounds_toArray, List.set_cons_zero, List.set_cons_succ]
    refine wpAnyH_take (i := 17) (v := ?_) rfl (by kernel_rfl) (by kernel_rfl) (by kernel_rfl) (fun _ _ _ h => h) (Or.inl ⟨by rfl, ?_⟩) (by assumption) ?_
    rotate_left
    · (intro w hSw; (try dsimp only at hSw); first | (go_simp; done) | (go_simp; with_reducible rfl))
    try simp only [List.getElem_toArray, List.getElem_cons_succ, List.getElem_cons_zero, Act.put, List.setIfInBounds_toArray, List.set_cons_zero, List.set_cons_succ]
    refine wpAnyH_take (i := 18) (v := ?_) rfl (by kernel_rfl) (by kernel_rfl) (by kernel_rfl) (fun _ _ _ h => h) (Or.inl ⟨by rfl, ?_⟩) (by assumption) ?_
    rotate_left
    · (intro w hSw; (try dsimp only at hSw); first | (go_simp; done) | (go_simp; with_reducible rfl))
    try simp only [List.getElem_toArray, List.getElem_cons_succ, List.getElem_cons_zero, Act.put, List.setIfInBounds_toArray, List.set_cons_zero, List.set_cons_succ]
    refine wpAnyH_take (i := 19) (v := ?_) rfl (by kernel_rfl) (by kernel_rfl) (by kernel_rfl) (fun _ _ _ h => h) (Or.inl ⟨by rfl, ?_⟩) (by assumption) ?_
    rotate_left
    · (intro w hSw; (try dsimp only at hSw); first | (go_simp; done) | (go_simp; with_reducible rfl))
    try simp only [List.getElem_toArray, List.getElem_cons_succ, List.getElem_cons_zero, Act.put, List.setIfInBounds_toArray, List.set_cons_zero, List.set_cons_succ]
    refine wpAnyH_take (i := 20) (v := ?_) rfl (by kernel_rfl) (by kernel_rfl) (by kernel_rfl) (fun _ _ _ h => h) (Or.inl ⟨by rfl, ?_⟩) (by assumption) ?_
    rotate_left
    · (intro w hSw; (try dsimp only at hSw); first | (go_simp; done) | (go_simp; with_reducible rfl))
    try simp only [List.getElem_toArray, List.getElem_cons_succ, List.getElem_cons_zero, Act.put, List.setIfInBounds_toArray, List.set_cons_zero, List.set_cons_succ]
    refine wpAnyH_take (i := 21) (v := ?_) rfl (by kernel_rfl) (by kernel_rfl) (by kernel_rfl) (fun _ _ _ h => h) (Or.inl ⟨by rfl, ?_⟩) (by assumption) ?_
    rotate_left
    · (intro w hSw; (try dsimp only at hSw); first | (go_simp; done) | (go_simp; with_reducible rfl))
    try simp only [List.getElem_toArray, List.getElem_cons_succ, List.getElem_cons_zero, Act.put, List.setIfInBounds_toArray, List.set_cons_zero, List.set_cons_succ]
    refine wpAnyH_take (i := 22) (v := ?_) rfl (by kernel_rfl) (by kernel_rfl) (by kernel_rfl) (fun _ _ _ h => h) (Or.inl ⟨by rfl, ?_⟩) (by assumption) ?_
    rotate_left
    · (intro w hSw; (try dsimp only at hSw); first | (go_simp; done) | (go_simp; with_reducible rfl))
    try simp only [List.getElem_toArray, List.getElem_cons_succ, List.getElem_cons_zero, Act.put, List.setIfInBounds_toArray, List.set_cons_zero, List.set_cons_succ]
    refine wpAnyH_ready (rs := [23]) (by kernel_rfl) (by simp) ?_
    refine AllReadyH.cons rfl (fun K hK => ?_) AllReadyH.nil
    go_simp
    refine hK.out _ _ ?_ (fun hHeld => ?_)
    · exact (by simp only [World.cell?_setCell_far, nk, nb, ne_eq, not_false_eq_true]; exact ⟨c00, c01, c10, c11, p0⟩)
    clear hK K
    try simp only [List.getElem_toArray, List.getElem_cons_succ, List.getElem_cons_zero, Act.put, List.setIfInBounds_toArray, List.set_cons_zero, List.set_cons_succ]
    refine wpAnyH_take (i := 24) (v := ?_) rfl (by kernel_rfl) (by kernel_rfl) (by kernel_rfl) (fun _ _ _ h => h) (Or.inl ⟨by rfl, ?_⟩) (by assumption) ?_
    rotate_left
    · (intro w hSw; (try dsimp only at hSw); first | (go_simp; done) | (go_simp; with_reducible rfl))
    try simp only [List.getElem_toArray, List.getElem_cons_succ, List.getElem_cons_zero, Act.put, List.setIfInBounds_toArray, List.set_cons_zero, List.set_cons_succ]
    refine wpAnyH_done (by kernel_rfl) ?_ _
    go_wp2
    all_goals exact bodyPost_ret (v := (.tuple #[.agg #[.int .i64 0, .int .i64 (b01 (true))], .bool ((X 1 == 0))])) (by simp [results, Tryz.results176, go_sem, r0, r1]) rfl ⟨by rfl, by first | exact (BL.setCell (by simp) _).setCell (by simp) _ | (rw [hB]; first | exact (BL.setCell (by simp) _).setCell (by simp) _ | exact ((BL.drew).setCell (by simp) _).setCell (by simp) _)⟩
end Go.Proofs.YtfopmobopmdahaaGreat
