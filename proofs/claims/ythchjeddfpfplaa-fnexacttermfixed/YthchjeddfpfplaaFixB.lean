/- What a term is, if that is written there, of the program: numbers and truths. -/
import Derived.Test.YthchjeddfpfplaaFixA
namespace Go.Proofs.Ythchjeddfpfplaa
open Go.ChangeShapes Go.WideShapes Go.ChangeAt Go.RowKit Go.Joins
set_option linter.unusedVariables false
set_option linter.unusedSimpArgs false

set_option maxHeartbeats 4000000 in
theorem fx_vecs (lo hi : Nat) (op a b : Int) (s : ByteArray) (m : Nat) (kid : Nat → TT) (T : TypeId) (kv rp : Value) (hT : T = 50) (hkv : kv = .agg #[.int .i64 a, .int .i64 b]) (fp fm : FuncId) (op' a' b' : Int) (s' : ByteArray) (M : Int)
    (hkd : ∀ (ad : Option Addr) (cp : Nat) (w : World), Calls Try.prog 17 #[.agg #[.int .i64 op, .int .i64 a, .int .i64 b, .string s, .slice ad m cp]] w fun e w' => e = .returned (.tuple #[.iface T kv, .bool true]) ∧ Below w.heap.size w w')
    (hmp : ∀ w : World, (method 198 T kv "loop.example/seedlip/impl.part").run Try.prog w = .ok (fp, rp) w)
    (hmm : ∀ w : World, (method 198 T kv "loop.example/seedlip/impl.many").run Try.prog w = .ok (fm, kv) w)
    (hep : ∀ (args : Array Value) (w : World), (callFunc fp args).run Try.prog w = .ok (.enter fp args) w) (hem : ∀ (args : Array Value) (w : World), (callFunc fm args).run Try.prog w = .ok (.enter fm args) w)
    (hcp : ∀ w : World, Calls Try.prog fp #[rp] w fun e w' => e = .returned (.agg #[.int .i64 op', .int .i64 a', .int .i64 b', .string s', .slice none 0 0]) ∧ Below w.heap.size w w')
    (hcm : ∀ w : World, Calls Try.prog fm #[kv] w fun e w' => e = .returned (.int .i64 M) ∧ Below w.heap.size w w') (hhs : hsB op' a' b' s' op a b s = true) (hM : M = m) (ad : Option Addr) (cp : Nat) (w : World) (hin : (TT.node op a b s m kid).In w lo hi ad) (hp : Pl w lo hi) (hhi : hi ≤ w.heap.size) :
    Calls Try.prog 14 #[.agg #[.int .i64 op, .int .i64 a, .int .i64 b, .string s, .slice ad m cp]] w fun e w' => e = .returned (.tuple #[.agg #[.int .i64 a, .int .i64 b], .bool (okB a b)]) ∧ Below w.heap.size w w' := by
  have HT := hide hT
  have HKV := hide hkv
  clear hT hkv
  have HI := hide hin
  have HP := hide hp
  clear hin hp
  have HKD := hide hkd
  have HCP := hide hcp
  have HCM := hide hcm
  clear hkd hcp hcm
  go_enter Try.func14, Try.ntmps14
  go_wp2_with fail
  have e1 := ((Below.refl w.heap.size w).alloc (Nat.le_refl _) (.cells #[.int .i64 op, .int .i64 a, .int .i64 b, .string s, .slice ad m cp] 30)).alloc (by simp) (.cells #[.int .i64 0, .int .i64 0] 38)
  refine (unhide HKD _ _ _).mono ?_
  rintro e w1 ⟨rfl, b1⟩
  have P : Box5 w1 w.heap.size op a b s ad m cp := ⟨cell_later b1 (by simp [go_sem]), cell_later b1 (by simp [go_sem]), cell_later b1 (by simp [go_sem]), cell_later b1 (by simp [go_sem]), cell_later b1 (by simp [go_sem])⟩
  have r0 : w1.cell? ⟨w.heap.size + 1, 0, none⟩ = some (.int .i64 0) := cell_later b1 (by simp [go_sem])
  have r1 : w1.cell? ⟨w.heap.size + 1, 1, none⟩ = some (.int .i64 0) := cell_later b1 (by simp [go_sem])
  have f0 : w1.frozen? ⟨w.heap.size + 1, 0, none⟩ = false := by rw [b1.frozen (by simp)]; simp [go_sem]
  have f1 : w1.frozen? ⟨w.heap.size + 1, 1, none⟩ = false := by rw [b1.frozen (by simp)]; simp [go_sem]
  have BL := e1.trans (b1.mono (by simp <;> omega))
  have kz : w.heap.size + 2 ≤ w1.heap.size := by have := b1.size; simp at this; omega
  have I := hide ((unhide HI).later (BL.mono hhi))
  have PL := hide ((unhide HP).later (BL.mono hhi))
  clear b1 e1 HI HP
  generalize hH : w.heap.size = H at *
  have HH := hide hH
  clear hH
  go_wp2_with fail
  obtain ⟨p0, p1, p2, p3, p4⟩ := id P
  have zM : (M != (m : Int)) = false := by simp [hM]
  refine wp_region_held_drew (S := (fun w' => w'.cell? ⟨H, 0, none⟩ = some (.int .i64 op) ∧ w'.cell? ⟨H, 1, none⟩ = some (.int .i64 a) ∧ w'.cell? ⟨H, 2, none⟩ = some (.int .i64 b) ∧ w'.cell? ⟨H, 3, none⟩ = some (.string s) ∧ w'.cell? ⟨H, 4, none⟩ = some (.slice ad m cp))) (by kernel_rfl) ?_ (fun hHeld => ?_)
  · exact ⟨p0, p1, p2, p3, p4⟩
  refine wpAnyH_take (i := 0) (v := ?_) rfl (by kernel_rfl) (by kernel_rfl) (by kernel_rfl) (fun _ _ _ h => h) (Or.inl ⟨by rfl, ?_⟩) (by assumption) ?_
  rotate_left
  · (intro w hSw; (try dsimp only at hSw); first | (go_simp; done) | (go_simp; with_reducible rfl))
  try simp only [List.getElem_toArray, List.getElem_cons_succ, List.getElem_cons_zero, Act.put, List.setIfInBounds_toArray, List.set_cons_zero, List.set_cons_succ]
  refine wpAnyH_take (i := 1) (v := ?_) rfl (by kernel_rfl) (by kernel_rfl) (by kernel_rfl) (fun _ _ _ h => h) (Or.inl ⟨by rfl, ?_⟩) (by assumption) ?_
  rotate_left
  · (intro w hSw; (try dsimp only at hSw); first | (go_simp; done) | (go_simp; with_reducible rfl))
  try simp only [List.getElem_toArray, List.getElem_cons_succ, List.getElem_cons_zero, Act.put, List.setIfInBounds_toArray, List.set_cons_zero, List.set_cons_succ]
  refine wpAnyH_take (i := 2) (v := ?_) rfl (by kernel_rfl) (by kernel_rfl) (by kernel_rfl) (fun _ _ _ h => h) (Or.inl ⟨by rfl, ?_⟩) (by assumption) ?_
  rotate_left
  · (intro w hSw; (try dsimp only at hSw); first | (go_simp; done) | (go_simp; with_reducible rfl))
  try simp only [List.getElem_toArray, List.getElem_cons_succ, List.getElem_cons_zero, Act.put, List.setIfInBounds_toArray, List.set_cons_zero, List.set_cons_succ]
  refine wpAnyH_take (i := 3) (v := ?_) rfl (by kernel_rfl) (by kernel_rfl) (by kernel_rfl) (fun _ _ _ h => h) (Or.inl ⟨by rfl, ?_⟩) (by assumption) ?_
  rotate_left
  · (intro w hSw; (try dsimp only at hSw); first | (go_simp; done) | (go_simp; with_reducible rfl))
  try simp only [List.getElem_toArray, List.getElem_cons_succ, List.getElem_cons_zero, Act.put, List.setIfInBounds_toArray, List.set_cons_zero, List.set_cons_succ]
  refine wpAnyH_take (i := 5) (v := ?_) rfl (by kernel_rfl) (by kernel_rfl) (by kernel_rfl) (fun _ _ _ h => h) (Or.inl ⟨by rfl, ?_⟩) (by assumption) ?_
  rotate_left
  · (intro w hSw; (try dsimp only at hSw); first | (go_simp; done) | (go_simp; with_reducible rfl))
  try simp only [List.getElem_toArray, List.getElem_cons_succ, List.getElem_cons_zero, Act.put, List.setIfInBounds_toArray, List.set_cons_zero, List.set_cons_succ]
  refine wpAnyH_ready (rs := [4]) (by kernel_rfl) (by simp) ?_
  refine AllReadyH.cons rfl (fun K hK => ?_) AllReadyH.nil
  go_simp
  refine (unhide HCP _).mono ?_
  rintro e wq ⟨rfl, bq⟩
  replace P := Box5.later (by exact P) bq
  replace f0 := fzF bq (World.block_lt_of_cell? _ _ (by exact r0)) (by exact f0)
  replace f1 := fzF bq (World.block_lt_of_cell? _ _ (by exact r1)) (by exact f1)
  replace r0 := cell_later bq (by exact r0)
  replace r1 := cell_later bq (by exact r1)
  replace BL := (show Below H w _ from by first | exact BL.trans (bq.mono (by exact Nat.le_trans (Nat.le_add_right _ _) kz)) | exact BL.drew.trans (bq.mono (by exact Nat.le_trans (Nat.le_add_right _ _) kz)))
  replace I := hide (show (TT.node op a b s m kid).In _ lo hi ad from by first | exact (unhide I).later (bq.mono (by exact Nat.le_trans hhi (Nat.le_trans (Nat.le_add_right _ _) kz))) | exact (unhide I).drew.later (bq.mono (by exact Nat.le_trans hhi (Nat.le_trans (Nat.le_add_right _ _) kz))))
  replace PL := hide (show Pl _ lo hi from by first | exact (unhide PL).later (bq.mono (by exact Nat.le_trans hhi (Nat.le_trans (Nat.le_add_right _ _) kz))) | exact (unhide PL).drew.later (bq.mono (by exact Nat.le_trans hhi (Nat.le_trans (Nat.le_add_right _ _) kz))))
  replace kz := Nat.le_trans kz bq.size
  clear bq
  go_wp2_with fail
  refine hK.out _ _ ?_ (fun hHeld => ?_)
  · exact ⟨P.1, P.2.1, P.2.2.1, P.2.2.2.1, P.2.2.2.2⟩
  clear hK K
  try simp only [List.getElem_toArray, List.getElem_cons_succ, List.getElem_cons_zero, Act.put, List.setIfInBounds_toArray, List.set_cons_zero, List.set_cons_succ]
  refine wpAnyH_ready (rs := [6]) (by kernel_rfl) (by simp) ?_
  refine AllReadyH.cons rfl (fun K hK => ?_) AllReadyH.nil
  go_simp
  refine (headSame_any _ _ _ _ _ _ _ _ _ _ _ _ _ _ _).mono ?_
  rintro e wq ⟨rfl, bq⟩
  replace P := Box5.later (by exact P) bq
  replace f0 := fzF bq (World.block_lt_of_cell? _ _ (by exact r0)) (by exact f0)
  replace f1 := fzF bq (World.block_lt_of_cell? _ _ (by exact r1)) (by exact f1)
  replace r0 := cell_later bq (by exact r0)
  replace r1 := cell_later bq (by exact r1)
  replace BL := (show Below H w _ from by first | exact BL.trans (bq.mono (by exact Nat.le_trans (Nat.le_add_right _ _) kz)) | exact BL.drew.trans (bq.mono (by exact Nat.le_trans (Nat.le_add_right _ _) kz)))
  replace I := hide (show (TT.node op a b s m kid).In _ lo hi ad from by first | exact (unhide I).later (bq.mono (by exact Nat.le_trans hhi (Nat.le_trans (Nat.le_add_right _ _) kz))) | exact (unhide I).drew.later (bq.mono (by exact Nat.le_trans hhi (Nat.le_trans (Nat.le_add_right _ _) kz))))
  replace PL := hide (show Pl _ lo hi from by first | exact (unhide PL).later (bq.mono (by exact Nat.le_trans hhi (Nat.le_trans (Nat.le_add_right _ _) kz))) | exact (unhide PL).drew.later (bq.mono (by exact Nat.le_trans hhi (Nat.le_trans (Nat.le_add_right _ _) kz))))
  replace kz := Nat.le_trans kz bq.size
  clear bq
  rw [hhs]
  go_wp2_with fail
  refine hK.out _ _ ?_ (fun hHeld => ?_)
  · exact ⟨P.1, P.2.1, P.2.2.1, P.2.2.2.1, P.2.2.2.2⟩
  clear hK K
  try simp only [List.getElem_toArray, List.getElem_cons_succ, List.getElem_cons_zero, Act.put, List.setIfInBounds_toArray, List.set_cons_zero, List.set_cons_succ]
  refine wpAnyH_take (i := 7) (v := ?_) rfl (by kernel_rfl) (by kernel_rfl) (by kernel_rfl) (fun _ _ _ h => h) (Or.inl ⟨by rfl, ?_⟩) (by assumption) ?_
  rotate_left
  · (intro w hSw; (try dsimp only at hSw); first | (go_simp; done) | (go_simp; with_reducible rfl))
  try simp only [List.getElem_toArray, List.getElem_cons_succ, List.getElem_cons_zero, Act.put, List.setIfInBounds_toArray, List.set_cons_zero, List.set_cons_succ]
  refine wpAnyH_take (i := 8) (v := ?_) rfl (by kernel_rfl) (by kernel_rfl) (by kernel_rfl) (fun _ _ _ h => h) (Or.inl ⟨by rfl, ?_⟩) (by assumption) ?_
  rotate_left
  · (intro w hSw; (try dsimp only at hSw); first | (go_simp; done) | (go_simp; with_reducible rfl))
  try simp only [List.getElem_toArray, List.getElem_cons_succ, List.getElem_cons_zero, Act.put, List.setIfInBounds_toArray, List.set_cons_zero, List.set_cons_succ]
  refine wpAnyH_take (i := 9) (v := ?_) rfl (by kernel_rfl) (by kernel_rfl) (by kernel_rfl) (fun _ _ _ h => h) (Or.inl ⟨by rfl, ?_⟩) (by assumption) ?_
  rotate_left
  · (intro w hSw; (try dsimp only at hSw); first | (go_simp; done) | (go_simp; with_reducible rfl))
  try simp only [List.getElem_toArray, List.getElem_cons_succ, List.getElem_cons_zero, Act.put, List.setIfInBounds_toArray, List.set_cons_zero, List.set_cons_succ]
  refine wpAnyH_take (i := 10) (v := ?_) rfl (by kernel_rfl) (by kernel_rfl) (by kernel_rfl) (fun _ _ _ h => h) (Or.inl ⟨by rfl, ?_⟩) (by assumption) ?_
  rotate_left
  · (intro w hSw; (try dsimp only at hSw); first | (go_simp; done) | (go_simp; with_reducible rfl))
  try simp only [List.getElem_toArray, List.getElem_cons_succ, List.getElem_cons_zero, Act.put, List.setIfInBounds_toArray, List.set_cons_zero, List.set_cons_succ]
  refine wpAnyH_take (i := 12) (v := ?_) rfl (by kernel_rfl) (by kernel_rfl) (by kernel_rfl) (fun _ _ _ h => h) (Or.inl ⟨by rfl, ?_⟩) (by assumption) ?_
  rotate_left
  · (intro w hSw; (try dsimp only at hSw); first | (go_simp; done) | (go_simp; with_reducible rfl))
  try simp only [List.getElem_toArray, List.getElem_cons_succ, List.getElem_cons_zero, Act.put, List.setIfInBounds_toArray, List.set_cons_zero, List.set_cons_succ]
  refine wpAnyH_take (i := 13) (v := ?_) rfl (by kernel_rfl) (by kernel_rfl) (by kernel_rfl) (fun _ _ _ h => h) (Or.inl ⟨by rfl, ?_⟩) (by assumption) ?_
  rotate_left
  · (intro w hSw; (try dsimp only at hSw); first | (go_simp; done) | (go_simp; with_reducible rfl))
  try simp only [List.getElem_toArray, List.getElem_cons_succ, List.getElem_cons_zero, Act.put, List.setIfInBounds_toArray, List.set_cons_zero, List.set_cons_succ]
  refine wpAnyH_take (i := 14) (v := ?_) rfl (by kernel_rfl) (by kernel_rfl) (by kernel_rfl) (fun _ _ _ h => h) (Or.inl ⟨by rfl, ?_⟩) (by assumption) ?_
  rotate_left
  · (intro w hSw; (try dsimp only at hSw); first | (go_simp; done) | (go_simp; with_reducible rfl))
  try simp only [List.getElem_toArray, List.getElem_cons_succ, List.getElem_cons_zero, Act.put, List.setIfInBounds_toArray, List.set_cons_zero, List.set_cons_succ]
  refine wpAnyH_ready (rs := [11]) (by kernel_rfl) (by simp) ?_
  refine AllReadyH.cons rfl (fun K hK => ?_) AllReadyH.nil
  go_simp
  refine (unhide HCM _).mono ?_
  rintro e wq ⟨rfl, bq⟩
  replace P := Box5.later (by exact P) bq
  replace f0 := fzF bq (World.block_lt_of_cell? _ _ (by exact r0)) (by exact f0)
  replace f1 := fzF bq (World.block_lt_of_cell? _ _ (by exact r1)) (by exact f1)
  replace r0 := cell_later bq (by exact r0)
  replace r1 := cell_later bq (by exact r1)
  replace BL := (show Below H w _ from by first | exact BL.trans (bq.mono (by exact Nat.le_trans (Nat.le_add_right _ _) kz)) | exact BL.drew.trans (bq.mono (by exact Nat.le_trans (Nat.le_add_right _ _) kz)))
  replace I := hide (show (TT.node op a b s m kid).In _ lo hi ad from by first | exact (unhide I).later (bq.mono (by exact Nat.le_trans hhi (Nat.le_trans (Nat.le_add_right _ _) kz))) | exact (unhide I).drew.later (bq.mono (by exact Nat.le_trans hhi (Nat.le_trans (Nat.le_add_right _ _) kz))))
  replace PL := hide (show Pl _ lo hi from by first | exact (unhide PL).later (bq.mono (by exact Nat.le_trans hhi (Nat.le_trans (Nat.le_add_right _ _) kz))) | exact (unhide PL).drew.later (bq.mono (by exact Nat.le_trans hhi (Nat.le_trans (Nat.le_add_right _ _) kz))))
  replace kz := Nat.le_trans kz bq.size
  clear bq
  go_wp2_with fail
  refine hK.out _ _ ?_ (fun hHeld => ?_)
  · exact ⟨P.1, P.2.1, P.2.2.1, P.2.2.2.1, P.2.2.2.2⟩
  clear hK K
  try simp only [List.getElem_toArray, List.getElem_cons_succ, List.getElem_cons_zero, Act.put, List.setIfInBounds_toArray, List.set_cons_zero, List.set_cons_succ]
  refine wpAnyH_take (i := 15) (v := ?_) rfl (by kernel_rfl) (by kernel_rfl) (by kernel_rfl) (fun _ _ _ h => h) (Or.inl ⟨by rfl, ?_⟩) (by assumption) ?_
  rotate_left
  · (intro w hSw; (try dsimp only at hSw); first | (go_simp; done) | (go_simp; with_reducible rfl))
  try simp only [List.getElem_toArray, List.getElem_cons_succ, List.getElem_cons_zero, Act.put, List.setIfInBounds_toArray, List.set_cons_zero, List.set_cons_succ]
  refine wpAnyH_take (i := 16) (v := ?_) rfl (by kernel_rfl) (by kernel_rfl) (by kernel_rfl) (fun _ _ _ h => h) (Or.inl ⟨by rfl, ?_⟩) (by assumption) ?_
  rotate_left
  · (intro w hSw; (try dsimp only at hSw); first | (go_simp; done) | (go_simp; with_reducible rfl))
  try simp only [List.getElem_toArray, List.getElem_cons_succ, List.getElem_cons_zero, Act.put, List.setIfInBounds_toArray, List.set_cons_zero, List.set_cons_succ]
  refine wpAnyH_done (by kernel_rfl) ?_ _
  clear hmp hmm hep hem HCP HCM HKD
  obtain rfl := unhide HT
  obtain rfl := unhide HKV
  have ta := ta1_yes (.agg #[.int .i64 a, .int .i64 b])
  go_wp2_with fail
  obtain ⟨wk, hwk⟩ : ∃ v, v = wq.alloc (.cells #[.int .i64 a, .int .i64 b] 50) := ⟨_, rfl⟩
  have bk : Below wq.heap.size wq wk := by rw [hwk]; exact (Below.refl _ _).alloc (Nat.le_refl _) _
  have k0 : wk.cell? ⟨wq.heap.size, 0, none⟩ = some (.int .i64 a) := by rw [hwk]; simp [go_sem]
  have k1 : wk.cell? ⟨wq.heap.size, 1, none⟩ = some (.int .i64 b) := by rw [hwk]; simp [go_sem]
  have kH : H ≤ wq.heap.size := by omega
  have nA : H + 1 < wq.heap.size := by omega
  rw [← hwk]
  replace f0 := fz_later bk (by exact r0) (by exact f0)
  replace f1 := fz_later bk (by exact r1) (by exact f1)
  replace r0 := cell_later bk (by exact r0)
  replace r1 := cell_later bk (by exact r1)
  replace BL := (show Below H w _ from by first | exact BL.trans (bk.mono (by exact kH)) | exact BL.drew.trans (bk.mono (by exact kH)))
  replace kH := (show H ≤ _ from Nat.le_trans kH bk.size)
  obtain ⟨A, hA⟩ : ∃ x, x = wq.heap.size := ⟨_, rfl⟩
  rw [← hA] at k0 k1 nA
  rw [← hA]
  clear hwk bk hA P p0 p1 p2 p3 p4 I PL
  have nA2 : A ≠ H + 1 := by omega
  refine wp_region_held_drew (S := (fun w' => w'.cell? ⟨A, 0, none⟩ = some (.int .i64 a) ∧ w'.cell? ⟨A, 1, none⟩ = some (.int .i64 b))) (by kernel_rfl) ?_ (fun hHeld => ?_)
  · exact ⟨k0, k1⟩
  refine wpAnyH_take (i := 0) (v := ?_) rfl (by kernel_rfl) (by kernel_rfl) (by kernel_rfl) (fun _ _ _ h => h) (Or.inl ⟨by rfl, ?_⟩) (by assumption) ?_
  rotate_left
  · (intro w hSw; (try dsimp only at hSw); first | (go_simp; done) | (go_simp; with_reducible rfl))
  try simp only [List.getElem_toArray, List.getElem_cons_succ, List.getElem_cons_zero, Act.put, List.setIfInBounds_toArray, List.set_cons_zero, List.set_cons_succ]
  refine wpAnyH_take (i := 1) (v := ?_) rfl (by kernel_rfl) (by kernel_rfl) (by kernel_rfl) (fun _ _ _ h => h) (Or.inl ⟨by rfl, ?_⟩) (by assumption) ?_
  rotate_left
  · (intro w hSw; (try dsimp only at hSw); first | (go_simp; done) | (go_simp; with_reducible rfl))
  try simp only [List.getElem_toArray, List.getElem_cons_succ, List.getElem_cons_zero, Act.put, List.setIfInBounds_toArray, List.set_cons_zero, List.set_cons_succ]
  refine wpAnyH_take (i := 2) (v := ?_) rfl (by kernel_rfl) (by kernel_rfl) (by kernel_rfl) (fun _ _ _ h => h) (Or.inl ⟨by rfl, ?_⟩) (by assumption) ?_
  rotate_left
  · (intro w hSw; (try dsimp only at hSw); first | (go_simp; done) | (go_simp; with_reducible rfl))
  try simp only [List.getElem_toArray, List.getElem_cons_succ, List.getElem_cons_zero, Act.put, List.setIfInBounds_toArray, List.set_cons_zero, List.set_cons_succ]
  refine wpAnyH_take (i := 3) (v := ?_) rfl (by kernel_rfl) (by kernel_rfl) (by kernel_rfl) (fun _ _ _ h => h) (Or.inl ⟨by rfl, ?_⟩) (by assumption) ?_
  rotate_left
  · (intro w hSw; (try dsimp only at hSw); first | (go_simp; done) | (go_simp; with_reducible rfl))
  try simp only [List.getElem_toArray, List.getElem_cons_succ, List.getElem_cons_zero, Act.put, List.setIfInBounds_toArray, List.set_cons_zero, List.set_cons_succ]
  refine wpAnyH_ready (rs := [4]) (by kernel_rfl) (by simp) ?_
  refine AllReadyH.cons rfl (fun K hK => ?_) AllReadyH.nil
  go_simp
  refine (iVecOk_any _ _ _).mono ?_
  rintro e wv ⟨rfl, bv⟩
  replace f0 := fz_later bv (by exact r0) (by exact f0)
  replace f1 := fz_later bv (by exact r1) (by exact f1)
  replace r0 := cell_later bv (by exact r0)
  replace r1 := cell_later bv (by exact r1)
  replace BL := (show Below H w _ from by first | exact BL.trans (bv.mono (by exact kH)) | exact BL.drew.trans (bv.mono (by exact kH)))
  replace kH := (show H ≤ _ from Nat.le_trans kH bv.size)
  replace k0 := cell_later bv (by exact k0)
  replace k1 := cell_later bv (by exact k1)
  clear bv
  go_wp2_with fail
  refine hK.out _ _ ?_ (fun hHeld => ?_)
  · exact ⟨k0, k1⟩
  clear hK K
  try simp only [List.getElem_toArray, List.getElem_cons_succ, List.getElem_cons_zero, Act.put, List.setIfInBounds_toArray, List.set_cons_zero, List.set_cons_succ]
  refine wpAnyH_ready (rs := [5]) (by kernel_rfl) (by simp) ?_
  refine AllReadyH.cons rfl (fun K hK => ?_) AllReadyH.nil
  go_simp
  refine hK.out _ _ ?_ (fun hHeld => ?_)
  · exact ⟨by rw [World.cell?_setCell_other _ _ _ _ (by simp <;> omega), World.cell?_setCell_other _ _ _ _ (by simp <;> omega)]; exact k0, by rw [World.cell?_setCell_other _ _ _ _ (by simp <;> omega), World.cell?_setCell_other _ _ _ _ (by simp <;> omega)]; exact k1⟩
  clear hK K
  try simp only [List.getElem_toArray, List.getElem_cons_succ, List.getElem_cons_zero, Act.put, List.setIfInBounds_toArray, List.set_cons_zero, List.set_cons_succ]
  refine wpAnyH_take (i := 6) (v := ?_) rfl (by kernel_rfl) (by kernel_rfl) (by kernel_rfl) (fun _ _ _ h => h) (Or.inl ⟨by rfl, ?_⟩) (by assumption) ?_
  rotate_left
  · (intro w hSw; (try dsimp only at hSw); first | (go_simp; done) | (go_simp; with_reducible rfl))
  try simp only [List.getElem_toArray, List.getElem_cons_succ, List.getElem_cons_zero, Act.put, List.setIfInBounds_toArray, List.set_cons_zero, List.set_cons_succ]
  refine wpAnyH_done (by kernel_rfl) ?_ _
  go_wp2
  exact bodyPost_ret (v := .tuple #[.agg #[.int .i64 a, .int .i64 b], .bool (okB a b)]) (by simp [results, Try.results14, go_sem, r0, r1]) rfl ⟨rfl, by rw [unhide HH]; exact (BL.setCell (by simp) _).setCell (by simp) _⟩
set_option maxHeartbeats 4000000 in
theorem fx_trus (lo hi : Nat) (op a b : Int) (s : ByteArray) (m : Nat) (kid : Nat → TT) (T : TypeId) (kv rp : Value) (hT : T = 52) (hkv : kv = .agg #[]) (fp fm : FuncId) (op' a' b' : Int) (s' : ByteArray) (M : Int)
    (hkd : ∀ (ad : Option Addr) (cp : Nat) (w : World), Calls Try.prog 17 #[.agg #[.int .i64 op, .int .i64 a, .int .i64 b, .string s, .slice ad m cp]] w fun e w' => e = .returned (.tuple #[.iface T kv, .bool true]) ∧ Below w.heap.size w w')
    (hmp : ∀ w : World, (method 198 T kv "loop.example/seedlip/impl.part").run Try.prog w = .ok (fp, rp) w)
    (hmm : ∀ w : World, (method 198 T kv "loop.example/seedlip/impl.many").run Try.prog w = .ok (fm, kv) w)
    (hep : ∀ (args : Array Value) (w : World), (callFunc fp args).run Try.prog w = .ok (.enter fp args) w) (hem : ∀ (args : Array Value) (w : World), (callFunc fm args).run Try.prog w = .ok (.enter fm args) w)
    (hcp : ∀ w : World, Calls Try.prog fp #[rp] w fun e w' => e = .returned (.agg #[.int .i64 op', .int .i64 a', .int .i64 b', .string s', .slice none 0 0]) ∧ Below w.heap.size w w')
    (hcm : ∀ w : World, Calls Try.prog fm #[kv] w fun e w' => e = .returned (.int .i64 M) ∧ Below w.heap.size w w') (hhs : hsB op' a' b' s' op a b s = true) (hM : M = m) (ad : Option Addr) (cp : Nat) (w : World) (hin : (TT.node op a b s m kid).In w lo hi ad) (hp : Pl w lo hi) (hhi : hi ≤ w.heap.size) :
    Calls Try.prog 14 #[.agg #[.int .i64 op, .int .i64 a, .int .i64 b, .string s, .slice ad m cp]] w fun e w' => e = .returned (.tuple #[.agg #[.int .i64 0, .int .i64 1], .bool true]) ∧ Below w.heap.size w w' := by
  have HT := hide hT
  have HKV := hide hkv
  clear hT hkv
  have HI := hide hin
  have HP := hide hp
  clear hin hp
  have HKD := hide hkd
  have HCP := hide hcp
  have HCM := hide hcm
  clear hkd hcp hcm
  go_enter Try.func14, Try.ntmps14
  go_wp2_with fail
  have e1 := ((Below.refl w.heap.size w).alloc (Nat.le_refl _) (.cells #[.int .i64 op, .int .i64 a, .int .i64 b, .string s, .slice ad m cp] 30)).alloc (by simp) (.cells #[.int .i64 0, .int .i64 0] 38)
  refine (unhide HKD _ _ _).mono ?_
  rintro e w1 ⟨rfl, b1⟩
  have P : Box5 w1 w.heap.size op a b s ad m cp := ⟨cell_later b1 (by simp [go_sem]), cell_later b1 (by simp [go_sem]), cell_later b1 (by simp [go_sem]), cell_later b1 (by simp [go_sem]), cell_later b1 (by simp [go_sem])⟩
  have r0 : w1.cell? ⟨w.heap.size + 1, 0, none⟩ = some (.int .i64 0) := cell_later b1 (by simp [go_sem])
  have r1 : w1.cell? ⟨w.heap.size + 1, 1, none⟩ = some (.int .i64 0) := cell_later b1 (by simp [go_sem])
  have f0 : w1.frozen? ⟨w.heap.size + 1, 0, none⟩ = false := by rw [b1.frozen (by simp)]; simp [go_sem]
  have f1 : w1.frozen? ⟨w.heap.size + 1, 1, none⟩ = false := by rw [b1.frozen (by simp)]; simp [go_sem]
  have BL := e1.trans (b1.mono (by simp <;> omega))
  have kz : w.heap.size + 2 ≤ w1.heap.size := by have := b1.size; simp at this; omega
  have I := hide ((unhide HI).later (BL.mono hhi))
  have PL := hide ((unhide HP).later (BL.mono hhi))
  clear b1 e1 HI HP
  generalize hH : w.heap.size = H at *
  have HH := hide hH
  clear hH
  go_wp2_with fail
  obtain ⟨p0, p1, p2, p3, p4⟩ := id P
  have zM : (M != (m : Int)) = false := by simp [hM]
  refine wp_region_held_drew (S := (fun w' => w'.cell? ⟨H, 0, none⟩ = some (.int .i64 op) ∧ w'.cell? ⟨H, 1, none⟩ = some (.int .i64 a) ∧ w'.cell? ⟨H, 2, none⟩ = some (.int .i64 b) ∧ w'.cell? ⟨H, 3, none⟩ = some (.string s) ∧ w'.cell? ⟨H, 4, none⟩ = some (.slice ad m cp))) (by kernel_rfl) ?_ (fun hHeld => ?_)
  · exact ⟨p0, p1, p2, p3, p4⟩
  refine wpAnyH_take (i := 0) (v := ?_) rfl (by kernel_rfl) (by kernel_rfl) (by kernel_rfl) (fun _ _ _ h => h) (Or.inl ⟨by rfl, ?_⟩) (by assumption) ?_
  rotate_left
  · (intro w hSw; (try dsimp only at hSw); first | (go_simp; done) | (go_simp; with_reducible rfl))
  try simp only [List.getElem_toArray, List.getElem_cons_succ, List.getElem_cons_zero, Act.put, List.setIfInBounds_toArray, List.set_cons_zero, List.set_cons_succ]
  refine wpAnyH_take (i := 1) (v := ?_) rfl (by kernel_rfl) (by kernel_rfl) (by kernel_rfl) (fun _ _ _ h => h) (Or.inl ⟨by rfl, ?_⟩) (by assumption) ?_
  rotate_left
  · (intro w hSw; (try dsimp only at hSw); first | (go_simp; done) | (go_simp; with_reducible rfl))
  try simp only [List.getElem_toArray, List.getElem_cons_succ, List.getElem_cons_zero, Act.put, List.setIfInBounds_toArray, List.set_cons_zero, List.set_cons_succ]
  refine wpAnyH_take (i := 2) (v := ?_) rfl (by kernel_rfl) (by kernel_rfl) (by kernel_rfl) (fun _ _ _ h => h) (Or.inl ⟨by rfl, ?_⟩) (by assumption) ?_
  rotate_left
  · (intro w hSw; (try dsimp only at hSw); first | (go_simp; done) | (go_simp; with_reducible rfl))
  try simp only [List.getElem_toArray, List.getElem_cons_succ, List.getElem_cons_zero, Act.put, List.setIfInBounds_toArray, List.set_cons_zero, List.set_cons_succ]
  refine wpAnyH_take (i := 3) (v := ?_) rfl (by kernel_rfl) (by kernel_rfl) (by kernel_rfl) (fun _ _ _ h => h) (Or.inl ⟨by rfl, ?_⟩) (by assumption) ?_
  rotate_left
  · (intro w hSw; (try dsimp only at hSw); first | (go_simp; done) | (go_simp; with_reducible rfl))
  try simp only [List.getElem_toArray, List.getElem_cons_succ, List.getElem_cons_zero, Act.put, List.setIfInBounds_toArray, List.set_cons_zero, List.set_cons_succ]
  refine wpAnyH_take (i := 5) (v := ?_) rfl (by kernel_rfl) (by kernel_rfl) (by kernel_rfl) (fun _ _ _ h => h) (Or.inl ⟨by rfl, ?_⟩) (by assumption) ?_
  rotate_left
  · (intro w hSw; (try dsimp only at hSw); first | (go_simp; done) | (go_simp; with_reducible rfl))
  try simp only [List.getElem_toArray, List.getElem_cons_succ, List.getElem_cons_zero, Act.put, List.setIfInBounds_toArray, List.set_cons_zero, List.set_cons_succ]
  refine wpAnyH_ready (rs := [4]) (by kernel_rfl) (by simp) ?_
  refine AllReadyH.cons rfl (fun K hK => ?_) AllReadyH.nil
  go_simp
  refine (unhide HCP _).mono ?_
  rintro e wq ⟨rfl, bq⟩
  replace P := Box5.later (by exact P) bq
  replace f0 := fzF bq (World.block_lt_of_cell? _ _ (by exact r0)) (by exact f0)
  replace f1 := fzF bq (World.block_lt_of_cell? _ _ (by exact r1)) (by exact f1)
  replace r0 := cell_later bq (by exact r0)
  replace r1 := cell_later bq (by exact r1)
  replace BL := (show Below H w _ from by first | exact BL.trans (bq.mono (by exact Nat.le_trans (Nat.le_add_right _ _) kz)) | exact BL.drew.trans (bq.mono (by exact Nat.le_trans (Nat.le_add_right _ _) kz)))
  replace I := hide (show (TT.node op a b s m kid).In _ lo hi ad from by first | exact (unhide I).later (bq.mono (by exact Nat.le_trans hhi (Nat.le_trans (Nat.le_add_right _ _) kz))) | exact (unhide I).drew.later (bq.mono (by exact Nat.le_trans hhi (Nat.le_trans (Nat.le_add_right _ _) kz))))
  replace PL := hide (show Pl _ lo hi from by first | exact (unhide PL).later (bq.mono (by exact Nat.le_trans hhi (Nat.le_trans (Nat.le_add_right _ _) kz))) | exact (unhide PL).drew.later (bq.mono (by exact Nat.le_trans hhi (Nat.le_trans (Nat.le_add_right _ _) kz))))
  replace kz := Nat.le_trans kz bq.size
  clear bq
  go_wp2_with fail
  refine hK.out _ _ ?_ (fun hHeld => ?_)
  · exact ⟨P.1, P.2.1, P.2.2.1, P.2.2.2.1, P.2.2.2.2⟩
  clear hK K
  try simp only [List.getElem_toArray, List.getElem_cons_succ, List.getElem_cons_zero, Act.put, List.setIfInBounds_toArray, List.set_cons_zero, List.set_cons_succ]
  refine wpAnyH_ready (rs := [6]) (by kernel_rfl) (by simp) ?_
  refine AllReadyH.cons rfl (fun K hK => ?_) AllReadyH.nil
  go_simp
  refine (headSame_any _ _ _ _ _ _ _ _ _ _ _ _ _ _ _).mono ?_
  rintro e wq ⟨rfl, bq⟩
  replace P := Box5.later (by exact P) bq
  replace f0 := fzF bq (World.block_lt_of_cell? _ _ (by exact r0)) (by exact f0)
  replace f1 := fzF bq (World.block_lt_of_cell? _ _ (by exact r1)) (by exact f1)
  replace r0 := cell_later bq (by exact r0)
  replace r1 := cell_later bq (by exact r1)
  replace BL := (show Below H w _ from by first | exact BL.trans (bq.mono (by exact Nat.le_trans (Nat.le_add_right _ _) kz)) | exact BL.drew.trans (bq.mono (by exact Nat.le_trans (Nat.le_add_right _ _) kz)))
  replace I := hide (show (TT.node op a b s m kid).In _ lo hi ad from by first | exact (unhide I).later (bq.mono (by exact Nat.le_trans hhi (Nat.le_trans (Nat.le_add_right _ _) kz))) | exact (unhide I).drew.later (bq.mono (by exact Nat.le_trans hhi (Nat.le_trans (Nat.le_add_right _ _) kz))))
  replace PL := hide (show Pl _ lo hi from by first | exact (unhide PL).later (bq.mono (by exact Nat.le_trans hhi (Nat.le_trans (Nat.le_add_right _ _) kz))) | exact (unhide PL).drew.later (bq.mono (by exact Nat.le_trans hhi (Nat.le_trans (Nat.le_add_right _ _) kz))))
  replace kz := Nat.le_trans kz bq.size
  clear bq
  rw [hhs]
  go_wp2_with fail
  refine hK.out _ _ ?_ (fun hHeld => ?_)
  · exact ⟨P.1, P.2.1, P.2.2.1, P.2.2.2.1, P.2.2.2.2⟩
  clear hK K
  try simp only [List.getElem_toArray, List.getElem_cons_succ, List.getElem_cons_zero, Act.put, List.setIfInBounds_toArray, List.set_cons_zero, List.set_cons_succ]
  refine wpAnyH_take (i := 7) (v := ?_) rfl (by kernel_rfl) (by kernel_rfl) (by kernel_rfl) (fun _ _ _ h => h) (Or.inl ⟨by rfl, ?_⟩) (by assumption) ?_
  rotate_left
  · (intro w hSw; (try dsimp only at hSw); first | (go_simp; done) | (go_simp; with_reducible rfl))
  try simp only [List.getElem_toArray, List.getElem_cons_succ, List.getElem_cons_zero, Act.put, List.setIfInBounds_toArray, List.set_cons_zero, List.set_cons_succ]
  refine wpAnyH_take (i := 8) (v := ?_) rfl (by kernel_rfl) (by kernel_rfl) (by kernel_rfl) (fun _ _ _ h => h) (Or.inl ⟨by rfl, ?_⟩) (by assumption) ?_
  rotate_left
  · (intro w hSw; (try dsimp only at hSw); first | (go_simp; done) | (go_simp; with_reducible rfl))
  try simp only [List.getElem_toArray, List.getElem_cons_succ, List.getElem_cons_zero, Act.put, List.setIfInBounds_toArray, List.set_cons_zero, List.set_cons_succ]
  refine wpAnyH_take (i := 9) (v := ?_) rfl (by kernel_rfl) (by kernel_rfl) (by kernel_rfl) (fun _ _ _ h => h) (Or.inl ⟨by rfl, ?_⟩) (by assumption) ?_
  rotate_left
  · (intro w hSw; (try dsimp only at hSw); first | (go_simp; done) | (go_simp; with_reducible rfl))
  try simp only [List.getElem_toArray, List.getElem_cons_succ, List.getElem_cons_zero, Act.put, List.setIfInBounds_toArray, List.set_cons_zero, List.set_cons_succ]
  refine wpAnyH_take (i := 10) (v := ?_) rfl (by kernel_rfl) (by kernel_rfl) (by kernel_rfl) (fun _ _ _ h => h) (Or.inl ⟨by rfl, ?_⟩) (by assumption) ?_
  rotate_left
  · (intro w hSw; (try dsimp only at hSw); first | (go_simp; done) | (go_simp; with_reducible rfl))
  try simp only [List.getElem_toArray, List.getElem_cons_succ, List.getElem_cons_zero, Act.put, List.setIfInBounds_toArray, List.set_cons_zero, List.set_cons_succ]
  refine wpAnyH_take (i := 12) (v := ?_) rfl (by kernel_rfl) (by kernel_rfl) (by kernel_rfl) (fun _ _ _ h => h) (Or.inl ⟨by rfl, ?_⟩) (by assumption) ?_
  rotate_left
  · (intro w hSw; (try dsimp only at hSw); first | (go_simp; done) | (go_simp; with_reducible rfl))
  try simp only [List.getElem_toArray, List.getElem_cons_succ, List.getElem_cons_zero, Act.put, List.setIfInBounds_toArray, List.set_cons_zero, List.set_cons_succ]
  refine wpAnyH_take (i := 13) (v := ?_) rfl (by kernel_rfl) (by kernel_rfl) (by kernel_rfl) (fun _ _ _ h => h) (Or.inl ⟨by rfl, ?_⟩) (by assumption) ?_
  rotate_left
  · (intro w hSw; (try dsimp only at hSw); first | (go_simp; done) | (go_simp; with_reducible rfl))
  try simp only [List.getElem_toArray, List.getElem_cons_succ, List.getElem_cons_zero, Act.put, List.setIfInBounds_toArray, List.set_cons_zero, List.set_cons_succ]
  refine wpAnyH_take (i := 14) (v := ?_) rfl (by kernel_rfl) (by kernel_rfl) (by kernel_rfl) (fun _ _ _ h => h) (Or.inl ⟨by rfl, ?_⟩) (by assumption) ?_
  rotate_left
  · (intro w hSw; (try dsimp only at hSw); first | (go_simp; done) | (go_simp; with_reducible rfl))
  try simp only [List.getElem_toArray, List.getElem_cons_succ, List.getElem_cons_zero, Act.put, List.setIfInBounds_toArray, List.set_cons_zero, List.set_cons_succ]
  refine wpAnyH_ready (rs := [11]) (by kernel_rfl) (by simp) ?_
  refine AllReadyH.cons rfl (fun K hK => ?_) AllReadyH.nil
  go_simp
  refine (unhide HCM _).mono ?_
  rintro e wq ⟨rfl, bq⟩
  replace P := Box5.later (by exact P) bq
  replace f0 := fzF bq (World.block_lt_of_cell? _ _ (by exact r0)) (by exact f0)
  replace f1 := fzF bq (World.block_lt_of_cell? _ _ (by exact r1)) (by exact f1)
  replace r0 := cell_later bq (by exact r0)
  replace r1 := cell_later bq (by exact r1)
  replace BL := (show Below H w _ from by first | exact BL.trans (bq.mono (by exact Nat.le_trans (Nat.le_add_right _ _) kz)) | exact BL.drew.trans (bq.mono (by exact Nat.le_trans (Nat.le_add_right _ _) kz)))
  replace I := hide (show (TT.node op a b s m kid).In _ lo hi ad from by first | exact (unhide I).later (bq.mono (by exact Nat.le_trans hhi (Nat.le_trans (Nat.le_add_right _ _) kz))) | exact (unhide I).drew.later (bq.mono (by exact Nat.le_trans hhi (Nat.le_trans (Nat.le_add_right _ _) kz))))
  replace PL := hide (show Pl _ lo hi from by first | exact (unhide PL).later (bq.mono (by exact Nat.le_trans hhi (Nat.le_trans (Nat.le_add_right _ _) kz))) | exact (unhide PL).drew.later (bq.mono (by exact Nat.le_trans hhi (Nat.le_trans (Nat.le_add_right _ _) kz))))
  replace kz := Nat.le_trans kz bq.size
  clear bq
  go_wp2_with fail
  refine hK.out _ _ ?_ (fun hHeld => ?_)
  · exact ⟨P.1, P.2.1, P.2.2.1, P.2.2.2.1, P.2.2.2.2⟩
  clear hK K
  try simp only [List.getElem_toArray, List.getElem_cons_succ, List.getElem_cons_zero, Act.put, List.setIfInBounds_toArray, List.set_cons_zero, List.set_cons_succ]
  refine wpAnyH_take (i := 15) (v := ?_) rfl (by kernel_rfl) (by kernel_rfl) (by kernel_rfl) (fun _ _ _ h => h) (Or.inl ⟨by rfl, ?_⟩) (by assumption) ?_
  rotate_left
  · (intro w hSw; (try dsimp only at hSw); first | (go_simp; done) | (go_simp; with_reducible rfl))
  try simp only [List.getElem_toArray, List.getElem_cons_succ, List.getElem_cons_zero, Act.put, List.setIfInBounds_toArray, List.set_cons_zero, List.set_cons_succ]
  refine wpAnyH_take (i := 16) (v := ?_) rfl (by kernel_rfl) (by kernel_rfl) (by kernel_rfl) (fun _ _ _ h => h) (Or.inl ⟨by rfl, ?_⟩) (by assumption) ?_
  rotate_left
  · (intro w hSw; (try dsimp only at hSw); first | (go_simp; done) | (go_simp; with_reducible rfl))
  try simp only [List.getElem_toArray, List.getElem_cons_succ, List.getElem_cons_zero, Act.put, List.setIfInBounds_toArray, List.set_cons_zero, List.set_cons_succ]
  refine wpAnyH_done (by kernel_rfl) ?_ _
  clear hmp hmm hep hem HCP HCM HKD
  obtain rfl := unhide HT
  obtain rfl := unhide HKV
  have ta1 := @ta1_no 52 (.agg #[]) (by decide)
  have ta := ta2_yes (.agg #[])
  go_wp2_with fail
  obtain ⟨wk, hwk⟩ : ∃ v, v = wq.alloc (.cells #[] 52) := ⟨_, rfl⟩
  have bk : Below wq.heap.size wq wk := by rw [hwk]; exact (Below.refl _ _).alloc (Nat.le_refl _) _
  have kH : H ≤ wq.heap.size := by omega
  rw [← hwk]
  replace f0 := fz_later bk (by exact r0) (by exact f0)
  replace f1 := fz_later bk (by exact r1) (by exact f1)
  replace r0 := cell_later bk (by exact r0)
  replace r1 := cell_later bk (by exact r1)
  replace BL := (show Below H w _ from by first | exact BL.trans (bk.mono (by exact kH)) | exact BL.drew.trans (bk.mono (by exact kH)))
  replace kH := (show H ≤ _ from Nat.le_trans kH bk.size)
  clear hwk bk P p0 p1 p2 p3 p4 I PL
  refine (truF true _).mono ?_
  rintro e wv ⟨rfl, bv⟩
  replace f0 := fz_later bv (by exact r0) (by exact f0)
  replace f1 := fz_later bv (by exact r1) (by exact f1)
  replace r0 := cell_later bv (by exact r0)
  replace r1 := cell_later bv (by exact r1)
  replace BL := (show Below H w _ from by first | exact BL.trans (bv.mono (by exact kH)) | exact BL.drew.trans (bv.mono (by exact kH)))
  replace kH := (show H ≤ _ from Nat.le_trans kH bv.size)
  clear bv
  go_wp2
  exact bodyPost_ret (v := .tuple #[.agg #[.int .i64 0, .int .i64 1], .bool true]) (by simp [results, Try.results14, go_sem, r0, r1]) rfl ⟨rfl, by rw [unhide HH]; exact (BL.setCell (by simp) _).setCell (by simp) _⟩
set_option maxHeartbeats 4000000 in
theorem fx_nos (lo hi : Nat) (op a b : Int) (s : ByteArray) (m : Nat) (kid : Nat → TT) (T : TypeId) (kv rp : Value) (hT : T = 56) (hkv : kv = .agg #[.int .i64 op]) (fp fm : FuncId) (op' a' b' : Int) (s' : ByteArray) (M : Int)
    (hkd : ∀ (ad : Option Addr) (cp : Nat) (w : World), Calls Try.prog 17 #[.agg #[.int .i64 op, .int .i64 a, .int .i64 b, .string s, .slice ad m cp]] w fun e w' => e = .returned (.tuple #[.iface T kv, .bool true]) ∧ Below w.heap.size w w')
    (hmp : ∀ w : World, (method 198 T kv "loop.example/seedlip/impl.part").run Try.prog w = .ok (fp, rp) w)
    (hmm : ∀ w : World, (method 198 T kv "loop.example/seedlip/impl.many").run Try.prog w = .ok (fm, kv) w)
    (hep : ∀ (args : Array Value) (w : World), (callFunc fp args).run Try.prog w = .ok (.enter fp args) w) (hem : ∀ (args : Array Value) (w : World), (callFunc fm args).run Try.prog w = .ok (.enter fm args) w)
    (hcp : ∀ w : World, Calls Try.prog fp #[rp] w fun e w' => e = .returned (.agg #[.int .i64 op', .int .i64 a', .int .i64 b', .string s', .slice none 0 0]) ∧ Below w.heap.size w w')
    (hcm : ∀ w : World, Calls Try.prog fm #[kv] w fun e w' => e = .returned (.int .i64 M) ∧ Below w.heap.size w w') (hhs : hsB op' a' b' s' op a b s = true) (hM : M = m) (h1 : M = 1) (hlo : lo ≤ hi) (hf : (TT.node op a b s m kid).Fit 1048576) (hN : (TT.node op a b s m kid).N ≤ 1048577) (ad : Option Addr) (cp : Nat) (w : World) (hin : (TT.node op a b s m kid).In w lo hi ad) (hp : Pl w lo hi) (hhi : hi ≤ w.heap.size) :
    Calls Try.prog 14 #[.agg #[.int .i64 op, .int .i64 a, .int .i64 b, .string s, .slice ad m cp]] w fun e w' => e = .returned (.tuple #[.agg #[.int .i64 0, .int .i64 0], .bool (sameB (kid 0) truT)]) ∧ Below w.heap.size w w' := by
  have HT := hide hT
  have HKV := hide hkv
  clear hT hkv
  have HI := hide hin
  have HP := hide hp
  clear hin hp
  have HKD := hide hkd
  have HCP := hide hcp
  have HCM := hide hcm
  clear hkd hcp hcm
  go_enter Try.func14, Try.ntmps14
  go_wp2_with fail
  have e1 := ((Below.refl w.heap.size w).alloc (Nat.le_refl _) (.cells #[.int .i64 op, .int .i64 a, .int .i64 b, .string s, .slice ad m cp] 30)).alloc (by simp) (.cells #[.int .i64 0, .int .i64 0] 38)
  refine (unhide HKD _ _ _).mono ?_
  rintro e w1 ⟨rfl, b1⟩
  have P : Box5 w1 w.heap.size op a b s ad m cp := ⟨cell_later b1 (by simp [go_sem]), cell_later b1 (by simp [go_sem]), cell_later b1 (by simp [go_sem]), cell_later b1 (by simp [go_sem]), cell_later b1 (by simp [go_sem])⟩
  have r0 : w1.cell? ⟨w.heap.size + 1, 0, none⟩ = some (.int .i64 0) := cell_later b1 (by simp [go_sem])
  have r1 : w1.cell? ⟨w.heap.size + 1, 1, none⟩ = some (.int .i64 0) := cell_later b1 (by simp [go_sem])
  have f0 : w1.frozen? ⟨w.heap.size + 1, 0, none⟩ = false := by rw [b1.frozen (by simp)]; simp [go_sem]
  have f1 : w1.frozen? ⟨w.heap.size + 1, 1, none⟩ = false := by rw [b1.frozen (by simp)]; simp [go_sem]
  have BL := e1.trans (b1.mono (by simp <;> omega))
  have kz : w.heap.size + 2 ≤ w1.heap.size := by have := b1.size; simp at this; omega
  have I := hide ((unhide HI).later (BL.mono hhi))
  have PL := hide ((unhide HP).later (BL.mono hhi))
  clear b1 e1 HI HP
  generalize hH : w.heap.size = H at *
  have HH := hide hH
  clear hH
  go_wp2_with fail
  obtain ⟨p0, p1, p2, p3, p4⟩ := id P
  have zM : (M != (m : Int)) = false := by simp [hM]
  refine wp_region_held_drew (S := (fun w' => w'.cell? ⟨H, 0, none⟩ = some (.int .i64 op) ∧ w'.cell? ⟨H, 1, none⟩ = some (.int .i64 a) ∧ w'.cell? ⟨H, 2, none⟩ = some (.int .i64 b) ∧ w'.cell? ⟨H, 3, none⟩ = some (.string s) ∧ w'.cell? ⟨H, 4, none⟩ = some (.slice ad m cp))) (by kernel_rfl) ?_ (fun hHeld => ?_)
  · exact ⟨p0, p1, p2, p3, p4⟩
  refine wpAnyH_take (i := 0) (v := ?_) rfl (by kernel_rfl) (by kernel_rfl) (by kernel_rfl) (fun _ _ _ h => h) (Or.inl ⟨by rfl, ?_⟩) (by assumption) ?_
  rotate_left
  · (intro w hSw; (try dsimp only at hSw); first | (go_simp; done) | (go_simp; with_reducible rfl))
  try simp only [List.getElem_toArray, List.getElem_cons_succ, List.getElem_cons_zero, Act.put, List.setIfInBounds_toArray, List.set_cons_zero, List.set_cons_succ]
  refine wpAnyH_take (i := 1) (v := ?_) rfl (by kernel_rfl) (by kernel_rfl) (by kernel_rfl) (fun _ _ _ h => h) (Or.inl ⟨by rfl, ?_⟩) (by assumption) ?_
  rotate_left
  · (intro w hSw; (try dsimp only at hSw); first | (go_simp; done) | (go_simp; with_reducible rfl))
  try simp only [List.getElem_toArray, List.getElem_cons_succ, List.getElem_cons_zero, Act.put, List.setIfInBounds_toArray, List.set_cons_zero, List.set_cons_succ]
  refine wpAnyH_take (i := 2) (v := ?_) rfl (by kernel_rfl) (by kernel_rfl) (by kernel_rfl) (fun _ _ _ h => h) (Or.inl ⟨by rfl, ?_⟩) (by assumption) ?_
  rotate_left
  · (intro w hSw; (try dsimp only at hSw); first | (go_simp; done) | (go_simp; with_reducible rfl))
  try simp only [List.getElem_toArray, List.getElem_cons_succ, List.getElem_cons_zero, Act.put, List.setIfInBounds_toArray, List.set_cons_zero, List.set_cons_succ]
  refine wpAnyH_take (i := 3) (v := ?_) rfl (by kernel_rfl) (by kernel_rfl) (by kernel_rfl) (fun _ _ _ h => h) (Or.inl ⟨by rfl, ?_⟩) (by assumption) ?_
  rotate_left
  · (intro w hSw; (try dsimp only at hSw); first | (go_simp; done) | (go_simp; with_reducible rfl))
  try simp only [List.getElem_toArray, List.getElem_cons_succ, List.getElem_cons_zero, Act.put, List.setIfInBounds_toArray, List.set_cons_zero, List.set_cons_succ]
  refine wpAnyH_take (i := 5) (v := ?_) rfl (by kernel_rfl) (by kernel_rfl) (by kernel_rfl) (fun _ _ _ h => h) (Or.inl ⟨by rfl, ?_⟩) (by assumption) ?_
  rotate_left
  · (intro w hSw; (try dsimp only at hSw); first | (go_simp; done) | (go_simp; with_reducible rfl))
  try simp only [List.getElem_toArray, List.getElem_cons_succ, List.getElem_cons_zero, Act.put, List.setIfInBounds_toArray, List.set_cons_zero, List.set_cons_succ]
  refine wpAnyH_ready (rs := [4]) (by kernel_rfl) (by simp) ?_
  refine AllReadyH.cons rfl (fun K hK => ?_) AllReadyH.nil
  go_simp
  refine (unhide HCP _).mono ?_
  rintro e wq ⟨rfl, bq⟩
  replace P := Box5.later (by exact P) bq
  replace f0 := fzF bq (World.block_lt_of_cell? _ _ (by exact r0)) (by exact f0)
  replace f1 := fzF bq (World.block_lt_of_cell? _ _ (by exact r1)) (by exact f1)
  replace r0 := cell_later bq (by exact r0)
  replace r1 := cell_later bq (by exact r1)
  replace BL := (show Below H w _ from by first | exact BL.trans (bq.mono (by exact Nat.le_trans (Nat.le_add_right _ _) kz)) | exact BL.drew.trans (bq.mono (by exact Nat.le_trans (Nat.le_add_right _ _) kz)))
  replace I := hide (show (TT.node op a b s m kid).In _ lo hi ad from by first | exact (unhide I).later (bq.mono (by exact Nat.le_trans hhi (Nat.le_trans (Nat.le_add_right _ _) kz))) | exact (unhide I).drew.later (bq.mono (by exact Nat.le_trans hhi (Nat.le_trans (Nat.le_add_right _ _) kz))))
  replace PL := hide (show Pl _ lo hi from by first | exact (unhide PL).later (bq.mono (by exact Nat.le_trans hhi (Nat.le_trans (Nat.le_add_right _ _) kz))) | exact (unhide PL).drew.later (bq.mono (by exact Nat.le_trans hhi (Nat.le_trans (Nat.le_add_right _ _) kz))))
  replace kz := Nat.le_trans kz bq.size
  clear bq
  go_wp2_with fail
  refine hK.out _ _ ?_ (fun hHeld => ?_)
  · exact ⟨P.1, P.2.1, P.2.2.1, P.2.2.2.1, P.2.2.2.2⟩
  clear hK K
  try simp only [List.getElem_toArray, List.getElem_cons_succ, List.getElem_cons_zero, Act.put, List.setIfInBounds_toArray, List.set_cons_zero, List.set_cons_succ]
  refine wpAnyH_ready (rs := [6]) (by kernel_rfl) (by simp) ?_
  refine AllReadyH.cons rfl (fun K hK => ?_) AllReadyH.nil
  go_simp
  refine (headSame_any _ _ _ _ _ _ _ _ _ _ _ _ _ _ _).mono ?_
  rintro e wq ⟨rfl, bq⟩
  replace P := Box5.later (by exact P) bq
  replace f0 := fzF bq (World.block_lt_of_cell? _ _ (by exact r0)) (by exact f0)
  replace f1 := fzF bq (World.block_lt_of_cell? _ _ (by exact r1)) (by exact f1)
  replace r0 := cell_later bq (by exact r0)
  replace r1 := cell_later bq (by exact r1)
  replace BL := (show Below H w _ from by first | exact BL.trans (bq.mono (by exact Nat.le_trans (Nat.le_add_right _ _) kz)) | exact BL.drew.trans (bq.mono (by exact Nat.le_trans (Nat.le_add_right _ _) kz)))
  replace I := hide (show (TT.node op a b s m kid).In _ lo hi ad from by first | exact (unhide I).later (bq.mono (by exact Nat.le_trans hhi (Nat.le_trans (Nat.le_add_right _ _) kz))) | exact (unhide I).drew.later (bq.mono (by exact Nat.le_trans hhi (Nat.le_trans (Nat.le_add_right _ _) kz))))
  replace PL := hide (show Pl _ lo hi from by first | exact (unhide PL).later (bq.mono (by exact Nat.le_trans hhi (Nat.le_trans (Nat.le_add_right _ _) kz))) | exact (unhide PL).drew.later (bq.mono (by exact Nat.le_trans hhi (Nat.le_trans (Nat.le_add_right _ _) kz))))
  replace kz := Nat.le_trans kz bq.size
  clear bq
  rw [hhs]
  go_wp2_with fail
  refine hK.out _ _ ?_ (fun hHeld => ?_)
  · exact ⟨P.1, P.2.1, P.2.2.1, P.2.2.2.1, P.2.2.2.2⟩
  clear hK K
  try simp only [List.getElem_toArray, List.getElem_cons_succ, List.getElem_cons_zero, Act.put, List.setIfInBounds_toArray, List.set_cons_zero, List.set_cons_succ]
  refine wpAnyH_take (i := 7) (v := ?_) rfl (by kernel_rfl) (by kernel_rfl) (by kernel_rfl) (fun _ _ _ h => h) (Or.inl ⟨by rfl, ?_⟩) (by assumption) ?_
  rotate_left
  · (intro w hSw; (try dsimp only at hSw); first | (go_simp; done) | (go_simp; with_reducible rfl))
  try simp only [List.getElem_toArray, List.getElem_cons_succ, List.getElem_cons_zero, Act.put, List.setIfInBounds_toArray, List.set_cons_zero, List.set_cons_succ]
  refine wpAnyH_take (i := 8) (v := ?_) rfl (by kernel_rfl) (by kernel_rfl) (by kernel_rfl) (fun _ _ _ h => h) (Or.inl ⟨by rfl, ?_⟩) (by assumption) ?_
  rotate_left
  · (intro w hSw; (try dsimp only at hSw); first | (go_simp; done) | (go_simp; with_reducible rfl))
  try simp only [List.getElem_toArray, List.getElem_cons_succ, List.getElem_cons_zero, Act.put, List.setIfInBounds_toArray, List.set_cons_zero, List.set_cons_succ]
  refine wpAnyH_take (i := 9) (v := ?_) rfl (by kernel_rfl) (by kernel_rfl) (by kernel_rfl) (fun _ _ _ h => h) (Or.inl ⟨by rfl, ?_⟩) (by assumption) ?_
  rotate_left
  · (intro w hSw; (try dsimp only at hSw); first | (go_simp; done) | (go_simp; with_reducible rfl))
  try simp only [List.getElem_toArray, List.getElem_cons_succ, List.getElem_cons_zero, Act.put, List.setIfInBounds_toArray, List.set_cons_zero, List.set_cons_succ]
  refine wpAnyH_take (i := 10) (v := ?_) rfl (by kernel_rfl) (by kernel_rfl) (by kernel_rfl) (fun _ _ _ h => h) (Or.inl ⟨by rfl, ?_⟩) (by assumption) ?_
  rotate_left
  · (intro w hSw; (try dsimp only at hSw); first | (go_simp; done) | (go_simp; with_reducible rfl))
  try simp only [List.getElem_toArray, List.getElem_cons_succ, List.getElem_cons_zero, Act.put, List.setIfInBounds_toArray, List.set_cons_zero, List.set_cons_succ]
  refine wpAnyH_take (i := 12) (v := ?_) rfl (by kernel_rfl) (by kernel_rfl) (by kernel_rfl) (fun _ _ _ h => h) (Or.inl ⟨by rfl, ?_⟩) (by assumption) ?_
  rotate_left
  · (intro w hSw; (try dsimp only at hSw); first | (go_simp; done) | (go_simp; with_reducible rfl))
  try simp only [List.getElem_toArray, List.getElem_cons_succ, List.getElem_cons_zero, Act.put, List.setIfInBounds_toArray, List.set_cons_zero, List.set_cons_succ]
  refine wpAnyH_take (i := 13) (v := ?_) rfl (by kernel_rfl) (by kernel_rfl) (by kernel_rfl) (fun _ _ _ h => h) (Or.inl ⟨by rfl, ?_⟩) (by assumption) ?_
  rotate_left
  · (intro w hSw; (try dsimp only at hSw); first | (go_simp; done) | (go_simp; with_reducible rfl))
  try simp only [List.getElem_toArray, List.getElem_cons_succ, List.getElem_cons_zero, Act.put, List.setIfInBounds_toArray, List.set_cons_zero, List.set_cons_succ]
  refine wpAnyH_take (i := 14) (v := ?_) rfl (by kernel_rfl) (by kernel_rfl) (by kernel_rfl) (fun _ _ _ h => h) (Or.inl ⟨by rfl, ?_⟩) (by assumption) ?_
  rotate_left
  · (intro w hSw; (try dsimp only at hSw); first | (go_simp; done) | (go_simp; with_reducible rfl))
  try simp only [List.getElem_toArray, List.getElem_cons_succ, List.getElem_cons_zero, Act.put, List.setIfInBounds_toArray, List.set_cons_zero, List.set_cons_succ]
  refine wpAnyH_ready (rs := [11]) (by kernel_rfl) (by simp) ?_
  refine AllReadyH.cons rfl (fun K hK => ?_) AllReadyH.nil
  go_simp
  refine (unhide HCM _).mono ?_
  rintro e wq ⟨rfl, bq⟩
  replace P := Box5.later (by exact P) bq
  replace f0 := fzF bq (World.block_lt_of_cell? _ _ (by exact r0)) (by exact f0)
  replace f1 := fzF bq (World.block_lt_of_cell? _ _ (by exact r1)) (by exact f1)
  replace r0 := cell_later bq (by exact r0)
  replace r1 := cell_later bq (by exact r1)
  replace BL := (show Below H w _ from by first | exact BL.trans (bq.mono (by exact Nat.le_trans (Nat.le_add_right _ _) kz)) | exact BL.drew.trans (bq.mono (by exact Nat.le_trans (Nat.le_add_right _ _) kz)))
  replace I := hide (show (TT.node op a b s m kid).In _ lo hi ad from by first | exact (unhide I).later (bq.mono (by exact Nat.le_trans hhi (Nat.le_trans (Nat.le_add_right _ _) kz))) | exact (unhide I).drew.later (bq.mono (by exact Nat.le_trans hhi (Nat.le_trans (Nat.le_add_right _ _) kz))))
  replace PL := hide (show Pl _ lo hi from by first | exact (unhide PL).later (bq.mono (by exact Nat.le_trans hhi (Nat.le_trans (Nat.le_add_right _ _) kz))) | exact (unhide PL).drew.later (bq.mono (by exact Nat.le_trans hhi (Nat.le_trans (Nat.le_add_right _ _) kz))))
  replace kz := Nat.le_trans kz bq.size
  clear bq
  go_wp2_with fail
  refine hK.out _ _ ?_ (fun hHeld => ?_)
  · exact ⟨P.1, P.2.1, P.2.2.1, P.2.2.2.1, P.2.2.2.2⟩
  clear hK K
  try simp only [List.getElem_toArray, List.getElem_cons_succ, List.getElem_cons_zero, Act.put, List.setIfInBounds_toArray, List.set_cons_zero, List.set_cons_succ]
  refine wpAnyH_take (i := 15) (v := ?_) rfl (by kernel_rfl) (by kernel_rfl) (by kernel_rfl) (fun _ _ _ h => h) (Or.inl ⟨by rfl, ?_⟩) (by assumption) ?_
  rotate_left
  · (intro w hSw; (try dsimp only at hSw); first | (go_simp; done) | (go_simp; with_reducible rfl))
  try simp only [List.getElem_toArray, List.getElem_cons_succ, List.getElem_cons_zero, Act.put, List.setIfInBounds_toArray, List.set_cons_zero, List.set_cons_succ]
  refine wpAnyH_take (i := 16) (v := ?_) rfl (by kernel_rfl) (by kernel_rfl) (by kernel_rfl) (fun _ _ _ h => h) (Or.inl ⟨by rfl, ?_⟩) (by assumption) ?_
  rotate_left
  · (intro w hSw; (try dsimp only at hSw); first | (go_simp; done) | (go_simp; with_reducible rfl))
  try simp only [List.getElem_toArray, List.getElem_cons_succ, List.getElem_cons_zero, Act.put, List.setIfInBounds_toArray, List.set_cons_zero, List.set_cons_succ]
  refine wpAnyH_done (by kernel_rfl) ?_ _
  clear hmp hmm hep hem HCP HCM HKD
  obtain rfl := unhide HT
  obtain rfl := unhide HKV
  have ta1 := @ta1_no 56 (.agg #[.int .i64 op]) (by decide)
  have ta2 := @ta2_no 56 (.agg #[.int .i64 op]) (by decide)
  have ta := ta3_yes (.agg #[.int .i64 op])
  go_wp2_with fail
  have hm1 : m = 1 := by omega
  subst hm1
  obtain ⟨bl, off, rfl, hbl, hbh, ADs, CPs, hk⟩ := (unhide I).resolve_left (by omega)
  obtain ⟨D0, hc0, J0⟩ := hk 0 (by omega)
  obtain ⟨AD, hAD⟩ : ∃ x, x = ADs 0 := ⟨_, rfl⟩
  obtain ⟨CP, hCP⟩ : ∃ x, x = CPs 0 := ⟨_, rfl⟩
  rw [← hAD, ← hCP] at D0
  rw [← hAD] at J0
  rw [← hCP] at hc0
  have D : Five wq bl off (kid 0) AD CP := by simpa using D0
  have J := hide J0
  have khi : hi ≤ wq.heap.size := by omega
  have kH : H ≤ wq.heap.size := by omega
  have kbl : bl < H := by omega
  replace p4 := P.2.2.2.2
  clear hk D0 J0 hAD hCP I
  obtain ⟨wk, hwk⟩ : ∃ v, v = wq.alloc (.cells #[.int .i64 op] 56) := ⟨_, rfl⟩
  have bk : Below wq.heap.size wq wk := by rw [hwk]; exact (Below.refl _ _).alloc (Nat.le_refl _) _
  rw [← hwk]
  replace f0 := fz_later bk (by exact r0) (by exact f0)
  replace f1 := fz_later bk (by exact r1) (by exact f1)
  replace r0 := cell_later bk (by exact r0)
  replace r1 := cell_later bk (by exact r1)
  replace BL := (show Below H w _ from by first | exact BL.trans (bk.mono (by exact kH)) | exact BL.drew.trans (bk.mono (by exact kH)))
  replace kH := (show H ≤ _ from Nat.le_trans kH bk.size)
  replace p4 := cell_later bk (by exact p4)
  replace D := Five.later (by exact D) bk
  replace J := hide (show (kid 0).In _ lo hi AD from by first | exact (unhide J).later (bk.mono (by exact khi)) | exact (unhide J).drew.later (bk.mono (by exact khi)))
  replace PL := hide (show Pl _ lo hi from by first | exact (unhide PL).later (bk.mono (by exact khi)) | exact (unhide PL).drew.later (bk.mono (by exact khi)))
  replace khi := (show hi ≤ _ from Nat.le_trans khi bk.size)
  clear bk
  clear hwk P p0 p1 p2 p3
  obtain ⟨d0, d1, d2, d3, d4⟩ := id D
  have HFK : Hid ((kid 0).Fit 1048576) := hf.2.2 0 (by omega)
  have HNK : Hid ((kid 0).N ≤ 1048577) := Nat.le_trans (Nat.le_of_lt (kid_N (TT.node op a b s 1 kid) 0 Nat.one_pos)) hN
  clear hf hN
  refine wp_region_held_drew (S := (fun w' => w'.cell? ⟨H, 4, none⟩ = some (.slice (some ⟨bl, off, none⟩) 1 cp) ∧ w'.cell? ⟨bl, off, none⟩ = some (.int .i64 (kid 0).op) ∧ w'.cell? ⟨bl, off + 1, none⟩ = some (.int .i64 (kid 0).a) ∧ w'.cell? ⟨bl, off + 2, none⟩ = some (.int .i64 (kid 0).b) ∧ w'.cell? ⟨bl, off + 3, none⟩ = some (.string (kid 0).s) ∧ w'.cell? ⟨bl, off + 4, none⟩ = some (.slice AD (kid 0).n CP))) (by kernel_rfl) ?_ (fun hHeld => ?_)
  · exact ⟨p4, d0, d1, d2, d3, d4⟩
  refine wpAnyH_take (i := 1) (v := ?_) rfl (by kernel_rfl) (by kernel_rfl) (by kernel_rfl) (fun _ _ _ h => h) (Or.inl ⟨by rfl, ?_⟩) (by assumption) ?_
  rotate_left
  · (intro w hSw; (try dsimp only at hSw); first | (go_simp; done) | (go_simp; with_reducible rfl))
  try simp only [List.getElem_toArray, List.getElem_cons_succ, List.getElem_cons_zero, Act.put, List.setIfInBounds_toArray, List.set_cons_zero, List.set_cons_succ]
  refine wpAnyH_take (i := 2) (v := ?_) rfl (by kernel_rfl) (by kernel_rfl) (by kernel_rfl) (fun _ _ _ h => h) (Or.inl ⟨by rfl, ?_⟩) (by assumption) ?_
  rotate_left
  · (intro w hSw; (try dsimp only at hSw); first | (go_simp; done) | (go_simp; with_reducible rfl))
  try simp only [List.getElem_toArray, List.getElem_cons_succ, List.getElem_cons_zero, Act.put, List.setIfInBounds_toArray, List.set_cons_zero, List.set_cons_succ]
  refine wpAnyH_take (i := 3) (v := ?_) rfl (by kernel_rfl) (by kernel_rfl) (by kernel_rfl) (fun _ _ _ h => h) (Or.inl ⟨by rfl, ?_⟩) (by assumption) ?_
  rotate_left
  · (intro w hSw; (try dsimp only at hSw); first | (go_simp; done) | (go_simp; with_reducible rfl))
  try simp only [List.getElem_toArray, List.getElem_cons_succ, List.getElem_cons_zero, Act.put, List.setIfInBounds_toArray, List.set_cons_zero, List.set_cons_succ]
  refine wpAnyH_take (i := 4) (v := ?_) rfl (by kernel_rfl) (by kernel_rfl) (by kernel_rfl) (fun _ _ _ h => h) (Or.inl ⟨by rfl, ?_⟩) (by assumption) ?_
  rotate_left
  · (intro w hSw; (try dsimp only at hSw); first | (go_simp; done) | (go_simp; with_reducible rfl))
  try simp only [List.getElem_toArray, List.getElem_cons_succ, List.getElem_cons_zero, Act.put, List.setIfInBounds_toArray, List.set_cons_zero, List.set_cons_succ]
  refine wpAnyH_take (i := 5) (v := ?_) rfl (by kernel_rfl) (by kernel_rfl) (by kernel_rfl) (fun _ _ _ h => h) (Or.inl ⟨by rfl, ?_⟩) (by assumption) ?_
  rotate_left
  · (intro w hSw; (try dsimp only at hSw); first | (go_simp; done) | (go_simp; with_reducible rfl))
  try simp only [List.getElem_toArray, List.getElem_cons_succ, List.getElem_cons_zero, Act.put, List.setIfInBounds_toArray, List.set_cons_zero, List.set_cons_succ]
  refine wpAnyH_ready (rs := [0]) (by kernel_rfl) (by simp) ?_
  refine AllReadyH.cons rfl (fun K hK => ?_) AllReadyH.nil
  go_simp
  refine (truF false _).mono ?_
  rintro e wt ⟨rfl, bt⟩
  replace f0 := fz_later bt (by exact r0) (by exact f0)
  replace f1 := fz_later bt (by exact r1) (by exact f1)
  replace r0 := cell_later bt (by exact r0)
  replace r1 := cell_later bt (by exact r1)
  replace BL := (show Below H w _ from by first | exact BL.trans (bt.mono (by exact kH)) | exact BL.drew.trans (bt.mono (by exact kH)))
  replace kH := (show H ≤ _ from Nat.le_trans kH bt.size)
  replace p4 := cell_later bt (by exact p4)
  replace D := Five.later (by exact D) bt
  replace J := hide (show (kid 0).In _ lo hi AD from by first | exact (unhide J).later (bt.mono (by exact khi)) | exact (unhide J).drew.later (bt.mono (by exact khi)))
  replace PL := hide (show Pl _ lo hi from by first | exact (unhide PL).later (bt.mono (by exact khi)) | exact (unhide PL).drew.later (bt.mono (by exact khi)))
  replace khi := (show hi ≤ _ from Nat.le_trans khi bt.size)
  clear bt
  go_wp2_with fail
  refine hK.out _ _ ?_ (fun hHeld => ?_)
  · exact ⟨p4, D.1, D.2.1, D.2.2.1, D.2.2.2.1, D.2.2.2.2⟩
  clear hK K
  try simp only [List.getElem_toArray, List.getElem_cons_succ, List.getElem_cons_zero, Act.put, List.setIfInBounds_toArray, List.set_cons_zero, List.set_cons_succ]
  refine wpAnyH_ready (rs := [6]) (by kernel_rfl) (by simp) ?_
  refine AllReadyH.cons rfl (fun K hK => ?_) AllReadyH.nil
  go_simp
  refine (part_tru _).mono ?_
  rintro e wu ⟨rfl, bu⟩
  replace f0 := fz_later bu (by exact r0) (by exact f0)
  replace f1 := fz_later bu (by exact r1) (by exact f1)
  replace r0 := cell_later bu (by exact r0)
  replace r1 := cell_later bu (by exact r1)
  replace BL := (show Below H w _ from by first | exact BL.trans (bu.mono (by exact kH)) | exact BL.drew.trans (bu.mono (by exact kH)))
  replace kH := (show H ≤ _ from Nat.le_trans kH bu.size)
  replace p4 := cell_later bu (by exact p4)
  replace D := Five.later (by exact D) bu
  replace J := hide (show (kid 0).In _ lo hi AD from by first | exact (unhide J).later (bu.mono (by exact khi)) | exact (unhide J).drew.later (bu.mono (by exact khi)))
  replace PL := hide (show Pl _ lo hi from by first | exact (unhide PL).later (bu.mono (by exact khi)) | exact (unhide PL).drew.later (bu.mono (by exact khi)))
  replace khi := (show hi ≤ _ from Nat.le_trans khi bu.size)
  clear bu
  go_wp2_with fail
  refine hK.out _ _ ?_ (fun hHeld => ?_)
  · exact ⟨p4, D.1, D.2.1, D.2.2.1, D.2.2.2.1, D.2.2.2.2⟩
  clear hK K
  try simp only [List.getElem_toArray, List.getElem_cons_succ, List.getElem_cons_zero, Act.put, List.setIfInBounds_toArray, List.set_cons_zero, List.set_cons_succ]
  refine wpAnyH_ready (rs := [7]) (by kernel_rfl) (by simp) ?_
  refine AllReadyH.cons rfl (fun K hK => ?_) AllReadyH.nil
  go_simp
  refine (iSame_any lo hi (kid 0) truT AD none CP 0 _ (by first | exact unhide J | exact (unhide J).drew) (Or.inl rfl) hc0 (Nat.le_refl _) (by first | exact unhide PL | exact (unhide PL).drew) (by exact khi) hlo (unhide HFK) (unhide HNK)).mono ?_
  rintro e wv ⟨rfl, bv⟩
  replace f0 := fz_later bv (by exact r0) (by exact f0)
  replace f1 := fz_later bv (by exact r1) (by exact f1)
  replace r0 := cell_later bv (by exact r0)
  replace r1 := cell_later bv (by exact r1)
  replace BL := (show Below H w _ from by first | exact BL.trans (bv.mono (by exact kH)) | exact BL.drew.trans (bv.mono (by exact kH)))
  replace kH := (show H ≤ _ from Nat.le_trans kH bv.size)
  replace p4 := cell_later bv (by exact p4)
  replace D := Five.later (by exact D) bv
  replace J := hide (show (kid 0).In _ lo hi AD from by first | exact (unhide J).later (bv.mono (by exact khi)) | exact (unhide J).drew.later (bv.mono (by exact khi)))
  replace PL := hide (show Pl _ lo hi from by first | exact (unhide PL).later (bv.mono (by exact khi)) | exact (unhide PL).drew.later (bv.mono (by exact khi)))
  replace khi := (show hi ≤ _ from Nat.le_trans khi bv.size)
  clear bv
  go_wp2_with fail
  refine hK.out _ _ ?_ (fun hHeld => ?_)
  · exact ⟨p4, D.1, D.2.1, D.2.2.1, D.2.2.2.1, D.2.2.2.2⟩
  clear hK K
  try simp only [List.getElem_toArray, List.getElem_cons_succ, List.getElem_cons_zero, Act.put, List.setIfInBounds_toArray, List.set_cons_zero, List.set_cons_succ]
  refine wpAnyH_ready (rs := [8]) (by kernel_rfl) (by simp) ?_
  refine AllReadyH.cons rfl (fun K hK => ?_) AllReadyH.nil
  go_simp
  refine hK.out _ _ ?_ (fun hHeld => ?_)
  · exact ⟨by rw [World.cell?_setCell_other _ _ _ _ (by simp), World.cell?_setCell_other _ _ _ _ (by simp)]; exact p4, (by rw [World.cell?_setCell_other _ _ _ _ (by simp <;> omega), World.cell?_setCell_other _ _ _ _ (by simp <;> omega)]; exact D.1), (by rw [World.cell?_setCell_other _ _ _ _ (by simp <;> omega), World.cell?_setCell_other _ _ _ _ (by simp <;> omega)]; exact D.2.1), (by rw [World.cell?_setCell_other _ _ _ _ (by simp <;> omega), World.cell?_setCell_other _ _ _ _ (by simp <;> omega)]; exact D.2.2.1), (by rw [World.cell?_setCell_other _ _ _ _ (by simp <;> omega), World.cell?_setCell_other _ _ _ _ (by simp <;> omega)]; exact D.2.2.2.1), (by rw [World.cell?_setCell_other _ _ _ _ (by simp <;> omega), World.cell?_setCell_other _ _ _ _ (by simp <;> omega)]; exact D.2.2.2.2)⟩
  clear hK K
  try simp only [List.getElem_toArray, List.getElem_cons_succ, List.getElem_cons_zero, Act.put, List.setIfInBounds_toArray, List.set_cons_zero, List.set_cons_succ]
  refine wpAnyH_take (i := 9) (v := ?_) rfl (by kernel_rfl) (by kernel_rfl) (by kernel_rfl) (fun _ _ _ h => h) (Or.inl ⟨by rfl, ?_⟩) (by assumption) ?_
  rotate_left
  · (intro w hSw; (try dsimp only at hSw); first | (go_simp; done) | (go_simp; with_reducible rfl))
  try simp only [List.getElem_toArray, List.getElem_cons_succ, List.getElem_cons_zero, Act.put, List.setIfInBounds_toArray, List.set_cons_zero, List.set_cons_succ]
  refine wpAnyH_done (by kernel_rfl) ?_ _
  go_wp2
  exact bodyPost_ret (v := .tuple #[.agg #[.int .i64 0, .int .i64 0], .bool (sameB (kid 0) truT)]) (by simp [results, Try.results14, go_sem, r0, r1]) rfl ⟨rfl, by rw [unhide HH]; exact (BL.setCell (by simp) _).setCell (by simp) _⟩
end Go.Proofs.Ythchjeddfpfplaa
