/- What the program's partWorth returns, whatever the kind. -/
import Derived.Test.YtfopmobopmdahaaGreatMapA
import Derived.Test.YtfopmobopmdahaaGreatWrtD
namespace Go.Proofs.YtfopmobopmdahaaGreat
open Go.ChangeShapes Go.WideShapes Go.ChangeAt Go.RowKit Go.Joins
set_option linter.unusedVariables false
set_option linter.unusedSimpArgs false

theorem Vecs.put {w : World} {B k : Nat} {X Y : Nat → Int} {v0 v1 : Value} (h : Vecs w B k X Y) (hB : B < w.heap.size) (x y : Int) (o : Obj) (q0 : w.cell? ⟨B, k * 2, none⟩ = some v0) (q1 : w.cell? ⟨B, k * 2 + 1, none⟩ = some v1) :
    Vecs (((w.setCell ⟨B, k * 2, none⟩ (.int .i64 x)).setCell ⟨B, k * 2 + 1, none⟩ (.int .i64 y)).alloc o) B (k + 1) (fun i => if i = k then x else X i) (fun i => if i = k then y else Y i) := by
  have q1' : (w.setCell ⟨B, k * 2, none⟩ (.int .i64 x)).cell? ⟨B, k * 2 + 1, none⟩ = some v1 := by rw [World.cell?_setCell_other _ _ _ _ (by simp)]; exact q1
  have key : Vecs ((w.setCell ⟨B, k * 2, none⟩ (.int .i64 x)).setCell ⟨B, k * 2 + 1, none⟩ (.int .i64 y)) B (k + 1) (fun i => if i = k then x else X i) (fun i => if i = k then y else Y i) := by
    intro i hi
    by_cases e : i = k
    · subst e
      simp only [if_true]
      exact ⟨by rw [World.cell?_setCell_other _ _ _ _ (by simp)]; exact World.cell?_setCell_same _ _ _ q0, World.cell?_setCell_same _ _ _ q1'⟩
    · simp only [if_neg e]
      have hh := h i (by omega)
      refine ⟨?_, ?_⟩
      · rw [World.cell?_setCell_other _ _ _ _ (by simp <;> omega), World.cell?_setCell_other _ _ _ _ (by simp <;> omega)]; exact hh.1
      · rw [World.cell?_setCell_other _ _ _ _ (by simp <;> omega), World.cell?_setCell_other _ _ _ _ (by simp <;> omega)]; exact hh.2
  exact key.later ((Below.refl _ _).alloc (Nat.le_refl _) _)
theorem infoVec : (Tryz.prog.info? 107).map (fun i => (i.zero, i.size, i.bytes)) = some (some (.agg #[.int .i64 0, .int .i64 0]), 2, 16) := by kernel_rfl
set_option maxRecDepth 100000 in
set_option maxHeartbeats 4000000 in
theorem part_gen (hi B n : Nat) (S : Nat → ByteArray) (V E : Nat → Int) (op a b : Int) (s : ByteArray) (m : Nat) (kid : Nat → TT) (T : TypeId) (kv rp : Value) (fp fm fw : FuncId) (op' a' b' : Int) (s' : ByteArray) (M : Int)
    (KP : Nat → Int → Int → Prop) (KN : Nat → Prop) (Post : (Nat → Int) → (Nat → Int) → Int → Int → Bool → Prop)
    (hkd : ∀ (ad : Option Addr) (cp : Nat) (w : World), Calls Tryz.prog 93 #[.agg #[.int .i64 op, .int .i64 a, .int .i64 b, .string s, .slice ad m cp]] w fun e w' => e = .returned (.tuple #[.iface T kv, .bool true]) ∧ Below w.heap.size w w')
    (hmp : ∀ w : World, (method 295 T kv "loop.example/seedlip/impl.part").run Tryz.prog w = .ok (fp, rp) w)
    (hmm : ∀ w : World, (method 295 T kv "loop.example/seedlip/impl.many").run Tryz.prog w = .ok (fm, kv) w)
    (hmw : ∀ w : World, (method 295 T kv "loop.example/seedlip/impl.worth").run Tryz.prog w = .ok (fw, kv) w)
    (hep : ∀ (args : Array Value) (w : World), (callFunc fp args).run Tryz.prog w = .ok (.enter fp args) w) (hem : ∀ (args : Array Value) (w : World), (callFunc fm args).run Tryz.prog w = .ok (.enter fm args) w) (hew : ∀ (args : Array Value) (w : World), (callFunc fw args).run Tryz.prog w = .ok (.enter fw args) w)
    (hcp : ∀ w : World, Calls Tryz.prog fp #[rp] w fun e w' => e = .returned (.agg #[.int .i64 op', .int .i64 a', .int .i64 b', .string s', .slice none 0 0]) ∧ Below w.heap.size w w')
    (hcm : ∀ w : World, Calls Tryz.prog fm #[kv] w fun e w' => e = .returned (.int .i64 M) ∧ Below w.heap.size w w')
    (hcw : M = (m : Int) → ∀ (KB : Nat) (X Y : Nat → Int) (w : World), Vecs w KB m X Y → Known w B n S V E → Calls Tryz.prog fw #[kv, .map (some B), .slice (some ⟨KB, 0, none⟩) m m] w fun e w' => (∃ x y r, e = .returned (.tuple #[.agg #[.int .i64 x, .int .i64 y], .bool r]) ∧ Post X Y x y r) ∧ Below w.heap.size w w')
    (ih : ∀ i, i < m → ∀ (ad : Option Addr) (cp : Nat) (w : World), (kid i).In w 0 hi ad → hi ≤ w.heap.size → Known w B n S V E → Calls Tryz.prog 89 #[.map (some B), .agg #[.int .i64 (kid i).op, .int .i64 (kid i).a, .int .i64 (kid i).b, .string (kid i).s, .slice ad (kid i).n cp]] w fun e w' => (∃ x y r, e = .returned (.tuple #[.agg #[.int .i64 x, .int .i64 y], .bool r]) ∧ (r = true → KP i x y) ∧ (r = false → KN i)) ∧ Below w.heap.size w w')
    (hm20 : m ≤ 1048576) (ad : Option Addr) (cp : Nat) (w : World) (hin : (TT.node op a b s m kid).In w 0 hi ad) (hhi : hi ≤ w.heap.size) (hkn : Known w B n S V E) :
    Calls Tryz.prog 89 #[.map (some B), .agg #[.int .i64 op, .int .i64 a, .int .i64 b, .string s, .slice ad m cp]] w fun e w' =>
      (∃ x y r, e = .returned (.tuple #[.agg #[.int .i64 x, .int .i64 y], .bool r]) ∧ (r = false ∧ ¬ (hsB op' a' b' s' op a b s = true ∧ M = m) ∨ (hsB op' a' b' s' op a b s = true ∧ M = m) ∧ (r = false ∧ (∃ i, i < m ∧ KN i) ∨ ∃ X Y, (∀ i, i < m → KP i (X i) (Y i)) ∧ Post X Y x y r))) ∧ Below w.heap.size w w' := by
  have HKD := hide hkd
  have HCP := hide hcp
  have HCM := hide hcm
  have HCW := hide hcw
  have IH := hide ih
  have HI := hide hin
  have KN0 := hide hkn
  clear hkd hcp hcm hcw ih hin hkn
  have hmk := run_make_wide (P := Tryz.prog) 132 107 _ 2 16 Tryz.underlying132 infoVec .i64 .i64 m (by omega) (by omega)
  go_enter Tryz.func89, Tryz.ntmps89
  go_wp2_with fail
  have e1 := ((Below.refl w.heap.size w).alloc (Nat.le_refl _) (.cells #[.int .i64 op, .int .i64 a, .int .i64 b, .string s, .slice ad m cp] 50)).alloc (by simp) (.cells #[.int .i64 0, .int .i64 0] 107)
  refine (unhide HKD _ _ _).mono ?_
  rintro e w1 ⟨rfl, b1⟩
  have P : Box5 w1 w.heap.size op a b s ad m cp := ⟨cell_later b1 (by simp [go_sem]), cell_later b1 (by simp [go_sem]), cell_later b1 (by simp [go_sem]), cell_later b1 (by simp [go_sem]), cell_later b1 (by simp [go_sem])⟩
  have r0 : w1.cell? ⟨w.heap.size + 1, 0, none⟩ = some (.int .i64 0) := cell_later b1 (by simp [go_sem])
  have r1 : w1.cell? ⟨w.heap.size + 1, 1, none⟩ = some (.int .i64 0) := cell_later b1 (by simp [go_sem])
  have f0 : w1.frozen? ⟨w.heap.size + 1, 0, none⟩ = false := by rw [b1.frozen (by simp)]; simp [go_sem]
  have f1 : w1.frozen? ⟨w.heap.size + 1, 1, none⟩ = false := by rw [b1.frozen (by simp)]; simp [go_sem]
  have BL := e1.trans (b1.mono (by simp; omega))
  have kz : w.heap.size + 2 ≤ w1.heap.size := by have := b1.size; simp at this; omega
  have I := hide ((unhide HI).later (BL.mono hhi))
  have KN1 := hide ((unhide KN0).later BL)
  clear b1 e1 HI KN0
  generalize hH : w.heap.size = H at *
  have HH := hide hH
  clear hH
  go_wp2_with fail
  obtain ⟨p0, p1, p2, p3, p4⟩ := id P
  cases hhs : hsB op' a' b' s' op a b s
  · refine wp_region_held_drew (S := (fun w' => w'.cell? ⟨H, 0, none⟩ = some (.int .i64 op) ∧ w'.cell? ⟨H, 1, none⟩ = some (.int .i64 a) ∧ w'.cell? ⟨H, 2, none⟩ = some (.int .i64 b) ∧ w'.cell? ⟨H, 3, none⟩ = some (.string s) ∧ w'.cell? ⟨H, 4, none⟩ = some (.slice ad m cp))) (by kernel_rfl) ?_ (fun hHeld => ?_)
    · exact ⟨p0, p1, p2, p3, p4⟩
    refine wpAnyH_take (i := 0) (v := ?_) rfl (by kernel_rfl) (by kernel_rfl) (by kernel_rfl) (fun _ _ _ h => h) (Or.inl ⟨by rfl, ?_⟩) (by assumption) ?_
    rotate_left
    · (intro w hSw; (try dsimp only at hSw); first | (go_simp; done) | (go_simp; with_reducible rfl))
    try simp only [List.getElem_toArray, List.getElem_cons_succ, List.getElem_cons_zero, Act.put, List.setIfInBounds_toArray, List.set_cons_zero, List.set_cons_succ]
    refine wpAnyH_take (i := 1) (v := ?_) rfl (by kernel_rfl) (by kernel_rfl) (by kernel_rfl) (fun _ _ _ h => h) (Or.inl ⟨by rfl, ?_⟩) (by assumption) ?_
    rotate_left
    · (intro w hSw; (try dsimp only at hSw); first | (go_simp; done) | (go_simp; with_reducible rfl))
    try simp only [List.getElem_toArray, List.getElem_cons_succ, List.getElem_cons_zero, Act.put, List.setIfInBounds_toArray, List.set_cons_zero, List.set_cons_succ]
    refine wpAnyH_take (i := 2) (v := ?_) rfl (by kernel_rfl) (by kernel_rfl) (by kernel_rfl) (fun _ _ _ h => h) (Or.inl ⟨by rfl, ?_⟩) (by assumption) ?_
    rotate_left
    · (intro w hSw; (try dsimp only at hSw); first | (go_simp; done) | (go_simp; with_reducible rfl))
    try simp only [List.getElem_toArray, List.getElem_cons_succ, List.getElem_cons_zero, Act.put, List.setIfInBounds_toArray, List.set_cons_zero, List.set_cons_succ]
    refine wpAnyH_take (i := 3) (v := ?_) rfl (by kernel_rfl) (by kernel_rfl) (by kernel_rfl) (fun _ _ _ h => h) (Or.inl ⟨by rfl, ?_⟩) (by assumption) ?_
    rotate_left
    · (intro w hSw; (try dsimp only at hSw); first | (go_simp; done) | (go_simp; with_reducible rfl))
    try simp only [List.getElem_toArray, List.getElem_cons_succ, List.getElem_cons_zero, Act.put, List.setIfInBounds_toArray, List.set_cons_zero, List.set_cons_succ]
    refine wpAnyH_take (i := 5) (v := ?_) rfl (by kernel_rfl) (by kernel_rfl) (by kernel_rfl) (fun _ _ _ h => h) (Or.inl ⟨by rfl, ?_⟩) (by assumption) ?_
    rotate_left
    · (intro w hSw; (try dsimp only at hSw); first | (go_simp; done) | (go_simp; with_reducible rfl))
    try simp only [List.getElem_toArray, List.getElem_cons_succ, List.getElem_cons_zero, Act.put, List.setIfInBounds_toArray, List.set_cons_zero, List.set_cons_succ]
    refine wpAnyH_ready (rs := [4]) (by kernel_rfl) (by simp) ?_
    refine AllReadyH.cons rfl (fun K hK => ?_) AllReadyH.nil
    go_simp
    refine (unhide HCP _).mono ?_
    rintro e wq ⟨rfl, bq⟩
    replace P := Box5.later (by exact P) bq
    replace f0 := fzl bq (World.block_lt_of_cell? _ _ (by exact r0)) (by exact f0)
    replace f1 := fzl bq (World.block_lt_of_cell? _ _ (by exact r1)) (by exact f1)
    replace r0 := cell_later bq (by exact r0)
    replace r1 := cell_later bq (by exact r1)
    replace BL := (show Below H w _ from by first | exact BL.trans (bq.mono (by exact Nat.le_trans (Nat.le_add_right _ _) kz)) | exact BL.drew.trans (bq.mono (by exact Nat.le_trans (Nat.le_add_right _ _) kz)))
    replace I := hide (show (TT.node op a b s m kid).In _ 0 hi ad from by first | exact (unhide I).later (bq.mono (by exact Nat.le_trans hhi (Nat.le_trans (Nat.le_add_right _ _) kz))) | exact (unhide I).drew.later (bq.mono (by exact Nat.le_trans hhi (Nat.le_trans (Nat.le_add_right _ _) kz))))
    replace KN1 := hide (Known.later (by exact unhide KN1) bq)
    replace kz := Nat.le_trans kz bq.size
    clear bq
    go_wp2_with fail
    refine hK.out _ _ ?_ (fun hHeld => ?_)
    · exact ⟨P.1, P.2.1, P.2.2.1, P.2.2.2.1, P.2.2.2.2⟩
    clear hK K
    try simp only [List.getElem_toArray, List.getElem_cons_succ, List.getElem_cons_zero, Act.put, List.setIfInBounds_toArray, List.set_cons_zero, List.set_cons_succ]
    refine wpAnyH_ready (rs := [6]) (by kernel_rfl) (by simp) ?_
    refine AllReadyH.cons rfl (fun K hK => ?_) AllReadyH.nil
    go_simp
    refine (headSame_any _ _ _ _ _ _ _ _ _ _ _ _ _ _ _).mono ?_
    rintro e wq ⟨rfl, bq⟩
    replace P := Box5.later (by exact P) bq
    replace f0 := fzl bq (World.block_lt_of_cell? _ _ (by exact r0)) (by exact f0)
    replace f1 := fzl bq (World.block_lt_of_cell? _ _ (by exact r1)) (by exact f1)
    replace r0 := cell_later bq (by exact r0)
    replace r1 := cell_later bq (by exact r1)
    replace BL := (show Below H w _ from by first | exact BL.trans (bq.mono (by exact Nat.le_trans (Nat.le_add_right _ _) kz)) | exact BL.drew.trans (bq.mono (by exact Nat.le_trans (Nat.le_add_right _ _) kz)))
    replace I := hide (show (TT.node op a b s m kid).In _ 0 hi ad from by first | exact (unhide I).later (bq.mono (by exact Nat.le_trans hhi (Nat.le_trans (Nat.le_add_right _ _) kz))) | exact (unhide I).drew.later (bq.mono (by exact Nat.le_trans hhi (Nat.le_trans (Nat.le_add_right _ _) kz))))
    replace KN1 := hide (Known.later (by exact unhide KN1) bq)
    replace kz := Nat.le_trans kz bq.size
    clear bq
    rw [hhs]
    go_wp2_with fail
    refine hK.out _ _ ?_ (fun hHeld => ?_)
    · exact ⟨P.1, P.2.1, P.2.2.1, P.2.2.2.1, P.2.2.2.2⟩
    clear hK K
    try simp only [List.getElem_toArray, List.getElem_cons_succ, List.getElem_cons_zero, Act.put, List.setIfInBounds_toArray, List.set_cons_zero, List.set_cons_succ]
    refine wpAnyH_take (i := 7) (v := ?_) rfl (by kernel_rfl) (by kernel_rfl) (by kernel_rfl) (fun _ _ _ h => h) (Or.inl ⟨by rfl, ?_⟩) (by assumption) ?_
    rotate_left
    · (intro w hSw; (try dsimp only at hSw); first | (go_simp; done) | (go_simp; with_reducible rfl))
    try simp only [List.getElem_toArray, List.getElem_cons_succ, List.getElem_cons_zero, Act.put, List.setIfInBounds_toArray, List.set_cons_zero, List.set_cons_succ]
    refine wpAnyH_take (i := 8) (v := ?_) rfl (by kernel_rfl) (by kernel_rfl) (by kernel_rfl) (fun _ _ _ h => h) (Or.inl ⟨by rfl, ?_⟩) (by assumption) ?_
    rotate_left
    · (intro w hSw; (try dsimp only at hSw); first | (go_simp; done) | (go_simp; with_reducible rfl))
    try simp only [List.getElem_toArray, List.getElem_cons_succ, List.getElem_cons_zero, Act.put, List.setIfInBounds_toArray, List.set_cons_zero, List.set_cons_succ]
    refine wpAnyH_take (i := 9) (v := ?_) rfl (by kernel_rfl) (by kernel_rfl) (by kernel_rfl) (fun _ _ _ h => h) (Or.inl ⟨by rfl, ?_⟩) (by assumption) ?_
    rotate_left
    · (intro w hSw; (try dsimp only at hSw); first | (go_simp; done) | (go_simp; with_reducible rfl))
    try simp only [List.getElem_toArray, List.getElem_cons_succ, List.getElem_cons_zero, Act.put, List.setIfInBounds_toArray, List.set_cons_zero, List.set_cons_succ]
    refine wpAnyH_take (i := 10) (v := undef) rfl (by kernel_rfl) (by kernel_rfl) (by kernel_rfl) (fun _ _ _ h => h) (Or.inr ⟨by rfl, rfl⟩) (by assumption) ?_
    try simp only [List.getElem_toArray, List.getElem_cons_succ, List.getElem_cons_zero, Act.put, List.setIfInBounds_toArray, List.set_cons_zero, List.set_cons_succ]
    refine wpAnyH_take (i := 11) (v := undef) rfl (by kernel_rfl) (by kernel_rfl) (by kernel_rfl) (fun _ _ _ h => h) (Or.inr ⟨by rfl, rfl⟩) (by assumption) ?_
    try simp only [List.getElem_toArray, List.getElem_cons_succ, List.getElem_cons_zero, Act.put, List.setIfInBounds_toArray, List.set_cons_zero, List.set_cons_succ]
    refine wpAnyH_take (i := 12) (v := undef) rfl (by kernel_rfl) (by kernel_rfl) (by kernel_rfl) (fun _ _ _ h => h) (Or.inr ⟨by rfl, rfl⟩) (by assumption) ?_
    try simp only [List.getElem_toArray, List.getElem_cons_succ, List.getElem_cons_zero, Act.put, List.setIfInBounds_toArray, List.set_cons_zero, List.set_cons_succ]
    refine wpAnyH_take (i := 13) (v := undef) rfl (by kernel_rfl) (by kernel_rfl) (by kernel_rfl) (fun _ _ _ h => h) (Or.inr ⟨by rfl, rfl⟩) (by assumption) ?_
    try simp only [List.getElem_toArray, List.getElem_cons_succ, List.getElem_cons_zero, Act.put, List.setIfInBounds_toArray, List.set_cons_zero, List.set_cons_succ]
    refine wpAnyH_take (i := 14) (v := undef) rfl (by kernel_rfl) (by kernel_rfl) (by kernel_rfl) (fun _ _ _ h => h) (Or.inr ⟨by rfl, rfl⟩) (by assumption) ?_
    try simp only [List.getElem_toArray, List.getElem_cons_succ, List.getElem_cons_zero, Act.put, List.setIfInBounds_toArray, List.set_cons_zero, List.set_cons_succ]
    refine wpAnyH_take (i := 15) (v := undef) rfl (by kernel_rfl) (by kernel_rfl) (by kernel_rfl) (fun _ _ _ h => h) (Or.inr ⟨by rfl, rfl⟩) (by assumption) ?_
    try simp only [List.getElem_toArray, List.getElem_cons_succ, List.getElem_cons_zero, Act.put, List.setIfInBounds_toArray, List.set_cons_zero, List.set_cons_succ]
    refine wpAnyH_take (i := 16) (v := ?_) rfl (by kernel_rfl) (by kernel_rfl) (by kernel_rfl) (fun _ _ _ h => h) (Or.inl ⟨by rfl, ?_⟩) (by assumption) ?_
    rotate_left
    · (intro w hSw; (try dsimp only at hSw); first | (go_simp; done) | (go_simp; with_reducible rfl))
    try simp only [List.getElem_toArray, List.getElem_cons_succ, List.getElem_cons_zero, Act.put, List.setIfInBounds_toArray, List.set_cons_zero, List.set_cons_succ]
    refine wpAnyH_done (by kernel_rfl) ?_ _
    go_wp2
    exact bodyPost_ret (v := .tuple #[.agg #[.int .i64 0, .int .i64 0], .bool false]) (by simp [results, Tryz.results89, go_sem, r0, r1]) rfl ⟨⟨_, _, _, rfl, Or.inl ⟨rfl, by simp [hhs]⟩⟩, by rw [unhide HH]; exact (BL.setCell (by simp) _).setCell (by simp) _⟩
  · by_cases hM : M = m
    · have zM : (M != (m : Int)) = false := by simp [hM]
      refine wp_region_held_drew (S := (fun w' => w'.cell? ⟨H, 0, none⟩ = some (.int .i64 op) ∧ w'.cell? ⟨H, 1, none⟩ = some (.int .i64 a) ∧ w'.cell? ⟨H, 2, none⟩ = some (.int .i64 b) ∧ w'.cell? ⟨H, 3, none⟩ = some (.string s) ∧ w'.cell? ⟨H, 4, none⟩ = some (.slice ad m cp))) (by kernel_rfl) ?_ (fun hHeld => ?_)
      · exact ⟨p0, p1, p2, p3, p4⟩
      refine wpAnyH_take (i := 0) (v := ?_) rfl (by kernel_rfl) (by kernel_rfl) (by kernel_rfl) (fun _ _ _ h => h) (Or.inl ⟨by rfl, ?_⟩) (by assumption) ?_
      rotate_left
      · (intro w hSw; (try dsimp only at hSw); first | (go_simp; done) | (go_simp; with_reducible rfl))
      try simp only [List.getElem_toArray, List.getElem_cons_succ, List.getElem_cons_zero, Act.put, List.setIfInBounds_toArray, List.set_cons_zero, List.set_cons_succ]
      refine wpAnyH_take (i := 1) (v := ?_) rfl (by kernel_rfl) (by kernel_rfl) (by kernel_rfl) (fun _ _ _ h => h) (Or.inl ⟨by rfl, ?_⟩) (by assumption) ?_
      rotate_left
      · (intro w hSw; (try dsimp only at hSw); first | (go_simp; done) | (go_simp; with_reducible rfl))
      try simp only [List.getElem_toArray, List.getElem_cons_succ, List.getElem_cons_zero, Act.put, List.setIfInBounds_toArray, List.set_cons_zero, List.set_cons_succ]
      refine wpAnyH_take (i := 2) (v := ?_) rfl (by kernel_rfl) (by kernel_rfl) (by kernel_rfl) (fun _ _ _ h => h) (Or.inl ⟨by rfl, ?_⟩) (by assumption) ?_
      rotate_left
      · (intro w hSw; (try dsimp only at hSw); first | (go_simp; done) | (go_simp; with_reducible rfl))
      try simp only [List.getElem_toArray, List.getElem_cons_succ, List.getElem_cons_zero, Act.put, List.setIfInBounds_toArray, List.set_cons_zero, List.set_cons_succ]
      refine wpAnyH_take (i := 3) (v := ?_) rfl (by kernel_rfl) (by kernel_rfl) (by kernel_rfl) (fun _ _ _ h => h) (Or.inl ⟨by rfl, ?_⟩) (by assumption) ?_
      rotate_left
      · (intro w hSw; (try dsimp only at hSw); first | (go_simp; done) | (go_simp; with_reducible rfl))
      try simp only [List.getElem_toArray, List.getElem_cons_succ, List.getElem_cons_zero, Act.put, List.setIfInBounds_toArray, List.set_cons_zero, List.set_cons_succ]
      refine wpAnyH_take (i := 5) (v := ?_) rfl (by kernel_rfl) (by kernel_rfl) (by kernel_rfl) (fun _ _ _ h => h) (Or.inl ⟨by rfl, ?_⟩) (by assumption) ?_
      rotate_left
      · (intro w hSw; (try dsimp only at hSw); first | (go_simp; done) | (go_simp; with_reducible rfl))
      try simp only [List.getElem_toArray, List.getElem_cons_succ, List.getElem_cons_zero, Act.put, List.setIfInBounds_toArray, List.set_cons_zero, List.set_cons_succ]
      refine wpAnyH_ready (rs := [4]) (by kernel_rfl) (by simp) ?_
      refine AllReadyH.cons rfl (fun K hK => ?_) AllReadyH.nil
      go_simp
      refine (unhide HCP _).mono ?_
      rintro e wq ⟨rfl, bq⟩
      replace P := Box5.later (by exact P) bq
      replace f0 := fzl bq (World.block_lt_of_cell? _ _ (by exact r0)) (by exact f0)
      replace f1 := fzl bq (World.block_lt_of_cell? _ _ (by exact r1)) (by exact f1)
      replace r0 := cell_later bq (by exact r0)
      replace r1 := cell_later bq (by exact r1)
      replace BL := (show Below H w _ from by first | exact BL.trans (bq.mono (by exact Nat.le_trans (Nat.le_add_right _ _) kz)) | exact BL.drew.trans (bq.mono (by exact Nat.le_trans (Nat.le_add_right _ _) kz)))
      replace I := hide (show (TT.node op a b s m kid).In _ 0 hi ad from by first | exact (unhide I).later (bq.mono (by exact Nat.le_trans hhi (Nat.le_trans (Nat.le_add_right _ _) kz))) | exact (unhide I).drew.later (bq.mono (by exact Nat.le_trans hhi (Nat.le_trans (Nat.le_add_right _ _) kz))))
      replace KN1 := hide (Known.later (by exact unhide KN1) bq)
      replace kz := Nat.le_trans kz bq.size
      clear bq
      go_wp2_with fail
      refine hK.out _ _ ?_ (fun hHeld => ?_)
      · exact ⟨P.1, P.2.1, P.2.2.1, P.2.2.2.1, P.2.2.2.2⟩
      clear hK K
      try simp only [List.getElem_toArray, List.getElem_cons_succ, List.getElem_cons_zero, Act.put, List.setIfInBounds_toArray, List.set_cons_zero, List.set_cons_succ]
      refine wpAnyH_ready (rs := [6]) (by kernel_rfl) (by simp) ?_
      refine AllReadyH.cons rfl (fun K hK => ?_) AllReadyH.nil
      go_simp
      refine (headSame_any _ _ _ _ _ _ _ _ _ _ _ _ _ _ _).mono ?_
      rintro e wq ⟨rfl, bq⟩
      replace P := Box5.later (by exact P) bq
      replace f0 := fzl bq (World.block_lt_of_cell? _ _ (by exact r0)) (by exact f0)
      replace f1 := fzl bq (World.block_lt_of_cell? _ _ (by exact r1)) (by exact f1)
      replace r0 := cell_later bq (by exact r0)
      replace r1 := cell_later bq (by exact r1)
      replace BL := (show Below H w _ from by first | exact BL.trans (bq.mono (by exact Nat.le_trans (Nat.le_add_right _ _) kz)) | exact BL.drew.trans (bq.mono (by exact Nat.le_trans (Nat.le_add_right _ _) kz)))
      replace I := hide (show (TT.node op a b s m kid).In _ 0 hi ad from by first | exact (unhide I).later (bq.mono (by exact Nat.le_trans hhi (Nat.le_trans (Nat.le_add_right _ _) kz))) | exact (unhide I).drew.later (bq.mono (by exact Nat.le_trans hhi (Nat.le_trans (Nat.le_add_right _ _) kz))))
      replace KN1 := hide (Known.later (by exact unhide KN1) bq)
      replace kz := Nat.le_trans kz bq.size
      clear bq
      rw [hhs]
      go_wp2_with fail
      refine hK.out _ _ ?_ (fun hHeld => ?_)
      · exact ⟨P.1, P.2.1, P.2.2.1, P.2.2.2.1, P.2.2.2.2⟩
      clear hK K
      try simp only [List.getElem_toArray, List.getElem_cons_succ, List.getElem_cons_zero, Act.put, List.setIfInBounds_toArray, List.set_cons_zero, List.set_cons_succ]
      refine wpAnyH_take (i := 7) (v := ?_) rfl (by kernel_rfl) (by kernel_rfl) (by kernel_rfl) (fun _ _ _ h => h) (Or.inl ⟨by rfl, ?_⟩) (by assumption) ?_
      rotate_left
      · (intro w hSw; (try dsimp only at hSw); first | (go_simp; done) | (go_simp; with_reducible rfl))
      try simp only [List.getElem_toArray, List.getElem_cons_succ, List.getElem_cons_zero, Act.put, List.setIfInBounds_toArray, List.set_cons_zero, List.set_cons_succ]
      refine wpAnyH_take (i := 8) (v := ?_) rfl (by kernel_rfl) (by kernel_rfl) (by kernel_rfl) (fun _ _ _ h => h) (Or.inl ⟨by rfl, ?_⟩) (by assumption) ?_
      rotate_left
      · (intro w hSw; (try dsimp only at hSw); first | (go_simp; done) | (go_simp; with_reducible rfl))
      try simp only [List.getElem_toArray, List.getElem_cons_succ, List.getElem_cons_zero, Act.put, List.setIfInBounds_toArray, List.set_cons_zero, List.set_cons_succ]
      refine wpAnyH_take (i := 9) (v := ?_) rfl (by kernel_rfl) (by kernel_rfl) (by kernel_rfl) (fun _ _ _ h => h) (Or.inl ⟨by rfl, ?_⟩) (by assumption) ?_
      rotate_left
      · (intro w hSw; (try dsimp only at hSw); first | (go_simp; done) | (go_simp; with_reducible rfl))
      try simp only [List.getElem_toArray, List.getElem_cons_succ, List.getElem_cons_zero, Act.put, List.setIfInBounds_toArray, List.set_cons_zero, List.set_cons_succ]
      refine wpAnyH_take (i := 10) (v := ?_) rfl (by kernel_rfl) (by kernel_rfl) (by kernel_rfl) (fun _ _ _ h => h) (Or.inl ⟨by rfl, ?_⟩) (by assumption) ?_
      rotate_left
      · (intro w hSw; (try dsimp only at hSw); first | (go_simp; done) | (go_simp; with_reducible rfl))
      try simp only [List.getElem_toArray, List.getElem_cons_succ, List.getElem_cons_zero, Act.put, List.setIfInBounds_toArray, List.set_cons_zero, List.set_cons_succ]
      refine wpAnyH_take (i := 12) (v := ?_) rfl (by kernel_rfl) (by kernel_rfl) (by kernel_rfl) (fun _ _ _ h => h) (Or.inl ⟨by rfl, ?_⟩) (by assumption) ?_
      rotate_left
      · (intro w hSw; (try dsimp only at hSw); first | (go_simp; done) | (go_simp; with_reducible rfl))
      try simp only [List.getElem_toArray, List.getElem_cons_succ, List.getElem_cons_zero, Act.put, List.setIfInBounds_toArray, List.set_cons_zero, List.set_cons_succ]
      refine wpAnyH_take (i := 13) (v := ?_) rfl (by kernel_rfl) (by kernel_rfl) (by kernel_rfl) (fun _ _ _ h => h) (Or.inl ⟨by rfl, ?_⟩) (by assumption) ?_
      rotate_left
      · (intro w hSw; (try dsimp only at hSw); first | (go_simp; done) | (go_simp; with_reducible rfl))
      try simp only [List.getElem_toArray, List.getElem_cons_succ, List.getElem_cons_zero, Act.put, List.setIfInBounds_toArray, List.set_cons_zero, List.set_cons_succ]
      refine wpAnyH_take (i := 14) (v := ?_) rfl (by kernel_rfl) (by kernel_rfl) (by kernel_rfl) (fun _ _ _ h => h) (Or.inl ⟨by rfl, ?_⟩) (by assumption) ?_
      rotate_left
      · (intro w hSw; (try dsimp only at hSw); first | (go_simp; done) | (go_simp; with_reducible rfl))
      try simp only [List.getElem_toArray, List.getElem_cons_succ, List.getElem_cons_zero, Act.put, List.setIfInBounds_toArray, List.set_cons_zero, List.set_cons_succ]
      refine wpAnyH_ready (rs := [11]) (by kernel_rfl) (by simp) ?_
      refine AllReadyH.cons rfl (fun K hK => ?_) AllReadyH.nil
      go_simp
      refine (unhide HCM _).mono ?_
      rintro e wq ⟨rfl, bq⟩
      replace P := Box5.later (by exact P) bq
      replace f0 := fzl bq (World.block_lt_of_cell? _ _ (by exact r0)) (by exact f0)
      replace f1 := fzl bq (World.block_lt_of_cell? _ _ (by exact r1)) (by exact f1)
      replace r0 := cell_later bq (by exact r0)
      replace r1 := cell_later bq (by exact r1)
      replace BL := (show Below H w _ from by first | exact BL.trans (bq.mono (by exact Nat.le_trans (Nat.le_add_right _ _) kz)) | exact BL.drew.trans (bq.mono (by exact Nat.le_trans (Nat.le_add_right _ _) kz)))
      replace I := hide (show (TT.node op a b s m kid).In _ 0 hi ad from by first | exact (unhide I).later (bq.mono (by exact Nat.le_trans hhi (Nat.le_trans (Nat.le_add_right _ _) kz))) | exact (unhide I).drew.later (bq.mono (by exact Nat.le_trans hhi (Nat.le_trans (Nat.le_add_right _ _) kz))))
      replace KN1 := hide (Known.later (by exact unhide KN1) bq)
      replace kz := Nat.le_trans kz bq.size
      clear bq
      go_wp2_with fail
      refine hK.out _ _ ?_ (fun hHeld => ?_)
      · exact ⟨P.1, P.2.1, P.2.2.1, P.2.2.2.1, P.2.2.2.2⟩
      clear hK K
      try simp only [List.getElem_toArray, List.getElem_cons_succ, List.getElem_cons_zero, Act.put, List.setIfInBounds_toArray, List.set_cons_zero, List.set_cons_succ]
      refine wpAnyH_take (i := 15) (v := ?_) rfl (by kernel_rfl) (by kernel_rfl) (by kernel_rfl) (fun _ _ _ h => h) (Or.inl ⟨by rfl, ?_⟩) (by assumption) ?_
      rotate_left
      · (intro w hSw; (try dsimp only at hSw); first | (go_simp; done) | (go_simp; with_reducible rfl))
      try simp only [List.getElem_toArray, List.getElem_cons_succ, List.getElem_cons_zero, Act.put, List.setIfInBounds_toArray, List.set_cons_zero, List.set_cons_succ]
      refine wpAnyH_take (i := 16) (v := ?_) rfl (by kernel_rfl) (by kernel_rfl) (by kernel_rfl) (fun _ _ _ h => h) (Or.inl ⟨by rfl, ?_⟩) (by assumption) ?_
      rotate_left
      · (intro w hSw; (try dsimp only at hSw); first | (go_simp; done) | (go_simp; with_reducible rfl))
      try simp only [List.getElem_toArray, List.getElem_cons_succ, List.getElem_cons_zero, Act.put, List.setIfInBounds_toArray, List.set_cons_zero, List.set_cons_succ]
      refine wpAnyH_done (by kernel_rfl) ?_ _
      obtain ⟨p0, p1, p2, p3, p4⟩ := id P
      have lH : H < wq.heap.size := by omega
      rcases unhide I with rfl | ⟨bl, off, rfl, hlo, hbl, AD, CP, hd⟩
      · clear I
        simp only [Int.natCast_zero, Nat.zero_mul] at hmk
        go_wp2
        go_loopw [43] (fun i wr => ∃ (k : Nat) (X Y : Nat → Int), k ≤ 0 ∧ i = .int .i64 k ∧ Vecs wr wq.heap.size k X Y ∧ (∀ i, i < k → KP i (X i) (Y i)) ∧ Made wr wq.heap.size (0 * 2) ∧ Below wq.heap.size wq wr) (fun i _ => 0 - (intOf i).toNat)
        case atStart => exact ⟨0, fun _ => 0, fun _ => 0, by omega, rfl, fun i hi => by omega, fun i hi => by omega, Made.new _ _ _ _, (by repeat (first | exact Below.refl _ _ | assumption | refine below_drewN ?_ _ | refine Below.drew ?_ | refine Below.alloc ?_ (by first | exact Nat.le_refl _ | exact Below.size (by assumption) | (simp; done) | (simp; omega)) _ | refine Below.setCell ?_ (by first | exact Nat.le_refl _ | exact Below.size (by assumption) | (simp; done) | (simp; omega)) _ | refine Below.trans ?_ (by assumption)))⟩
        case round =>
          obtain ⟨k, X, Y, hk, rfl, hvx, hkp, hmd, hbel⟩ := hrel
          have HVX := hide hvx
          have HKP := hide hkp
          have HMD := hide hmd
          clear hvx hkp hmd
          have q0 := cell_later hbel r0
          have q1 := cell_later hbel r1
          have g0 := fz_later hbel r0 f0
          have g1 := fz_later hbel r1 f1
          have KNr := hide ((unhide KN1).later hbel)
          have BR := BL.trans (hbel.mono (by omega))
          have lr := hbel.size
          obtain rfl : k = 0 := by omega
          go_wp2_with fail
          refine (unhide HCW (by simpa using hM) wq.heap.size X Y _ (unhide HVX) (unhide KNr)).mono ?_
          rintro e w3 ⟨⟨x, y, r, rfl, hpost⟩, b3⟩
          have HPO := hide hpost
          clear hpost
          have t0 := cell_later b3 q0
          have t1 := cell_later b3 q1
          have u0 := fz_later b3 q0 g0
          have u1 := fz_later b3 q1 g1
          have B3 := BR.trans (b3.mono (by omega))
          go_wp2
          exact bodyPost_ret (v := .tuple #[.agg #[.int .i64 x, .int .i64 y], .bool r]) (by simp [results, Tryz.results89, go_sem, t0, t1]) rfl ⟨⟨_, _, _, rfl, Or.inr ⟨⟨hhs, hM⟩, Or.inr ⟨X, Y, unhide HKP, unhide HPO⟩⟩⟩, by rw [unhide HH]; exact (B3.setCell (by simp) _).setCell (by simp) _⟩
      · have HD := hide hd
        clear hd I
        go_wp2
        go_loopw [43] (fun i wr => ∃ (k : Nat) (X Y : Nat → Int), k ≤ m ∧ i = .int .i64 k ∧ Vecs wr wq.heap.size k X Y ∧ (∀ i, i < k → KP i (X i) (Y i)) ∧ Made wr wq.heap.size (m * 2) ∧ Below wq.heap.size wq wr) (fun i _ => m - (intOf i).toNat)
        case atStart => exact ⟨0, fun _ => 0, fun _ => 0, by omega, rfl, fun i hi => by omega, fun i hi => by omega, Made.new _ _ _ _, (by repeat (first | exact Below.refl _ _ | assumption | refine below_drewN ?_ _ | refine Below.drew ?_ | refine Below.alloc ?_ (by first | exact Nat.le_refl _ | exact Below.size (by assumption) | (simp; done) | (simp; omega)) _ | refine Below.setCell ?_ (by first | exact Nat.le_refl _ | exact Below.size (by assumption) | (simp; done) | (simp; omega)) _ | refine Below.trans ?_ (by assumption)))⟩
        case round =>
          obtain ⟨k, X, Y, hk, rfl, hvx, hkp, hmd, hbel⟩ := hrel
          have HVX := hide hvx
          have HKP := hide hkp
          have HMD := hide hmd
          clear hvx hkp hmd
          have q0 := cell_later hbel r0
          have q1 := cell_later hbel r1
          have g0 := fz_later hbel r0 f0
          have g1 := fz_later hbel r1 f1
          have KNr := hide ((unhide KN1).later hbel)
          have BR := BL.trans (hbel.mono (by omega))
          have lr := hbel.size
          by_cases hlt : k < m
          · obtain ⟨h5, _, hinK⟩ := unhide HD k hlt
            obtain ⟨c0, c1, c2, c3, c4⟩ := h5.keep (w' := wr) (fun o => hbel.cell (p := ⟨bl, o, none⟩) (by simp only; omega))
            have hin' := hinK.later (hbel.mono (by omega))
            have HIN := hide hin'
            clear h5 hinK hin'
            go_wp2_with fail
            have ea := (Below.refl wr.heap.size wr).alloc (Nat.le_refl _) (.cells #[.int .i64 (kid k).op, .int .i64 (kid k).a, .int .i64 (kid k).b, .string (kid k).s, .slice (AD k) (kid k).n (CP k)] 50)
            refine (unhide IH k hlt _ _ _ ((unhide HIN).later (ea.mono (by omega))) (by simp; omega) ((unhide KNr).later ea)).mono ?_
            rintro e w2 ⟨⟨x, y, r, rfl, hp, hq⟩, b2⟩
            have b2' : Below wr.heap.size wr w2 := ea.trans (b2.mono (by simp))
            have HP := hide hp
            have HQ := hide hq
            clear hp hq ea b2
            have t0 := cell_later b2' q0
            have t1 := cell_later b2' q1
            have u0 := fz_later b2' q0 g0
            have u1 := fz_later b2' q1 g1
            have B2 := BR.trans (b2'.mono (by omega))
            have l2 := b2'.size
            have HM2 := hide ((unhide HMD).later b2')
            have HV2 := hide ((unhide HVX).later b2')
            have hb2 := hbel.trans (b2'.mono (by omega))
            have lq : H + 1 < w2.heap.size := by omega
            cases r
            · have HK := hide (unhide HQ rfl)
              have ps := hide (pair_set (.int .i64 0) (.int .i64 0) (.cells #[.int .i64 x, .int .i64 y] 107) t0 t1 u0 u1)
              clear HQ HP
              go_wp2
              have ps0 := (unhide ps).1
              have ps1 := (unhide ps).2.1
              exact bodyPost_ret (v := .tuple #[.agg #[.int .i64 0, .int .i64 0], .bool false]) (by simp [results, Tryz.results89, go_sem, ps0, ps1]) rfl ⟨⟨_, _, _, rfl, Or.inr ⟨⟨hhs, hM⟩, Or.inl ⟨rfl, k, hlt, unhide HK⟩⟩⟩, by rw [unhide HH]; exact (by repeat (first | exact Below.refl _ _ | assumption | refine below_drewN ?_ _ | refine Below.drew ?_ | refine Below.alloc ?_ (by first | exact Nat.le_refl _ | exact Below.size (by assumption) | (simp; done) | (simp; omega)) _ | refine Below.setCell ?_ (by first | exact Nat.le_refl _ | exact Below.size (by assumption) | (simp; done) | (simp; omega)) _ | refine Below.trans ?_ (by assumption)))⟩
            · obtain ⟨⟨v0, s0⟩, y0⟩ := (unhide HM2).2 (k * 2) (by omega)
              obtain ⟨⟨v1, s1⟩, y1⟩ := (unhide HM2).2 (k * 2 + 1) (by omega)
              have lm := (unhide HM2).1
              have HK := hide (unhide HP rfl)
              clear HQ HP
              go_wp2
              go_roundw
              case rel =>
                refine ⟨k + 1, _, _, by omega, by go_num, (unhide HV2).put lm x y _ s0 s1, ?_, (((unhide HM2).set _ _).set _ _).later ((Below.refl _ _).alloc (Nat.le_refl _) _), ?_⟩
                · intro i hi
                  by_cases e : i = k
                  · subst e; simp only [if_true]; exact unhide HK
                  · simp only [if_neg e]; exact unhide HKP i (by omega)
                · exact ((hb2.setCell (Nat.le_refl _) _).setCell (Nat.le_refl _) _).alloc (by simp; omega) _
              case measure => simp [intOf]; omega
          · obtain rfl : k = m := by omega
            go_wp2_with fail
            refine (unhide HCW (by simpa using hM) wq.heap.size X Y _ (unhide HVX) (unhide KNr)).mono ?_
            rintro e w3 ⟨⟨x, y, r, rfl, hpost⟩, b3⟩
            have HPO := hide hpost
            clear hpost
            have t0 := cell_later b3 q0
            have t1 := cell_later b3 q1
            have u0 := fz_later b3 q0 g0
            have u1 := fz_later b3 q1 g1
            have B3 := BR.trans (b3.mono (by omega))
            go_wp2
            exact bodyPost_ret (v := .tuple #[.agg #[.int .i64 x, .int .i64 y], .bool r]) (by simp [results, Tryz.results89, go_sem, t0, t1]) rfl ⟨⟨_, _, _, rfl, Or.inr ⟨⟨hhs, hM⟩, Or.inr ⟨X, Y, unhide HKP, unhide HPO⟩⟩⟩, by rw [unhide HH]; exact (B3.setCell (by simp) _).setCell (by simp) _⟩
    · have zM : (M != (m : Int)) = true := by simp [hM]
      refine wp_region_held_drew (S := (fun w' => w'.cell? ⟨H, 0, none⟩ = some (.int .i64 op) ∧ w'.cell? ⟨H, 1, none⟩ = some (.int .i64 a) ∧ w'.cell? ⟨H, 2, none⟩ = some (.int .i64 b) ∧ w'.cell? ⟨H, 3, none⟩ = some (.string s) ∧ w'.cell? ⟨H, 4, none⟩ = some (.slice ad m cp))) (by kernel_rfl) ?_ (fun hHeld => ?_)
      · exact ⟨p0, p1, p2, p3, p4⟩
      refine wpAnyH_take (i := 0) (v := ?_) rfl (by kernel_rfl) (by kernel_rfl) (by kernel_rfl) (fun _ _ _ h => h) (Or.inl ⟨by rfl, ?_⟩) (by assumption) ?_
      rotate_left
      · (intro w hSw; (try dsimp only at hSw); first | (go_simp; done) | (go_simp; with_reducible rfl))
      try simp only [List.getElem_toArray, List.getElem_cons_succ, List.getElem_cons_zero, Act.put, List.setIfInBounds_toArray, List.set_cons_zero, List.set_cons_succ]
      refine wpAnyH_take (i := 1) (v := ?_) rfl (by kernel_rfl) (by kernel_rfl) (by kernel_rfl) (fun _ _ _ h => h) (Or.inl ⟨by rfl, ?_⟩) (by assumption) ?_
      rotate_left
      · (intro w hSw; (try dsimp only at hSw); first | (go_simp; done) | (go_simp; with_reducible rfl))
      try simp only [List.getElem_toArray, List.getElem_cons_succ, List.getElem_cons_zero, Act.put, List.setIfInBounds_toArray, List.set_cons_zero, List.set_cons_succ]
      refine wpAnyH_take (i := 2) (v := ?_) rfl (by kernel_rfl) (by kernel_rfl) (by kernel_rfl) (fun _ _ _ h => h) (Or.inl ⟨by rfl, ?_⟩) (by assumption) ?_
      rotate_left
      · (intro w hSw; (try dsimp only at hSw); first | (go_simp; done) | (go_simp; with_reducible rfl))
      try simp only [List.getElem_toArray, List.getElem_cons_succ, List.getElem_cons_zero, Act.put, List.setIfInBounds_toArray, List.set_cons_zero, List.set_cons_succ]
      refine wpAnyH_take (i := 3) (v := ?_) rfl (by kernel_rfl) (by kernel_rfl) (by kernel_rfl) (fun _ _ _ h => h) (Or.inl ⟨by rfl, ?_⟩) (by assumption) ?_
      rotate_left
      · (intro w hSw; (try dsimp only at hSw); first | (go_simp; done) | (go_simp; with_reducible rfl))
      try simp only [List.getElem_toArray, List.getElem_cons_succ, List.getElem_cons_zero, Act.put, List.setIfInBounds_toArray, List.set_cons_zero, List.set_cons_succ]
      refine wpAnyH_take (i := 5) (v := ?_) rfl (by kernel_rfl) (by kernel_rfl) (by kernel_rfl) (fun _ _ _ h => h) (Or.inl ⟨by rfl, ?_⟩) (by assumption) ?_
      rotate_left
      · (intro w hSw; (try dsimp only at hSw); first | (go_simp; done) | (go_simp; with_reducible rfl))
      try simp only [List.getElem_toArray, List.getElem_cons_succ, List.getElem_cons_zero, Act.put, List.setIfInBounds_toArray, List.set_cons_zero, List.set_cons_succ]
      refine wpAnyH_ready (rs := [4]) (by kernel_rfl) (by simp) ?_
      refine AllReadyH.cons rfl (fun K hK => ?_) AllReadyH.nil
      go_simp
      refine (unhide HCP _).mono ?_
      rintro e wq ⟨rfl, bq⟩
      replace P := Box5.later (by exact P) bq
      replace f0 := fzl bq (World.block_lt_of_cell? _ _ (by exact r0)) (by exact f0)
      replace f1 := fzl bq (World.block_lt_of_cell? _ _ (by exact r1)) (by exact f1)
      replace r0 := cell_later bq (by exact r0)
      replace r1 := cell_later bq (by exact r1)
      replace BL := (show Below H w _ from by first | exact BL.trans (bq.mono (by exact Nat.le_trans (Nat.le_add_right _ _) kz)) | exact BL.drew.trans (bq.mono (by exact Nat.le_trans (Nat.le_add_right _ _) kz)))
      replace I := hide (show (TT.node op a b s m kid).In _ 0 hi ad from by first | exact (unhide I).later (bq.mono (by exact Nat.le_trans hhi (Nat.le_trans (Nat.le_add_right _ _) kz))) | exact (unhide I).drew.later (bq.mono (by exact Nat.le_trans hhi (Nat.le_trans (Nat.le_add_right _ _) kz))))
      replace KN1 := hide (Known.later (by exact unhide KN1) bq)
      replace kz := Nat.le_trans kz bq.size
      clear bq
      go_wp2_with fail
      refine hK.out _ _ ?_ (fun hHeld => ?_)
      · exact ⟨P.1, P.2.1, P.2.2.1, P.2.2.2.1, P.2.2.2.2⟩
      clear hK K
      try simp only [List.getElem_toArray, List.getElem_cons_succ, List.getElem_cons_zero, Act.put, List.setIfInBounds_toArray, List.set_cons_zero, List.set_cons_succ]
      refine wpAnyH_ready (rs := [6]) (by kernel_rfl) (by simp) ?_
      refine AllReadyH.cons rfl (fun K hK => ?_) AllReadyH.nil
      go_simp
      refine (headSame_any _ _ _ _ _ _ _ _ _ _ _ _ _ _ _).mono ?_
      rintro e wq ⟨rfl, bq⟩
      replace P := Box5.later (by exact P) bq
      replace f0 := fzl bq (World.block_lt_of_cell? _ _ (by exact r0)) (by exact f0)
      replace f1 := fzl bq (World.block_lt_of_cell? _ _ (by exact r1)) (by exact f1)
      replace r0 := cell_later bq (by exact r0)
      replace r1 := cell_later bq (by exact r1)
      replace BL := (show Below H w _ from by first | exact BL.trans (bq.mono (by exact Nat.le_trans (Nat.le_add_right _ _) kz)) | exact BL.drew.trans (bq.mono (by exact Nat.le_trans (Nat.le_add_right _ _) kz)))
      replace I := hide (show (TT.node op a b s m kid).In _ 0 hi ad from by first | exact (unhide I).later (bq.mono (by exact Nat.le_trans hhi (Nat.le_trans (Nat.le_add_right _ _) kz))) | exact (unhide I).drew.later (bq.mono (by exact Nat.le_trans hhi (Nat.le_trans (Nat.le_add_right _ _) kz))))
      replace KN1 := hide (Known.later (by exact unhide KN1) bq)
      replace kz := Nat.le_trans kz bq.size
      clear bq
      rw [hhs]
      go_wp2_with fail
      refine hK.out _ _ ?_ (fun hHeld => ?_)
      · exact ⟨P.1, P.2.1, P.2.2.1, P.2.2.2.1, P.2.2.2.2⟩
      clear hK K
      try simp only [List.getElem_toArray, List.getElem_cons_succ, List.getElem_cons_zero, Act.put, List.setIfInBounds_toArray, List.set_cons_zero, List.set_cons_succ]
      refine wpAnyH_take (i := 7) (v := ?_) rfl (by kernel_rfl) (by kernel_rfl) (by kernel_rfl) (fun _ _ _ h => h) (Or.inl ⟨by rfl, ?_⟩) (by assumption) ?_
      rotate_left
      · (intro w hSw; (try dsimp only at hSw); first | (go_simp; done) | (go_simp; with_reducible rfl))
      try simp only [List.getElem_toArray, List.getElem_cons_succ, List.getElem_cons_zero, Act.put, List.setIfInBounds_toArray, List.set_cons_zero, List.set_cons_succ]
      refine wpAnyH_take (i := 8) (v := ?_) rfl (by kernel_rfl) (by kernel_rfl) (by kernel_rfl) (fun _ _ _ h => h) (Or.inl ⟨by rfl, ?_⟩) (by assumption) ?_
      rotate_left
      · (intro w hSw; (try dsimp only at hSw); first | (go_simp; done) | (go_simp; with_reducible rfl))
      try simp only [List.getElem_toArray, List.getElem_cons_succ, List.getElem_cons_zero, Act.put, List.setIfInBounds_toArray, List.set_cons_zero, List.set_cons_succ]
      refine wpAnyH_take (i := 9) (v := ?_) rfl (by kernel_rfl) (by kernel_rfl) (by kernel_rfl) (fun _ _ _ h => h) (Or.inl ⟨by rfl, ?_⟩) (by assumption) ?_
      rotate_left
      · (intro w hSw; (try dsimp only at hSw); first | (go_simp; done) | (go_simp; with_reducible rfl))
      try simp only [List.getElem_toArray, List.getElem_cons_succ, List.getElem_cons_zero, Act.put, List.setIfInBounds_toArray, List.set_cons_zero, List.set_cons_succ]
      refine wpAnyH_take (i := 10) (v := ?_) rfl (by kernel_rfl) (by kernel_rfl) (by kernel_rfl) (fun _ _ _ h => h) (Or.inl ⟨by rfl, ?_⟩) (by assumption) ?_
      rotate_left
      · (intro w hSw; (try dsimp only at hSw); first | (go_simp; done) | (go_simp; with_reducible rfl))
      try simp only [List.getElem_toArray, List.getElem_cons_succ, List.getElem_cons_zero, Act.put, List.setIfInBounds_toArray, List.set_cons_zero, List.set_cons_succ]
      refine wpAnyH_take (i := 12) (v := ?_) rfl (by kernel_rfl) (by kernel_rfl) (by kernel_rfl) (fun _ _ _ h => h) (Or.inl ⟨by rfl, ?_⟩) (by assumption) ?_
      rotate_left
      · (intro w hSw; (try dsimp only at hSw); first | (go_simp; done) | (go_simp; with_reducible rfl))
      try simp only [List.getElem_toArray, List.getElem_cons_succ, List.getElem_cons_zero, Act.put, List.setIfInBounds_toArray, List.set_cons_zero, List.set_cons_succ]
      refine wpAnyH_take (i := 13) (v := ?_) rfl (by kernel_rfl) (by kernel_rfl) (by kernel_rfl) (fun _ _ _ h => h) (Or.inl ⟨by rfl, ?_⟩) (by assumption) ?_
      rotate_left
      · (intro w hSw; (try dsimp only at hSw); first | (go_simp; done) | (go_simp; with_reducible rfl))
      try simp only [List.getElem_toArray, List.getElem_cons_succ, List.getElem_cons_zero, Act.put, List.setIfInBounds_toArray, List.set_cons_zero, List.set_cons_succ]
      refine wpAnyH_take (i := 14) (v := ?_) rfl (by kernel_rfl) (by kernel_rfl) (by kernel_rfl) (fun _ _ _ h => h) (Or.inl ⟨by rfl, ?_⟩) (by assumption) ?_
      rotate_left
      · (intro w hSw; (try dsimp only at hSw); first | (go_simp; done) | (go_simp; with_reducible rfl))
      try simp only [List.getElem_toArray, List.getElem_cons_succ, List.getElem_cons_zero, Act.put, List.setIfInBounds_toArray, List.set_cons_zero, List.set_cons_succ]
      refine wpAnyH_ready (rs := [11]) (by kernel_rfl) (by simp) ?_
      refine AllReadyH.cons rfl (fun K hK => ?_) AllReadyH.nil
      go_simp
      refine (unhide HCM _).mono ?_
      rintro e wq ⟨rfl, bq⟩
      replace P := Box5.later (by exact P) bq
      replace f0 := fzl bq (World.block_lt_of_cell? _ _ (by exact r0)) (by exact f0)
      replace f1 := fzl bq (World.block_lt_of_cell? _ _ (by exact r1)) (by exact f1)
      replace r0 := cell_later bq (by exact r0)
      replace r1 := cell_later bq (by exact r1)
      replace BL := (show Below H w _ from by first | exact BL.trans (bq.mono (by exact Nat.le_trans (Nat.le_add_right _ _) kz)) | exact BL.drew.trans (bq.mono (by exact Nat.le_trans (Nat.le_add_right _ _) kz)))
      replace I := hide (show (TT.node op a b s m kid).In _ 0 hi ad from by first | exact (unhide I).later (bq.mono (by exact Nat.le_trans hhi (Nat.le_trans (Nat.le_add_right _ _) kz))) | exact (unhide I).drew.later (bq.mono (by exact Nat.le_trans hhi (Nat.le_trans (Nat.le_add_right _ _) kz))))
      replace KN1 := hide (Known.later (by exact unhide KN1) bq)
      replace kz := Nat.le_trans kz bq.size
      clear bq
      go_wp2_with fail
      refine hK.out _ _ ?_ (fun hHeld => ?_)
      · exact ⟨P.1, P.2.1, P.2.2.1, P.2.2.2.1, P.2.2.2.2⟩
      clear hK K
      try simp only [List.getElem_toArray, List.getElem_cons_succ, List.getElem_cons_zero, Act.put, List.setIfInBounds_toArray, List.set_cons_zero, List.set_cons_succ]
      refine wpAnyH_take (i := 15) (v := ?_) rfl (by kernel_rfl) (by kernel_rfl) (by kernel_rfl) (fun _ _ _ h => h) (Or.inl ⟨by rfl, ?_⟩) (by assumption) ?_
      rotate_left
      · (intro w hSw; (try dsimp only at hSw); first | (go_simp; done) | (go_simp; with_reducible rfl))
      try simp only [List.getElem_toArray, List.getElem_cons_succ, List.getElem_cons_zero, Act.put, List.setIfInBounds_toArray, List.set_cons_zero, List.set_cons_succ]
      refine wpAnyH_take (i := 16) (v := ?_) rfl (by kernel_rfl) (by kernel_rfl) (by kernel_rfl) (fun _ _ _ h => h) (Or.inl ⟨by rfl, ?_⟩) (by assumption) ?_
      rotate_left
      · (intro w hSw; (try dsimp only at hSw); first | (go_simp; done) | (go_simp; with_reducible rfl))
      try simp only [List.getElem_toArray, List.getElem_cons_succ, List.getElem_cons_zero, Act.put, List.setIfInBounds_toArray, List.set_cons_zero, List.set_cons_succ]
      refine wpAnyH_done (by kernel_rfl) ?_ _
      go_wp2
      exact bodyPost_ret (v := .tuple #[.agg #[.int .i64 0, .int .i64 0], .bool false]) (by simp [results, Tryz.results89, go_sem, r0, r1]) rfl ⟨⟨_, _, _, rfl, Or.inl ⟨rfl, by simp [hM]⟩⟩, by rw [unhide HH]; exact (BL.setCell (by simp) _).setCell (by simp) _⟩
end Go.Proofs.YtfopmobopmdahaaGreat
