/- What the program's TermSort returns. -/
import Derived.Test.YtfopmobopmdahaaGreatPwC
namespace Go.Proofs.YtfopmobopmdahaaGreat
open Go.ChangeShapes Go.WideShapes Go.ChangeAt Go.RowKit Go.Joins
set_option linter.unusedVariables false
set_option linter.unusedSimpArgs false

theorem zeros_new (w : World) (n : Nat) (e : TypeId) : Ints (w.alloc (.cells (madeCells #[.int .i64 0] n) e)) w.heap.size 0 n (fun _ => 0) := by
  intro i hi
  rw [Nat.zero_add, World.cell?_alloc_new]
  simp [madeCells, hi, Nat.mod_one]
theorem env_zero {n : Nat} {S : Nat → ByteArray} {V : Nat → Int} : EnvP n n S V (fun _ => 0) ↔ DeclP n S V := by
  constructor
  · exact fun h => h.1
  · intro h
    refine ⟨h, rfl, fun i hi => ?_⟩
    have := h.2.1 i hi
    have t := two_bd (V i) this.2.1 this.2.2.1
    exact okB_of this.2.1 this.2.2.1 (by simp) (by simp only; omega)
set_option maxRecDepth 100000 in
set_option maxHeartbeats 4000000 in
theorem iTermSort_any (bd offd n cap hi : Nat) (S : Nat → ByteArray) (V : Nat → Int) (hn : n ≤ 1048576) (hnc : n ≤ cap) (hs : ∀ i, i < n → (S i).size ≤ 1048576) (t : TT) (ad : Option Addr) (cp : Nat) (w : World) (hin : t.In w 0 hi ad) (hft : t.Fit 1048576) (hhi : hi ≤ w.heap.size) (hbd : bd < w.heap.size) (hd : Decs w bd offd n S V) :
    Calls Tryz.prog 72 #[.slice (some ⟨bd, offd, none⟩) n cap, .agg #[.int .i64 t.op, .int .i64 t.a, .int .i64 t.b, .string t.s, .slice ad t.n cp]] w fun e w' => e = .returned (.int .i64 (tsort n S V t)) ∧ Below w.heap.size w w' := by
  have HS := hide hs
  have HD := hide hd
  have HI := hide hin
  have HF := hide hft
  clear hs hd hin hft
  have hmk := run_make_wide (P := Tryz.prog) 97 3 _ 1 8 Tryz.underlying97 infoInt .i64 .i64 n (by omega) (by omega)
  simp only [Nat.mul_one] at hmk
  go_enter Tryz.func72, Tryz.ntmps72
  go_wp2_with fail
  have BL := (Below.refl w.heap.size w).alloc (Nat.le_refl _) (.cells #[.int .i64 t.op, .int .i64 t.a, .int .i64 t.b, .string t.s, .slice ad t.n cp] 50)
  have P : Five (w.alloc (.cells #[.int .i64 t.op, .int .i64 t.a, .int .i64 t.b, .string t.s, .slice ad t.n cp] 50)) w.heap.size 0 t ad cp := ⟨by simp [go_sem], by simp [go_sem], by simp [go_sem], by simp [go_sem], by simp [go_sem]⟩
  have kz : w.heap.size + 1 ≤ (w.alloc (.cells #[.int .i64 t.op, .int .i64 t.a, .int .i64 t.b, .string t.s, .slice ad t.n cp] 50)).heap.size := by simp
  replace HI := hide ((unhide HI).later (BL.mono hhi))
  replace HD := hide ((unhide HD).later BL)
  have kb := Nat.lt_of_lt_of_le hbd BL.size
  generalize (w.alloc (.cells #[.int .i64 t.op, .int .i64 t.a, .int .i64 t.b, .string t.s, .slice ad t.n cp] 50)) = wa at *
  refine wp_region_held_drew (S := (fun w' => w'.cell? ⟨w.heap.size, 0, none⟩ = some (.int .i64 t.op) ∧ w'.cell? ⟨w.heap.size, 1, none⟩ = some (.int .i64 t.a) ∧ w'.cell? ⟨w.heap.size, 2, none⟩ = some (.int .i64 t.b) ∧ w'.cell? ⟨w.heap.size, 3, none⟩ = some (.string t.s) ∧ w'.cell? ⟨w.heap.size, 4, none⟩ = some (.slice ad t.n cp))) (by kernel_rfl) ?_ (fun hHeld => ?_)
  · exact ⟨P.1, P.2.1, P.2.2.1, P.2.2.2.1, P.2.2.2.2⟩
  replace P : Five wa.drew w.heap.size 0 t ad cp := P
  replace HI := hide (unhide HI).drew
  replace HD : Hid (Decs wa.drew bd offd n S V) := HD
  replace BL : Below w.heap.size w wa.drew := BL.drew
  replace kb : bd < wa.drew.heap.size := kb
  replace kz : w.heap.size + 1 ≤ wa.drew.heap.size := kz
  generalize wa.drew = wb at *
  refine wpAnyH_take (i := 0) (v := ?_) rfl (by kernel_rfl) (by kernel_rfl) (by kernel_rfl) (fun _ _ _ h => h) (Or.inl ⟨by rfl, ?_⟩) (by assumption) ?_
  rotate_left
  · (intro w hSw; (try dsimp only at hSw); first | (go_simp; done) | (go_simp; with_reducible rfl))
  try simp only [List.getElem_toArray, List.getElem_cons_succ, List.getElem_cons_zero, Act.put, List.setIfInBounds_toArray, List.set_cons_zero, List.set_cons_succ]
  refine wpAnyH_take (i := 1) (v := ?_) rfl (by kernel_rfl) (by kernel_rfl) (by kernel_rfl) (fun _ _ _ h => h) (Or.inl ⟨by rfl, ?_⟩) (by assumption) ?_
  rotate_left
  · (intro w hSw; (try dsimp only at hSw); first | (go_simp; done) | (go_simp; with_reducible rfl))
  try simp only [List.getElem_toArray, List.getElem_cons_succ, List.getElem_cons_zero, Act.put, List.setIfInBounds_toArray, List.set_cons_zero, List.set_cons_succ]
  refine wpAnyH_take (i := 2) (v := ?_) rfl (by kernel_rfl) (by kernel_rfl) (by kernel_rfl) (fun _ _ _ h => h) (Or.inl ⟨by rfl, ?_⟩) (by assumption) ?_
  rotate_left
  · (intro w hSw; (try dsimp only at hSw); first | (go_simp; done) | (go_simp; with_reducible rfl))
  try simp only [List.getElem_toArray, List.getElem_cons_succ, List.getElem_cons_zero, Act.put, List.setIfInBounds_toArray, List.set_cons_zero, List.set_cons_succ]
  refine wpAnyH_take (i := 3) (v := ?_) rfl (by kernel_rfl) (by kernel_rfl) (by kernel_rfl) (fun _ _ _ h => h) (Or.inl ⟨by rfl, ?_⟩) (by assumption) ?_
  rotate_left
  · (intro w hSw; (try dsimp only at hSw); first | (go_simp; done) | (go_simp; with_reducible rfl))
  try simp only [List.getElem_toArray, List.getElem_cons_succ, List.getElem_cons_zero, Act.put, List.setIfInBounds_toArray, List.set_cons_zero, List.set_cons_succ]
  refine wpAnyH_ready (rs := [4, 9]) (by kernel_rfl) (by simp) ?_
  refine AllReadyH.cons rfl (fun K hK => ?_) (AllReadyH.cons rfl (fun K hK => ?_) AllReadyH.nil)
  · go_simp
    obtain ⟨wn1, hwn1⟩ : ∃ v, v = wb.alloc (.cells (madeCells #[.int .i64 0] n) 3) := ⟨_, rfl⟩
    have bwn1 : Below wb.heap.size wb wn1 := by rw [hwn1]; exact (Below.refl _ _).alloc (Nat.le_refl _) _
    have ROW : Ints wn1 wb.heap.size 0 n (fun _ => 0) := by rw [hwn1]; exact zeros_new _ _ _
    have lrow : wb.heap.size < wn1.heap.size := by rw [hwn1]; simp
    obtain ⟨RB, hRB⟩ : ∃ v, v = wb.heap.size := ⟨_, rfl⟩
    rw [← hwn1]
    replace P := P.later bwn1
    replace HI := hide ((unhide HI).later (bwn1.mono (by omega)))
    replace HD := hide ((unhide HD).later bwn1)
    replace kb := Nat.lt_of_lt_of_le kb bwn1.size
    replace BL := BL.trans (bwn1.mono (by omega))
    replace kz := Nat.le_trans kz bwn1.size
    clear bwn1
    rw [← hRB] at ROW lrow
    rw [← hRB]
    clear hRB hwn1
    refine hK.out _ _ ?_ (fun hHeld => ?_)
    · exact ⟨P.1, P.2.1, P.2.2.1, P.2.2.2.1, P.2.2.2.2⟩
    clear hK K
    try simp only [List.getElem_toArray, List.getElem_cons_succ, List.getElem_cons_zero, Act.put, List.setIfInBounds_toArray, List.set_cons_zero, List.set_cons_succ]
    refine wpAnyH_ready (rs := [5, 9]) (by kernel_rfl) (by simp) ?_
    refine AllReadyH.cons rfl (fun K hK => ?_) (AllReadyH.cons rfl (fun K hK => ?_) AllReadyH.nil)
    · go_simp
      refine (termWorth_any bd offd n cap RB 0 n n hi S V (fun _ => 0) hn hnc hn (unhide HS) t _ _ _ (unhide HI) (unhide HF) (by omega) kb (unhide HD) lrow ROW).mono ?_
      rintro e wt ⟨⟨x, y, r, rfl, hA, hN⟩, bt⟩
      have HA := hide hA
      have HN := hide hN
      clear hA hN
      replace P := P.later bt
      replace HI := hide ((unhide HI).later (bt.mono (by omega)))
      replace HD := hide ((unhide HD).later bt)
      replace kb := Nat.lt_of_lt_of_le kb bt.size
      replace BL := BL.trans (bt.mono (by omega))
      replace ROW := ROW.later bt
      replace lrow := Nat.lt_of_lt_of_le lrow bt.size
      replace kz := Nat.le_trans kz bt.size
      clear bt
      go_wp2_with fail
      refine hK.out _ _ ?_ (fun hHeld => ?_)
      · exact ⟨P.1, P.2.1, P.2.2.1, P.2.2.2.1, P.2.2.2.2⟩
      clear hK K
      try simp only [List.getElem_toArray, List.getElem_cons_succ, List.getElem_cons_zero, Act.put, List.setIfInBounds_toArray, List.set_cons_zero, List.set_cons_succ]
      refine wpAnyH_take (i := 6) (v := ?_) rfl (by kernel_rfl) (by kernel_rfl) (by kernel_rfl) (fun _ _ _ h => h) (Or.inl ⟨by rfl, ?_⟩) (by assumption) ?_
      rotate_left
      · (intro w hSw; (try dsimp only at hSw); first | (go_simp; done) | (go_simp; with_reducible rfl))
      try simp only [List.getElem_toArray, List.getElem_cons_succ, List.getElem_cons_zero, Act.put, List.setIfInBounds_toArray, List.set_cons_zero, List.set_cons_succ]
      refine wpAnyH_take (i := 7) (v := ?_) rfl (by kernel_rfl) (by kernel_rfl) (by kernel_rfl) (fun _ _ _ h => h) (Or.inl ⟨by rfl, ?_⟩) (by assumption) ?_
      rotate_left
      · (intro w hSw; (try dsimp only at hSw); first | (go_simp; done) | (go_simp; with_reducible rfl))
      try simp only [List.getElem_toArray, List.getElem_cons_succ, List.getElem_cons_zero, Act.put, List.setIfInBounds_toArray, List.set_cons_zero, List.set_cons_succ]
      refine wpAnyH_take (i := 8) (v := ?_) rfl (by kernel_rfl) (by kernel_rfl) (by kernel_rfl) (fun _ _ _ h => h) (Or.inl ⟨by rfl, ?_⟩) (by assumption) ?_
      rotate_left
      · (intro w hSw; (try dsimp only at hSw); first | (go_simp; done) | (go_simp; with_reducible rfl))
      try simp only [List.getElem_toArray, List.getElem_cons_succ, List.getElem_cons_zero, Act.put, List.setIfInBounds_toArray, List.set_cons_zero, List.set_cons_succ]
      refine wpAnyH_ready (rs := [9]) (by kernel_rfl) (by simp) ?_
      refine AllReadyH.cons rfl (fun K hK => ?_) AllReadyH.nil
      go_simp
      obtain ⟨wn2, hwn2⟩ : ∃ v, v = wt.alloc (.cells #[.int .i64 0, .int .i64 0] 107) := ⟨_, rfl⟩
      have bwn2 : Below wt.heap.size wt wn2 := by rw [hwn2]; exact (Below.refl _ _).alloc (Nat.le_refl _) _
      have i0 : wn2.cell? ⟨wt.heap.size, 0, none⟩ = some (.int .i64 0) := by rw [hwn2]; simp [go_sem]
      have i1 : wn2.cell? ⟨wt.heap.size, 1, none⟩ = some (.int .i64 0) := by rw [hwn2]; simp [go_sem]
      have j0 : wn2.frozen? ⟨wt.heap.size, 0, none⟩ = false := by rw [hwn2]; simp [go_sem]
      have j1 : wn2.frozen? ⟨wt.heap.size, 1, none⟩ = false := by rw [hwn2]; simp [go_sem]
      obtain ⟨IB, hIB⟩ : ∃ v, v = wt.heap.size := ⟨_, rfl⟩
      have nIB : ¬ wt.heap.size = w.heap.size := by omega
      have lIB : w.heap.size < wt.heap.size := by omega
      rw [← hwn2]
      replace P := P.later bwn2
      replace HI := hide ((unhide HI).later (bwn2.mono (by omega)))
      replace HD := hide ((unhide HD).later bwn2)
      replace kb := Nat.lt_of_lt_of_le kb bwn2.size
      replace BL := BL.trans (bwn2.mono (by omega))
      replace ROW := ROW.later bwn2
      replace lrow := Nat.lt_of_lt_of_le lrow bwn2.size
      replace kz := Nat.le_trans kz bwn2.size
      clear bwn2
      rw [← hIB] at i0 i1 j0 j1 nIB lIB
      rw [← hIB]
      clear hIB hwn2
      refine hK.out _ _ ?_ (fun hHeld => ?_)
      · exact ⟨P.1, P.2.1, P.2.2.1, P.2.2.2.1, P.2.2.2.2⟩
      clear hK K
      try simp only [List.getElem_toArray, List.getElem_cons_succ, List.getElem_cons_zero, Act.put, List.setIfInBounds_toArray, List.set_cons_zero, List.set_cons_succ]
      refine wpAnyH_ready (rs := [10]) (by kernel_rfl) (by simp) ?_
      refine AllReadyH.cons rfl (fun K hK => ?_) AllReadyH.nil
      go_simp
      refine hK.out _ _ ?_ (fun hHeld => ?_)
      · (simp only [World.cell?_setCell_far, nIB, ne_eq, not_false_eq_true]; exact ⟨P.1, P.2.1, P.2.2.1, P.2.2.2.1, P.2.2.2.2⟩)
      clear hK K
      try simp only [List.getElem_toArray, List.getElem_cons_succ, List.getElem_cons_zero, Act.put, List.setIfInBounds_toArray, List.set_cons_zero, List.set_cons_succ]
      refine wpAnyH_take (i := 11) (v := ?_) rfl (by kernel_rfl) (by kernel_rfl) (by kernel_rfl) (fun _ _ _ h => h) (Or.inl ⟨by rfl, ?_⟩) (by assumption) ?_
      rotate_left
      · (intro w hSw; (try dsimp only at hSw); first | (go_simp; done) | (go_simp; with_reducible rfl))
      try simp only [List.getElem_toArray, List.getElem_cons_succ, List.getElem_cons_zero, Act.put, List.setIfInBounds_toArray, List.set_cons_zero, List.set_cons_succ]
      refine wpAnyH_done (by kernel_rfl) ?_ _
      cases r
      · have HE : Hid (tsort n S V t = -1) := by
          by_cases hR : RightAll n n S V (fun _ => 0) t
          · rw [show tsort n S V t = t.sort n S V from tsort_yes ⟨env_zero.1 hR.2, hR.1⟩]
            exact (unhide HA hR).2 rfl
          · exact tsort_no (fun h => hR ⟨h.2, env_zero.2 h.1⟩)
        clear HA HN
        go_wp2
        rw [unhide HE]
        go_ret
        exact ⟨rfl, (BL.setCell (by simp only; omega) _).setCell (by simp only; omega) _⟩
      · have HE : Hid (tsort n S V t = x) := by
          by_cases hR : RightAll n n S V (fun _ => 0) t
          · rw [show tsort n S V t = t.sort n S V from tsort_yes ⟨env_zero.1 hR.2, hR.1⟩]
            exact ((unhide HA hR).1 rfl).1.symm
          · have := unhide HN hR
            cases this
        clear HA HN
        go_wp2
        rw [unhide HE]
        go_ret
        exact ⟨rfl, (BL.setCell (by simp only; omega) _).setCell (by simp only; omega) _⟩
    · go_simp
      obtain ⟨wn2, hwn2⟩ : ∃ v, v = wn1.alloc (.cells #[.int .i64 0, .int .i64 0] 107) := ⟨_, rfl⟩
      have bwn2 : Below wn1.heap.size wn1 wn2 := by rw [hwn2]; exact (Below.refl _ _).alloc (Nat.le_refl _) _
      have i0 : wn2.cell? ⟨wn1.heap.size, 0, none⟩ = some (.int .i64 0) := by rw [hwn2]; simp [go_sem]
      have i1 : wn2.cell? ⟨wn1.heap.size, 1, none⟩ = some (.int .i64 0) := by rw [hwn2]; simp [go_sem]
      have j0 : wn2.frozen? ⟨wn1.heap.size, 0, none⟩ = false := by rw [hwn2]; simp [go_sem]
      have j1 : wn2.frozen? ⟨wn1.heap.size, 1, none⟩ = false := by rw [hwn2]; simp [go_sem]
      obtain ⟨IB, hIB⟩ : ∃ v, v = wn1.heap.size := ⟨_, rfl⟩
      have nIB : ¬ wn1.heap.size = w.heap.size := by omega
      have lIB : w.heap.size < wn1.heap.size := by omega
      rw [← hwn2]
      replace P := P.later bwn2
      replace HI := hide ((unhide HI).later (bwn2.mono (by omega)))
      replace HD := hide ((unhide HD).later bwn2)
      replace kb := Nat.lt_of_lt_of_le kb bwn2.size
      replace BL := BL.trans (bwn2.mono (by omega))
      replace ROW := ROW.later bwn2
      replace lrow := Nat.lt_of_lt_of_le lrow bwn2.size
      replace kz := Nat.le_trans kz bwn2.size
      clear bwn2
      rw [← hIB] at i0 i1 j0 j1 nIB lIB
      rw [← hIB]
      clear hIB hwn2
      refine hK.out _ _ ?_ (fun hHeld => ?_)
      · exact ⟨P.1, P.2.1, P.2.2.1, P.2.2.2.1, P.2.2.2.2⟩
      clear hK K
      try simp only [List.getElem_toArray, List.getElem_cons_succ, List.getElem_cons_zero, Act.put, List.setIfInBounds_toArray, List.set_cons_zero, List.set_cons_succ]
      refine wpAnyH_ready (rs := [5]) (by kernel_rfl) (by simp) ?_
      refine AllReadyH.cons rfl (fun K hK => ?_) AllReadyH.nil
      go_simp
      refine (termWorth_any bd offd n cap RB 0 n n hi S V (fun _ => 0) hn hnc hn (unhide HS) t _ _ _ (unhide HI) (unhide HF) (by omega) kb (unhide HD) lrow ROW).mono ?_
      rintro e wt ⟨⟨x, y, r, rfl, hA, hN⟩, bt⟩
      have HA := hide hA
      have HN := hide hN
      clear hA hN
      replace P := P.later bt
      replace HI := hide ((unhide HI).later (bt.mono (by omega)))
      replace HD := hide ((unhide HD).later bt)
      replace kb := Nat.lt_of_lt_of_le kb bt.size
      replace BL := BL.trans (bt.mono (by omega))
      replace ROW := ROW.later bt
      replace lrow := Nat.lt_of_lt_of_le lrow bt.size
      replace j0 := fz_later bt i0 j0
      replace j1 := fz_later bt i1 j1
      replace i0 := cell_later bt i0
      replace i1 := cell_later bt i1
      replace kz := Nat.le_trans kz bt.size
      clear bt
      go_wp2_with fail
      refine hK.out _ _ ?_ (fun hHeld => ?_)
      · exact ⟨P.1, P.2.1, P.2.2.1, P.2.2.2.1, P.2.2.2.2⟩
      clear hK K
      try simp only [List.getElem_toArray, List.getElem_cons_succ, List.getElem_cons_zero, Act.put, List.setIfInBounds_toArray, List.set_cons_zero, List.set_cons_succ]
      refine wpAnyH_take (i := 6) (v := ?_) rfl (by kernel_rfl) (by kernel_rfl) (by kernel_rfl) (fun _ _ _ h => h) (Or.inl ⟨by rfl, ?_⟩) (by assumption) ?_
      rotate_left
      · (intro w hSw; (try dsimp only at hSw); first | (go_simp; done) | (go_simp; with_reducible rfl))
      try simp only [List.getElem_toArray, List.getElem_cons_succ, List.getElem_cons_zero, Act.put, List.setIfInBounds_toArray, List.set_cons_zero, List.set_cons_succ]
      refine wpAnyH_take (i := 7) (v := ?_) rfl (by kernel_rfl) (by kernel_rfl) (by kernel_rfl) (fun _ _ _ h => h) (Or.inl ⟨by rfl, ?_⟩) (by assumption) ?_
      rotate_left
      · (intro w hSw; (try dsimp only at hSw); first | (go_simp; done) | (go_simp; with_reducible rfl))
      try simp only [List.getElem_toArray, List.getElem_cons_succ, List.getElem_cons_zero, Act.put, List.setIfInBounds_toArray, List.set_cons_zero, List.set_cons_succ]
      refine wpAnyH_take (i := 8) (v := ?_) rfl (by kernel_rfl) (by kernel_rfl) (by kernel_rfl) (fun _ _ _ h => h) (Or.inl ⟨by rfl, ?_⟩) (by assumption) ?_
      rotate_left
      · (intro w hSw; (try dsimp only at hSw); first | (go_simp; done) | (go_simp; with_reducible rfl))
      try simp only [List.getElem_toArray, List.getElem_cons_succ, List.getElem_cons_zero, Act.put, List.setIfInBounds_toArray, List.set_cons_zero, List.set_cons_succ]
      refine wpAnyH_ready (rs := [10]) (by kernel_rfl) (by simp) ?_
      refine AllReadyH.cons rfl (fun K hK => ?_) AllReadyH.nil
      go_simp
      refine hK.out _ _ ?_ (fun hHeld => ?_)
      · (simp only [World.cell?_setCell_far, nIB, ne_eq, not_false_eq_true]; exact ⟨P.1, P.2.1, P.2.2.1, P.2.2.2.1, P.2.2.2.2⟩)
      clear hK K
      try simp only [List.getElem_toArray, List.getElem_cons_succ, List.getElem_cons_zero, Act.put, List.setIfInBounds_toArray, List.set_cons_zero, List.set_cons_succ]
      refine wpAnyH_take (i := 11) (v := ?_) rfl (by kernel_rfl) (by kernel_rfl) (by kernel_rfl) (fun _ _ _ h => h) (Or.inl ⟨by rfl, ?_⟩) (by assumption) ?_
      rotate_left
      · (intro w hSw; (try dsimp only at hSw); first | (go_simp; done) | (go_simp; with_reducible rfl))
      try simp only [List.getElem_toArray, List.getElem_cons_succ, List.getElem_cons_zero, Act.put, List.setIfInBounds_toArray, List.set_cons_zero, List.set_cons_succ]
      refine wpAnyH_done (by kernel_rfl) ?_ _
      cases r
      · have HE : Hid (tsort n S V t = -1) := by
          by_cases hR : RightAll n n S V (fun _ => 0) t
          · rw [show tsort n S V t = t.sort n S V from tsort_yes ⟨env_zero.1 hR.2, hR.1⟩]
            exact (unhide HA hR).2 rfl
          · exact tsort_no (fun h => hR ⟨h.2, env_zero.2 h.1⟩)
        clear HA HN
        go_wp2
        rw [unhide HE]
        go_ret
        exact ⟨rfl, (BL.setCell (by simp only; omega) _).setCell (by simp only; omega) _⟩
      · have HE : Hid (tsort n S V t = x) := by
          by_cases hR : RightAll n n S V (fun _ => 0) t
          · rw [show tsort n S V t = t.sort n S V from tsort_yes ⟨env_zero.1 hR.2, hR.1⟩]
            exact ((unhide HA hR).1 rfl).1.symm
          · have := unhide HN hR
            cases this
        clear HA HN
        go_wp2
        rw [unhide HE]
        go_ret
        exact ⟨rfl, (BL.setCell (by simp only; omega) _).setCell (by simp only; omega) _⟩
  · go_simp
    obtain ⟨wn1, hwn1⟩ : ∃ v, v = wb.alloc (.cells #[.int .i64 0, .int .i64 0] 107) := ⟨_, rfl⟩
    have bwn1 : Below wb.heap.size wb wn1 := by rw [hwn1]; exact (Below.refl _ _).alloc (Nat.le_refl _) _
    have i0 : wn1.cell? ⟨wb.heap.size, 0, none⟩ = some (.int .i64 0) := by rw [hwn1]; simp [go_sem]
    have i1 : wn1.cell? ⟨wb.heap.size, 1, none⟩ = some (.int .i64 0) := by rw [hwn1]; simp [go_sem]
    have j0 : wn1.frozen? ⟨wb.heap.size, 0, none⟩ = false := by rw [hwn1]; simp [go_sem]
    have j1 : wn1.frozen? ⟨wb.heap.size, 1, none⟩ = false := by rw [hwn1]; simp [go_sem]
    obtain ⟨IB, hIB⟩ : ∃ v, v = wb.heap.size := ⟨_, rfl⟩
    have nIB : ¬ wb.heap.size = w.heap.size := by omega
    have lIB : w.heap.size < wb.heap.size := by omega
    rw [← hwn1]
    replace P := P.later bwn1
    replace HI := hide ((unhide HI).later (bwn1.mono (by omega)))
    replace HD := hide ((unhide HD).later bwn1)
    replace kb := Nat.lt_of_lt_of_le kb bwn1.size
    replace BL := BL.trans (bwn1.mono (by omega))
    replace kz := Nat.le_trans kz bwn1.size
    clear bwn1
    rw [← hIB] at i0 i1 j0 j1 nIB lIB
    rw [← hIB]
    clear hIB hwn1
    refine hK.out _ _ ?_ (fun hHeld => ?_)
    · exact ⟨P.1, P.2.1, P.2.2.1, P.2.2.2.1, P.2.2.2.2⟩
    clear hK K
    try simp only [List.getElem_toArray, List.getElem_cons_succ, List.getElem_cons_zero, Act.put, List.setIfInBounds_toArray, List.set_cons_zero, List.set_cons_succ]
    refine wpAnyH_ready (rs := [4]) (by kernel_rfl) (by simp) ?_
    refine AllReadyH.cons rfl (fun K hK => ?_) AllReadyH.nil
    go_simp
    obtain ⟨wn2, hwn2⟩ : ∃ v, v = wn1.alloc (.cells (madeCells #[.int .i64 0] n) 3) := ⟨_, rfl⟩
    have bwn2 : Below wn1.heap.size wn1 wn2 := by rw [hwn2]; exact (Below.refl _ _).alloc (Nat.le_refl _) _
    have ROW : Ints wn2 wn1.heap.size 0 n (fun _ => 0) := by rw [hwn2]; exact zeros_new _ _ _
    have lrow : wn1.heap.size < wn2.heap.size := by rw [hwn2]; simp
    obtain ⟨RB, hRB⟩ : ∃ v, v = wn1.heap.size := ⟨_, rfl⟩
    rw [← hwn2]
    replace P := P.later bwn2
    replace HI := hide ((unhide HI).later (bwn2.mono (by omega)))
    replace HD := hide ((unhide HD).later bwn2)
    replace kb := Nat.lt_of_lt_of_le kb bwn2.size
    replace BL := BL.trans (bwn2.mono (by omega))
    replace j0 := fz_later bwn2 i0 j0
    replace j1 := fz_later bwn2 i1 j1
    replace i0 := cell_later bwn2 i0
    replace i1 := cell_later bwn2 i1
    replace kz := Nat.le_trans kz bwn2.size
    clear bwn2
    rw [← hRB] at ROW lrow
    rw [← hRB]
    clear hRB hwn2
    refine hK.out _ _ ?_ (fun hHeld => ?_)
    · exact ⟨P.1, P.2.1, P.2.2.1, P.2.2.2.1, P.2.2.2.2⟩
    clear hK K
    try simp only [List.getElem_toArray, List.getElem_cons_succ, List.getElem_cons_zero, Act.put, List.setIfInBounds_toArray, List.set_cons_zero, List.set_cons_succ]
    refine wpAnyH_ready (rs := [5]) (by kernel_rfl) (by simp) ?_
    refine AllReadyH.cons rfl (fun K hK => ?_) AllReadyH.nil
    go_simp
    refine (termWorth_any bd offd n cap RB 0 n n hi S V (fun _ => 0) hn hnc hn (unhide HS) t _ _ _ (unhide HI) (unhide HF) (by omega) kb (unhide HD) lrow ROW).mono ?_
    rintro e wt ⟨⟨x, y, r, rfl, hA, hN⟩, bt⟩
    have HA := hide hA
    have HN := hide hN
    clear hA hN
    replace P := P.later bt
    replace HI := hide ((unhide HI).later (bt.mono (by omega)))
    replace HD := hide ((unhide HD).later bt)
    replace kb := Nat.lt_of_lt_of_le kb bt.size
    replace BL := BL.trans (bt.mono (by omega))
    replace ROW := ROW.later bt
    replace lrow := Nat.lt_of_lt_of_le lrow bt.size
    replace j0 := fz_later bt i0 j0
    replace j1 := fz_later bt i1 j1
    replace i0 := cell_later bt i0
    replace i1 := cell_later bt i1
    replace kz := Nat.le_trans kz bt.size
    clear bt
    go_wp2_with fail
    refine hK.out _ _ ?_ (fun hHeld => ?_)
    · exact ⟨P.1, P.2.1, P.2.2.1, P.2.2.2.1, P.2.2.2.2⟩
    clear hK K
    try simp only [List.getElem_toArray, List.getElem_cons_succ, List.getElem_cons_zero, Act.put, List.setIfInBounds_toArray, List.set_cons_zero, List.set_cons_succ]
    refine wpAnyH_take (i := 6) (v := ?_) rfl (by kernel_rfl) (by kernel_rfl) (by kernel_rfl) (fun _ _ _ h => h) (Or.inl ⟨by rfl, ?_⟩) (by assumption) ?_
    rotate_left
    · (intro w hSw; (try dsimp only at hSw); first | (go_simp; done) | (go_simp; with_reducible rfl))
    try simp only [List.getElem_toArray, List.getElem_cons_succ, List.getElem_cons_zero, Act.put, List.setIfInBounds_toArray, List.set_cons_zero, List.set_cons_succ]
    refine wpAnyH_take (i := 7) (v := ?_) rfl (by kernel_rfl) (by kernel_rfl) (by kernel_rfl) (fun _ _ _ h => h) (Or.inl ⟨by rfl, ?_⟩) (by assumption) ?_
    rotate_left
    · (intro w hSw; (try dsimp only at hSw); first | (go_simp; done) | (go_simp; with_reducible rfl))
    try simp only [List.getElem_toArray, List.getElem_cons_succ, List.getElem_cons_zero, Act.put, List.setIfInBounds_toArray, List.set_cons_zero, List.set_cons_succ]
    refine wpAnyH_take (i := 8) (v := ?_) rfl (by kernel_rfl) (by kernel_rfl) (by kernel_rfl) (fun _ _ _ h => h) (Or.inl ⟨by rfl, ?_⟩) (by assumption) ?_
    rotate_left
    · (intro w hSw; (try dsimp only at hSw); first | (go_simp; done) | (go_simp; with_reducible rfl))
    try simp only [List.getElem_toArray, List.getElem_cons_succ, List.getElem_cons_zero, Act.put, List.setIfInBounds_toArray, List.set_cons_zero, List.set_cons_succ]
    refine wpAnyH_ready (rs := [10]) (by kernel_rfl) (by simp) ?_
    refine AllReadyH.cons rfl (fun K hK => ?_) AllReadyH.nil
    go_simp
    refine hK.out _ _ ?_ (fun hHeld => ?_)
    · (simp only [World.cell?_setCell_far, nIB, ne_eq, not_false_eq_true]; exact ⟨P.1, P.2.1, P.2.2.1, P.2.2.2.1, P.2.2.2.2⟩)
    clear hK K
    try simp only [List.getElem_toArray, List.getElem_cons_succ, List.getElem_cons_zero, Act.put, List.setIfInBounds_toArray, List.set_cons_zero, List.set_cons_succ]
    refine wpAnyH_take (i := 11) (v := ?_) rfl (by kernel_rfl) (by kernel_rfl) (by kernel_rfl) (fun _ _ _ h => h) (Or.inl ⟨by rfl, ?_⟩) (by assumption) ?_
    rotate_left
    · (intro w hSw; (try dsimp only at hSw); first | (go_simp; done) | (go_simp; with_reducible rfl))
    try simp only [List.getElem_toArray, List.getElem_cons_succ, List.getElem_cons_zero, Act.put, List.setIfInBounds_toArray, List.set_cons_zero, List.set_cons_succ]
    refine wpAnyH_done (by kernel_rfl) ?_ _
    cases r
    · have HE : Hid (tsort n S V t = -1) := by
        by_cases hR : RightAll n n S V (fun _ => 0) t
        · rw [show tsort n S V t = t.sort n S V from tsort_yes ⟨env_zero.1 hR.2, hR.1⟩]
          exact (unhide HA hR).2 rfl
        · exact tsort_no (fun h => hR ⟨h.2, env_zero.2 h.1⟩)
      clear HA HN
      go_wp2
      rw [unhide HE]
      go_ret
      exact ⟨rfl, (BL.setCell (by simp only; omega) _).setCell (by simp only; omega) _⟩
    · have HE : Hid (tsort n S V t = x) := by
        by_cases hR : RightAll n n S V (fun _ => 0) t
        · rw [show tsort n S V t = t.sort n S V from tsort_yes ⟨env_zero.1 hR.2, hR.1⟩]
          exact ((unhide HA hR).1 rfl).1.symm
        · have := unhide HN hR
          cases this
      clear HA HN
      go_wp2
      rw [unhide HE]
      go_ret
      exact ⟨rfl, (BL.setCell (by simp only; omega) _).setCell (by simp only; omega) _⟩
end Go.Proofs.YtfopmobopmdahaaGreat
