/- At every argument the program's TermEval answers as the model's: the law FnExactTermEval returns true for every list of names, every term and every list of numbers, right or not, and leaves them as they were. No condition (the law itself answers true where they take more than 1048576 signs and parts, or numbers). -/
import Derived.Test.YtbincnedkclfgaaGreatEvC
namespace Go.Proofs.YtbincnedkclfgaaGreat
open Go.ChangeShapes Go.WideShapes Go.ChangeAt Go.RowKit Go.Joins
open Go.ChangeMaps (open_string shut_string)
set_option linter.unusedVariables false
set_option linter.unusedSimpArgs false
namespace exEval
set_option maxRecDepth 100000 in
set_option maxHeartbeats 4000000 in
theorem walk (d : Option Addr) (lend capd : Nat) (Sd : Nat → ByteArray) (Vd : Nat → Int) (t : TT) (adt : Option Addr) (cpt : Nat) (n : Option Addr) (lenn capn : Nat) (Vn : Nat → Int) (w : World) (hdd : DecsAt w d lend Sd Vd) (lcd : lend ≤ capd) (lnd : lend ≤ maxLen) (hzd : ∀ i, i < lend → (Sd i).size ≤ maxLen ∧ (Lit.int .i64 (Vd i)).wf = true) (lct : t.n ≤ cpt) (hit : t.In w 0 w.heap.size adt) (hft : t.Fit maxLen) (hdn : IntsAt w n lenn Vn) (lcn : lenn ≤ capn) (lnn : lenn ≤ maxLen) :
    Calls Tryz.prog 4 #[.slice d lend capd, .agg #[.int .i64 t.op, .int .i64 t.a, .int .i64 t.b, .string t.s, .slice adt t.n cpt], .slice n lenn capn] w fun e w' => e = .returned (.bool true) ∧ Below w.heap.size w w' := by
  by_cases hen : lenn ≤ 1048576
  · obtain ⟨ex, ey, hev⟩ : ∃ x y, evalV lend lenn Sd Vd Vn t = .tuple #[.int .i64 x, .bool y] := by
      by_cases h : EvalP lend lenn Sd Vd Vn t
      · exact ⟨_, _, evalV_yes h⟩
      · exact ⟨_, _, evalV_no h⟩
    have HV := hide hev
    clear hev
    go_enter Tryz.func4, Tryz.ntmps4
    go_wp2_with fail
    have e1 := (Below.refl w.heap.size w).alloc (Nat.le_refl _) (.cells #[.int .i64 t.op, .int .i64 t.a, .int .i64 t.b, .string t.s, .slice adt t.n cpt] 25)
    refine (szDeclS_any _ _ _ _ _ _ _ (hdd.later e1) (by omega) (by omega) lnd (fun i hi => (hzd i hi).1)).mono ?_
    rintro e w1 ⟨⟨z, rfl, hzz⟩, b1⟩
    have P : Five w1 w.heap.size 0 t adt cpt := ⟨cell_later b1 (by simp [go_sem]), cell_later b1 (by simp [go_sem]), cell_later b1 (by simp [go_sem]), cell_later b1 (by simp [go_sem]), cell_later b1 (by simp [go_sem])⟩
    have BL := e1.trans (b1.mono (by simp))
    have kz := BL.size
    have I := hide (hit.later BL)
    have Ih := kz
    have D := hdd.later BL
    have J := hdn.later BL
    clear b1 hit e1 hdd hdn
    have kn : ∀ x : Int, (x != x) = false := by simp
    have kb : ∀ x : Bool, (x != x) = false := by simp
    by_cases h0 : 0 ≤ z
    · obtain ⟨_, hz1, hn, hs⟩ := hzz.resolve_left (by omega)
      have hn' : lend ≤ 1048576 := by omega
      have HS : Hid (∀ i, i < lend → (Sd i).size ≤ 1048576) := fun i hi => by have := hs i hi; omega
      clear hzz hs hzd
      obtain ⟨P0, P1, P2, P3, P4⟩ := id P
      have Pl := World.block_lt_of_cell? _ _ P0
      go_wp2_with fail
      refine (szTerm_any w.heap.size t adt cpt z _ (unhide I) hft h0 (by omega) Ih).mono ?_
      rintro e w2 ⟨⟨z2, rfl, hz2⟩, b2⟩
      clear P0 P1 P2 P3 P4 Pl
      replace P := P.later b2
      replace I := hide ((unhide I).later (b2.mono Ih)); replace Ih := Nat.le_trans Ih b2.size
      replace D := D.later b2
      replace J := J.later b2
      replace BL := BL.trans (b2.mono kz); replace kz := BL.size
      clear b2
      by_cases h2 : 0 ≤ z2
      · obtain ⟨_, _, hf⟩ := hz2.resolve_left (by omega)
        clear hz2
        obtain ⟨P0, P1, P2, P3, P4⟩ := id P
        have Pl := World.block_lt_of_cell? _ _ P0
        go_wp2_with fail
        clear P0 P1 P2 P3 P4 Pl
        refine wp_region_held_drew (S := (fun w' => w'.cell? ⟨w.heap.size, 0, none⟩ = some (.int .i64 t.op) ∧ w'.cell? ⟨w.heap.size, 1, none⟩ = some (.int .i64 t.a) ∧ w'.cell? ⟨w.heap.size, 2, none⟩ = some (.int .i64 t.b) ∧ w'.cell? ⟨w.heap.size, 3, none⟩ = some (.string t.s) ∧ w'.cell? ⟨w.heap.size, 4, none⟩ = some (.slice adt t.n cpt))) (by kernel_rfl) ?_ (fun hHeld => ?_)
        · exact ⟨P.1, P.2.1, P.2.2.1, P.2.2.2.1, P.2.2.2.2⟩
        replace P : Five w2.drew (w.heap.size) 0 t adt (cpt) := P
        replace I := hide (unhide I).drew
        replace Ih := (show _ ≤ w2.drew.heap.size from Ih)
        replace D : DecsAt w2.drew d lend Sd Vd := D
        replace J : IntsAt w2.drew n lenn Vn := J
        replace BL := (show Below w.heap.size w w2.drew from BL.drew)
        replace kz := (show w.heap.size ≤ w2.drew.heap.size from kz)
        generalize w2.drew = w2b at *
        refine wpAnyH_take (i := 0) (v := ?_) rfl (by kernel_rfl) (by kernel_rfl) (by kernel_rfl) (fun _ _ _ h => h) (Or.inl ⟨by rfl, ?_⟩) (by assumption) ?_
        rotate_left
        · (intro w hSw; (try dsimp only at hSw); first | (go_simp; done) | (go_simp; with_reducible rfl))
        try simp only [List.getElem_toArray, List.getElem_cons_succ, List.getElem_cons_zero, Act.put, List.setIfInBounds_toArray, List.set_cons_zero, List.set_cons_succ]
        refine wpAnyH_take (i := 2) (v := ?_) rfl (by kernel_rfl) (by kernel_rfl) (by kernel_rfl) (fun _ _ _ h => h) (Or.inl ⟨by rfl, ?_⟩) (by assumption) ?_
        rotate_left
        · (intro w hSw; (try dsimp only at hSw); first | (go_simp; done) | (go_simp; with_reducible rfl))
        try simp only [List.getElem_toArray, List.getElem_cons_succ, List.getElem_cons_zero, Act.put, List.setIfInBounds_toArray, List.set_cons_zero, List.set_cons_succ]
        refine wpAnyH_take (i := 4) (v := ?_) rfl (by kernel_rfl) (by kernel_rfl) (by kernel_rfl) (fun _ _ _ h => h) (Or.inl ⟨by rfl, ?_⟩) (by assumption) ?_
        rotate_left
        · (intro w hSw; (try dsimp only at hSw); first | (go_simp; done) | (go_simp; with_reducible rfl))
        try simp only [List.getElem_toArray, List.getElem_cons_succ, List.getElem_cons_zero, Act.put, List.setIfInBounds_toArray, List.set_cons_zero, List.set_cons_succ]
        refine wpAnyH_ready (rs := [1]) (by kernel_rfl) (by simp) ?_
        refine AllReadyH.cons rfl (fun K hK => ?_) AllReadyH.nil
        go_simp
        refine (toDeclS_any _ _ _ _ _ _ D hn').mono ?_
        rintro e w3 ⟨rfl, X, lx, b3⟩
        replace P := P.later b3
        replace I := hide ((unhide I).later (b3.mono Ih)); replace Ih := Nat.le_trans Ih b3.size
        replace D := D.later b3
        replace J := J.later b3
        replace BL := BL.trans (b3.mono kz); replace kz := BL.size
        clear b3
        go_wp2_with fail
        refine hK.out _ _ ?_ (fun hHeld => ?_)
        · exact ⟨P.1, P.2.1, P.2.2.1, P.2.2.2.1, P.2.2.2.2⟩
        clear hK K
        try simp only [List.getElem_toArray, List.getElem_cons_succ, List.getElem_cons_zero, Act.put, List.setIfInBounds_toArray, List.set_cons_zero, List.set_cons_succ]
        refine wpAnyH_ready (rs := [3]) (by kernel_rfl) (by simp) ?_
        refine AllReadyH.cons rfl (fun K hK => ?_) AllReadyH.nil
        go_simp
        refine (toTerm_any w.heap.size t _ _ _ (unhide I) hf Ih).mono ?_
        rintro e w4 ⟨⟨B4, rfl, Y4⟩, b4⟩
        replace P := P.later b4
        replace I := hide ((unhide I).later (b4.mono Ih)); replace Ih := Nat.le_trans Ih b4.size
        replace D := D.later b4
        replace J := J.later b4
        replace X := X.later b4
        replace lx := Nat.lt_of_lt_of_le lx b4.size
        replace BL := BL.trans (b4.mono kz); replace kz := BL.size
        clear b4
        have Y := hide (TT.In.wide (Nat.zero_le _) (Nat.le_refl _) _ _ Y4)
        have Yh := Nat.le_refl w4.heap.size
        clear Y4
        go_wp2_with fail
        refine hK.out _ _ ?_ (fun hHeld => ?_)
        · exact ⟨P.1, P.2.1, P.2.2.1, P.2.2.2.1, P.2.2.2.2⟩
        clear hK K
        try simp only [List.getElem_toArray, List.getElem_cons_succ, List.getElem_cons_zero, Act.put, List.setIfInBounds_toArray, List.set_cons_zero, List.set_cons_succ]
        refine wpAnyH_ready (rs := [5]) (by kernel_rfl) (by simp) ?_
        refine AllReadyH.cons rfl (fun K hK => ?_) AllReadyH.nil
        go_simp
        refine (toIntS_any _ _ _ _ _ J hen).mono ?_
        rintro e w41 ⟨rfl, U, lu, b41⟩
        replace P := P.later b41
        replace I := hide ((unhide I).later (b41.mono Ih)); replace Ih := Nat.le_trans Ih b41.size
        replace Y := hide ((unhide Y).later (b41.mono Yh)); replace Yh := Nat.le_trans Yh b41.size
        replace D := D.later b41
        replace J := J.later b41
        replace X := X.later b41
        replace lx := Nat.lt_of_lt_of_le lx b41.size
        replace BL := BL.trans (b41.mono kz); replace kz := BL.size
        clear b41
        go_wp2_with fail
        refine hK.out _ _ ?_ (fun hHeld => ?_)
        · exact ⟨P.1, P.2.1, P.2.2.1, P.2.2.2.1, P.2.2.2.2⟩
        clear hK K
        try simp only [List.getElem_toArray, List.getElem_cons_succ, List.getElem_cons_zero, Act.put, List.setIfInBounds_toArray, List.set_cons_zero, List.set_cons_succ]
        refine wpAnyH_ready (rs := [6]) (by kernel_rfl) (by simp) ?_
        refine AllReadyH.cons rfl (fun K hK => ?_) AllReadyH.nil
        go_simp
        refine (sTermEval_any _ _ _ _ _ _ _ _ w4.heap.size _ _ _ hn' (Nat.le_refl _) hen (unhide HS) t _ _ _ (unhide Y) hf Yh lx X lu U).mono ?_
        rintro e w5 ⟨he5, b5⟩
        replace P := P.later b5
        replace I := hide ((unhide I).later (b5.mono Ih)); replace Ih := Nat.le_trans Ih b5.size
        replace Y := hide ((unhide Y).later (b5.mono Yh)); replace Yh := Nat.le_trans Yh b5.size
        replace D := D.later b5
        replace J := J.later b5
        replace X := X.later b5
        replace U := U.later b5
        replace lx := Nat.lt_of_lt_of_le lx b5.size
        replace lu := Nat.lt_of_lt_of_le lu b5.size
        replace BL := BL.trans (b5.mono kz); replace kz := BL.size
        clear b5
        rw [unhide HV] at he5
        subst he5
        go_wp2_with fail
        refine hK.out _ _ ?_ (fun hHeld => ?_)
        · exact ⟨P.1, P.2.1, P.2.2.1, P.2.2.2.1, P.2.2.2.2⟩
        clear hK K
        try simp only [List.getElem_toArray, List.getElem_cons_succ, List.getElem_cons_zero, Act.put, List.setIfInBounds_toArray, List.set_cons_zero, List.set_cons_succ]
        refine wpAnyH_take (i := 7) (v := ?_) rfl (by kernel_rfl) (by kernel_rfl) (by kernel_rfl) (fun _ _ _ h => h) (Or.inl ⟨by rfl, ?_⟩) (by assumption) ?_
        rotate_left
        · (intro w hSw; (try dsimp only at hSw); first | (go_simp; done) | (go_simp; with_reducible rfl))
        try simp only [List.getElem_toArray, List.getElem_cons_succ, List.getElem_cons_zero, Act.put, List.setIfInBounds_toArray, List.set_cons_zero, List.set_cons_succ]
        refine wpAnyH_take (i := 8) (v := ?_) rfl (by kernel_rfl) (by kernel_rfl) (by kernel_rfl) (fun _ _ _ h => h) (Or.inl ⟨by rfl, ?_⟩) (by assumption) ?_
        rotate_left
        · (intro w hSw; (try dsimp only at hSw); first | (go_simp; done) | (go_simp; with_reducible rfl))
        try simp only [List.getElem_toArray, List.getElem_cons_succ, List.getElem_cons_zero, Act.put, List.setIfInBounds_toArray, List.set_cons_zero, List.set_cons_succ]
        refine wpAnyH_take (i := 9) (v := ?_) rfl (by kernel_rfl) (by kernel_rfl) (by kernel_rfl) (fun _ _ _ h => h) (Or.inl ⟨by rfl, ?_⟩) (by assumption) ?_
        rotate_left
        · (intro w hSw; (try dsimp only at hSw); first | (go_simp; done) | (go_simp; with_reducible rfl))
        try simp only [List.getElem_toArray, List.getElem_cons_succ, List.getElem_cons_zero, Act.put, List.setIfInBounds_toArray, List.set_cons_zero, List.set_cons_succ]
        refine wpAnyH_take (i := 10) (v := ?_) rfl (by kernel_rfl) (by kernel_rfl) (by kernel_rfl) (fun _ _ _ h => h) (Or.inl ⟨by rfl, ?_⟩) (by assumption) ?_
        rotate_left
        · (intro w hSw; (try dsimp only at hSw); first | (go_simp; done) | (go_simp; with_reducible rfl))
        try simp only [List.getElem_toArray, List.getElem_cons_succ, List.getElem_cons_zero, Act.put, List.setIfInBounds_toArray, List.set_cons_zero, List.set_cons_succ]
        refine wpAnyH_take (i := 11) (v := ?_) rfl (by kernel_rfl) (by kernel_rfl) (by kernel_rfl) (fun _ _ _ h => h) (Or.inl ⟨by rfl, ?_⟩) (by assumption) ?_
        rotate_left
        · (intro w hSw; (try dsimp only at hSw); first | (go_simp; done) | (go_simp; with_reducible rfl))
        try simp only [List.getElem_toArray, List.getElem_cons_succ, List.getElem_cons_zero, Act.put, List.setIfInBounds_toArray, List.set_cons_zero, List.set_cons_succ]
        refine wpAnyH_done (by kernel_rfl) ?_ _
        obtain ⟨P0, P1, P2, P3, P4⟩ := id P
        have Pl := World.block_lt_of_cell? _ _ P0
        clear X lx Y Yh U lu
        go_wp2_with fail
        refine (toDeclS_any _ _ _ _ _ _ D hn').mono ?_
        rintro e w6 ⟨rfl, X, lx, b6⟩
        clear P0 P1 P2 P3 P4 Pl
        replace P := P.later b6
        replace I := hide ((unhide I).later (b6.mono Ih)); replace Ih := Nat.le_trans Ih b6.size
        replace D := D.later b6
        replace J := J.later b6
        replace BL := BL.trans (b6.mono kz); replace kz := BL.size
        clear b6
        obtain ⟨P0, P1, P2, P3, P4⟩ := id P
        have Pl := World.block_lt_of_cell? _ _ P0
        go_wp2_with fail
        refine (toTerm_any w.heap.size t _ _ _ (unhide I) hf Ih).mono ?_
        rintro e w7 ⟨⟨B7, rfl, Y7⟩, b7⟩
        clear P0 P1 P2 P3 P4 Pl
        replace P := P.later b7
        replace I := hide ((unhide I).later (b7.mono Ih)); replace Ih := Nat.le_trans Ih b7.size
        replace D := D.later b7
        replace J := J.later b7
        replace X := X.later b7
        replace lx := Nat.lt_of_lt_of_le lx b7.size
        replace BL := BL.trans (b7.mono kz); replace kz := BL.size
        clear b7
        obtain ⟨P0, P1, P2, P3, P4⟩ := id P
        have Pl := World.block_lt_of_cell? _ _ P0
        have Y := hide (TT.In.wide (Nat.zero_le _) (Nat.le_refl _) _ _ Y7)
        have Yh := Nat.le_refl w7.heap.size
        clear Y7
        go_wp2_with fail
        obtain ⟨wbQ, hwbQ⟩ : ∃ v, v = w7.alloc (.cells #[.int .i64 t.op, .int .i64 t.a, .int .i64 t.b, .string t.s, .slice (some ⟨B7, 0, none⟩) t.n t.n] 33) := ⟨_, rfl⟩
        have bwbQ : Below w7.heap.size w7 wbQ := by rw [hwbQ]; exact (Below.refl _ _).alloc (Nat.le_refl _) _
        have Q : Five wbQ w7.heap.size 0 t (some ⟨B7, 0, none⟩) t.n := by rw [hwbQ]; exact ⟨by simp [go_sem], by simp [go_sem], by simp [go_sem], by simp [go_sem], by simp [go_sem]⟩
        rw [← hwbQ]
        clear P0 P1 P2 P3 P4 Pl
        replace P := P.later bwbQ
        replace I := hide ((unhide I).later (bwbQ.mono Ih)); replace Ih := Nat.le_trans Ih bwbQ.size
        replace Y := hide ((unhide Y).later (bwbQ.mono Yh)); replace Yh := Nat.le_trans Yh bwbQ.size
        replace D := D.later bwbQ
        replace J := J.later bwbQ
        replace X := X.later bwbQ
        replace lx := Nat.lt_of_lt_of_le lx bwbQ.size
        replace BL := BL.trans (bwbQ.mono kz); replace kz := BL.size
        clear bwbQ hwbQ
        obtain ⟨P0, P1, P2, P3, P4⟩ := id P
        have Pl := World.block_lt_of_cell? _ _ P0
        obtain ⟨Q0, Q1, Q2, Q3, Q4⟩ := id Q
        have Ql := World.block_lt_of_cell? _ _ Q0
        refine (toIntS_any _ _ _ _ _ J hen).mono ?_
        rintro e w71 ⟨rfl, U, lu, b71⟩
        clear P0 P1 P2 P3 P4 Pl Q0 Q1 Q2 Q3 Q4 Ql
        replace P := P.later b71
        replace Q := Q.later b71
        replace I := hide ((unhide I).later (b71.mono Ih)); replace Ih := Nat.le_trans Ih b71.size
        replace Y := hide ((unhide Y).later (b71.mono Yh)); replace Yh := Nat.le_trans Yh b71.size
        replace D := D.later b71
        replace J := J.later b71
        replace X := X.later b71
        replace lx := Nat.lt_of_lt_of_le lx b71.size
        replace BL := BL.trans (b71.mono kz); replace kz := BL.size
        clear b71
        obtain ⟨P0, P1, P2, P3, P4⟩ := id P
        have Pl := World.block_lt_of_cell? _ _ P0
        obtain ⟨Q0, Q1, Q2, Q3, Q4⟩ := id Q
        have Ql := World.block_lt_of_cell? _ _ Q0
        go_wp2_with fail
        refine (iTermEval_any _ _ _ _ _ _ _ _ w7.heap.size _ _ _ hn' (Nat.le_refl _) hen (unhide HS) t _ _ _ (unhide Y) hf Yh lx X lu U).mono ?_
        rintro e w8 ⟨he8, b8⟩
        clear P0 P1 P2 P3 P4 Pl Q0 Q1 Q2 Q3 Q4 Ql
        replace P := P.later b8
        replace Q := Q.later b8
        replace I := hide ((unhide I).later (b8.mono Ih)); replace Ih := Nat.le_trans Ih b8.size
        replace Y := hide ((unhide Y).later (b8.mono Yh)); replace Yh := Nat.le_trans Yh b8.size
        replace D := D.later b8
        replace J := J.later b8
        replace X := X.later b8
        replace U := U.later b8
        replace lx := Nat.lt_of_lt_of_le lx b8.size
        replace lu := Nat.lt_of_lt_of_le lu b8.size
        replace BL := BL.trans (b8.mono kz); replace kz := BL.size
        clear b8
        obtain ⟨P0, P1, P2, P3, P4⟩ := id P
        have Pl := World.block_lt_of_cell? _ _ P0
        obtain ⟨Q0, Q1, Q2, Q3, Q4⟩ := id Q
        have Ql := World.block_lt_of_cell? _ _ Q0
        rw [unhide HV] at he8
        subst he8
        go_wp2_with fail
        refine (toDeclS_any _ _ _ _ _ _ D hn').mono ?_
        rintro e w9 ⟨rfl, Z, lz, b9⟩
        clear P0 P1 P2 P3 P4 Pl Q0 Q1 Q2 Q3 Q4 Ql
        replace P := P.later b9
        replace Q := Q.later b9
        replace I := hide ((unhide I).later (b9.mono Ih)); replace Ih := Nat.le_trans Ih b9.size
        replace Y := hide ((unhide Y).later (b9.mono Yh)); replace Yh := Nat.le_trans Yh b9.size
        replace D := D.later b9
        replace J := J.later b9
        replace X := X.later b9
        replace U := U.later b9
        replace lx := Nat.lt_of_lt_of_le lx b9.size
        replace lu := Nat.lt_of_lt_of_le lu b9.size
        replace BL := BL.trans (b9.mono kz); replace kz := BL.size
        clear b9
        obtain ⟨P0, P1, P2, P3, P4⟩ := id P
        have Pl := World.block_lt_of_cell? _ _ P0
        obtain ⟨Q0, Q1, Q2, Q3, Q4⟩ := id Q
        have Ql := World.block_lt_of_cell? _ _ Q0
        go_wp2_with fail
        refine (eqDeclS_same _ _ _ _ _ _ _ _ _ _ lx lz X Z hn').mono ?_
        rintro e w10 ⟨rfl, b10⟩
        clear P0 P1 P2 P3 P4 Pl Q0 Q1 Q2 Q3 Q4 Ql
        replace P := P.later b10
        replace Q := Q.later b10
        replace I := hide ((unhide I).later (b10.mono Ih)); replace Ih := Nat.le_trans Ih b10.size
        replace Y := hide ((unhide Y).later (b10.mono Yh)); replace Yh := Nat.le_trans Yh b10.size
        replace D := D.later b10
        replace J := J.later b10
        replace X := X.later b10
        replace U := U.later b10
        replace lx := Nat.lt_of_lt_of_le lx b10.size
        replace lu := Nat.lt_of_lt_of_le lu b10.size
        replace BL := BL.trans (b10.mono kz); replace kz := BL.size
        clear b10
        obtain ⟨P0, P1, P2, P3, P4⟩ := id P
        have Pl := World.block_lt_of_cell? _ _ P0
        obtain ⟨Q0, Q1, Q2, Q3, Q4⟩ := id Q
        have Ql := World.block_lt_of_cell? _ _ Q0
        clear X Z lx lz
        go_wp2
        go_region_held3 (fun w' => w'.cell? ⟨w.heap.size, 0, none⟩ = some (.int .i64 t.op) ∧ w'.cell? ⟨w.heap.size, 1, none⟩ = some (.int .i64 t.a) ∧ w'.cell? ⟨w.heap.size, 2, none⟩ = some (.int .i64 t.b) ∧ w'.cell? ⟨w.heap.size, 3, none⟩ = some (.string t.s) ∧ w'.cell? ⟨w.heap.size, 4, none⟩ = some (.slice adt t.n cpt) ∧ w'.cell? ⟨w7.heap.size, 0, none⟩ = some (.int .i64 t.op) ∧ w'.cell? ⟨w7.heap.size, 1, none⟩ = some (.int .i64 t.a) ∧ w'.cell? ⟨w7.heap.size, 2, none⟩ = some (.int .i64 t.b) ∧ w'.cell? ⟨w7.heap.size, 3, none⟩ = some (.string t.s) ∧ w'.cell? ⟨w7.heap.size, 4, none⟩ = some (.slice (some ⟨B7, 0, none⟩) t.n t.n)) (first | go_keep | exact ⟨P.1, P.2.1, P.2.2.1, P.2.2.2.1, P.2.2.2.2, Q.1, Q.2.1, Q.2.2.1, Q.2.2.2.1, Q.2.2.2.2⟩)
          (first | (go_at_call 9; refine (toTerm_any w.heap.size t _ _ _ (by first | exact unhide I | exact (unhide I).drew) hf (by exact Ih)).mono ?_; rintro e wq ⟨⟨Bq, rfl, Xq⟩, bq⟩; have Yq := hide (TT.In.wide (Nat.zero_le _) (Nat.le_refl _) _ _ Xq); have X2 := hide (TT.In.wide (Nat.le_refl _) (Nat.le_trans Yh bq.size) _ _ (TT.In.later (by first | exact unhide Y | exact (unhide Y).drew) (bq.mono Yh))); have P := Five.later (by exact P) bq; have Q := Five.later (by exact Q) bq; have BL := (by first | exact BL.trans (bq.mono kz) | exact BL.drew.trans (bq.mono kz)); have kz := BL.size) | (go_at_call 12; refine (eqTerm_same wq.heap.size t _ _ _ _ _ (by first | exact unhide X2 | exact (unhide X2).drew) (by first | exact unhide Yq | exact (unhide Yq).drew) hf (by exact Nat.le_refl _)).mono ?_; rintro e wp ⟨rfl, bp⟩; have P := Five.later (by exact P) bp; have Q := Five.later (by exact Q) bp; have BL := (by first | exact BL.trans (bp.mono kz) | exact BL.drew.trans (bp.mono kz)); have kz := BL.size))
        have J2 := ((show IntsAt w10.drew n lenn Vn from J).later bq).later bp
        have U2 := ((show Ints w10.drew wbQ.heap.size 0 lenn Vn from U).later bq).later bp
        have lu2 := Nat.lt_of_lt_of_le (Nat.lt_of_lt_of_le (show _ < w10.drew.heap.size from lu) bq.size) bp.size
        clear J U lu D I Ih Y Yh X2 Yq Xq bq bp P0 P1 P2 P3 P4 Pl Q0 Q1 Q2 Q3 Q4 Ql
        go_wp2_with fail
        refine (toIntS_any _ _ _ _ _ J2 hen).mono ?_
        rintro e w11 ⟨rfl, Z, lz, b11⟩
        replace U2 := U2.later b11
        replace lu2 := Nat.lt_of_lt_of_le lu2 b11.size
        have BL := BL.trans (b11.mono kz)
        clear b11
        go_wp2_with fail
        refine (eqIntS_same _ _ _ _ _ _ _ _ _ lu2 lz U2 Z hen).mono ?_
        rintro e w12 ⟨rfl, b12⟩
        have BL := BL.trans (b12.mono BL.size)
        clear b12
        go_wp2
        go_ret
        exact ⟨rfl, BL⟩
      · go_wp2
        go_ret
        exact ⟨rfl, BL⟩
    · go_wp2
      go_ret
      exact ⟨rfl, BL⟩
  · go_enter Tryz.func4, Tryz.ntmps4
    go_wp2
    go_ret
    exact ⟨rfl, (Below.refl w.heap.size w).alloc (Nat.le_refl _) _⟩

set_option maxRecDepth 100000 in
theorem lifted (os : Os) (started : os.Started) (H : Type) (enc : TypeId × Value → H) :
    ReturnsInHanded {} Tryz.checked os 4 .any (Rows.fnExactTermEvalSpec.pre6 enc Tryz.prog Tryz.f4 Rows.fnExactTermEvalRow.domain false) (Rows.fnExactTermEvalSpec.post enc Tryz.prog Tryz.f4 false true false false) := by
  refine returnsInHanded_of_change (C := Tryz.checked) own started (by kernel_rfl) Tryz.func4
    (ChangeSpec.witness6 (enc := enc) (C := Tryz.checked) false ⟨#[], #[.slice none 0 0, .agg #[.int .i64 0, .int .i64 0, .int .i64 0, .string ByteArray.empty, .slice none 0 0], .slice none 0 0], []⟩ 8 (by kernel_rfl) (by kernel_rfl) (by kernel_rfl) (by kernel_rfl)) ?_
  intro W base args ds gs before hval0 hW hcnd _
  have hval : ∀ (j : Nat) t v, Tryz.f4.params[j]? = some t → args[j]? = some v → Value.okWide Tryz.prog W .any base t v := hval0
  have hW' := hW
  obtain ⟨p, q, hA0, hV, rfl, hfz, hnd⟩ := hW
  have hA : DataW.TrodAll enc Tryz.prog W 0 (fun _ => true) true Tryz.f4.params.toList args.toList ds p := hA0
  rw [Tryz.params4] at hA hval
  obtain ⟨v0, vs0, d0, ds0, p0, q0, hargs, rfl, rfl, h0, r0⟩ := trodAll_cons hA
  obtain ⟨v1, vs1, d1, ds1, p1, q1, rfl, rfl, rfl, h1, r1⟩ := trodAll_cons r0
  obtain ⟨v2, vs2, d2, ds2, p2, q2, rfl, rfl, rfl, h2, r2⟩ := trodAll_cons r1
  obtain ⟨rfl, rfl, rfl⟩ := trodAll_nil r2
  obtain rfl : args = #[v0, v1, v2] := by cases args; simp_all
  obtain ⟨rfl, rfl⟩ := trodVars_none hV
  obtain ⟨d, lend, capd, rfl⟩ := okWide_slice Tryz.underlying22 (hval 0 22 v0 rfl rfl)
  have k0 := h0
  have lt0 : ∀ x ∈ p0, x.block < W.heap.size := by obtain ⟨m, hm⟩ := k0; exact DataW.trod_lt m _ _ _ hm
  obtain ⟨lcd, lnd, Sd, Vd, hdd, hzd⟩ := decls_in h0
  have k1 := h1
  have lt1 : ∀ x ∈ p1, x.block < W.heap.size := by obtain ⟨m, hm⟩ := k1; exact DataW.trod_lt m _ _ _ hm
  obtain ⟨t, adt, cpt, rfl, lct, hit, hft⟩ := term_in (hval 1 25 v1 rfl rfl) h1
  obtain ⟨n, lenn, capn, rfl⟩ := okWide_slice Tryz.underlying38 (hval 2 38 v2 rfl rfl)
  have k2 := h2
  have lt2 : ∀ x ∈ p2, x.block < W.heap.size := by obtain ⟨m, hm⟩ := k2; exact DataW.trod_lt m _ _ _ hm
  obtain ⟨lcn, lnn, Vn, hdn⟩ := ints_in h2
  clear hA0 hval0
  refine (walk d lend capd Sd Vd t adt cpt n lenn capn Vn W hdd lcd lnd hzd lct hit hft hdn lcn lnn).mono fun e W' ⟨he, bel⟩ => ?_
  subst he
  exact ⟨_, rfl, _, _, _, [], _, [], hW', trodAll_mk1 (shut_bool Tryz.underlying4 _), (trodAll_cons_mk (Below.trod laidOut (by kernel_rfl) (of_decide_eq_true (by kernel_rfl)) k0 bel lt0) (trodAll_cons_mk (Below.trod laidOut (by kernel_rfl) (of_decide_eq_true (by kernel_rfl)) k1 bel lt1) (trodAll_cons_mk (Below.trod laidOut (by kernel_rfl) (of_decide_eq_true (by kernel_rfl)) k2 bel lt2) trodAll_mk0))), rfl, bel.frame _, fun h => by cases h⟩

theorem over : Rows.fnExactTermEvalRow.holds Tryz.pinned (OpenSpec.ofChange Rows.fnExactTermEvalSpec) :=
  OpenClaim.holds_of_wide 4 Tryz.f4 rfl rfl rfl rfl rfl rfl rfl ⟨rfl, rfl, rfl, rfl, rfl⟩ rfl rfl rfl rfl rfl (by kernel_rfl) Tryz.func4 (by kernel_rfl)
    (of_decide_eq_true (by kernel_rfl)) (by unfold Func.isWrapper; first | (rw [if_pos (by decide +kernel)]; kernel_rfl) | (rw [if_neg (by decide +kernel)]; exact ⟨rfl, rfl⟩))
    (fun os started H enc _ => lifted os started H enc)
end exEval

theorem exEval_holds : Rows.FnExactTermEvalSaid := exEval.over
#print axioms exEval_holds
end Go.Proofs.YtbincnedkclfgaaGreat
