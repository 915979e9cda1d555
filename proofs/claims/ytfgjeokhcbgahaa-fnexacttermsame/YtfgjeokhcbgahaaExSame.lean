/- At every two arguments the program's TermSame answers as the model's: the law FnExactTermSame returns true for every two terms, right or not, and leaves them as they were. No condition (the law itself answers true where the terms take more than 1048576 signs and parts). -/
import Derived.Test.YtfgjeokhcbgahaaSamA
import Derived.Test.YtfgjeokhcbgahaaSamC
namespace Go.Proofs.Ytfgjeokhcbgahaa
open Go.ChangeShapes Go.WideShapes Go.ChangeAt Go.RowKit Go.Joins
open Go.ChangeMaps (open_string shut_string)
set_option linter.unusedVariables false
set_option linter.unusedSimpArgs false
namespace exSame
set_option maxRecDepth 100000 in
set_option maxHeartbeats 4000000 in
theorem walk (x : TT) (adx : Option Addr) (cpx : Nat) (y : TT) (ady : Option Addr) (cpy : Nat) (w : World) (lcx : x.n ≤ cpx) (hix : x.In w 0 w.heap.size adx) (hfx : x.Fit maxLen) (lcy : y.n ≤ cpy) (hiy : y.In w 0 w.heap.size ady) (hfy : y.Fit maxLen) :
    Calls Try.prog 3 #[.agg #[.int .i64 x.op, .int .i64 x.a, .int .i64 x.b, .string x.s, .slice adx x.n cpx], .agg #[.int .i64 y.op, .int .i64 y.a, .int .i64 y.b, .string y.s, .slice ady y.n cpy]] w fun e w' => e = .returned (.bool true) ∧ Below w.heap.size w w' := by
  go_enter Try.func3, Try.ntmps3
  go_wp2_with fail
  have e1 := ((Below.refl w.heap.size w).alloc (Nat.le_refl _) (.cells #[.int .i64 x.op, .int .i64 x.a, .int .i64 x.b, .string x.s, .slice adx x.n cpx] 24)).alloc (by simp) (.cells #[.int .i64 y.op, .int .i64 y.a, .int .i64 y.b, .string y.s, .slice ady y.n cpy] 24)
  refine (szTermN_any w.heap.size x adx cpx 1048576 _ (hix.later e1) hfx (by omega) (by omega) (by simp <;> omega)).mono ?_
  rintro e w1 ⟨⟨z, rfl, hzz⟩, b1⟩
  have F : Five w1 w.heap.size 0 x adx cpx := ⟨cell_later b1 (by simp [go_sem]), cell_later b1 (by simp [go_sem]), cell_later b1 (by simp [go_sem]), cell_later b1 (by simp [go_sem]), cell_later b1 (by simp [go_sem])⟩
  have R : Five w1 (w.heap.size + 1) 0 y ady cpy := ⟨cell_later b1 (by simp [go_sem]), cell_later b1 (by simp [go_sem]), cell_later b1 (by simp [go_sem]), cell_later b1 (by simp [go_sem]), cell_later b1 (by simp [go_sem])⟩
  have BL := e1.trans (b1.mono (by simp <;> omega))
  have kz := BL.size
  have I := hide (hix.later BL)
  have J := hide (hiy.later BL)
  have Ih := kz
  have Jh := kz
  clear b1 hix hiy e1
  have kn : (sameB x y != sameB x y) = false := by simp
  by_cases h0 : 0 ≤ z
  · obtain ⟨_, hz1, hf⟩ := hzz.resolve_left (by omega)
    have hxN := (TT.D_pos (unhide I)).2
    clear hzz
    obtain ⟨F0, F1, F2, F3, F4⟩ := id F
    have Fl := World.block_lt_of_cell? _ _ F0
    obtain ⟨R0, R1, R2, R3, R4⟩ := id R
    have Rl := World.block_lt_of_cell? _ _ R0
    go_wp2_with fail
    refine (szTermN_any w.heap.size y ady cpy z _ (unhide J) hfy h0 (by omega) Jh).mono ?_
    rintro e w2 ⟨⟨z2, rfl, hz2⟩, b2⟩
    clear F0 F1 F2 F3 F4 Fl R0 R1 R2 R3 R4 Rl
    replace F := F.later b2
    replace R := R.later b2
    replace I := hide ((unhide I).later (b2.mono Ih)); replace Ih := Nat.le_trans Ih b2.size
    replace J := hide ((unhide J).later (b2.mono Jh)); replace Jh := Nat.le_trans Jh b2.size
    replace BL := BL.trans (b2.mono kz); replace kz := BL.size
    clear b2
    by_cases h2 : 0 ≤ z2
    · obtain ⟨_, _, hg⟩ := hz2.resolve_left (by omega)
      clear hz2
      obtain ⟨F0, F1, F2, F3, F4⟩ := id F
      have Fl := World.block_lt_of_cell? _ _ F0
      obtain ⟨R0, R1, R2, R3, R4⟩ := id R
      have Rl := World.block_lt_of_cell? _ _ R0
      go_wp2_with fail
      clear F0 F1 F2 F3 F4 Fl R0 R1 R2 R3 R4 Rl
      refine wp_region_held_drew (S := (fun w' => w'.cell? ⟨w.heap.size, 0, none⟩ = some (.int .i64 x.op) ∧ w'.cell? ⟨w.heap.size, 1, none⟩ = some (.int .i64 x.a) ∧ w'.cell? ⟨w.heap.size, 2, none⟩ = some (.int .i64 x.b) ∧ w'.cell? ⟨w.heap.size, 3, none⟩ = some (.string x.s) ∧ w'.cell? ⟨w.heap.size, 4, none⟩ = some (.slice adx x.n cpx) ∧ w'.cell? ⟨w.heap.size + 1, 0, none⟩ = some (.int .i64 y.op) ∧ w'.cell? ⟨w.heap.size + 1, 1, none⟩ = some (.int .i64 y.a) ∧ w'.cell? ⟨w.heap.size + 1, 2, none⟩ = some (.int .i64 y.b) ∧ w'.cell? ⟨w.heap.size + 1, 3, none⟩ = some (.string y.s) ∧ w'.cell? ⟨w.heap.size + 1, 4, none⟩ = some (.slice ady y.n cpy))) (by kernel_rfl) ?_ (fun hHeld => ?_)
      · exact ⟨F.1, F.2.1, F.2.2.1, F.2.2.2.1, F.2.2.2.2, R.1, R.2.1, R.2.2.1, R.2.2.2.1, R.2.2.2.2⟩
      replace F : Five w2.drew (w.heap.size) 0 x adx (cpx) := F
      replace R : Five w2.drew (w.heap.size + 1) 0 y ady (cpy) := R
      replace I := hide (unhide I).drew
      replace Ih := (show _ ≤ w2.drew.heap.size from Ih)
      replace J := hide (unhide J).drew
      replace Jh := (show _ ≤ w2.drew.heap.size from Jh)
      replace BL := (show Below w.heap.size w w2.drew from BL.drew)
      replace kz := (show w.heap.size ≤ w2.drew.heap.size from kz)
      generalize w2.drew = w2b at *
      refine wpAnyH_take (i := 0) (v := ?_) rfl (by kernel_rfl) (by kernel_rfl) (by kernel_rfl) (fun _ _ _ h => h) (Or.inl ⟨by rfl, ?_⟩) (by assumption) ?_
      rotate_left
      · (intro w hSw; (try dsimp only at hSw); first | (go_simp; done) | (go_simp; with_reducible rfl))
      try simp only [List.getElem_toArray, List.getElem_cons_succ, List.getElem_cons_zero, Act.put, List.setIfInBounds_toArray, List.set_cons_zero, List.set_cons_succ]
      refine wpAnyH_take (i := 2) (v := ?_) rfl (by kernel_rfl) (by kernel_rfl) (by kernel_rfl) (fun _ _ _ h => h) (Or.inl ⟨by rfl, ?_⟩) (by assumption) ?_
      rotate_left
      · (intro w hSw; (try dsimp only at hSw); first | (go_simp; done) | (go_simp; with_reducible rfl))
      try simp only [List.getElem_toArray, List.getElem_cons_succ, List.getElem_cons_zero, Act.put, List.setIfInBounds_toArray, List.set_cons_zero, List.set_cons_succ]
      refine wpAnyH_ready (rs := [1]) (by kernel_rfl) (by simp) ?_
      refine AllReadyH.cons rfl (fun K hK => ?_) AllReadyH.nil
      go_simp
      refine (toTerm_any w.heap.size x _ _ _ (unhide I) hf Ih).mono ?_
      rintro e w3 ⟨⟨B3, rfl, Y3⟩, b3⟩
      replace F := F.later b3
      replace R := R.later b3
      replace I := hide ((unhide I).later (b3.mono Ih)); replace Ih := Nat.le_trans Ih b3.size
      replace J := hide ((unhide J).later (b3.mono Jh)); replace Jh := Nat.le_trans Jh b3.size
      replace BL := BL.trans (b3.mono kz); replace kz := BL.size
      clear b3
      have X := hide (TT.In.wide (Nat.zero_le _) (Nat.le_refl _) _ _ Y3)
      have Xh := Nat.le_refl w3.heap.size
      clear Y3
      go_wp2_with fail
      refine hK.out _ _ ?_ (fun hHeld => ?_)
      · exact ⟨F.1, F.2.1, F.2.2.1, F.2.2.2.1, F.2.2.2.2, R.1, R.2.1, R.2.2.1, R.2.2.2.1, R.2.2.2.2⟩
      clear hK K
      try simp only [List.getElem_toArray, List.getElem_cons_succ, List.getElem_cons_zero, Act.put, List.setIfInBounds_toArray, List.set_cons_zero, List.set_cons_succ]
      refine wpAnyH_ready (rs := [3]) (by kernel_rfl) (by simp) ?_
      refine AllReadyH.cons rfl (fun K hK => ?_) AllReadyH.nil
      go_simp
      refine (toTerm_any w.heap.size y _ _ _ (unhide J) hg Jh).mono ?_
      rintro e w4 ⟨⟨B4, rfl, Y4⟩, b4⟩
      replace F := F.later b4
      replace R := R.later b4
      replace I := hide ((unhide I).later (b4.mono Ih)); replace Ih := Nat.le_trans Ih b4.size
      replace J := hide ((unhide J).later (b4.mono Jh)); replace Jh := Nat.le_trans Jh b4.size
      replace X := hide ((unhide X).later (b4.mono Xh)); replace Xh := Nat.le_trans Xh b4.size
      replace BL := BL.trans (b4.mono kz); replace kz := BL.size
      clear b4
      have Y := hide (TT.In.wide (Nat.zero_le _) (Nat.le_refl _) _ _ Y4)
      have Yh := Nat.le_refl w4.heap.size
      clear Y4
      go_wp2_with fail
      refine hK.out _ _ ?_ (fun hHeld => ?_)
      · exact ⟨F.1, F.2.1, F.2.2.1, F.2.2.2.1, F.2.2.2.2, R.1, R.2.1, R.2.2.1, R.2.2.2.1, R.2.2.2.2⟩
      clear hK K
      try simp only [List.getElem_toArray, List.getElem_cons_succ, List.getElem_cons_zero, Act.put, List.setIfInBounds_toArray, List.set_cons_zero, List.set_cons_succ]
      refine wpAnyH_ready (rs := [4]) (by kernel_rfl) (by simp) ?_
      refine AllReadyH.cons rfl (fun K hK => ?_) AllReadyH.nil
      go_simp
      refine (sSame_any w4.heap.size x y _ _ _ _ _ (TT.In.wide (Nat.le_refl _) Xh _ _ (unhide X)) (unhide Y) hf Yh).mono ?_
      rintro e w5 ⟨rfl, b5⟩
      replace F := F.later b5
      replace R := R.later b5
      replace I := hide ((unhide I).later (b5.mono Ih)); replace Ih := Nat.le_trans Ih b5.size
      replace J := hide ((unhide J).later (b5.mono Jh)); replace Jh := Nat.le_trans Jh b5.size
      replace X := hide ((unhide X).later (b5.mono Xh)); replace Xh := Nat.le_trans Xh b5.size
      replace Y := hide ((unhide Y).later (b5.mono Yh)); replace Yh := Nat.le_trans Yh b5.size
      replace BL := BL.trans (b5.mono kz); replace kz := BL.size
      clear b5
      go_wp2_with fail
      refine hK.out _ _ ?_ (fun hHeld => ?_)
      · exact ⟨F.1, F.2.1, F.2.2.1, F.2.2.2.1, F.2.2.2.2, R.1, R.2.1, R.2.2.1, R.2.2.2.1, R.2.2.2.2⟩
      clear hK K
      try simp only [List.getElem_toArray, List.getElem_cons_succ, List.getElem_cons_zero, Act.put, List.setIfInBounds_toArray, List.set_cons_zero, List.set_cons_succ]
      refine wpAnyH_take (i := 5) (v := ?_) rfl (by kernel_rfl) (by kernel_rfl) (by kernel_rfl) (fun _ _ _ h => h) (Or.inl ⟨by rfl, ?_⟩) (by assumption) ?_
      rotate_left
      · (intro w hSw; (try dsimp only at hSw); first | (go_simp; done) | (go_simp; with_reducible rfl))
      try simp only [List.getElem_toArray, List.getElem_cons_succ, List.getElem_cons_zero, Act.put, List.setIfInBounds_toArray, List.set_cons_zero, List.set_cons_succ]
      refine wpAnyH_done (by kernel_rfl) ?_ _
      obtain ⟨F0, F1, F2, F3, F4⟩ := id F
      have Fl := World.block_lt_of_cell? _ _ F0
      obtain ⟨R0, R1, R2, R3, R4⟩ := id R
      have Rl := World.block_lt_of_cell? _ _ R0
      clear X Xh Y Yh
      go_wp2_with fail
      refine (toTermP_any w.heap.size x _ _ _ (unhide I) hf Ih).mono ?_
      rintro e w6 ⟨⟨B6, rfl, X6⟩, pl6, b6⟩
      have kz5 := b6.size
      clear F0 F1 F2 F3 F4 Fl R0 R1 R2 R3 R4 Rl
      replace F := F.later b6
      replace R := R.later b6
      replace I := hide ((unhide I).later (b6.mono Ih)); replace Ih := Nat.le_trans Ih b6.size
      replace J := hide ((unhide J).later (b6.mono Jh)); replace Jh := Nat.le_trans Jh b6.size
      replace BL := BL.trans (b6.mono kz); replace kz := BL.size
      clear b6
      obtain ⟨F0, F1, F2, F3, F4⟩ := id F
      have Fl := World.block_lt_of_cell? _ _ F0
      obtain ⟨R0, R1, R2, R3, R4⟩ := id R
      have Rl := World.block_lt_of_cell? _ _ R0
      obtain ⟨lo, hlo⟩ : ∃ v, v = w5.heap.size := ⟨_, rfl⟩
      rw [← hlo] at X6 pl6
      have X := hide X6
      have Xh := Nat.le_refl w6.heap.size
      have PL := hide pl6
      have hl6 : lo ≤ w6.heap.size := by have := kz5; omega
      clear X6 pl6 hlo
      go_wp2_with fail
      obtain ⟨wbQ, hwbQ⟩ : ∃ v, v = w6.alloc (.cells #[.int .i64 x.op, .int .i64 x.a, .int .i64 x.b, .string x.s, .slice (some ⟨B6, 0, none⟩) x.n x.n] 29) := ⟨_, rfl⟩
      have bwbQ : Below w6.heap.size w6 wbQ := by rw [hwbQ]; exact (Below.refl _ _).alloc (Nat.le_refl _) _
      have Q : Five wbQ w6.heap.size 0 x (some ⟨B6, 0, none⟩) x.n := by rw [hwbQ]; exact ⟨by simp [go_sem], by simp [go_sem], by simp [go_sem], by simp [go_sem], by simp [go_sem]⟩
      have PLn : Pl wbQ lo wbQ.heap.size := by rw [hwbQ]; exact Pl.alloc (unhide PL) _ _
      replace PL := hide PLn
      replace hl6 := Nat.le_trans hl6 bwbQ.size
      clear PLn
      rw [← hwbQ]
      clear F0 F1 F2 F3 F4 Fl R0 R1 R2 R3 R4 Rl
      replace F := F.later bwbQ
      replace R := R.later bwbQ
      replace I := hide ((unhide I).later (bwbQ.mono Ih)); replace Ih := Nat.le_trans Ih bwbQ.size
      replace J := hide ((unhide J).later (bwbQ.mono Jh)); replace Jh := Nat.le_trans Jh bwbQ.size
      replace X := hide ((unhide X).later (bwbQ.mono Xh)); replace Xh := Nat.le_trans Xh bwbQ.size
      replace BL := BL.trans (bwbQ.mono kz); replace kz := BL.size
      clear bwbQ hwbQ
      obtain ⟨F0, F1, F2, F3, F4⟩ := id F
      have Fl := World.block_lt_of_cell? _ _ F0
      obtain ⟨R0, R1, R2, R3, R4⟩ := id R
      have Rl := World.block_lt_of_cell? _ _ R0
      obtain ⟨Q0, Q1, Q2, Q3, Q4⟩ := id Q
      have Ql := World.block_lt_of_cell? _ _ Q0
      go_wp2_with fail
      refine (toTermP_any w.heap.size y _ _ _ (unhide J) hg Jh).mono ?_
      rintro e w7 ⟨⟨B7, rfl, Y7⟩, pl7, b7⟩
      replace PL := hide (Pl.join ((unhide PL).later b7) pl7)
      have hlq := hl6
      replace hl6 := Nat.le_trans hl6 b7.size
      clear pl7
      clear F0 F1 F2 F3 F4 Fl R0 R1 R2 R3 R4 Rl Q0 Q1 Q2 Q3 Q4 Ql
      replace F := F.later b7
      replace R := R.later b7
      replace Q := Q.later b7
      replace I := hide ((unhide I).later (b7.mono Ih)); replace Ih := Nat.le_trans Ih b7.size
      replace J := hide ((unhide J).later (b7.mono Jh)); replace Jh := Nat.le_trans Jh b7.size
      replace X := hide ((unhide X).later (b7.mono Xh)); replace Xh := Nat.le_trans Xh b7.size
      replace BL := BL.trans (b7.mono kz); replace kz := BL.size
      clear b7
      obtain ⟨F0, F1, F2, F3, F4⟩ := id F
      have Fl := World.block_lt_of_cell? _ _ F0
      obtain ⟨R0, R1, R2, R3, R4⟩ := id R
      have Rl := World.block_lt_of_cell? _ _ R0
      obtain ⟨Q0, Q1, Q2, Q3, Q4⟩ := id Q
      have Ql := World.block_lt_of_cell? _ _ Q0
      have Y := hide Y7
      have Yh := Nat.le_refl w7.heap.size
      clear Y7
      go_wp2_with fail
      obtain ⟨wbU, hwbU⟩ : ∃ v, v = w7.alloc (.cells #[.int .i64 y.op, .int .i64 y.a, .int .i64 y.b, .string y.s, .slice (some ⟨B7, 0, none⟩) y.n y.n] 29) := ⟨_, rfl⟩
      have bwbU : Below w7.heap.size w7 wbU := by rw [hwbU]; exact (Below.refl _ _).alloc (Nat.le_refl _) _
      have U : Five wbU w7.heap.size 0 y (some ⟨B7, 0, none⟩) y.n := by rw [hwbU]; exact ⟨by simp [go_sem], by simp [go_sem], by simp [go_sem], by simp [go_sem], by simp [go_sem]⟩
      have PLn : Pl wbU lo wbU.heap.size := by rw [hwbU]; exact Pl.alloc (unhide PL) _ _
      replace PL := hide PLn
      replace hl6 := Nat.le_trans hl6 bwbU.size
      clear PLn
      rw [← hwbU]
      clear F0 F1 F2 F3 F4 Fl R0 R1 R2 R3 R4 Rl Q0 Q1 Q2 Q3 Q4 Ql
      replace F := F.later bwbU
      replace R := R.later bwbU
      replace Q := Q.later bwbU
      replace I := hide ((unhide I).later (bwbU.mono Ih)); replace Ih := Nat.le_trans Ih bwbU.size
      replace J := hide ((unhide J).later (bwbU.mono Jh)); replace Jh := Nat.le_trans Jh bwbU.size
      replace X := hide ((unhide X).later (bwbU.mono Xh)); replace Xh := Nat.le_trans Xh bwbU.size
      replace Y := hide ((unhide Y).later (bwbU.mono Yh)); replace Yh := Nat.le_trans Yh bwbU.size
      replace BL := BL.trans (bwbU.mono kz); replace kz := BL.size
      clear bwbU hwbU
      obtain ⟨F0, F1, F2, F3, F4⟩ := id F
      have Fl := World.block_lt_of_cell? _ _ F0
      obtain ⟨R0, R1, R2, R3, R4⟩ := id R
      have Rl := World.block_lt_of_cell? _ _ R0
      obtain ⟨Q0, Q1, Q2, Q3, Q4⟩ := id Q
      have Ql := World.block_lt_of_cell? _ _ Q0
      obtain ⟨U0, U1, U2, U3, U4⟩ := id U
      have Ul := World.block_lt_of_cell? _ _ U0
      go_wp2_with fail
      refine (iSame_any lo wbU.heap.size x y _ _ _ _ _ (TT.In.wide (Nat.le_refl _) Xh _ _ (unhide X)) (TT.In.wide hlq Yh _ _ (unhide Y)) (Nat.le_refl _) (Nat.le_refl _) (unhide PL) (Nat.le_refl _) hl6 hf (by omega)).mono ?_
      rintro e w8 ⟨rfl, b8⟩
      clear F0 F1 F2 F3 F4 Fl R0 R1 R2 R3 R4 Rl Q0 Q1 Q2 Q3 Q4 Ql U0 U1 U2 U3 U4 Ul
      replace F := F.later b8
      replace R := R.later b8
      replace Q := Q.later b8
      replace U := U.later b8
      replace I := hide ((unhide I).later (b8.mono Ih)); replace Ih := Nat.le_trans Ih b8.size
      replace J := hide ((unhide J).later (b8.mono Jh)); replace Jh := Nat.le_trans Jh b8.size
      replace X := hide ((unhide X).later (b8.mono Xh)); replace Xh := Nat.le_trans Xh b8.size
      replace Y := hide ((unhide Y).later (b8.mono Yh)); replace Yh := Nat.le_trans Yh b8.size
      replace BL := BL.trans (b8.mono kz); replace kz := BL.size
      clear b8
      obtain ⟨F0, F1, F2, F3, F4⟩ := id F
      have Fl := World.block_lt_of_cell? _ _ F0
      obtain ⟨R0, R1, R2, R3, R4⟩ := id R
      have Rl := World.block_lt_of_cell? _ _ R0
      obtain ⟨Q0, Q1, Q2, Q3, Q4⟩ := id Q
      have Ql := World.block_lt_of_cell? _ _ Q0
      obtain ⟨U0, U1, U2, U3, U4⟩ := id U
      have Ul := World.block_lt_of_cell? _ _ U0
      replace X := hide (TT.In.wide (Nat.zero_le _) (Nat.le_refl _) _ _ (unhide X))
      replace Y := hide (TT.In.wide (Nat.zero_le _) (Nat.le_refl _) _ _ (unhide Y))
      go_wp2_with fail
      clear F0 F1 F2 F3 F4 Fl R0 R1 R2 R3 R4 Rl Q0 Q1 Q2 Q3 Q4 Ql U0 U1 U2 U3 U4 Ul
      refine wp_region_held_drew (S := (fun w' => w'.cell? ⟨w.heap.size, 0, none⟩ = some (.int .i64 x.op) ∧ w'.cell? ⟨w.heap.size, 1, none⟩ = some (.int .i64 x.a) ∧ w'.cell? ⟨w.heap.size, 2, none⟩ = some (.int .i64 x.b) ∧ w'.cell? ⟨w.heap.size, 3, none⟩ = some (.string x.s) ∧ w'.cell? ⟨w.heap.size, 4, none⟩ = some (.slice adx x.n cpx) ∧ w'.cell? ⟨w6.heap.size, 0, none⟩ = some (.int .i64 x.op) ∧ w'.cell? ⟨w6.heap.size, 1, none⟩ = some (.int .i64 x.a) ∧ w'.cell? ⟨w6.heap.size, 2, none⟩ = some (.int .i64 x.b) ∧ w'.cell? ⟨w6.heap.size, 3, none⟩ = some (.string x.s) ∧ w'.cell? ⟨w6.heap.size, 4, none⟩ = some (.slice (some ⟨B6, 0, none⟩) x.n x.n))) (by kernel_rfl) ?_ (fun hHeld => ?_)
      · exact ⟨F.1, F.2.1, F.2.2.1, F.2.2.2.1, F.2.2.2.2, Q.1, Q.2.1, Q.2.2.1, Q.2.2.2.1, Q.2.2.2.2⟩
      replace F : Five w8.drew (w.heap.size) 0 x adx (cpx) := F
      replace R : Five w8.drew (w.heap.size + 1) 0 y ady (cpy) := R
      replace Q : Five w8.drew (w6.heap.size) 0 x (some ⟨B6, 0, none⟩) (x.n) := Q
      replace U : Five w8.drew (w7.heap.size) 0 y (some ⟨B7, 0, none⟩) (y.n) := U
      replace I := hide (unhide I).drew
      replace Ih := (show _ ≤ w8.drew.heap.size from Ih)
      replace J := hide (unhide J).drew
      replace Jh := (show _ ≤ w8.drew.heap.size from Jh)
      replace X := hide (unhide X).drew
      replace Xh := (show _ ≤ w8.drew.heap.size from Xh)
      replace Y := hide (unhide Y).drew
      replace Yh := (show _ ≤ w8.drew.heap.size from Yh)
      replace BL := (show Below w.heap.size w w8.drew from BL.drew)
      replace kz := (show w.heap.size ≤ w8.drew.heap.size from kz)
      generalize w8.drew = wd20 at *
      refine wpAnyH_take (i := 0) (v := ?_) rfl (by kernel_rfl) (by kernel_rfl) (by kernel_rfl) (fun _ _ _ h => h) (Or.inl ⟨by rfl, ?_⟩) (by assumption) ?_
      rotate_left
      · (intro w hSw; (try dsimp only at hSw); first | (go_simp; done) | (go_simp; with_reducible rfl))
      try simp only [List.getElem_toArray, List.getElem_cons_succ, List.getElem_cons_zero, Act.put, List.setIfInBounds_toArray, List.set_cons_zero, List.set_cons_succ]
      refine wpAnyH_take (i := 1) (v := ?_) rfl (by kernel_rfl) (by kernel_rfl) (by kernel_rfl) (fun _ _ _ h => h) (Or.inl ⟨by rfl, ?_⟩) (by assumption) ?_
      rotate_left
      · (intro w hSw; (try dsimp only at hSw); first | (go_simp; done) | (go_simp; with_reducible rfl))
      try simp only [List.getElem_toArray, List.getElem_cons_succ, List.getElem_cons_zero, Act.put, List.setIfInBounds_toArray, List.set_cons_zero, List.set_cons_succ]
      refine wpAnyH_ready (rs := [2]) (by kernel_rfl) (by simp) ?_
      refine AllReadyH.cons rfl (fun K hK => ?_) AllReadyH.nil
      go_simp
      refine (toTerm_any w.heap.size x _ _ _ (unhide I) hf Ih).mono ?_
      rintro e w20 ⟨⟨B20, rfl, Z20⟩, b20⟩
      replace F := F.later b20
      replace R := R.later b20
      replace Q := Q.later b20
      replace U := U.later b20
      replace I := hide ((unhide I).later (b20.mono Ih)); replace Ih := Nat.le_trans Ih b20.size
      replace J := hide ((unhide J).later (b20.mono Jh)); replace Jh := Nat.le_trans Jh b20.size
      replace X := hide ((unhide X).later (b20.mono Xh)); replace Xh := Nat.le_trans Xh b20.size
      replace Y := hide ((unhide Y).later (b20.mono Yh)); replace Yh := Nat.le_trans Yh b20.size
      replace BL := BL.trans (b20.mono kz); replace kz := BL.size
      clear b20
      have Zq := hide (TT.In.wide (Nat.zero_le _) (Nat.le_refl _) _ _ Z20)
      have Zqh := Nat.le_refl w20.heap.size
      clear Z20
      go_wp2_with fail
      refine hK.out _ _ ?_ (fun hHeld => ?_)
      · exact ⟨F.1, F.2.1, F.2.2.1, F.2.2.2.1, F.2.2.2.2, Q.1, Q.2.1, Q.2.2.1, Q.2.2.2.1, Q.2.2.2.2⟩
      clear hK K
      try simp only [List.getElem_toArray, List.getElem_cons_succ, List.getElem_cons_zero, Act.put, List.setIfInBounds_toArray, List.set_cons_zero, List.set_cons_succ]
      refine wpAnyH_ready (rs := [3]) (by kernel_rfl) (by simp) ?_
      refine AllReadyH.cons rfl (fun K hK => ?_) AllReadyH.nil
      go_simp
      refine (eqTerm_same w20.heap.size x _ _ _ _ _ (TT.In.wide (Nat.le_refl _) Xh _ _ (unhide X)) (unhide Zq) hf Zqh).mono ?_
      rintro e w21 ⟨rfl, b21⟩
      replace F := F.later b21
      replace R := R.later b21
      replace Q := Q.later b21
      replace U := U.later b21
      replace I := hide ((unhide I).later (b21.mono Ih)); replace Ih := Nat.le_trans Ih b21.size
      replace J := hide ((unhide J).later (b21.mono Jh)); replace Jh := Nat.le_trans Jh b21.size
      replace X := hide ((unhide X).later (b21.mono Xh)); replace Xh := Nat.le_trans Xh b21.size
      replace Y := hide ((unhide Y).later (b21.mono Yh)); replace Yh := Nat.le_trans Yh b21.size
      replace Zq := hide ((unhide Zq).later (b21.mono Zqh)); replace Zqh := Nat.le_trans Zqh b21.size
      replace BL := BL.trans (b21.mono kz); replace kz := BL.size
      clear b21
      go_wp2_with fail
      refine hK.out _ _ ?_ (fun hHeld => ?_)
      · exact ⟨F.1, F.2.1, F.2.2.1, F.2.2.2.1, F.2.2.2.2, Q.1, Q.2.1, Q.2.2.1, Q.2.2.2.1, Q.2.2.2.2⟩
      clear hK K
      try simp only [List.getElem_toArray, List.getElem_cons_succ, List.getElem_cons_zero, Act.put, List.setIfInBounds_toArray, List.set_cons_zero, List.set_cons_succ]
      refine wpAnyH_take (i := 4) (v := ?_) rfl (by kernel_rfl) (by kernel_rfl) (by kernel_rfl) (fun _ _ _ h => h) (Or.inl ⟨by rfl, ?_⟩) (by assumption) ?_
      rotate_left
      · (intro w hSw; (try dsimp only at hSw); first | (go_simp; done) | (go_simp; with_reducible rfl))
      try simp only [List.getElem_toArray, List.getElem_cons_succ, List.getElem_cons_zero, Act.put, List.setIfInBounds_toArray, List.set_cons_zero, List.set_cons_succ]
      refine wpAnyH_done (by kernel_rfl) ?_ _
      obtain ⟨F0, F1, F2, F3, F4⟩ := id F
      have Fl := World.block_lt_of_cell? _ _ F0
      obtain ⟨R0, R1, R2, R3, R4⟩ := id R
      have Rl := World.block_lt_of_cell? _ _ R0
      obtain ⟨Q0, Q1, Q2, Q3, Q4⟩ := id Q
      have Ql := World.block_lt_of_cell? _ _ Q0
      obtain ⟨U0, U1, U2, U3, U4⟩ := id U
      have Ul := World.block_lt_of_cell? _ _ U0
      clear Zq Zqh
      go_wp2_with fail
      clear F0 F1 F2 F3 F4 Fl R0 R1 R2 R3 R4 Rl Q0 Q1 Q2 Q3 Q4 Ql U0 U1 U2 U3 U4 Ul
      refine wp_region_held_drew (S := (fun w' => w'.cell? ⟨w.heap.size + 1, 0, none⟩ = some (.int .i64 y.op) ∧ w'.cell? ⟨w.heap.size + 1, 1, none⟩ = some (.int .i64 y.a) ∧ w'.cell? ⟨w.heap.size + 1, 2, none⟩ = some (.int .i64 y.b) ∧ w'.cell? ⟨w.heap.size + 1, 3, none⟩ = some (.string y.s) ∧ w'.cell? ⟨w.heap.size + 1, 4, none⟩ = some (.slice ady y.n cpy) ∧ w'.cell? ⟨w7.heap.size, 0, none⟩ = some (.int .i64 y.op) ∧ w'.cell? ⟨w7.heap.size, 1, none⟩ = some (.int .i64 y.a) ∧ w'.cell? ⟨w7.heap.size, 2, none⟩ = some (.int .i64 y.b) ∧ w'.cell? ⟨w7.heap.size, 3, none⟩ = some (.string y.s) ∧ w'.cell? ⟨w7.heap.size, 4, none⟩ = some (.slice (some ⟨B7, 0, none⟩) y.n y.n))) (by kernel_rfl) ?_ (fun hHeld => ?_)
      · exact ⟨R.1, R.2.1, R.2.2.1, R.2.2.2.1, R.2.2.2.2, U.1, U.2.1, U.2.2.1, U.2.2.2.1, U.2.2.2.2⟩
      replace F : Five w21.drew (w.heap.size) 0 x adx (cpx) := F
      replace R : Five w21.drew (w.heap.size + 1) 0 y ady (cpy) := R
      replace Q : Five w21.drew (w6.heap.size) 0 x (some ⟨B6, 0, none⟩) (x.n) := Q
      replace U : Five w21.drew (w7.heap.size) 0 y (some ⟨B7, 0, none⟩) (y.n) := U
      replace I := hide (unhide I).drew
      replace Ih := (show _ ≤ w21.drew.heap.size from Ih)
      replace J := hide (unhide J).drew
      replace Jh := (show _ ≤ w21.drew.heap.size from Jh)
      replace X := hide (unhide X).drew
      replace Xh := (show _ ≤ w21.drew.heap.size from Xh)
      replace Y := hide (unhide Y).drew
      replace Yh := (show _ ≤ w21.drew.heap.size from Yh)
      replace BL := (show Below w.heap.size w w21.drew from BL.drew)
      replace kz := (show w.heap.size ≤ w21.drew.heap.size from kz)
      generalize w21.drew = wd30 at *
      refine wpAnyH_take (i := 0) (v := ?_) rfl (by kernel_rfl) (by kernel_rfl) (by kernel_rfl) (fun _ _ _ h => h) (Or.inl ⟨by rfl, ?_⟩) (by assumption) ?_
      rotate_left
      · (intro w hSw; (try dsimp only at hSw); first | (go_simp; done) | (go_simp; with_reducible rfl))
      try simp only [List.getElem_toArray, List.getElem_cons_succ, List.getElem_cons_zero, Act.put, List.setIfInBounds_toArray, List.set_cons_zero, List.set_cons_succ]
      refine wpAnyH_take (i := 1) (v := ?_) rfl (by kernel_rfl) (by kernel_rfl) (by kernel_rfl) (fun _ _ _ h => h) (Or.inl ⟨by rfl, ?_⟩) (by assumption) ?_
      rotate_left
      · (intro w hSw; (try dsimp only at hSw); first | (go_simp; done) | (go_simp; with_reducible rfl))
      try simp only [List.getElem_toArray, List.getElem_cons_succ, List.getElem_cons_zero, Act.put, List.setIfInBounds_toArray, List.set_cons_zero, List.set_cons_succ]
      refine wpAnyH_ready (rs := [2]) (by kernel_rfl) (by simp) ?_
      refine AllReadyH.cons rfl (fun K hK => ?_) AllReadyH.nil
      go_simp
      refine (toTerm_any w.heap.size y _ _ _ (unhide J) hg Jh).mono ?_
      rintro e w30 ⟨⟨B30, rfl, Z30⟩, b30⟩
      replace F := F.later b30
      replace R := R.later b30
      replace Q := Q.later b30
      replace U := U.later b30
      replace I := hide ((unhide I).later (b30.mono Ih)); replace Ih := Nat.le_trans Ih b30.size
      replace J := hide ((unhide J).later (b30.mono Jh)); replace Jh := Nat.le_trans Jh b30.size
      replace X := hide ((unhide X).later (b30.mono Xh)); replace Xh := Nat.le_trans Xh b30.size
      replace Y := hide ((unhide Y).later (b30.mono Yh)); replace Yh := Nat.le_trans Yh b30.size
      replace BL := BL.trans (b30.mono kz); replace kz := BL.size
      clear b30
      have Zq := hide (TT.In.wide (Nat.zero_le _) (Nat.le_refl _) _ _ Z30)
      have Zqh := Nat.le_refl w30.heap.size
      clear Z30
      go_wp2_with fail
      refine hK.out _ _ ?_ (fun hHeld => ?_)
      · exact ⟨R.1, R.2.1, R.2.2.1, R.2.2.2.1, R.2.2.2.2, U.1, U.2.1, U.2.2.1, U.2.2.2.1, U.2.2.2.2⟩
      clear hK K
      try simp only [List.getElem_toArray, List.getElem_cons_succ, List.getElem_cons_zero, Act.put, List.setIfInBounds_toArray, List.set_cons_zero, List.set_cons_succ]
      refine wpAnyH_ready (rs := [3]) (by kernel_rfl) (by simp) ?_
      refine AllReadyH.cons rfl (fun K hK => ?_) AllReadyH.nil
      go_simp
      refine (eqTerm_same w30.heap.size y _ _ _ _ _ (TT.In.wide (Nat.le_refl _) Yh _ _ (unhide Y)) (unhide Zq) hg Zqh).mono ?_
      rintro e w31 ⟨rfl, b31⟩
      replace F := F.later b31
      replace R := R.later b31
      replace Q := Q.later b31
      replace U := U.later b31
      replace I := hide ((unhide I).later (b31.mono Ih)); replace Ih := Nat.le_trans Ih b31.size
      replace J := hide ((unhide J).later (b31.mono Jh)); replace Jh := Nat.le_trans Jh b31.size
      replace X := hide ((unhide X).later (b31.mono Xh)); replace Xh := Nat.le_trans Xh b31.size
      replace Y := hide ((unhide Y).later (b31.mono Yh)); replace Yh := Nat.le_trans Yh b31.size
      replace Zq := hide ((unhide Zq).later (b31.mono Zqh)); replace Zqh := Nat.le_trans Zqh b31.size
      replace BL := BL.trans (b31.mono kz); replace kz := BL.size
      clear b31
      go_wp2_with fail
      refine hK.out _ _ ?_ (fun hHeld => ?_)
      · exact ⟨R.1, R.2.1, R.2.2.1, R.2.2.2.1, R.2.2.2.2, U.1, U.2.1, U.2.2.1, U.2.2.2.1, U.2.2.2.2⟩
      clear hK K
      try simp only [List.getElem_toArray, List.getElem_cons_succ, List.getElem_cons_zero, Act.put, List.setIfInBounds_toArray, List.set_cons_zero, List.set_cons_succ]
      refine wpAnyH_take (i := 4) (v := ?_) rfl (by kernel_rfl) (by kernel_rfl) (by kernel_rfl) (fun _ _ _ h => h) (Or.inl ⟨by rfl, ?_⟩) (by assumption) ?_
      rotate_left
      · (intro w hSw; (try dsimp only at hSw); first | (go_simp; done) | (go_simp; with_reducible rfl))
      try simp only [List.getElem_toArray, List.getElem_cons_succ, List.getElem_cons_zero, Act.put, List.setIfInBounds_toArray, List.set_cons_zero, List.set_cons_succ]
      refine wpAnyH_done (by kernel_rfl) ?_ _
      obtain ⟨F0, F1, F2, F3, F4⟩ := id F
      have Fl := World.block_lt_of_cell? _ _ F0
      obtain ⟨R0, R1, R2, R3, R4⟩ := id R
      have Rl := World.block_lt_of_cell? _ _ R0
      obtain ⟨Q0, Q1, Q2, Q3, Q4⟩ := id Q
      have Ql := World.block_lt_of_cell? _ _ Q0
      obtain ⟨U0, U1, U2, U3, U4⟩ := id U
      have Ul := World.block_lt_of_cell? _ _ U0
      clear Zq Zqh
      go_wp2
      go_ret
      exact ⟨rfl, BL⟩
    · go_wp2
      go_ret
      exact ⟨rfl, BL⟩
  · go_wp2
    go_ret
    exact ⟨rfl, BL⟩

set_option maxRecDepth 100000 in
theorem lifted (os : Os) (started : os.Started) (H : Type) (enc : TypeId × Value → H) :
    ReturnsInHanded {} Try.checked os 3 .any (Rows.fnExactTermSameSpec.pre6 enc Try.prog Try.f3 Rows.fnExactTermSameRow.domain false) (Rows.fnExactTermSameSpec.post enc Try.prog Try.f3 false true false false) := by
  refine returnsInHanded_of_change (C := Try.checked) own started (by kernel_rfl) Try.func3
    (ChangeSpec.witness6 (enc := enc) (C := Try.checked) false ⟨#[], #[.agg #[.int .i64 0, .int .i64 0, .int .i64 0, .string ByteArray.empty, .slice none 0 0], .agg #[.int .i64 0, .int .i64 0, .int .i64 0, .string ByteArray.empty, .slice none 0 0]], []⟩ 8 (by kernel_rfl) (by kernel_rfl) (by kernel_rfl) (by kernel_rfl)) ?_
  intro W base args ds gs before hval0 hW hcnd _
  have hval : ∀ (j : Nat) t v, Try.f3.params[j]? = some t → args[j]? = some v → Value.okWide Try.prog W .any base t v := hval0
  have hW' := hW
  obtain ⟨p, q, hA0, hV, rfl, hfz, hnd⟩ := hW
  have hA : DataW.TrodAll enc Try.prog W 0 (fun _ => true) true Try.f3.params.toList args.toList ds p := hA0
  rw [Try.params3] at hA hval
  obtain ⟨v0, vs0, d0, ds0, p0, q0, hargs, rfl, rfl, h0, r0⟩ := trodAll_cons hA
  obtain ⟨v1, vs1, d1, ds1, p1, q1, rfl, rfl, rfl, h1, r1⟩ := trodAll_cons r0
  obtain ⟨rfl, rfl, rfl⟩ := trodAll_nil r1
  obtain rfl : args = #[v0, v1] := by cases args; simp_all
  obtain ⟨rfl, rfl⟩ := trodVars_none hV
  have k0 := h0
  have lt0 : ∀ x ∈ p0, x.block < W.heap.size := by obtain ⟨m, hm⟩ := k0; exact DataW.trod_lt m _ _ _ hm
  obtain ⟨x, adx, cpx, rfl, lcx, hix, hfx⟩ := term_in (hval 0 24 v0 rfl rfl) h0
  have k1 := h1
  have lt1 : ∀ x ∈ p1, x.block < W.heap.size := by obtain ⟨m, hm⟩ := k1; exact DataW.trod_lt m _ _ _ hm
  obtain ⟨y, ady, cpy, rfl, lcy, hiy, hfy⟩ := term_in (hval 1 24 v1 rfl rfl) h1
  clear hA0 hval0
  refine (walk x adx cpx y ady cpy W lcx hix hfx lcy hiy hfy).mono fun e W' ⟨he, bel⟩ => ?_
  subst he
  exact ⟨_, rfl, _, _, _, [], _, [], hW', trodAll_mk1 (shut_bool Try.underlying4 _), (trodAll_cons_mk (Below.trod laidOut (by kernel_rfl) (of_decide_eq_true (by kernel_rfl)) k0 bel lt0) (trodAll_cons_mk (Below.trod laidOut (by kernel_rfl) (of_decide_eq_true (by kernel_rfl)) k1 bel lt1) trodAll_mk0)), rfl, bel.frame _, fun h => by cases h⟩

theorem over : Rows.fnExactTermSameRow.holds Try.pinned (OpenSpec.ofChange Rows.fnExactTermSameSpec) :=
  OpenClaim.holds_of_wide 3 Try.f3 rfl rfl rfl rfl rfl rfl rfl ⟨rfl, rfl, rfl, rfl, rfl⟩ rfl rfl rfl rfl rfl (by kernel_rfl) Try.func3 (by kernel_rfl)
    (of_decide_eq_true (by kernel_rfl)) (by unfold Func.isWrapper; first | (rw [if_pos (by decide +kernel)]; kernel_rfl) | (rw [if_neg (by decide +kernel)]; exact ⟨rfl, rfl⟩))
    (fun os started H enc _ => lifted os started H enc)
end exSame

theorem exSame_holds : Rows.FnExactTermSameSaid := exSame.over
#print axioms exSame_holds
end Go.Proofs.Ytfgjeokhcbgahaa
