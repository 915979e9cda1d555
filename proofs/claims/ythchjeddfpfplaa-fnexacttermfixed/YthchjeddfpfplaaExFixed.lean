/- At every argument the program's TermFixed answers as the model's: the law FnExactTermFixed returns true for every term, right or not, and leaves it as it was. No condition (the law itself answers true where the term takes more than 1048576 signs and parts). -/
import Derived.Test.YthchjeddfpfplaaFixC
namespace Go.Proofs.Ythchjeddfpfplaa
open Go.ChangeShapes Go.WideShapes Go.ChangeAt Go.RowKit Go.Joins
open Go.ChangeMaps (open_string shut_string)
set_option linter.unusedVariables false
set_option linter.unusedSimpArgs false
namespace exFixed
set_option maxHeartbeats 2000000 in
theorem walk (t : TT) (adt : Option Addr) (cpt : Nat) (w : World) (lct : t.n ≤ cpt) (hit : t.In w 0 w.heap.size adt) (hft : t.Fit maxLen) :
    Calls Try.prog 3 #[.agg #[.int .i64 t.op, .int .i64 t.a, .int .i64 t.b, .string t.s, .slice adt t.n cpt]] w fun e w' => e = .returned (.bool true) ∧ Below w.heap.size w w' := by
  go_enter Try.func3, Try.ntmps3
  go_wp2_with fail
  have e1 := (Below.refl w.heap.size w).alloc (Nat.le_refl _) (.cells #[.int .i64 t.op, .int .i64 t.a, .int .i64 t.b, .string t.s, .slice adt t.n cpt] 24)
  refine (szTermN_any w.heap.size t adt cpt 1048576 _ (hit.later e1) hft (by omega) (by omega) (by simp)).mono ?_
  rintro e w1 ⟨⟨z, rfl, hzz⟩, b1⟩
  have F : Five w1 w.heap.size 0 t adt cpt := ⟨cell_later b1 (by simp [go_sem]), cell_later b1 (by simp [go_sem]), cell_later b1 (by simp [go_sem]), cell_later b1 (by simp [go_sem]), cell_later b1 (by simp [go_sem])⟩
  have BL := e1.trans (b1.mono (by simp))
  have kz := BL.size
  have I := hide (hit.later BL)
  have Ih := kz
  clear b1 hit e1
  have kn : (fixN t != fixN t) = false := by simp
  have kb : (fixB t != fixB t) = false := by simp
  by_cases h0 : 0 ≤ z
  · obtain ⟨_, hzN, hf⟩ := hzz.resolve_left (by omega)
    clear hzz
    obtain ⟨F0, F1, F2, F3, F4⟩ := id F
    have Fl := World.block_lt_of_cell? _ _ F0
    go_wp2_with fail
    refine (toTerm_any w.heap.size t _ _ _ (unhide I) hf Ih).mono ?_
    rintro e w2 ⟨⟨B2, rfl, X2⟩, b2⟩
    clear F0 F1 F2 F3 F4 Fl
    replace F := F.later b2
    replace I := hide ((unhide I).later (b2.mono Ih)); replace Ih := Nat.le_trans Ih b2.size
    replace BL := BL.trans (b2.mono kz); replace kz := BL.size
    clear b2
    obtain ⟨F0, F1, F2, F3, F4⟩ := id F
    have Fl := World.block_lt_of_cell? _ _ F0
    have X := hide (TT.In.wide (Nat.zero_le _) (Nat.le_refl _) _ _ X2)
    have Xh := Nat.le_refl w2.heap.size
    clear X2
    go_wp2_with fail
    refine (sFixed_any w2.heap.size t _ _ _ (unhide X) Xh hf).mono ?_
    rintro e w3 ⟨rfl, b3⟩
    clear F0 F1 F2 F3 F4 Fl
    replace F := F.later b3
    replace I := hide ((unhide I).later (b3.mono Ih)); replace Ih := Nat.le_trans Ih b3.size
    replace X := hide ((unhide X).later (b3.mono Xh)); replace Xh := Nat.le_trans Xh b3.size
    replace BL := BL.trans (b3.mono kz); replace kz := BL.size
    clear b3
    obtain ⟨F0, F1, F2, F3, F4⟩ := id F
    have Fl := World.block_lt_of_cell? _ _ F0
    clear X Xh
    go_wp2_with fail
    refine (toTermP_any w.heap.size t _ _ _ (unhide I) hf Ih).mono ?_
    rintro e w4 ⟨⟨B4, rfl, X4⟩, pl4, b4⟩
    have kz3 := b4.size
    clear F0 F1 F2 F3 F4 Fl
    replace F := F.later b4
    replace I := hide ((unhide I).later (b4.mono Ih)); replace Ih := Nat.le_trans Ih b4.size
    replace BL := BL.trans (b4.mono kz); replace kz := BL.size
    clear b4
    obtain ⟨F0, F1, F2, F3, F4⟩ := id F
    have Fl := World.block_lt_of_cell? _ _ F0
    obtain ⟨lo, hlo⟩ : ∃ v, v = w3.heap.size := ⟨_, rfl⟩
    rw [← hlo] at X4 pl4
    have X := hide X4
    have Xh := Nat.le_refl w4.heap.size
    have PL := hide pl4
    have hl4 : lo ≤ w4.heap.size := by have := kz3; omega
    clear X4 pl4 hlo
    go_wp2_with fail
    obtain ⟨wbQ, hwbQ⟩ : ∃ v, v = w4.alloc (.cells #[.int .i64 t.op, .int .i64 t.a, .int .i64 t.b, .string t.s, .slice (some ⟨B4, 0, none⟩) t.n t.n] 30) := ⟨_, rfl⟩
    have bwbQ : Below w4.heap.size w4 wbQ := by rw [hwbQ]; exact (Below.refl _ _).alloc (Nat.le_refl _) _
    have Q : Five wbQ w4.heap.size 0 t (some ⟨B4, 0, none⟩) t.n := by rw [hwbQ]; exact ⟨by simp [go_sem], by simp [go_sem], by simp [go_sem], by simp [go_sem], by simp [go_sem]⟩
    replace PL := hide ((unhide PL).later bwbQ)
    rw [← hwbQ]
    clear F0 F1 F2 F3 F4 Fl
    replace F := F.later bwbQ
    replace I := hide ((unhide I).later (bwbQ.mono Ih)); replace Ih := Nat.le_trans Ih bwbQ.size
    replace X := hide ((unhide X).later (bwbQ.mono Xh)); replace Xh := Nat.le_trans Xh bwbQ.size
    replace BL := BL.trans (bwbQ.mono kz); replace kz := BL.size
    clear bwbQ hwbQ
    obtain ⟨F0, F1, F2, F3, F4⟩ := id F
    have Fl := World.block_lt_of_cell? _ _ F0
    obtain ⟨Q0, Q1, Q2, Q3, Q4⟩ := id Q
    have Ql := World.block_lt_of_cell? _ _ Q0
    refine (iFixed_any lo w4.heap.size t _ _ _ (unhide X) (unhide PL) Xh hl4 hf (by omega)).mono ?_
    rintro e w5 ⟨rfl, b5⟩
    clear F0 F1 F2 F3 F4 Fl Q0 Q1 Q2 Q3 Q4 Ql
    replace F := F.later b5
    replace Q := Q.later b5
    replace I := hide ((unhide I).later (b5.mono Ih)); replace Ih := Nat.le_trans Ih b5.size
    replace X := hide ((unhide X).later (b5.mono Xh)); replace Xh := Nat.le_trans Xh b5.size
    replace BL := BL.trans (b5.mono kz); replace kz := BL.size
    clear b5
    obtain ⟨F0, F1, F2, F3, F4⟩ := id F
    have Fl := World.block_lt_of_cell? _ _ F0
    obtain ⟨Q0, Q1, Q2, Q3, Q4⟩ := id Q
    have Ql := World.block_lt_of_cell? _ _ Q0
    replace X := hide (TT.In.wide (Nat.zero_le _) (Nat.le_refl _) _ _ (unhide X))
    go_wp2_with fail
    clear F0 F1 F2 F3 F4 Fl Q0 Q1 Q2 Q3 Q4 Ql
    refine wp_region_held_drew (S := (fun w' => w'.cell? ⟨w.heap.size, 0, none⟩ = some (.int .i64 t.op) ∧ w'.cell? ⟨w.heap.size, 1, none⟩ = some (.int .i64 t.a) ∧ w'.cell? ⟨w.heap.size, 2, none⟩ = some (.int .i64 t.b) ∧ w'.cell? ⟨w.heap.size, 3, none⟩ = some (.string t.s) ∧ w'.cell? ⟨w.heap.size, 4, none⟩ = some (.slice adt t.n cpt) ∧ w'.cell? ⟨w4.heap.size, 0, none⟩ = some (.int .i64 t.op) ∧ w'.cell? ⟨w4.heap.size, 1, none⟩ = some (.int .i64 t.a) ∧ w'.cell? ⟨w4.heap.size, 2, none⟩ = some (.int .i64 t.b) ∧ w'.cell? ⟨w4.heap.size, 3, none⟩ = some (.string t.s) ∧ w'.cell? ⟨w4.heap.size, 4, none⟩ = some (.slice (some ⟨B4, 0, none⟩) t.n t.n))) (by kernel_rfl) ?_ (fun hHeld => ?_)
    · exact ⟨F.1, F.2.1, F.2.2.1, F.2.2.2.1, F.2.2.2.2, Q.1, Q.2.1, Q.2.2.1, Q.2.2.2.1, Q.2.2.2.2⟩
    replace F : Five w5.drew (w.heap.size) 0 t adt (cpt) := F
    replace Q : Five w5.drew (w4.heap.size) 0 t (some ⟨B4, 0, none⟩) (t.n) := Q
    replace I := hide (unhide I).drew
    replace Ih := (show _ ≤ w5.drew.heap.size from Ih)
    replace X := hide (unhide X).drew
    replace Xh := (show _ ≤ w5.drew.heap.size from Xh)
    replace BL := (show Below w.heap.size w w5.drew from BL.drew)
    replace kz := (show w.heap.size ≤ w5.drew.heap.size from kz)
    generalize w5.drew = wd20 at *
    refine wpAnyH_take (i := 0) (v := ?_) rfl (by kernel_rfl) (by kernel_rfl) (by kernel_rfl) (fun _ _ _ h => h) (Or.inl ⟨by rfl, ?_⟩) (by assumption) ?_
    rotate_left
    · (intro w hSw; (try dsimp only at hSw); first | (go_simp; done) | (go_simp; with_reducible rfl))
    try simp only [List.getElem_toArray, List.getElem_cons_succ, List.getElem_cons_zero, Act.put, List.setIfInBounds_toArray, List.set_cons_zero, List.set_cons_succ]
    refine wpAnyH_take (i := 1) (v := ?_) rfl (by kernel_rfl) (by kernel_rfl) (by kernel_rfl) (fun _ _ _ h => h) (Or.inl ⟨by rfl, ?_⟩) (by assumption) ?_
    rotate_left
    · (intro w hSw; (try dsimp only at hSw); first | (go_simp; done) | (go_simp; with_reducible rfl))
    try simp only [List.getElem_toArray, List.getElem_cons_succ, List.getElem_cons_zero, Act.put, List.setIfInBounds_toArray, List.set_cons_zero, List.set_cons_succ]
    refine wpAnyH_ready (rs := [2]) (by kernel_rfl) (by simp) ?_
    refine AllReadyH.cons rfl (fun K hK => ?_) AllReadyH.nil
    go_simp
    refine (toTerm_any w.heap.size t _ _ _ (unhide I) hf Ih).mono ?_
    rintro e w20 ⟨⟨B20, rfl, Z20⟩, b20⟩
    replace F := F.later b20
    replace Q := Q.later b20
    replace I := hide ((unhide I).later (b20.mono Ih)); replace Ih := Nat.le_trans Ih b20.size
    replace X := hide ((unhide X).later (b20.mono Xh)); replace Xh := Nat.le_trans Xh b20.size
    replace BL := BL.trans (b20.mono kz); replace kz := BL.size
    clear b20
    have Zq := hide (TT.In.wide (Nat.zero_le _) (Nat.le_refl _) _ _ Z20)
    have Zqh := Nat.le_refl w20.heap.size
    clear Z20
    go_wp2_with fail
    refine hK.out _ _ ?_ (fun hHeld => ?_)
    · exact ⟨F.1, F.2.1, F.2.2.1, F.2.2.2.1, F.2.2.2.2, Q.1, Q.2.1, Q.2.2.1, Q.2.2.2.1, Q.2.2.2.2⟩
    clear hK K
    try simp only [List.getElem_toArray, List.getElem_cons_succ, List.getElem_cons_zero, Act.put, List.setIfInBounds_toArray, List.set_cons_zero, List.set_cons_succ]
    refine wpAnyH_ready (rs := [3]) (by kernel_rfl) (by simp) ?_
    refine AllReadyH.cons rfl (fun K hK => ?_) AllReadyH.nil
    go_simp
    refine (eqTerm_same w20.heap.size t _ _ _ _ _ (TT.In.wide (Nat.le_refl _) Xh _ _ (unhide X)) (unhide Zq) hf Zqh).mono ?_
    rintro e w21 ⟨rfl, b21⟩
    replace F := F.later b21
    replace Q := Q.later b21
    replace I := hide ((unhide I).later (b21.mono Ih)); replace Ih := Nat.le_trans Ih b21.size
    replace X := hide ((unhide X).later (b21.mono Xh)); replace Xh := Nat.le_trans Xh b21.size
    replace Zq := hide ((unhide Zq).later (b21.mono Zqh)); replace Zqh := Nat.le_trans Zqh b21.size
    replace BL := BL.trans (b21.mono kz); replace kz := BL.size
    clear b21
    go_wp2_with fail
    refine hK.out _ _ ?_ (fun hHeld => ?_)
    · exact ⟨F.1, F.2.1, F.2.2.1, F.2.2.2.1, F.2.2.2.2, Q.1, Q.2.1, Q.2.2.1, Q.2.2.2.1, Q.2.2.2.2⟩
    clear hK K
    try simp only [List.getElem_toArray, List.getElem_cons_succ, List.getElem_cons_zero, Act.put, List.setIfInBounds_toArray, List.set_cons_zero, List.set_cons_succ]
    refine wpAnyH_take (i := 4) (v := ?_) rfl (by kernel_rfl) (by kernel_rfl) (by kernel_rfl) (fun _ _ _ h => h) (Or.inl ⟨by rfl, ?_⟩) (by assumption) ?_
    rotate_left
    · (intro w hSw; (try dsimp only at hSw); first | (go_simp; done) | (go_simp; with_reducible rfl))
    try simp only [List.getElem_toArray, List.getElem_cons_succ, List.getElem_cons_zero, Act.put, List.setIfInBounds_toArray, List.set_cons_zero, List.set_cons_succ]
    refine wpAnyH_done (by kernel_rfl) ?_ _
    obtain ⟨F0, F1, F2, F3, F4⟩ := id F
    have Fl := World.block_lt_of_cell? _ _ F0
    obtain ⟨Q0, Q1, Q2, Q3, Q4⟩ := id Q
    have Ql := World.block_lt_of_cell? _ _ Q0
    clear Zq Zqh
    go_wp2
    go_ret
    exact ⟨rfl, BL⟩
  · go_wp2
    go_ret
    exact ⟨rfl, BL⟩

set_option maxRecDepth 100000 in
theorem lifted (os : Os) (started : os.Started) (H : Type) (enc : TypeId × Value → H) :
    ReturnsInHanded {} Try.checked os 3 .any (Rows.fnExactTermFixedSpec.pre6 enc Try.prog Try.f3 Rows.fnExactTermFixedRow.domain false) (Rows.fnExactTermFixedSpec.post enc Try.prog Try.f3 false true false false) := by
  refine returnsInHanded_of_change (C := Try.checked) own started (by kernel_rfl) Try.func3
    (ChangeSpec.witness6 (enc := enc) (C := Try.checked) false ⟨#[], #[.agg #[.int .i64 0, .int .i64 0, .int .i64 0, .string ByteArray.empty, .slice none 0 0]], []⟩ 8 (by kernel_rfl) (by kernel_rfl) (by kernel_rfl) (by kernel_rfl)) ?_
  intro W base args ds gs before hval0 hW hcnd _
  have hval : ∀ (j : Nat) t v, Try.f3.params[j]? = some t → args[j]? = some v → Value.okWide Try.prog W .any base t v := hval0
  have hW' := hW
  obtain ⟨p, q, hA0, hV, rfl, hfz, hnd⟩ := hW
  have hA : DataW.TrodAll enc Try.prog W 0 (fun _ => true) true Try.f3.params.toList args.toList ds p := hA0
  rw [Try.params3] at hA hval
  obtain ⟨v0, vs0, d0, ds0, p0, q0, hargs, rfl, rfl, h0, r0⟩ := trodAll_cons hA
  obtain ⟨rfl, rfl, rfl⟩ := trodAll_nil r0
  obtain rfl : args = #[v0] := by cases args; simp_all
  obtain ⟨rfl, rfl⟩ := trodVars_none hV
  have k0 := h0
  have lt0 : ∀ x ∈ p0, x.block < W.heap.size := by obtain ⟨m, hm⟩ := k0; exact DataW.trod_lt m _ _ _ hm
  obtain ⟨t, adt, cpt, rfl, lct, hit, hft⟩ := term_in (hval 0 24 v0 rfl rfl) h0
  clear hA0 hval0
  refine (walk t adt cpt W lct hit hft).mono fun e W' ⟨he, bel⟩ => ?_
  subst he
  exact ⟨_, rfl, _, _, _, [], _, [], hW', trodAll_mk1 (shut_bool Try.underlying4 _), (trodAll_cons_mk (Below.trod laidOut (by kernel_rfl) (of_decide_eq_true (by kernel_rfl)) k0 bel lt0) trodAll_mk0), rfl, bel.frame _, fun h => by cases h⟩

theorem over : Rows.fnExactTermFixedRow.holds Try.pinned (OpenSpec.ofChange Rows.fnExactTermFixedSpec) :=
  OpenClaim.holds_of_wide 3 Try.f3 rfl rfl rfl rfl rfl rfl rfl ⟨rfl, rfl, rfl, rfl, rfl⟩ rfl rfl rfl rfl rfl (by kernel_rfl) Try.func3 (by kernel_rfl)
    (of_decide_eq_true (by kernel_rfl)) (by unfold Func.isWrapper; first | (rw [if_pos (by decide +kernel)]; kernel_rfl) | (rw [if_neg (by decide +kernel)]; exact ⟨rfl, rfl⟩))
    (fun os started H enc _ => lifted os started H enc)
end exFixed

theorem exFixed_holds : Rows.FnExactTermFixedSaid := exFixed.over
#print axioms exFixed_holds
end Go.Proofs.Ythchjeddfpfplaa
