/- At every argument the program's TermMany answers as the model's: the law FnExactTermMany returns true for every term, right or not, and leaves it as it was. No condition (the law itself answers true where the term takes more than 1048576 signs and parts). -/
import Derived.Test.YthhdgpbnkgcpnaaTrmC
namespace Go.Proofs.Ythhdgpbnkgcpnaa
open Go.ChangeShapes Go.WideShapes Go.ChangeAt Go.RowKit Go.Joins
open Go.ChangeMaps (open_string shut_string)
set_option linter.unusedVariables false

namespace exMany
set_option maxHeartbeats 2000000 in
theorem walk (t : TT) (adt : Option Addr) (cpt : Nat) (w : World) (lct : t.n ≤ cpt) (hit : t.In w 0 w.heap.size adt) (hft : t.Fit maxLen) :
    Calls Try.prog 4 #[.agg #[.int .i64 t.op, .int .i64 t.a, .int .i64 t.b, .string t.s, .slice adt t.n cpt]] w fun e w' => e = .returned (.bool true) ∧ Below w.heap.size w w' := by
  go_enter Try.func4, Try.ntmps4
  go_wp2_with fail
  have e1 := (Below.refl w.heap.size w).alloc (Nat.le_refl _) (.cells #[.int .i64 t.op, .int .i64 t.a, .int .i64 t.b, .string t.s, .slice adt t.n cpt] 31)
  refine (szTerm_any w.heap.size t adt cpt 1048576 _ (hit.later e1) hft (by omega) (by omega) (by simp)).mono ?_
  rintro e w1 ⟨⟨z, rfl, hzz⟩, b1⟩
  have P : Five w1 w.heap.size 0 t adt cpt := ⟨cell_later b1 (by simp [go_sem]), cell_later b1 (by simp [go_sem]), cell_later b1 (by simp [go_sem]), cell_later b1 (by simp [go_sem]), cell_later b1 (by simp [go_sem])⟩
  have BL := e1.trans (b1.mono (by simp))
  have kz := BL.size
  have I := hide (hit.later BL)
  have Ih := kz
  clear b1 hit e1
  have kn : ∀ x : Int, (x != x) = false := by simp
  obtain ⟨N, D, hV⟩ : ∃ N D : Int, manyV t.N t.D = .tuple #[.int .i64 N, .int .i64 D] := by
    unfold manyV
    split
    · exact ⟨_, _, rfl⟩
    · exact ⟨_, _, rfl⟩
  have HV := hide hV
  clear hV
  by_cases h0 : 0 ≤ z
  · obtain ⟨_, _, hf⟩ := hzz.resolve_left (by omega)
    clear hzz
    obtain ⟨P0, P1, P2, P3, P4⟩ := id P
    have Pl := World.block_lt_of_cell? _ _ P0
    go_wp2_with fail
    refine (toTerm_any w.heap.size t _ _ _ (unhide I) hf Ih).mono ?_
    rintro e w2 ⟨⟨B2, rfl, X2⟩, b2⟩
    clear P0 P1 P2 P3 P4 Pl
    replace P := P.later b2
    replace I := hide ((unhide I).later (b2.mono Ih)); replace Ih := Nat.le_trans Ih b2.size
    replace BL := BL.trans (b2.mono kz); replace kz := BL.size
    clear b2
    obtain ⟨P0, P1, P2, P3, P4⟩ := id P
    have Pl := World.block_lt_of_cell? _ _ P0
    have X := hide (TT.In.wide (Nat.zero_le _) (Nat.le_refl _) _ _ X2)
    have Xh := Nat.le_refl w2.heap.size
    clear X2
    go_wp2_with fail
    refine (sMany_any w2.heap.size t _ _ _ (unhide X) hf Xh).mono ?_
    rintro e w3 ⟨rfl, b3⟩
    clear P0 P1 P2 P3 P4 Pl
    replace P := P.later b3
    replace I := hide ((unhide I).later (b3.mono Ih)); replace Ih := Nat.le_trans Ih b3.size
    replace X := hide ((unhide X).later (b3.mono Xh)); replace Xh := Nat.le_trans Xh b3.size
    replace BL := BL.trans (b3.mono kz); replace kz := BL.size
    clear b3
    obtain ⟨P0, P1, P2, P3, P4⟩ := id P
    have Pl := World.block_lt_of_cell? _ _ P0
    rw [unhide HV]
    clear X Xh
    go_wp2_with fail
    refine (toTerm_any w.heap.size t _ _ _ (unhide I) hf Ih).mono ?_
    rintro e w4 ⟨⟨B4, rfl, X4⟩, b4⟩
    clear P0 P1 P2 P3 P4 Pl
    replace P := P.later b4
    replace I := hide ((unhide I).later (b4.mono Ih)); replace Ih := Nat.le_trans Ih b4.size
    replace BL := BL.trans (b4.mono kz); replace kz := BL.size
    clear b4
    obtain ⟨P0, P1, P2, P3, P4⟩ := id P
    have Pl := World.block_lt_of_cell? _ _ P0
    have X := hide (TT.In.wide (Nat.zero_le _) (Nat.le_refl _) _ _ X4)
    have Xh := Nat.le_refl w4.heap.size
    clear X4
    go_wp2_with fail
    obtain ⟨wbQ, hwbQ⟩ : ∃ v, v = w4.alloc (.cells #[.int .i64 t.op, .int .i64 t.a, .int .i64 t.b, .string t.s, .slice (some ⟨B4, 0, none⟩) t.n t.n] 37) := ⟨_, rfl⟩
    have bwbQ : Below w4.heap.size w4 wbQ := by rw [hwbQ]; exact (Below.refl _ _).alloc (Nat.le_refl _) _
    have Q : Five wbQ w4.heap.size 0 t (some ⟨B4, 0, none⟩) t.n := by rw [hwbQ]; exact ⟨by simp [go_sem], by simp [go_sem], by simp [go_sem], by simp [go_sem], by simp [go_sem]⟩
    rw [← hwbQ]
    clear P0 P1 P2 P3 P4 Pl
    replace P := P.later bwbQ
    replace I := hide ((unhide I).later (bwbQ.mono Ih)); replace Ih := Nat.le_trans Ih bwbQ.size
    replace X := hide ((unhide X).later (bwbQ.mono Xh)); replace Xh := Nat.le_trans Xh bwbQ.size
    replace BL := BL.trans (bwbQ.mono kz); replace kz := BL.size
    clear bwbQ hwbQ
    obtain ⟨P0, P1, P2, P3, P4⟩ := id P
    have Pl := World.block_lt_of_cell? _ _ P0
    obtain ⟨Q0, Q1, Q2, Q3, Q4⟩ := id Q
    have Ql := World.block_lt_of_cell? _ _ Q0
    refine (iMany_any w4.heap.size t _ _ _ (unhide X) hf Xh).mono ?_
    rintro e w5 ⟨rfl, b5⟩
    clear P0 P1 P2 P3 P4 Pl Q0 Q1 Q2 Q3 Q4 Ql
    replace P := P.later b5
    replace Q := Q.later b5
    replace I := hide ((unhide I).later (b5.mono Ih)); replace Ih := Nat.le_trans Ih b5.size
    replace X := hide ((unhide X).later (b5.mono Xh)); replace Xh := Nat.le_trans Xh b5.size
    replace BL := BL.trans (b5.mono kz); replace kz := BL.size
    clear b5
    obtain ⟨P0, P1, P2, P3, P4⟩ := id P
    have Pl := World.block_lt_of_cell? _ _ P0
    obtain ⟨Q0, Q1, Q2, Q3, Q4⟩ := id Q
    have Ql := World.block_lt_of_cell? _ _ Q0
    rw [unhide HV]
    go_wp2
    go_region_held3 (fun w' => w'.cell? ⟨w.heap.size, 0, none⟩ = some (.int .i64 t.op) ∧ w'.cell? ⟨w.heap.size, 1, none⟩ = some (.int .i64 t.a) ∧ w'.cell? ⟨w.heap.size, 2, none⟩ = some (.int .i64 t.b) ∧ w'.cell? ⟨w.heap.size, 3, none⟩ = some (.string t.s) ∧ w'.cell? ⟨w.heap.size, 4, none⟩ = some (.slice adt t.n cpt) ∧ w'.cell? ⟨w4.heap.size, 0, none⟩ = some (.int .i64 t.op) ∧ w'.cell? ⟨w4.heap.size, 1, none⟩ = some (.int .i64 t.a) ∧ w'.cell? ⟨w4.heap.size, 2, none⟩ = some (.int .i64 t.b) ∧ w'.cell? ⟨w4.heap.size, 3, none⟩ = some (.string t.s) ∧ w'.cell? ⟨w4.heap.size, 4, none⟩ = some (.slice (some ⟨B4, 0, none⟩) t.n t.n)) (first | go_keep | exact ⟨P.1, P.2.1, P.2.2.1, P.2.2.2.1, P.2.2.2.2, Q.1, Q.2.1, Q.2.2.1, Q.2.2.2.1, Q.2.2.2.2⟩)
      (first | (go_at_call 14; refine (toTerm_any w.heap.size t _ _ _ (by first | exact unhide I | exact (unhide I).drew) hf (by exact Ih)).mono ?_; rintro e wq ⟨⟨Bq, rfl, Xq⟩, bq⟩; have Y := hide (TT.In.wide (Nat.zero_le _) (Nat.le_refl _) _ _ Xq); have X2 := hide (TT.In.wide (Nat.le_refl _) (Nat.le_trans Xh bq.size) _ _ (TT.In.later (by first | exact unhide X | exact (unhide X).drew) (bq.mono Xh))); have P := Five.later (by exact P) bq; have Q := Five.later (by exact Q) bq; have BL := (by first | exact BL.trans (bq.mono kz) | exact BL.drew.trans (bq.mono kz)); have kz := BL.size) | (go_at_call 16; refine (eqTerm_same wq.heap.size t _ _ _ _ _ (by first | exact unhide X2 | exact (unhide X2).drew) (by first | exact unhide Y | exact (unhide Y).drew) hf (by exact Nat.le_refl _)).mono ?_; rintro e wp ⟨rfl, bp⟩; have P := Five.later (by exact P) bp; have Q := Five.later (by exact Q) bp; have BL := (by first | exact BL.trans (bp.mono kz) | exact BL.drew.trans (bp.mono kz)); have kz := BL.size))
    all_goals go_wp2
    all_goals go_ret
    all_goals exact ⟨rfl, by first | exact BL | exact BL.drew⟩
  · go_wp2
    go_ret
    exact ⟨rfl, BL⟩

set_option maxRecDepth 100000 in
theorem lifted (os : Os) (started : os.Started) (H : Type) (enc : TypeId × Value → H) :
    ReturnsInHanded {} Try.checked os 4 .any (Rows.fnExactTermManySpec.pre6 enc Try.prog Try.f4 Rows.fnExactTermManyRow.domain false) (Rows.fnExactTermManySpec.post enc Try.prog Try.f4 false true false false) := by
  refine returnsInHanded_of_change (C := Try.checked) own started (by kernel_rfl) Try.func4
    (ChangeSpec.witness6 (enc := enc) (C := Try.checked) false ⟨#[], #[.agg #[.int .i64 0, .int .i64 0, .int .i64 0, .string ByteArray.empty, .slice none 0 0]], []⟩ 8 (by kernel_rfl) (by kernel_rfl) (by kernel_rfl) (by kernel_rfl)) ?_
  intro W base args ds gs before hval0 hW hcnd _
  have hval : ∀ (j : Nat) t v, Try.f4.params[j]? = some t → args[j]? = some v → Value.okWide Try.prog W .any base t v := hval0
  have hW' := hW
  obtain ⟨p, q, hA0, hV, rfl, hfz, hnd⟩ := hW
  have hA : DataW.TrodAll enc Try.prog W 0 (fun _ => true) true Try.f4.params.toList args.toList ds p := hA0
  rw [Try.params4] at hA hval
  obtain ⟨v0, vs0, d0, ds0, p0, q0, hargs, rfl, rfl, h0, r0⟩ := trodAll_cons hA
  obtain ⟨rfl, rfl, rfl⟩ := trodAll_nil r0
  obtain rfl : args = #[v0] := by cases args; simp_all
  obtain ⟨rfl, rfl⟩ := trodVars_none hV
  have k0 := h0
  have lt0 : ∀ x ∈ p0, x.block < W.heap.size := by obtain ⟨m, hm⟩ := k0; exact DataW.trod_lt m _ _ _ hm
  obtain ⟨t, adt, cpt, rfl, lct, hit, hft⟩ := term_in (hval 0 31 v0 rfl rfl) h0
  clear hA0 hval0
  refine (walk t adt cpt W lct hit hft).mono fun e W' ⟨he, bel⟩ => ?_
  subst he
  exact ⟨_, rfl, _, _, _, [], _, [], hW', trodAll_mk1 (shut_bool Try.underlying4 _), (trodAll_cons_mk (Below.trod laidOut (by kernel_rfl) (of_decide_eq_true (by kernel_rfl)) k0 bel lt0) trodAll_mk0), rfl, bel.frame _, fun h => by cases h⟩

theorem over : Rows.fnExactTermManyRow.holds Try.pinned (OpenSpec.ofChange Rows.fnExactTermManySpec) :=
  OpenClaim.holds_of_wide 4 Try.f4 rfl rfl rfl rfl rfl rfl rfl ⟨rfl, rfl, rfl, rfl, rfl⟩ rfl rfl rfl rfl rfl (by kernel_rfl) Try.func4 (by kernel_rfl)
    (of_decide_eq_true (by kernel_rfl)) (by unfold Func.isWrapper; first | (rw [if_pos (by decide +kernel)]; kernel_rfl) | (rw [if_neg (by decide +kernel)]; exact ⟨rfl, rfl⟩))
    (fun os started H enc _ => lifted os started H enc)
end exMany

theorem exMany_holds : Rows.FnExactTermManySaid := exMany.over
#print axioms exMany_holds
end Go.Proofs.Ythhdgpbnkgcpnaa
