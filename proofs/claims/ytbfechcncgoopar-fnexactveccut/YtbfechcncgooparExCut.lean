/- At every argument the program's VecCut answers as the model's, field by field: the law FnExactVecCut returns true for every number and every two places, and leaves its arguments as they were. No condition. -/
import Derived.Test.YtbfechcncgooparVecH
import Derived.Test.YtbfechcncgooparVecO
namespace Go.Proofs.Ytbfechcncgoopar
open Go.ChangeShapes Go.WideShapes Go.ChangeAt Go.RowKit Go.Joins
open Go.ChangeMaps (open_string shut_string)
set_option linter.unusedVariables false

namespace exCut
set_option maxHeartbeats 2000000 in
theorem walk (a0 a1 : Int) (hi : Int) (lo : Int) (w : World) (wa0 : (Lit.int .i64 a0).wf = true) (wa1 : (Lit.int .i64 a1).wf = true) (whi : (Lit.int .i64 hi).wf = true) (wlo : (Lit.int .i64 lo).wf = true) :
    Calls Try.prog 7 #[.agg #[.int .i64 a0, .int .i64 a1], .int .i64 hi, .int .i64 lo] w fun e w' => e = .returned (.bool true) ∧ Below w.heap.size w w' := by
  obtain ⟨c, d, t, hV⟩ := cutV_form a0 a1 hi lo
  have hs := fun w => sVecCut_any a0 a1 hi lo w
  have hi := fun w => iVecCut_any a0 a1 hi lo w
  simp only [hV] at hs hi
  have HS := hide hs
  have HI := hide hi
  clear hV hs hi
  have ht : (t != t) = false := by simp
  go_enter Try.func7, Try.ntmps7
  go_wp2_with fail
  refine (toVec_any _ _ _).mono ?_
  rintro e w1 ⟨rfl, b1⟩
  have z1 := b1.size
  have pa0 : w1.cell? ⟨w.heap.size, 0, none⟩ = some (.int .i64 a0) := cell_later b1 (by simp [go_sem])
  have pa1 : w1.cell? ⟨w.heap.size, 1, none⟩ = some (.int .i64 a1) := cell_later b1 (by simp [go_sem])
  simp only [World.size_alloc] at b1 z1
  go_wp2_with fail
  refine (unhide HS _).mono ?_
  rintro e w2 ⟨rfl, b2⟩
  have z2 := b2.size
  replace pa0 : w2.cell? ⟨w.heap.size, 0, none⟩ = some (.int .i64 a0) := cell_later b2 pa0
  replace pa1 : w2.cell? ⟨w.heap.size, 1, none⟩ = some (.int .i64 a1) := cell_later b2 pa1
  have la := World.block_lt_of_cell? _ _ pa0
  simp only at la
  go_wp2_with fail
  refine (toVec_any _ _ _).mono ?_
  rintro e w3 ⟨rfl, b3⟩
  have z3 := b3.size
  replace pa0 : w3.cell? ⟨w.heap.size, 0, none⟩ = some (.int .i64 a0) := cell_later b3 (by simp [go_sem, *])
  replace pa1 : w3.cell? ⟨w.heap.size, 1, none⟩ = some (.int .i64 a1) := cell_later b3 (by simp [go_sem, *])
  have q0 : w3.cell? ⟨w2.heap.size, 0, none⟩ = some (.int .i64 c) := cell_later b3 (by simp [go_sem])
  have q1 : w3.cell? ⟨w2.heap.size, 1, none⟩ = some (.int .i64 d) := cell_later b3 (by simp [go_sem])
  simp only [World.size_alloc] at b3 z3
  go_wp2_with fail
  refine (unhide HI _).mono ?_
  rintro e w4 ⟨rfl, b4⟩
  have z4 := b4.size
  replace pa0 : w4.cell? ⟨w.heap.size, 0, none⟩ = some (.int .i64 a0) := cell_later b4 pa0
  replace pa1 : w4.cell? ⟨w.heap.size, 1, none⟩ = some (.int .i64 a1) := cell_later b4 pa1
  replace q0 : w4.cell? ⟨w2.heap.size, 0, none⟩ = some (.int .i64 c) := cell_later b4 q0
  replace q1 : w4.cell? ⟨w2.heap.size, 1, none⟩ = some (.int .i64 d) := cell_later b4 q1
  have lq := World.block_lt_of_cell? _ _ q0
  simp only at lq
  go_wp2_with fail
  refine (eqVec_same _ _ _).mono ?_
  rintro e w5 ⟨rfl, b5⟩
  simp only [World.size_alloc] at b5
  go_wp2
  go_ret
  exact ⟨rfl, (((((((((Below.refl w.heap.size w).alloc (by simp <;> omega) (.cells #[.int .i64 a0, .int .i64 a1] 23)).trans (b1.mono (by first | omega | (simp <;> omega)))).trans (b2.mono (by first | omega | (simp <;> omega)))).alloc (by first | omega | (simp <;> omega)) (.cells #[.int .i64 c, .int .i64 d] 25)).trans (b3.mono (by first | omega | (simp <;> omega)))).trans (b4.mono (by first | omega | (simp <;> omega)))).alloc (by first | omega | (simp <;> omega)) (.cells #[.int .i64 c, .int .i64 d] 25)).trans (b5.mono (by first | omega | (simp <;> omega))))⟩

set_option maxRecDepth 100000 in
theorem lifted (os : Os) (started : os.Started) (H : Type) (enc : TypeId × Value → H) :
    ReturnsInHanded {} Try.checked os 7 .any (Rows.fnExactVecCutSpec.pre6 enc Try.prog Try.f7 Rows.fnExactVecCutRow.domain false) (Rows.fnExactVecCutSpec.post enc Try.prog Try.f7 false true false false) := by
  refine returnsInHanded_of_change (C := Try.checked) own started (by kernel_rfl) Try.func7
    (ChangeSpec.witness6 (enc := enc) (C := Try.checked) false ⟨#[], #[.agg #[.int .i64 0, .int .i64 0], .int .i64 0, .int .i64 0], []⟩ 8 (by kernel_rfl) (by kernel_rfl) (by kernel_rfl) (by kernel_rfl)) ?_
  intro W base args ds gs before hval0 hW hcnd _
  have hval : ∀ (j : Nat) t v, Try.f7.params[j]? = some t → args[j]? = some v → Value.okWide Try.prog W .any base t v := hval0
  have hW' := hW
  obtain ⟨p, q, hA0, hV, rfl, hfz, hnd⟩ := hW
  have hA : DataW.TrodAll enc Try.prog W 0 (fun _ => true) true Try.f7.params.toList args.toList ds p := hA0
  rw [Try.params7] at hA hval
  obtain ⟨v0, vs0, d0, ds0, p0, q0, hargs, rfl, rfl, h0, r0⟩ := trodAll_cons hA
  obtain ⟨v1, vs1, d1, ds1, p1, q1, rfl, rfl, rfl, h1, r1⟩ := trodAll_cons r0
  obtain ⟨v2, vs2, d2, ds2, p2, q2, rfl, rfl, rfl, h2, r2⟩ := trodAll_cons r1
  obtain ⟨rfl, rfl, rfl⟩ := trodAll_nil r2
  obtain rfl : args = #[v0, v1, v2] := by cases args; simp_all
  obtain ⟨rfl, rfl⟩ := trodVars_none hV
  obtain ⟨c0_0, c1_0, y0_0, y1_0, m0, rfl, rfl, rfl, hy0_0, hy1_0⟩ := open_agg2 Try.underlying23 (by kernel_rfl) cellsV (hval 0 23 v0 rfl rfl) h0
  obtain ⟨a0, e0_0, rfl, wa0⟩ := DataW.trod_int Try.underlying3 hy0_0
  obtain ⟨a1, e1_0, rfl, wa1⟩ := DataW.trod_int Try.underlying3 hy1_0
  simp at e0_0 e1_0
  subst e0_0 e1_0
  obtain ⟨hi, rfl, rfl, rfl, whi⟩ := open_int Try.underlying3 (hval 1 3 v1 rfl rfl) h1
  obtain ⟨lo, rfl, rfl, rfl, wlo⟩ := open_int Try.underlying3 (hval 2 3 v2 rfl rfl) h2
  clear hA0 hval0
  refine (walk a0 a1 hi lo W wa0 wa1 whi wlo).mono fun e W' ⟨he, bel⟩ => ?_
  subst he
  exact ⟨_, rfl, _, _, _, [], _, [], hW', trodAll_mk1 (shut_bool Try.underlying4 _), (trodAll_cons_mk (vecReads enc a0 a1 wa0 wa1 _ _) (trodAll_cons_mk (shut_int Try.underlying3 whi) (trodAll_cons_mk (shut_int Try.underlying3 wlo) trodAll_mk0))), rfl, bel.frame _, fun h => by cases h⟩

theorem over : Rows.fnExactVecCutRow.holds Try.pinned (OpenSpec.ofChange Rows.fnExactVecCutSpec) :=
  OpenClaim.holds_of_wide 7 Try.f7 rfl rfl rfl rfl rfl rfl rfl ⟨rfl, rfl, rfl, rfl, rfl⟩ rfl rfl rfl rfl rfl (by kernel_rfl) Try.func7 (by kernel_rfl)
    (of_decide_eq_true (by kernel_rfl)) (by unfold Func.isWrapper; first | (rw [if_pos (by decide +kernel)]; kernel_rfl) | (rw [if_neg (by decide +kernel)]; exact ⟨rfl, rfl⟩))
    (fun os started H enc _ => lifted os started H enc)
end exCut

theorem exCut_holds : Rows.FnExactVecCutSaid := exCut.over
#print axioms exCut_holds
end Go.Proofs.Ytbfechcncgoopar
