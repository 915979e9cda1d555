/- At every argument the program's VecText answers as the model's: the law FnExactVecText returns true for every number, right or not, and leaves its argument as it was. No condition. -/
import Derived.Test.YtbfechcncgooparVecQ
namespace Go.Proofs.Ytbfechcncgoopar
open Go.ChangeShapes Go.WideShapes Go.ChangeAt Go.RowKit Go.Joins
open Go.ChangeMaps (open_string shut_string)
set_option linter.unusedVariables false

namespace exText
set_option maxHeartbeats 2000000 in
theorem walk (a0 a1 : Int) (w : World) (wa0 : (Lit.int .i64 a0).wf = true) (wa1 : (Lit.int .i64 a1).wf = true) :
    Calls Try.prog 8 #[.agg #[.int .i64 a0, .int .i64 a1]] w fun e w' => e = .returned (.bool true) ∧ Below w.heap.size w w' := by
  go_enter Try.func8, Try.ntmps8
  go_wp2_with fail
  refine (toVec_any _ _ _).mono ?_
  rintro e w1 ⟨rfl, b1⟩
  have pa0 : w1.cell? ⟨w.heap.size, 0, none⟩ = some (.int .i64 a0) := cell_later b1 (by simp [go_sem])
  have pa1 : w1.cell? ⟨w.heap.size, 1, none⟩ = some (.int .i64 a1) := cell_later b1 (by simp [go_sem])
  have z1 := b1.size
  simp only [World.size_alloc] at b1 z1
  go_wp2_with fail
  refine (sVecText_any _ _ _).mono ?_
  rintro e w2 ⟨rfl, b2⟩
  replace pa0 : w2.cell? ⟨w.heap.size, 0, none⟩ = some (.int .i64 a0) := cell_later b2 pa0
  replace pa1 : w2.cell? ⟨w.heap.size, 1, none⟩ = some (.int .i64 a1) := cell_later b2 pa1
  have z2 := b2.size
  go_wp2_with fail
  refine (toVec_any _ _ _).mono ?_
  rintro e w3 ⟨rfl, b3⟩
  replace pa0 : w3.cell? ⟨w.heap.size, 0, none⟩ = some (.int .i64 a0) := cell_later b3 pa0
  replace pa1 : w3.cell? ⟨w.heap.size, 1, none⟩ = some (.int .i64 a1) := cell_later b3 pa1
  have z3 := b3.size
  go_wp2_with fail
  refine (iVecText_any _ _ _).mono ?_
  rintro e w4 ⟨rfl, b4⟩
  have z4 := b4.size
  go_wp2
  go_ret
  exact ⟨rfl, ((((((Below.refl w.heap.size w).alloc (by simp <;> omega) (.cells #[.int .i64 a0, .int .i64 a1] 23)).trans (b1.mono (by first | omega | (simp <;> omega)))).trans (b2.mono (by first | omega | (simp <;> omega)))).trans (b3.mono (by first | omega | (simp <;> omega)))).trans (b4.mono (by first | omega | (simp <;> omega))))⟩

set_option maxRecDepth 100000 in
theorem lifted (os : Os) (started : os.Started) (H : Type) (enc : TypeId × Value → H) :
    ReturnsInHanded {} Try.checked os 8 .any (Rows.fnExactVecTextSpec.pre6 enc Try.prog Try.f8 Rows.fnExactVecTextRow.domain false) (Rows.fnExactVecTextSpec.post enc Try.prog Try.f8 false true false false) := by
  refine returnsInHanded_of_change (C := Try.checked) own started (by kernel_rfl) Try.func8
    (ChangeSpec.witness6 (enc := enc) (C := Try.checked) false ⟨#[], #[.agg #[.int .i64 0, .int .i64 0]], []⟩ 8 (by kernel_rfl) (by kernel_rfl) (by kernel_rfl) (by kernel_rfl)) ?_
  intro W base args ds gs before hval0 hW hcnd _
  have hval : ∀ (j : Nat) t v, Try.f8.params[j]? = some t → args[j]? = some v → Value.okWide Try.prog W .any base t v := hval0
  have hW' := hW
  obtain ⟨p, q, hA0, hV, rfl, hfz, hnd⟩ := hW
  have hA : DataW.TrodAll enc Try.prog W 0 (fun _ => true) true Try.f8.params.toList args.toList ds p := hA0
  rw [Try.params8] at hA hval
  obtain ⟨v0, vs0, d0, ds0, p0, q0, hargs, rfl, rfl, h0, r0⟩ := trodAll_cons hA
  obtain ⟨rfl, rfl, rfl⟩ := trodAll_nil r0
  obtain rfl : args = #[v0] := by cases args; simp_all
  obtain ⟨rfl, rfl⟩ := trodVars_none hV
  obtain ⟨c0_0, c1_0, y0_0, y1_0, m0, rfl, rfl, rfl, hy0_0, hy1_0⟩ := open_agg2 Try.underlying23 (by kernel_rfl) cellsV (hval 0 23 v0 rfl rfl) h0
  obtain ⟨a0, e0_0, rfl, wa0⟩ := DataW.trod_int Try.underlying3 hy0_0
  obtain ⟨a1, e1_0, rfl, wa1⟩ := DataW.trod_int Try.underlying3 hy1_0
  simp at e0_0 e1_0
  subst e0_0 e1_0
  clear hA0 hval0
  refine (walk a0 a1 W wa0 wa1).mono fun e W' ⟨he, bel⟩ => ?_
  subst he
  exact ⟨_, rfl, _, _, _, [], _, [], hW', trodAll_mk1 (shut_bool Try.underlying4 _), (trodAll_cons_mk (vecReads enc a0 a1 wa0 wa1 _ _) trodAll_mk0), rfl, bel.frame _, fun h => by cases h⟩

theorem over : Rows.fnExactVecTextRow.holds Try.pinned (OpenSpec.ofChange Rows.fnExactVecTextSpec) :=
  OpenClaim.holds_of_wide 8 Try.f8 rfl rfl rfl rfl rfl rfl rfl ⟨rfl, rfl, rfl, rfl, rfl⟩ rfl rfl rfl rfl rfl (by kernel_rfl) Try.func8 (by kernel_rfl)
    (of_decide_eq_true (by kernel_rfl)) (by unfold Func.isWrapper; first | (rw [if_pos (by decide +kernel)]; kernel_rfl) | (rw [if_neg (by decide +kernel)]; exact ⟨rfl, rfl⟩))
    (fun os started H enc _ => lifted os started H enc)
end exText

theorem exText_holds : Rows.FnExactVecTextSaid := exText.over
#print axioms exText_holds
end Go.Proofs.Ytbfechcncgoopar
