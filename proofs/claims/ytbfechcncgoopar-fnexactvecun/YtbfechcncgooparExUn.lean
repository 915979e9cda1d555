/- At every argument the program's VecUn answers as the model's, field by field: the law FnExactVecUn returns true for every operation and every number, and leaves its arguments as they were. No condition. -/
import Derived.Test.YtbfechcncgooparVecH
namespace Go.Proofs.Ytbfechcncgoopar
open Go.ChangeShapes Go.WideShapes Go.ChangeAt Go.RowKit Go.Joins
open Go.ChangeMaps (open_string shut_string)
set_option linter.unusedVariables false

namespace exUn
set_option maxHeartbeats 2000000 in
theorem walk (op : Int) (a0 a1 : Int) (w : World) (wop : (Lit.int .i64 op).wf = true) (wa0 : (Lit.int .i64 a0).wf = true) (wa1 : (Lit.int .i64 a1).wf = true) :
    Calls Try.prog 4 #[.int .i64 op, .agg #[.int .i64 a0, .int .i64 a1]] w fun e w' => e = .returned (.bool true) ∧ Below w.heap.size w w' := by
  obtain ⟨c, d, t, hV⟩ := unV_form op a0 a1
  have hs := fun w => sVecUn_any op a0 a1 w
  have hi := fun w => iVecUn_any op a0 a1 w
  simp only [hV] at hs hi
  have HS := hide hs
  have HI := hide hi
  clear hV hs hi
  have ht : (t != t) = false := by simp
  go_enter Try.func4, Try.ntmps4
  go_wp2_with fail
  refine (toVec_any _ _ _).mono ?_
  rintro e w1 ⟨rfl, b1⟩
  have z1 := b1.size
  have pa0 : w1.cell? ⟨w.heap.size, 0, none⟩ = some (.int .i64 a0) := cell_later b1 (by simp [go_sem])
  have pa1 : w1.cell? ⟨w.heap.size, 1, none⟩ = some (.int .i64 a1) := cell_later b1 (by simp [go_sem])
  simp only [World.size_alloc] at b1 z1
  go_wp2_with fail
  refine (unhide HS _).mono ?_
  rintro e w2 ⟨rfl, b2⟩
  have z2 := b2.size
  replace pa0 : w2.cell? ⟨w.heap.size, 0, none⟩ = some (.int .i64 a0) := cell_later b2 pa0
  replace pa1 : w2.cell? ⟨w.heap.size, 1, none⟩ = some (.int .i64 a1) := cell_later b2 pa1
  have la := World.block_lt_of_cell? _ _ pa0
  simp only at la
  go_wp2_with fail
  refine (toVec_any _ _ _).mono ?_
  rintro e w3 ⟨rfl, b3⟩
  have z3 := b3.size
  replace pa0 : w3.cell? ⟨w.heap.size, 0, none⟩ = some (.int .i64 a0) := cell_later b3 (by simp [go_sem, *])
  replace pa1 : w3.cell? ⟨w.heap.size, 1, none⟩ = some (.int .i64 a1) := cell_later b3 (by simp [go_sem, *])
  have q0 : w3.cell? ⟨w2.heap.size, 0, none⟩ = some (.int .i64 c) := cell_later b3 (by simp [go_sem])
  have q1 : w3.cell? ⟨w2.heap.size, 1, none⟩ = some (.int .i64 d) := cell_later b3 (by simp [go_sem])
  simp only [World.size_alloc] at b3 z3
  go_wp2_with fail
  refine (unhide HI _).mono ?_
  rintro e w4 ⟨rfl, b4⟩
  have z4 := b4.size
  replace pa0 : w4.cell? ⟨w.heap.size, 0, none⟩ = some (.int .i64 a0) := cell_later b4 pa0
  replace pa1 : w4.cell? ⟨w.heap.size, 1, none⟩ = some (.int .i64 a1) := cell_later b4 pa1
  replace q0 : w4.cell? ⟨w2.heap.size, 0, none⟩ = some (.int .i64 c) := cell_later b4 q0
  replace q1 : w4.cell? ⟨w2.heap.size, 1, none⟩ = some (.int .i64 d) := cell_later b4 q1
  have lq := World.block_lt_of_cell? _ _ q0
  simp only at lq
  go_wp2_with fail
  refine (eqVec_same _ _ _).mono ?_
  rintro e w5 ⟨rfl, b5⟩
  simp only [World.size_alloc] at b5
  go_wp2
  go_ret
  exact ⟨rfl, (((((((((Below.refl w.heap.size w).alloc (by simp <;> omega) (.cells #[.int .i64 a0, .int .i64 a1] 23)).trans (b1.mono (by first | omega | (simp <;> omega)))).trans (b2.mono (by first | omega | (simp <;> omega)))).alloc (by first | omega | (simp <;> omega)) (.cells #[.int .i64 c, .int .i64 d] 25)).trans (b3.mono (by first | omega | (simp <;> omega)))).trans (b4.mono (by first | omega | (simp <;> omega)))).alloc (by first | omega | (simp <;> omega)) (.cells #[.int .i64 c, .int .i64 d] 25)).trans (b5.mono (by first | omega | (simp <;> omega))))⟩

set_option maxRecDepth 100000 in
theorem lifted (os : Os) (started : os.Started) (H : Type) (enc : TypeId × Value → H) :
    ReturnsInHanded {} Try.checked os 4 .any (Rows.fnExactVecUnSpec.pre6 enc Try.prog Try.f4 Rows.fnExactVecUnRow.domain false) (Rows.fnExactVecUnSpec.post enc Try.prog Try.f4 false true false false) := by
  refine returnsInHanded_of_change (C := Try.checked) own started (by kernel_rfl) Try.func4
    (ChangeSpec.witness6 (enc := enc) (C := Try.checked) false ⟨#[], #[.int .i64 0, .agg #[.int .i64 0, .int .i64 0]], []⟩ 8 (by kernel_rfl) (by kernel_rfl) (by kernel_rfl) (by kernel_rfl)) ?_
  intro W base args ds gs before hval0 hW hcnd _
  have hval : ∀ (j : Nat) t v, Try.f4.params[j]? = some t → args[j]? = some v → Value.okWide Try.prog W .any base t v := hval0
  have hW' := hW
  obtain ⟨p, q, hA0, hV, rfl, hfz, hnd⟩ := hW
  have hA : DataW.TrodAll enc Try.prog W 0 (fun _ => true) true Try.f4.params.toList args.toList ds p := hA0
  rw [Try.params4] at hA hval
  obtain ⟨v0, vs0, d0, ds0, p0, q0, hargs, rfl, rfl, h0, r0⟩ := trodAll_cons hA
  obtain ⟨v1, vs1, d1, ds1, p1, q1, rfl, rfl, rfl, h1, r1⟩ := trodAll_cons r0
  obtain ⟨rfl, rfl, rfl⟩ := trodAll_nil r1
  obtain rfl : args = #[v0, v1] := by cases args; simp_all
  obtain ⟨rfl, rfl⟩ := trodVars_none hV
  obtain ⟨op, rfl, rfl, rfl, wop⟩ := open_int Try.underlying3 (hval 0 3 v0 rfl rfl) h0
  obtain ⟨c0_1, c1_1, y0_1, y1_1, m1, rfl, rfl, rfl, hy0_1, hy1_1⟩ := open_agg2 Try.underlying23 (by kernel_rfl) cellsV (hval 1 23 v1 rfl rfl) h1
  obtain ⟨a0, e0_1, rfl, wa0⟩ := DataW.trod_int Try.underlying3 hy0_1
  obtain ⟨a1, e1_1, rfl, wa1⟩ := DataW.trod_int Try.underlying3 hy1_1
  simp at e0_1 e1_1
  subst e0_1 e1_1
  clear hA0 hval0
  refine (walk op a0 a1 W wop wa0 wa1).mono fun e W' ⟨he, bel⟩ => ?_
  subst he
  exact ⟨_, rfl, _, _, _, [], _, [], hW', trodAll_mk1 (shut_bool Try.underlying4 _), (trodAll_cons_mk (shut_int Try.underlying3 wop) (trodAll_cons_mk (vecReads enc a0 a1 wa0 wa1 _ _) trodAll_mk0)), rfl, bel.frame _, fun h => by cases h⟩

theorem over : Rows.fnExactVecUnRow.holds Try.pinned (OpenSpec.ofChange Rows.fnExactVecUnSpec) :=
  OpenClaim.holds_of_wide 4 Try.f4 rfl rfl rfl rfl rfl rfl rfl ⟨rfl, rfl, rfl, rfl, rfl⟩ rfl rfl rfl rfl rfl (by kernel_rfl) Try.func4 (by kernel_rfl)
    (of_decide_eq_true (by kernel_rfl)) (by unfold Func.isWrapper; first | (rw [if_pos (by decide +kernel)]; kernel_rfl) | (rw [if_neg (by decide +kernel)]; exact ⟨rfl, rfl⟩))
    (fun os started H enc _ => lifted os started H enc)
end exUn

theorem exUn_holds : Rows.FnExactVecUnSaid := exUn.over
#print axioms exUn_holds
end Go.Proofs.Ytbfechcncgoopar
