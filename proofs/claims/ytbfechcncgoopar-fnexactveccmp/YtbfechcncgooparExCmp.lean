/- At every argument the program's VecCmp answers as the model's: the law FnExactVecCmp returns true for every operation and every two numbers, and leaves its arguments as they were. No condition. -/
import Derived.Test.YtbfechcncgooparVecN
namespace Go.Proofs.Ytbfechcncgoopar
open Go.ChangeShapes Go.WideShapes Go.ChangeAt Go.RowKit Go.Joins
open Go.ChangeMaps (open_string shut_string)
set_option linter.unusedVariables false
attribute [local go_sem ↓] Go.wp_at_zero Go.wp_at_succ

namespace exCmp
set_option maxHeartbeats 2000000 in
theorem walk (op : Int) (a0 a1 : Int) (b0 b1 : Int) (w : World) (wop : (Lit.int .i64 op).wf = true) (wa0 : (Lit.int .i64 a0).wf = true) (wa1 : (Lit.int .i64 a1).wf = true) (wb0 : (Lit.int .i64 b0).wf = true) (wb1 : (Lit.int .i64 b1).wf = true) :
    Calls Try.prog 6 #[.int .i64 op, .agg #[.int .i64 a0, .int .i64 a1], .agg #[.int .i64 b0, .int .i64 b1]] w fun e w' => e = .returned (.bool true) ∧ Below w.heap.size w w' := by
  have hs := fun w => sVecCmp_any op a0 a1 b0 b1 w
  have hi := fun w => iVecCmp_any op a0 a1 b0 b1 w
  generalize cmpR op a0 a1 b0 b1 = r at hs hi
  generalize cmpT op a0 a1 b0 b1 = t at hs hi
  have HS := hide hs
  have HI := hide hi
  clear hs hi
  have hr : (r != r) = false := by simp
  have ht : (t != t) = false := by simp
  go_enter Try.func6, Try.ntmps6
  go_wp2
  go_region_held3 (fun w' => w'.cell? ⟨w.heap.size, 0, none⟩ = some (.int .i64 a0) ∧ w'.cell? ⟨w.heap.size, 1, none⟩ = some (.int .i64 a1) ∧ w'.cell? ⟨w.heap.size + 1, 0, none⟩ = some (.int .i64 b0) ∧ w'.cell? ⟨w.heap.size + 1, 1, none⟩ = some (.int .i64 b1)) (first | go_keep | exact ⟨p00, p01, p10, p11⟩)
    (first | (go_at_call_of 10 (Value.agg #[.int .i64 a0, .int .i64 a1]); refine (toVec_any a0 a1 _).mono ?_; rintro e wa ⟨rfl, ba⟩; have za := ba.size; have p00 := cell_later ba (a := ⟨w.heap.size, 0, none⟩) (v := .int .i64 a0) (by simp [go_sem]); have p01 := cell_later ba (a := ⟨w.heap.size, 1, none⟩) (v := .int .i64 a1) (by simp [go_sem]); have p10 := cell_later ba (a := ⟨w.heap.size + 1, 0, none⟩) (v := .int .i64 b0) (by simp [go_sem]); have p11 := cell_later ba (a := ⟨w.heap.size + 1, 1, none⟩) (v := .int .i64 b1) (by simp [go_sem])) | (go_at_call_of 10 (Value.agg #[.int .i64 b0, .int .i64 b1]); refine (toVec_any b0 b1 _).mono ?_; rintro e wb ⟨rfl, bb⟩; have zb := bb.size; have p00 := cell_later bb (a := ⟨w.heap.size, 0, none⟩) (v := .int .i64 a0) p00; have p01 := cell_later bb (a := ⟨w.heap.size, 1, none⟩) (v := .int .i64 a1) p01; have p10 := cell_later bb (a := ⟨w.heap.size + 1, 0, none⟩) (v := .int .i64 b0) p10; have p11 := cell_later bb (a := ⟨w.heap.size + 1, 1, none⟩) (v := .int .i64 b1) p11) | (go_at_call 17; refine (unhide HS _).mono ?_; rintro e wc ⟨rfl, bc⟩; have zc := bc.size; have p00 := cell_later bc (a := ⟨w.heap.size, 0, none⟩) (v := .int .i64 a0) p00; have p01 := cell_later bc (a := ⟨w.heap.size, 1, none⟩) (v := .int .i64 a1) p01; have p10 := cell_later bc (a := ⟨w.heap.size + 1, 0, none⟩) (v := .int .i64 b0) p10; have p11 := cell_later bc (a := ⟨w.heap.size + 1, 1, none⟩) (v := .int .i64 b1) p11))
  all_goals go_wp2
  go_region_held3 (fun w' => w'.cell? ⟨w.heap.size, 0, none⟩ = some (.int .i64 a0) ∧ w'.cell? ⟨w.heap.size, 1, none⟩ = some (.int .i64 a1) ∧ w'.cell? ⟨w.heap.size + 1, 0, none⟩ = some (.int .i64 b0) ∧ w'.cell? ⟨w.heap.size + 1, 1, none⟩ = some (.int .i64 b1)) (first | go_keep | exact ⟨p00, p01, p10, p11⟩)
    (first | (go_at_call_of 10 (Value.agg #[.int .i64 a0, .int .i64 a1]); refine (toVec_any a0 a1 _).mono ?_; rintro e wd ⟨rfl, bd⟩; have zd := bd.size; have p00 := cell_later bd (a := ⟨w.heap.size, 0, none⟩) (v := .int .i64 a0) p00; have p01 := cell_later bd (a := ⟨w.heap.size, 1, none⟩) (v := .int .i64 a1) p01; have p10 := cell_later bd (a := ⟨w.heap.size + 1, 0, none⟩) (v := .int .i64 b0) p10; have p11 := cell_later bd (a := ⟨w.heap.size + 1, 1, none⟩) (v := .int .i64 b1) p11) | (go_at_call_of 10 (Value.agg #[.int .i64 b0, .int .i64 b1]); refine (toVec_any b0 b1 _).mono ?_; rintro e we ⟨rfl, be⟩; have ze := be.size; have p00 := cell_later be (a := ⟨w.heap.size, 0, none⟩) (v := .int .i64 a0) p00; have p01 := cell_later be (a := ⟨w.heap.size, 1, none⟩) (v := .int .i64 a1) p01; have p10 := cell_later be (a := ⟨w.heap.size + 1, 0, none⟩) (v := .int .i64 b0) p10; have p11 := cell_later be (a := ⟨w.heap.size + 1, 1, none⟩) (v := .int .i64 b1) p11) | (go_at_call 18; refine (unhide HI _).mono ?_; rintro e wf ⟨rfl, bf⟩; have p00 := cell_later bf (a := ⟨w.heap.size, 0, none⟩) (v := .int .i64 a0) p00; have p01 := cell_later bf (a := ⟨w.heap.size, 1, none⟩) (v := .int .i64 a1) p01; have p10 := cell_later bf (a := ⟨w.heap.size + 1, 0, none⟩) (v := .int .i64 b0) p10; have p11 := cell_later bf (a := ⟨w.heap.size + 1, 1, none⟩) (v := .int .i64 b1) p11))
  all_goals go_wp2
  go_ret
  simp at za zd
  have e1 := (((Below.refl w.heap.size w).alloc (by simp <;> omega) (.cells #[.int .i64 a0, .int .i64 a1] 23)).alloc (by simp <;> omega) (.cells #[.int .i64 b0, .int .i64 b1] 23)).drew
  have e2 := ((e1.trans (ba.mono (by simp <;> omega))).trans (bb.mono (by omega))).trans (bc.mono (by omega))
  exact ⟨rfl, ((e2.drew.trans (bd.mono (by simp <;> omega))).trans (be.mono (by omega))).trans (bf.mono (by omega))⟩

set_option maxRecDepth 100000 in
theorem lifted (os : Os) (started : os.Started) (H : Type) (enc : TypeId × Value → H) :
    ReturnsInHanded {} Try.checked os 6 .any (Rows.fnExactVecCmpSpec.pre6 enc Try.prog Try.f6 Rows.fnExactVecCmpRow.domain false) (Rows.fnExactVecCmpSpec.post enc Try.prog Try.f6 false true false false) := by
  refine returnsInHanded_of_change (C := Try.checked) own started (by kernel_rfl) Try.func6
    (ChangeSpec.witness6 (enc := enc) (C := Try.checked) false ⟨#[], #[.int .i64 0, .agg #[.int .i64 0, .int .i64 0], .agg #[.int .i64 0, .int .i64 0]], []⟩ 8 (by kernel_rfl) (by kernel_rfl) (by kernel_rfl) (by kernel_rfl)) ?_
  intro W base args ds gs before hval0 hW hcnd _
  have hval : ∀ (j : Nat) t v, Try.f6.params[j]? = some t → args[j]? = some v → Value.okWide Try.prog W .any base t v := hval0
  have hW' := hW
  obtain ⟨p, q, hA0, hV, rfl, hfz, hnd⟩ := hW
  have hA : DataW.TrodAll enc Try.prog W 0 (fun _ => true) true Try.f6.params.toList args.toList ds p := hA0
  rw [Try.params6] at hA hval
  obtain ⟨v0, vs0, d0, ds0, p0, q0, hargs, rfl, rfl, h0, r0⟩ := trodAll_cons hA
  obtain ⟨v1, vs1, d1, ds1, p1, q1, rfl, rfl, rfl, h1, r1⟩ := trodAll_cons r0
  obtain ⟨v2, vs2, d2, ds2, p2, q2, rfl, rfl, rfl, h2, r2⟩ := trodAll_cons r1
  obtain ⟨rfl, rfl, rfl⟩ := trodAll_nil r2
  obtain rfl : args = #[v0, v1, v2] := by cases args; simp_all
  obtain ⟨rfl, rfl⟩ := trodVars_none hV
  obtain ⟨op, rfl, rfl, rfl, wop⟩ := open_int Try.underlying3 (hval 0 3 v0 rfl rfl) h0
  obtain ⟨c0_1, c1_1, y0_1, y1_1, m1, rfl, rfl, rfl, hy0_1, hy1_1⟩ := open_agg2 Try.underlying23 (by kernel_rfl) cellsV (hval 1 23 v1 rfl rfl) h1
  obtain ⟨a0, e0_1, rfl, wa0⟩ := DataW.trod_int Try.underlying3 hy0_1
  obtain ⟨a1, e1_1, rfl, wa1⟩ := DataW.trod_int Try.underlying3 hy1_1
  simp at e0_1 e1_1
  subst e0_1 e1_1
  obtain ⟨c0_2, c1_2, y0_2, y1_2, m2, rfl, rfl, rfl, hy0_2, hy1_2⟩ := open_agg2 Try.underlying23 (by kernel_rfl) cellsV (hval 2 23 v2 rfl rfl) h2
  obtain ⟨b0, e0_2, rfl, wb0⟩ := DataW.trod_int Try.underlying3 hy0_2
  obtain ⟨b1, e1_2, rfl, wb1⟩ := DataW.trod_int Try.underlying3 hy1_2
  simp at e0_2 e1_2
  subst e0_2 e1_2
  clear hA0 hval0
  refine (walk op a0 a1 b0 b1 W wop wa0 wa1 wb0 wb1).mono fun e W' ⟨he, bel⟩ => ?_
  subst he
  exact ⟨_, rfl, _, _, _, [], _, [], hW', trodAll_mk1 (shut_bool Try.underlying4 _), (trodAll_cons_mk (shut_int Try.underlying3 wop) (trodAll_cons_mk (vecReads enc a0 a1 wa0 wa1 _ _) (trodAll_cons_mk (vecReads enc b0 b1 wb0 wb1 _ _) trodAll_mk0))), rfl, bel.frame _, fun h => by cases h⟩

theorem over : Rows.fnExactVecCmpRow.holds Try.pinned (OpenSpec.ofChange Rows.fnExactVecCmpSpec) :=
  OpenClaim.holds_of_wide 6 Try.f6 rfl rfl rfl rfl rfl rfl rfl ⟨rfl, rfl, rfl, rfl, rfl⟩ rfl rfl rfl rfl rfl (by kernel_rfl) Try.func6 (by kernel_rfl)
    (of_decide_eq_true (by kernel_rfl)) (by unfold Func.isWrapper; first | (rw [if_pos (by decide +kernel)]; kernel_rfl) | (rw [if_neg (by decide +kernel)]; exact ⟨rfl, rfl⟩))
    (fun os started H enc _ => lifted os started H enc)
end exCmp

theorem exCmp_holds : Rows.FnExactVecCmpSaid := exCmp.over
#print axioms exCmp_holds
end Go.Proofs.Ytbfechcncgoopar
