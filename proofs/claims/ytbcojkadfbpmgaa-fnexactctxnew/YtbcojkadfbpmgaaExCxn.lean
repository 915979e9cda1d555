/- The program's CtxNew answers as the model's: the law FnExactCtxNew returns true. No condition. -/
import Derived.Test.YtbcojkadfbpmgaaCxN
namespace Go.Proofs.Ytbcojkadfbpmgaa
open Go.ChangeShapes Go.WideShapes Go.ChangeAt Go.RowKit Go.Joins
open Go.ChangeMaps (open_string shut_string)
set_option linter.unusedVariables false

namespace exCxn
set_option maxHeartbeats 2000000 in
theorem walk (w : World) :
    Calls Try.prog 3 #[] w fun e w' => e = .returned (.bool true) ∧ Below w.heap.size w w' := by
  go_enter Try.func3, Try.ntmps3
  go_wp2_with fail
  refine (sCtxNew_any _).mono ?_
  rintro e w1 ⟨rfl, W, BL⟩
  go_wp2_with fail
  refine (iCtxNew_any _).mono ?_
  rintro e w2 ⟨rfl, G, b2⟩
  replace W := W.later b2; replace BL := BL.trans (b2.mono BL.size); clear b2
  go_wp2_with fail
  refine (eqLayerS_one _ _ _ G W).mono ?_
  rintro e w3 ⟨rfl, b3⟩
  replace W := W.later b3; replace G := G.later b3; replace BL := BL.trans (b3.mono BL.size); clear b3
  go_wp2_with fail
  refine (markLayerS_one _ _ G).mono ?_
  rintro e w4 ⟨rfl, b4⟩
  replace W := W.later b4; replace G := G.later b4; replace BL := BL.trans (b4.mono BL.size); clear b4
  go_wp2_with fail
  refine (heldLayerS_one _ _ G).mono ?_
  rintro e w5 ⟨rfl, b5⟩
  replace W := W.later b5; replace G := G.later b5; replace BL := BL.trans (b5.mono BL.size); clear b5
  go_wp2_with fail
  refine (iCtxNew_any _).mono ?_
  rintro e w6 ⟨rfl, H, b6⟩
  replace W := W.later b6; replace G := G.later b6; replace BL := BL.trans (b6.mono BL.size); clear b6
  go_wp2_with fail
  refine (eqLayerS_one _ _ _ H W).mono ?_
  rintro e w7 ⟨rfl, b7⟩
  replace G := G.later b7; replace BL := BL.trans (b7.mono BL.size); clear b7 H W
  go_wp2_with fail
  refine (heldLayerS_one _ _ G).mono ?_
  rintro e w8 ⟨rfl, b8⟩
  replace BL := BL.trans (b8.mono BL.size); clear b8 G
  go_wp2
  go_ret
  exact ⟨rfl, BL⟩

set_option maxRecDepth 100000 in
theorem lifted (os : Os) (started : os.Started) (H : Type) (enc : TypeId × Value → H) :
    ReturnsInHanded {} Try.checked os 3 .any (Rows.fnExactCtxNewSpec.pre6 enc Try.prog Try.f3 Rows.fnExactCtxNewRow.domain false) (Rows.fnExactCtxNewSpec.post enc Try.prog Try.f3 false true false false) := by
  refine returnsInHanded_of_change (C := Try.checked) own started (by kernel_rfl) Try.func3
    (ChangeSpec.witness6 (enc := enc) (C := Try.checked) false ⟨#[], #[], []⟩ 8 (by kernel_rfl) (by kernel_rfl) (by kernel_rfl) (by kernel_rfl)) ?_
  intro W base args ds gs before hval0 hW hcnd _
  have hval : ∀ (j : Nat) t v, Try.f3.params[j]? = some t → args[j]? = some v → Value.okWide Try.prog W .any base t v := hval0
  have hW' := hW
  obtain ⟨p, q, hA0, hV, rfl, hfz, hnd⟩ := hW
  have hA : DataW.TrodAll enc Try.prog W 0 (fun _ => true) true Try.f3.params.toList args.toList ds p := hA0
  rw [Try.params3] at hA hval
  obtain ⟨hargs, rfl, rfl⟩ := trodAll_nil hA
  obtain rfl : args = #[] := by cases args; simp_all
  obtain ⟨rfl, rfl⟩ := trodVars_none hV
  clear hA0 hval0
  refine (walk W).mono fun e W' ⟨he, bel⟩ => ?_
  subst he
  exact ⟨_, rfl, _, _, _, [], _, [], hW', trodAll_mk1 (shut_bool Try.underlying4 _), trodAll_mk0, rfl, bel.frame _, fun h => by cases h⟩

theorem over : Rows.fnExactCtxNewRow.holds Try.pinned (OpenSpec.ofChange Rows.fnExactCtxNewSpec) :=
  OpenClaim.holds_of_wide 3 Try.f3 rfl rfl rfl rfl rfl rfl rfl ⟨rfl, rfl, rfl, rfl, rfl⟩ rfl rfl rfl rfl rfl (by kernel_rfl) Try.func3 (by kernel_rfl)
    (of_decide_eq_true (by kernel_rfl)) (by unfold Func.isWrapper; first | (rw [if_pos (by decide +kernel)]; kernel_rfl) | (rw [if_neg (by decide +kernel)]; exact ⟨rfl, rfl⟩))
    (fun os started H enc _ => lifted os started H enc)
end exCxn

theorem exCxn_holds : Rows.FnExactCtxNewSaid := exCxn.over
#print axioms exCxn_holds
end Go.Proofs.Ytbcojkadfbpmgaa
