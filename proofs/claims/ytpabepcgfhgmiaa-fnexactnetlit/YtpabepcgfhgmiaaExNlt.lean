/- At every argument the program's NetLit answers as the model's: the law FnExactNetLit returns true for every list of what is so and every number, and leaves the list as it was. No condition (the law itself answers true where the list has more than 1048576 entries). -/
import Derived.Test.YtpabepcgfhgmiaaNltA
namespace Go.Proofs.Ytpabepcgfhgmiaa
open Go.ChangeShapes Go.WideShapes Go.ChangeAt Go.RowKit Go.Joins
open Go.ChangeMaps (open_string shut_string)
set_option linter.unusedVariables false
theorem laidOut : laidOutB Try.prog = true := by kernel_rfl

namespace exNlt
set_option maxHeartbeats 2000000 in
theorem walk (v : Option Addr) (lenv capv : Nat) (Vv : Nat → Bool) (m : Int) (w : World) (hdv : BlsAt w v lenv Vv) (lcv : lenv ≤ capv) (lnv : lenv ≤ maxLen) (wm : (Lit.int .i64 m).wf = true) :
    Calls Try.prog 6 #[.slice v lenv capv, .int .i64 m] w fun e w' => e = .returned (.bool true) ∧ Below w.heap.size w w' := by
  by_cases hv : lenv ≤ 1048576
  · have Dv := hdv
    have hm := W64.of wm
    have BL : Below w.heap.size w w := Below.refl _ _
    clear hdv
    have kb : (metB m lenv Vv != metB m lenv Vv) = false := by simp
    go_enter Try.func6, Try.ntmps6
    go_wp2_with fail
    refine (toBoolS_any _ _ _ _ _ Dv hv).mono ?_
    rintro e w2 ⟨rfl, U, Ult, b2⟩
    replace Dv := Dv.later b2
    replace BL := BL.trans (b2.mono BL.size)
    clear b2
    go_wp2_with fail
    refine (sNetLit_any _ _ _ _ _ _ hm (U.at Ult) hv).mono ?_
    rintro e w3 ⟨rfl, rfl⟩
    clear U Ult
    go_wp2_with fail
    refine (toBoolS_any _ _ _ _ _ Dv hv).mono ?_
    rintro e w4 ⟨rfl, T, Tlt, b4⟩
    replace Dv := Dv.later b4
    replace BL := BL.trans (b4.mono BL.size)
    clear b4
    go_wp2_with fail
    refine (iNetLit_any _ _ _ _ _ _ hm (T.at Tlt) hv).mono ?_
    rintro e w5 ⟨rfl, rfl⟩
    go_wp2_with fail
    refine (toBoolS_any _ _ _ _ _ Dv hv).mono ?_
    rintro e w6 ⟨rfl, Tq, Tqlt, b6⟩
    replace Dv := Dv.later b6
    replace T := T.later b6
    replace Tlt := Nat.lt_of_lt_of_le Tlt b6.size
    replace BL := BL.trans (b6.mono BL.size)
    clear b6
    go_wp2_with fail
    refine (eqBoolS_same _ _ _ _ _ _ _ (T.at Tlt) (Tq.at Tqlt) hv).mono ?_
    rintro e w7 ⟨rfl, b7⟩
    replace Dv := Dv.later b7
    replace T := T.later b7
    replace Tq := Tq.later b7
    replace Tlt := Nat.lt_of_lt_of_le Tlt b7.size
    replace Tqlt := Nat.lt_of_lt_of_le Tqlt b7.size
    replace BL := BL.trans (b7.mono BL.size)
    clear b7
    clear Tq Tqlt
    go_wp2
    go_ret
    exact ⟨rfl, BL⟩
  · go_enter Try.func6, Try.ntmps6
    go_wp2
    go_ret
    exact ⟨rfl, (by repeat (first | exact Below.refl _ _ | assumption | refine below_drewN ?_ _ | refine Below.drew ?_ | refine Below.alloc ?_ (by first | exact Nat.le_refl _ | exact Below.size (by assumption) | (simp; done) | (simp; omega)) _ | refine Below.setCell ?_ (by first | exact Nat.le_refl _ | exact Below.size (by assumption) | (simp; done) | (simp; omega)) _ | refine Below.trans ?_ (by assumption)))⟩

set_option maxRecDepth 100000 in
theorem lifted (os : Os) (started : os.Started) (H : Type) (enc : TypeId × Value → H) :
    ReturnsInHanded {} Try.checked os 6 .any (Rows.fnExactNetLitSpec.pre6 enc Try.prog Try.f6 Rows.fnExactNetLitRow.domain false) (Rows.fnExactNetLitSpec.post enc Try.prog Try.f6 false true false false) := by
  refine returnsInHanded_of_change (C := Try.checked) own started (by kernel_rfl) Try.func6
    (ChangeSpec.witness6 (enc := enc) (C := Try.checked) false ⟨#[], #[.slice none 0 0, .int .i64 0], []⟩ 8 (by kernel_rfl) (by kernel_rfl) (by kernel_rfl) (by kernel_rfl)) ?_
  intro W base args ds gs before hval0 hW hcnd _
  have hval : ∀ (j : Nat) t v, Try.f6.params[j]? = some t → args[j]? = some v → Value.okWide Try.prog W .any base t v := hval0
  have hW' := hW
  obtain ⟨p, q, hA0, hV, rfl, hfz, hnd⟩ := hW
  have hA : DataW.TrodAll enc Try.prog W 0 (fun _ => true) true Try.f6.params.toList args.toList ds p := hA0
  rw [Try.params6] at hA hval
  obtain ⟨v0, vs0, d0, ds0, p0, q0, hargs, rfl, rfl, h0, r0⟩ := trodAll_cons hA
  obtain ⟨v1, vs1, d1, ds1, p1, q1, rfl, rfl, rfl, h1, r1⟩ := trodAll_cons r0
  obtain ⟨rfl, rfl, rfl⟩ := trodAll_nil r1
  obtain rfl : args = #[v0, v1] := by cases args; simp_all
  obtain ⟨rfl, rfl⟩ := trodVars_none hV
  obtain ⟨v, lenv, capv, rfl⟩ := okWide_slice Try.underlying34 (hval 0 34 v0 rfl rfl)
  have k0 := h0
  have lt0 : ∀ x ∈ p0, x.block < W.heap.size := by obtain ⟨m, hm⟩ := k0; exact DataW.trod_lt m _ _ _ hm
  obtain ⟨lcv, lnv, Vv, hdv⟩ := bools_in h0
  obtain ⟨m, rfl, rfl, rfl, wm⟩ := open_int Try.underlying3 (hval 1 3 v1 rfl rfl) h1
  clear hA0 hval0
  refine (walk v lenv capv Vv m W hdv lcv lnv wm).mono fun e W' ⟨he, bel⟩ => ?_
  subst he
  exact ⟨_, rfl, _, _, _, [], _, [], hW', trodAll_mk1 (shut_bool Try.underlying4 _), (trodAll_cons_mk (Below.trod laidOut (by kernel_rfl) (of_decide_eq_true (by kernel_rfl)) k0 bel lt0) (trodAll_cons_mk (shut_int Try.underlying3 wm) trodAll_mk0)), rfl, bel.frame _, fun h => by cases h⟩

theorem over : Rows.fnExactNetLitRow.holds Try.pinned (OpenSpec.ofChange Rows.fnExactNetLitSpec) :=
  OpenClaim.holds_of_wide 6 Try.f6 rfl rfl rfl rfl rfl rfl rfl ⟨rfl, rfl, rfl, rfl, rfl⟩ rfl rfl rfl rfl rfl (by kernel_rfl) Try.func6 (by kernel_rfl)
    (of_decide_eq_true (by kernel_rfl)) (by unfold Func.isWrapper; first | (rw [if_pos (by decide +kernel)]; kernel_rfl) | (rw [if_neg (by decide +kernel)]; exact ⟨rfl, rfl⟩))
    (fun os started H enc _ => lifted os started H enc)
end exNlt

theorem exNlt_holds : Rows.FnExactNetLitSaid := exNlt.over
#print axioms exNlt_holds
end Go.Proofs.Ytpabepcgfhgmiaa
