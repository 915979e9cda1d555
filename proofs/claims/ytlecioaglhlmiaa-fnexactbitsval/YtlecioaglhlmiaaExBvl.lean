/- At every argument the program's BitsVal answers as the model's: the law FnExactBitsVal returns true for every list of what is so and every list of numbers, right or not, and leaves them as they were. No condition (the law itself answers true where one of them has more than 1048576 entries). -/
import Derived.Test.YtlecioaglhlmiaaBvA
namespace Go.Proofs.Ytlecioaglhlmiaa
open Go.ChangeShapes Go.WideShapes Go.ChangeAt Go.RowKit Go.Joins
open Go.ChangeMaps (open_string shut_string)
set_option linter.unusedVariables false
theorem laidOut : laidOutB Try.prog = true := by kernel_rfl

namespace exBvl
set_option maxHeartbeats 2000000 in
theorem walk (v : Option Addr) (lenv capv : Nat) (Vv : Nat → Bool) (c : Option Addr) (lenc capc : Nat) (Vc : Nat → Int) (w : World) (hdv : BlsAt w v lenv Vv) (lcv : lenv ≤ capv) (lnv : lenv ≤ maxLen) (hdc : IntsAt w c lenc Vc) (lcc : lenc ≤ capc) (lnc : lenc ≤ maxLen) (hwc : ∀ i, i < lenc → W64 (Vc i)) :
    Calls Try.prog 3 #[.slice v lenv capv, .slice c lenc capc] w fun e w' => e = .returned (.bool true) ∧ Below w.heap.size w w' := by
  by_cases hv : lenv ≤ 1048576
  · by_cases hc : lenc ≤ 1048576
    · have D := hdc
      have I := hdv
      have BL : Below w.heap.size w w := Below.refl _ _
      have HW := hide hwc
      clear hdc hdv hwc
      go_enter Try.func3, Try.ntmps3
      go_wp2_with fail
      refine (toBoolS_any _ _ _ _ _ I hv).mono ?_
      rintro e w3 ⟨rfl, Y, ly, b3⟩
      replace D := D.later b3
      replace I := I.later b3
      replace BL := BL.trans (b3.mono BL.size)
      go_wp2_with fail
      refine (toIntS_any _ _ _ _ _ D hc).mono ?_
      rintro e w2 ⟨rfl, X, lx, b2⟩
      replace D := D.later b2
      replace I := I.later b2
      replace Y := Y.later b2
      replace ly := Nat.lt_of_lt_of_le ly b2.size
      replace BL := BL.trans (b2.mono BL.size)
      go_wp2_with fail
      refine (sBitsVal_any _ _ _ _ _ _ _ _ _ (X.at lx) hc (unhide HW) (Y.at ly) hv).mono ?_
      rintro e w4 ⟨rfl, rfl⟩
      clear X Y lx ly b2 b3
      go_wp2_with fail
      refine (toBoolS_any _ _ _ _ _ I hv).mono ?_
      rintro e w6 ⟨rfl, Y, ly, b6⟩
      replace D := D.later b6
      replace I := I.later b6
      replace BL := BL.trans (b6.mono BL.size)
      go_wp2_with fail
      refine (toIntS_any _ _ _ _ _ D hc).mono ?_
      rintro e w5 ⟨rfl, X, lx, b5⟩
      replace D := D.later b5
      replace I := I.later b5
      replace Y := Y.later b5
      replace ly := Nat.lt_of_lt_of_le ly b5.size
      replace BL := BL.trans (b5.mono BL.size)
      go_wp2_with fail
      refine (iBitsVal_any _ _ _ _ _ _ _ _ _ (X.at lx) hc (unhide HW) (Y.at ly) hv).mono ?_
      rintro e w7 ⟨rfl, rfl⟩
      clear b5 b6
      go_wp2_with fail
      refine (toBoolS_any _ _ _ _ _ I hv).mono ?_
      rintro e w10 ⟨rfl, Z, lz, b10⟩
      replace D := D.later b10
      replace I := I.later b10
      replace X := X.later b10
      replace Y := Y.later b10
      replace lx := Nat.lt_of_lt_of_le lx b10.size
      replace ly := Nat.lt_of_lt_of_le ly b10.size
      replace BL := BL.trans (b10.mono BL.size)
      go_wp2_with fail
      refine (eqBoolS_same _ _ _ _ _ _ _ (Y.at ly) (Z.at lz) hv).mono ?_
      rintro e w11 ⟨rfl, b11⟩
      replace D := D.later b11
      replace X := X.later b11
      replace lx := Nat.lt_of_lt_of_le lx b11.size
      replace BL := BL.trans (b11.mono BL.size)
      clear b10 b11 Y Z ly lz
      go_wp2_with fail
      refine (toIntS_any _ _ _ _ _ D hc).mono ?_
      rintro e w8 ⟨rfl, Z, lz, b8⟩
      replace X := X.later b8
      replace lx := Nat.lt_of_lt_of_le lx b8.size
      replace BL := BL.trans (b8.mono BL.size)
      go_wp2_with fail
      refine (eqIntS_same _ _ _ _ _ _ _ _ _ lx lz X Z hc).mono ?_
      rintro e w9 ⟨rfl, b9⟩
      replace BL := BL.trans (b9.mono BL.size)
      go_wp2
      go_ret
      exact ⟨rfl, BL⟩
    · go_enter Try.func3, Try.ntmps3
      go_wp2
      go_ret
      exact ⟨rfl, Below.refl _ _⟩
  · go_enter Try.func3, Try.ntmps3
    go_wp2
    go_ret
    exact ⟨rfl, Below.refl _ _⟩

set_option maxRecDepth 100000 in
theorem lifted (os : Os) (started : os.Started) (H : Type) (enc : TypeId × Value → H) :
    ReturnsInHanded {} Try.checked os 3 .any (Rows.fnExactBitsValSpec.pre6 enc Try.prog Try.f3 Rows.fnExactBitsValRow.domain false) (Rows.fnExactBitsValSpec.post enc Try.prog Try.f3 false true false false) := by
  refine returnsInHanded_of_change (C := Try.checked) own started (by kernel_rfl) Try.func3
    (ChangeSpec.witness6 (enc := enc) (C := Try.checked) false ⟨#[], #[.slice none 0 0, .slice none 0 0], []⟩ 8 (by kernel_rfl) (by kernel_rfl) (by kernel_rfl) (by kernel_rfl)) ?_
  intro W base args ds gs before hval0 hW hcnd _
  have hval : ∀ (j : Nat) t v, Try.f3.params[j]? = some t → args[j]? = some v → Value.okWide Try.prog W .any base t v := hval0
  have hW' := hW
  obtain ⟨p, q, hA0, hV, rfl, hfz, hnd⟩ := hW
  have hA : DataW.TrodAll enc Try.prog W 0 (fun _ => true) true Try.f3.params.toList args.toList ds p := hA0
  rw [Try.params3] at hA hval
  obtain ⟨v0, vs0, d0, ds0, p0, q0, hargs, rfl, rfl, h0, r0⟩ := trodAll_cons hA
  obtain ⟨v1, vs1, d1, ds1, p1, q1, rfl, rfl, rfl, h1, r1⟩ := trodAll_cons r0
  obtain ⟨rfl, rfl, rfl⟩ := trodAll_nil r1
  obtain rfl : args = #[v0, v1] := by cases args; simp_all
  obtain ⟨rfl, rfl⟩ := trodVars_none hV
  obtain ⟨v, lenv, capv, rfl⟩ := okWide_slice Try.underlying22 (hval 0 22 v0 rfl rfl)
  have k0 := h0
  have lt0 : ∀ x ∈ p0, x.block < W.heap.size := by obtain ⟨m, hm⟩ := k0; exact DataW.trod_lt m _ _ _ hm
  obtain ⟨lcv, lnv, Vv, hdv⟩ := bools_in h0
  obtain ⟨c, lenc, capc, rfl⟩ := okWide_slice Try.underlying23 (hval 1 23 v1 rfl rfl)
  have k1 := h1
  have lt1 : ∀ x ∈ p1, x.block < W.heap.size := by obtain ⟨m, hm⟩ := k1; exact DataW.trod_lt m _ _ _ hm
  obtain ⟨lcc, lnc, Vc, hdc, hwc⟩ := ints_in64 h1
  clear hA0 hval0
  refine (walk v lenv capv Vv c lenc capc Vc W hdv lcv lnv hdc lcc lnc hwc).mono fun e W' ⟨he, bel⟩ => ?_
  subst he
  exact ⟨_, rfl, _, _, _, [], _, [], hW', trodAll_mk1 (shut_bool Try.underlying4 _), (trodAll_cons_mk (Below.trod laidOut (by kernel_rfl) (of_decide_eq_true (by kernel_rfl)) k0 bel lt0) (trodAll_cons_mk (Below.trod laidOut (by kernel_rfl) (of_decide_eq_true (by kernel_rfl)) k1 bel lt1) trodAll_mk0)), rfl, bel.frame _, fun h => by cases h⟩

theorem over : Rows.fnExactBitsValRow.holds Try.pinned (OpenSpec.ofChange Rows.fnExactBitsValSpec) :=
  OpenClaim.holds_of_wide 3 Try.f3 rfl rfl rfl rfl rfl rfl rfl ⟨rfl, rfl, rfl, rfl, rfl⟩ rfl rfl rfl rfl rfl (by kernel_rfl) Try.func3 (by kernel_rfl)
    (of_decide_eq_true (by kernel_rfl)) (by unfold Func.isWrapper; first | (rw [if_pos (by decide +kernel)]; kernel_rfl) | (rw [if_neg (by decide +kernel)]; exact ⟨rfl, rfl⟩))
    (fun os started H enc _ => lifted os started H enc)
end exBvl

theorem exBvl_holds : Rows.FnExactBitsValSaid := exBvl.over
#print axioms exBvl_holds
end Go.Proofs.Ytlecioaglhlmiaa
