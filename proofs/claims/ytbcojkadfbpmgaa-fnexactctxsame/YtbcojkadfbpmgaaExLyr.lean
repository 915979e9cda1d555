/- At every two arguments the program's CtxSame answers as the model's: the law FnExactCtxSame returns true for every two lists of layers, right or not, and leaves them as they were. No condition (the law itself answers true where the layers take more than 1048576 names, signs and parts). -/
import Derived.Test.YtbcojkadfbpmgaaLyrD
import Derived.Test.YtbcojkadfbpmgaaLyrP
namespace Go.Proofs.Ytbcojkadfbpmgaa
open Go.ChangeShapes Go.WideShapes Go.ChangeAt Go.RowKit Go.Joins
open Go.ChangeMaps (open_string shut_string)
set_option linter.unusedVariables false

namespace exLyr
set_option maxHeartbeats 2000000 in
theorem walk (x : Option Addr) (lenx capx : Nat) (Qx : Nat → Lyr) (y : Option Addr) (leny capy : Nat) (Qy : Nat → Lyr) (w : World) (hdx : LaysIn w 0 w.heap.size x lenx Qx) (lcx : lenx ≤ capx) (lnx : lenx ≤ maxLen) (hfx : ∀ i, i < lenx → (Qx i).Fit maxLen) (hdy : LaysIn w 0 w.heap.size y leny Qy) (lcy : leny ≤ capy) (lny : leny ≤ maxLen) (hfy : ∀ i, i < leny → (Qy i).Fit maxLen) :
    Calls Try.prog 4 #[.slice x lenx capx, .slice y leny capy] w fun e w' => e = .returned (.bool true) ∧ Below w.heap.size w w' := by
  have I := hide hdx
  have J := hide hdy
  have HFX := hide hfx
  have HFY := hide hfy
  have BL : Below w.heap.size w w := Below.refl _ _
  have kz : w.heap.size ≤ w.heap.size := Nat.le_refl _
  have kn : (lsB lenx leny Qx Qy != lsB lenx leny Qx Qy) = false := by simp
  clear hdx hdy hfx hfy
  go_enter Try.func4, Try.ntmps4
  go_wp2_with fail
  refine (szLayerS_any w.heap.size x lenx capx Qx 1048576 w (unhide I) (unhide HFX) (by omega) (by omega) lnx kz).mono ?_
  rintro e w1 ⟨⟨z1, rfl, hz1⟩, b1⟩
  replace I := hide ((unhide I).later (b1.mono kz))
  replace J := hide ((unhide J).later (b1.mono kz))
  replace BL := BL.trans (b1.mono kz); replace kz := BL.size
  clear b1
  by_cases g1 : 0 ≤ z1
  · obtain ⟨_, hz2, hz3, hz4⟩ := hz1.resolve_left (by omega)
    have LX := hide hz4
    clear hz1 hz4
    go_wp2_with fail
    refine (szLayerS_any w.heap.size y leny capy Qy z1 w1 (unhide J) (unhide HFY) g1 (by omega) lny kz).mono ?_
    rintro e w2 ⟨⟨z2, rfl, hz5⟩, b2⟩
    replace I := hide ((unhide I).later (b2.mono kz))
    replace J := hide ((unhide J).later (b2.mono kz))
    replace BL := BL.trans (b2.mono kz); replace kz := BL.size
    clear b2
    by_cases g2 : 0 ≤ z2
    · obtain ⟨_, hz6, hz7, hz8⟩ := hz5.resolve_left (by omega)
      have LY := hide hz8
      have FX : Hid (∀ i, i < lenx → (Qx i).Fit 1048576) := fun i hi => (unhide LX i hi).1
      have FY : Hid (∀ i, i < leny → (Qy i).Fit 1048576) := fun i hi => (unhide LY i hi).1
      have nx : lenx ≤ 1048576 := by omega
      have ny : leny ≤ 1048576 := by omega
      clear hz5 hz8
      go_wp2_with fail
      refine (toLayerS_any w.heap.size x lenx capx Qx w2 (unhide I) (unhide FX) nx kz).mono ?_
      rintro e w3 ⟨rfl, X0, pl3, b3⟩
      replace I := hide ((unhide I).later (b3.mono kz))
      replace J := hide ((unhide J).later (b3.mono kz))
      replace BL := BL.trans (b3.mono kz); replace kz := BL.size
      clear b3
      have X := hide X0
      have Xh : w3.heap.size ≤ w3.heap.size := Nat.le_refl _
      clear X0
      clear pl3
      go_wp2_with fail
      refine (toLayerS_any w.heap.size y leny capy Qy w3 (unhide J) (unhide FY) ny kz).mono ?_
      rintro e w4 ⟨rfl, Y0, pl4, b4⟩
      replace I := hide ((unhide I).later (b4.mono kz))
      replace J := hide ((unhide J).later (b4.mono kz))
      replace X := hide ((unhide X).later (b4.mono Xh)); replace Xh := Nat.le_trans Xh b4.size
      replace BL := BL.trans (b4.mono kz); replace kz := BL.size
      clear b4
      have Y := hide Y0
      have Yh : w4.heap.size ≤ w4.heap.size := Nat.le_refl _
      clear Y0
      clear pl4
      go_wp2_with fail
      refine (sCtxSame_any w4.heap.size _ _ lenx leny lenx leny Qx Qy w4 ((unhide X).wide (Nat.zero_le _) Xh) ((unhide Y).wide (Nat.zero_le _) Yh) (unhide LX) (unhide LY) nx ny (Nat.le_refl _)).mono ?_
      rintro e w5 ⟨rfl, b5⟩
      replace I := hide ((unhide I).later (b5.mono kz))
      replace J := hide ((unhide J).later (b5.mono kz))
      replace BL := BL.trans (b5.mono kz); replace kz := BL.size
      clear b5
      clear X Xh Y Yh
      go_wp2_with fail
      refine (toLayerS_any w.heap.size x lenx capx Qx w5 (unhide I) (unhide FX) nx kz).mono ?_
      rintro e w6 ⟨rfl, X0, pl6, b6⟩
      replace I := hide ((unhide I).later (b6.mono kz))
      replace J := hide ((unhide J).later (b6.mono kz))
      replace BL := BL.trans (b6.mono kz); replace kz := BL.size
      have b56 := b6.size
      clear b6
      have X := hide X0
      have Xh : w6.heap.size ≤ w6.heap.size := Nat.le_refl _
      clear X0
      have PX := hide pl6
      clear pl6
      have l56 : w5.heap.size ≤ w6.heap.size := b56
      go_wp2_with fail
      refine (toLayerS_any w.heap.size y leny capy Qy w6 (unhide J) (unhide FY) ny kz).mono ?_
      rintro e w7 ⟨rfl, Y0, pl7, b7⟩
      replace I := hide ((unhide I).later (b7.mono kz))
      replace J := hide ((unhide J).later (b7.mono kz))
      replace X := hide ((unhide X).later (b7.mono Xh)); replace Xh := Nat.le_trans Xh b7.size
      replace BL := BL.trans (b7.mono kz); replace kz := BL.size
      have PL := hide (Pl.join ((unhide PX).later b7) pl7)
      have l67 := b7.size
      clear b7 PX
      have Y := hide Y0
      have Yh : w7.heap.size ≤ w7.heap.size := Nat.le_refl _
      clear Y0
      clear pl7
      have Y5 := hide ((unhide Y).wide l56 (Nat.le_refl _))
      have X5 := hide ((unhide X).wide (Nat.le_refl _) Xh)
      go_wp2_with fail
      refine (iCtxSame_any w5.heap.size w7.heap.size _ _ lenx leny lenx leny Qx Qy w7 (unhide X5) (unhide Y5) (unhide LX) (unhide LY) nx ny (Nat.le_refl _) (unhide PL) (Nat.le_trans l56 l67)).mono ?_
      rintro e w8 ⟨rfl, b8⟩
      replace I := hide ((unhide I).later (b8.mono kz))
      replace J := hide ((unhide J).later (b8.mono kz))
      replace X := hide ((unhide X).later (b8.mono Xh)); replace Xh := Nat.le_trans Xh b8.size
      replace Y := hide ((unhide Y).later (b8.mono Yh)); replace Yh := Nat.le_trans Yh b8.size
      replace BL := BL.trans (b8.mono kz); replace kz := BL.size
      clear b8
      clear X5 Y5 PL
      go_wp2_with fail
      refine (toLayerS_any w.heap.size x lenx capx Qx w8 (unhide I) (unhide FX) nx kz).mono ?_
      rintro e w9 ⟨rfl, Z0, pl9, b9⟩
      replace I := hide ((unhide I).later (b9.mono kz))
      replace J := hide ((unhide J).later (b9.mono kz))
      replace X := hide ((unhide X).later (b9.mono Xh)); replace Xh := Nat.le_trans Xh b9.size
      replace Y := hide ((unhide Y).later (b9.mono Yh)); replace Yh := Nat.le_trans Yh b9.size
      replace BL := BL.trans (b9.mono kz); replace kz := BL.size
      clear b9
      have Z := hide Z0
      have Zh : w9.heap.size ≤ w9.heap.size := Nat.le_refl _
      clear Z0
      clear pl9
      go_wp2_with fail
      refine (eqLayerS_same w9.heap.size _ _ lenx lenx lenx Qx w9 ((unhide X).wide (Nat.zero_le _) Xh) ((unhide Z).wide (Nat.zero_le _) Zh) (unhide FX) nx (Nat.le_refl _)).mono ?_
      rintro e w10 ⟨rfl, b10⟩
      replace I := hide ((unhide I).later (b10.mono kz))
      replace J := hide ((unhide J).later (b10.mono kz))
      replace Y := hide ((unhide Y).later (b10.mono Yh)); replace Yh := Nat.le_trans Yh b10.size
      replace BL := BL.trans (b10.mono kz); replace kz := BL.size
      clear b10
      clear X Xh Z Zh
      go_wp2_with fail
      refine (toLayerS_any w.heap.size y leny capy Qy w10 (unhide J) (unhide FY) ny kz).mono ?_
      rintro e w11 ⟨rfl, Z0, pl11, b11⟩
      replace I := hide ((unhide I).later (b11.mono kz))
      replace J := hide ((unhide J).later (b11.mono kz))
      replace Y := hide ((unhide Y).later (b11.mono Yh)); replace Yh := Nat.le_trans Yh b11.size
      replace BL := BL.trans (b11.mono kz); replace kz := BL.size
      clear b11
      have Z := hide Z0
      have Zh : w11.heap.size ≤ w11.heap.size := Nat.le_refl _
      clear Z0
      clear pl11
      go_wp2_with fail
      refine (eqLayerS_same w11.heap.size _ _ leny leny leny Qy w11 ((unhide Y).wide (Nat.zero_le _) Yh) ((unhide Z).wide (Nat.zero_le _) Zh) (unhide FY) ny (Nat.le_refl _)).mono ?_
      rintro e w12 ⟨rfl, b12⟩
      replace I := hide ((unhide I).later (b12.mono kz))
      replace J := hide ((unhide J).later (b12.mono kz))
      replace BL := BL.trans (b12.mono kz); replace kz := BL.size
      clear b12
      go_wp2
      go_ret
      exact ⟨rfl, BL⟩
    · go_wp2
      go_ret
      exact ⟨rfl, BL⟩
  · go_wp2
    go_ret
    exact ⟨rfl, BL⟩

set_option maxRecDepth 100000 in
theorem lifted (os : Os) (started : os.Started) (H : Type) (enc : TypeId × Value → H) :
    ReturnsInHanded {} Try.checked os 4 .any (Rows.fnExactCtxSameSpec.pre6 enc Try.prog Try.f4 Rows.fnExactCtxSameRow.domain false) (Rows.fnExactCtxSameSpec.post enc Try.prog Try.f4 false true false false) := by
  refine returnsInHanded_of_change (C := Try.checked) own started (by kernel_rfl) Try.func4
    (ChangeSpec.witness6 (enc := enc) (C := Try.checked) false ⟨#[], #[.slice none 0 0, .slice none 0 0], []⟩ 8 (by kernel_rfl) (by kernel_rfl) (by kernel_rfl) (by kernel_rfl)) ?_
  intro W base args ds gs before hval0 hW hcnd _
  have hval : ∀ (j : Nat) t v, Try.f4.params[j]? = some t → args[j]? = some v → Value.okWide Try.prog W .any base t v := hval0
  have hW' := hW
  obtain ⟨p, q, hA0, hV, rfl, hfz, hnd⟩ := hW
  have hA : DataW.TrodAll enc Try.prog W 0 (fun _ => true) true Try.f4.params.toList args.toList ds p := hA0
  rw [Try.params4] at hA hval
  obtain ⟨v0, vs0, d0, ds0, p0, q0, hargs, rfl, rfl, h0, r0⟩ := trodAll_cons hA
  obtain ⟨v1, vs1, d1, ds1, p1, q1, rfl, rfl, rfl, h1, r1⟩ := trodAll_cons r0
  obtain ⟨rfl, rfl, rfl⟩ := trodAll_nil r1
  obtain rfl : args = #[v0, v1] := by cases args; simp_all
  obtain ⟨rfl, rfl⟩ := trodVars_none hV
  obtain ⟨x, lenx, capx, rfl⟩ := okWide_slice Try.underlying27 (hval 0 27 v0 rfl rfl)
  have k0 := h0
  have lt0 : ∀ x ∈ p0, x.block < W.heap.size := by obtain ⟨m, hm⟩ := k0; exact DataW.trod_lt m _ _ _ hm
  obtain ⟨lcx, lnx, Qx, hdx, hfx⟩ := layers_in h0
  obtain ⟨y, leny, capy, rfl⟩ := okWide_slice Try.underlying27 (hval 1 27 v1 rfl rfl)
  have k1 := h1
  have lt1 : ∀ x ∈ p1, x.block < W.heap.size := by obtain ⟨m, hm⟩ := k1; exact DataW.trod_lt m _ _ _ hm
  obtain ⟨lcy, lny, Qy, hdy, hfy⟩ := layers_in h1
  clear hA0 hval0
  refine (walk x lenx capx Qx y leny capy Qy W hdx lcx lnx hfx hdy lcy lny hfy).mono fun e W' ⟨he, bel⟩ => ?_
  subst he
  exact ⟨_, rfl, _, _, _, [], _, [], hW', trodAll_mk1 (shut_bool Try.underlying4 _), (trodAll_cons_mk (Below.trod laidOut (by kernel_rfl) (of_decide_eq_true (by kernel_rfl)) k0 bel lt0) (trodAll_cons_mk (Below.trod laidOut (by kernel_rfl) (of_decide_eq_true (by kernel_rfl)) k1 bel lt1) trodAll_mk0)), rfl, bel.frame _, fun h => by cases h⟩

theorem over : Rows.fnExactCtxSameRow.holds Try.pinned (OpenSpec.ofChange Rows.fnExactCtxSameSpec) :=
  OpenClaim.holds_of_wide 4 Try.f4 rfl rfl rfl rfl rfl rfl rfl ⟨rfl, rfl, rfl, rfl, rfl⟩ rfl rfl rfl rfl rfl (by kernel_rfl) Try.func4 (by kernel_rfl)
    (of_decide_eq_true (by kernel_rfl)) (by unfold Func.isWrapper; first | (rw [if_pos (by decide +kernel)]; kernel_rfl) | (rw [if_neg (by decide +kernel)]; exact ⟨rfl, rfl⟩))
    (fun os started H enc _ => lifted os started H enc)
end exLyr

theorem exLyr_holds : Rows.FnExactCtxSameSaid := exLyr.over
#print axioms exLyr_holds
end Go.Proofs.Ytbcojkadfbpmgaa
