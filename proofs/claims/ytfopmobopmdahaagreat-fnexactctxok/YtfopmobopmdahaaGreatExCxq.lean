/- At every argument the program's CtxOk answers as the model's: the law FnExactCtxOk returns true for every list of layers, right or not, and leaves them as they were. No condition (the law itself answers true where the layers take more than 1048576 names, signs and parts). -/
import Derived.Test.YtfopmobopmdahaaGreatLyQ
import Derived.Test.YtfopmobopmdahaaGreatSkQ
namespace Go.Proofs.YtfopmobopmdahaaGreat
open Go.ChangeShapes Go.WideShapes Go.ChangeAt Go.RowKit Go.Joins
open Go.ChangeMaps (open_string shut_string)
set_option linter.unusedVariables false
namespace exCxo
set_option maxRecDepth 100000 in
set_option maxHeartbeats 4000000 in
theorem walk (x : Option Addr) (lenx capx : Nat) (Qx : Nat → Lyr) (w : World) (hdx : LaysIn w 0 w.heap.size x lenx Qx) (lcx : lenx ≤ capx) (lnx : lenx ≤ maxLen) (hfx : ∀ i, i < lenx → (Qx i).Fit maxLen) :
    Calls Tryz.prog 3 #[.slice x lenx capx] w fun e w' => e = .returned (.bool true) ∧ Below w.heap.size w w' := by
  have I := hide hdx
  have HFX := hide hfx
  have BL : Below w.heap.size w w := Below.refl _ _
  have kz : w.heap.size ≤ w.heap.size := Nat.le_refl _
  have kn : (ctxB lenx Qx != ctxB lenx Qx) = false := by simp
  clear hdx hfx
  go_enter Tryz.func3, Tryz.ntmps3
  go_wp2_with fail
  refine (szLayerSN_any w.heap.size x lenx capx Qx 1048576 w (unhide I) (unhide HFX) (by omega) (by omega) lnx kz).mono ?_
  rintro e w1 ⟨⟨z1, rfl, hz1⟩, b1⟩
  replace I := hide ((unhide I).later (b1.mono kz))
  replace BL := BL.trans (b1.mono kz); replace kz := BL.size
  clear b1
  by_cases g1 : 0 ≤ z1
  · obtain ⟨_, hz2, hz4⟩ := hz1.resolve_left (by omega)
    have LX := hide hz4
    have FX : Hid (∀ i, i < lenx → (Qx i).Fit 1048576) := fun i hi => (unhide LX i hi).1
    have nx : lenx ≤ 1048576 := by omega
    have sx : sumN (fun i => (Qx i).c) lenx ≤ 1048576 := by omega
    have nm : lenx ≤ maxLen := by unfold maxLen; omega
    clear hz1 hz4 hz2
    go_wp2_with fail
    refine (toLayerS_any w.heap.size x lenx capx Qx w1 (unhide I) (unhide FX) nx kz).mono ?_
    rintro e w2 ⟨rfl, X0, pl2, b2⟩
    replace I := hide ((unhide I).later (b2.mono kz))
    replace BL := BL.trans (b2.mono kz); replace kz := BL.size
    clear b2
    have X := hide X0
    have Xh : w2.heap.size ≤ w2.heap.size := Nat.le_refl _
    clear X0 pl2
    go_wp2_with fail
    refine (sCtxOk_any w2.heap.size _ lenx lenx Qx w2 ((unhide X).wide (Nat.zero_le _) Xh) (unhide LX) sx nx (Nat.le_refl _) nm (Nat.le_refl _)).mono ?_
    rintro e w3 ⟨rfl, b3⟩
    replace I := hide ((unhide I).later (b3.mono kz))
    replace BL := BL.trans (b3.mono kz); replace kz := BL.size
    clear b3
    clear X Xh
    go_wp2_with fail
    refine (toLayerS_any w.heap.size x lenx capx Qx w3 (unhide I) (unhide FX) nx kz).mono ?_
    rintro e w4 ⟨rfl, X0, pl4, b4⟩
    replace I := hide ((unhide I).later (b4.mono kz))
    replace BL := BL.trans (b4.mono kz); replace kz := BL.size
    clear b4
    have X := hide X0
    have Xh : w4.heap.size ≤ w4.heap.size := Nat.le_refl _
    clear X0 pl4
    go_wp2_with fail
    refine (iCtxOk_any w4.heap.size _ lenx lenx Qx w4 ((unhide X).wide (Nat.zero_le _) Xh) (unhide LX) sx nx (Nat.le_refl _)).mono ?_
    rintro e w5 ⟨rfl, b5⟩
    replace I := hide ((unhide I).later (b5.mono kz))
    replace X := hide ((unhide X).later (b5.mono Xh)); replace Xh := Nat.le_trans Xh b5.size
    replace BL := BL.trans (b5.mono kz); replace kz := BL.size
    clear b5
    go_wp2_with fail
    refine (toLayerS_any w.heap.size x lenx capx Qx w5 (unhide I) (unhide FX) nx kz).mono ?_
    rintro e w6 ⟨rfl, Z0, pl6, b6⟩
    replace I := hide ((unhide I).later (b6.mono kz))
    replace X := hide ((unhide X).later (b6.mono Xh)); replace Xh := Nat.le_trans Xh b6.size
    replace BL := BL.trans (b6.mono kz); replace kz := BL.size
    clear b6
    have Z := hide Z0
    have Zh : w6.heap.size ≤ w6.heap.size := Nat.le_refl _
    clear Z0 pl6
    go_wp2_with fail
    refine (eqLayerS_same w6.heap.size _ _ lenx lenx lenx Qx w6 ((unhide X).wide (Nat.zero_le _) Xh) ((unhide Z).wide (Nat.zero_le _) Zh) (unhide FX) nx (Nat.le_refl _)).mono ?_
    rintro e w7 ⟨rfl, b7⟩
    replace I := hide ((unhide I).later (b7.mono kz))
    replace BL := BL.trans (b7.mono kz); replace kz := BL.size
    clear b7
    go_wp2
    go_ret
    exact ⟨rfl, BL⟩
  · go_wp2
    go_ret
    exact ⟨rfl, BL⟩

set_option maxRecDepth 100000 in
theorem lifted (os : Os) (started : os.Started) (H : Type) (enc : TypeId × Value → H) :
    ReturnsInHanded {} Tryz.checked os 3 .any (Rows.fnExactCtxOkSpec.pre6 enc Tryz.prog Tryz.f3 Rows.fnExactCtxOkRow.domain false) (Rows.fnExactCtxOkSpec.post enc Tryz.prog Tryz.f3 false true false false) := by
  refine returnsInHanded_of_change (C := Tryz.checked) own started (by kernel_rfl) Tryz.func3
    (ChangeSpec.witness6 (enc := enc) (C := Tryz.checked) false ⟨#[], #[.slice none 0 0], []⟩ 8 (by kernel_rfl) (by kernel_rfl) (by kernel_rfl) (by kernel_rfl)) ?_
  intro W base args ds gs before hval0 hW hcnd _
  have hval : ∀ (j : Nat) t v, Tryz.f3.params[j]? = some t → args[j]? = some v → Value.okWide Tryz.prog W .any base t v := hval0
  have hW' := hW
  obtain ⟨p, q, hA0, hV, rfl, hfz, hnd⟩ := hW
  have hA : DataW.TrodAll enc Tryz.prog W 0 (fun _ => true) true Tryz.f3.params.toList args.toList ds p := hA0
  rw [Tryz.params3] at hA hval
  obtain ⟨v0, vs0, d0, ds0, p0, q0, hargs, rfl, rfl, h0, r0⟩ := trodAll_cons hA
  obtain ⟨rfl, rfl, rfl⟩ := trodAll_nil r0
  obtain rfl : args = #[v0] := by cases args; simp_all
  obtain ⟨rfl, rfl⟩ := trodVars_none hV
  obtain ⟨x, lenx, capx, rfl⟩ := okWide_slice Tryz.underlying22 (hval 0 22 v0 rfl rfl)
  have k0 := h0
  have lt0 : ∀ x ∈ p0, x.block < W.heap.size := by obtain ⟨m, hm⟩ := k0; exact DataW.trod_lt m _ _ _ hm
  obtain ⟨lcx, lnx, Qx, hdx, hfx⟩ := layers_in h0
  clear hA0 hval0
  refine (walk x lenx capx Qx W hdx lcx lnx hfx).mono fun e W' ⟨he, bel⟩ => ?_
  subst he
  exact ⟨_, rfl, _, _, _, [], _, [], hW', trodAll_mk1 (shut_bool Tryz.underlying4 _), (trodAll_cons_mk (Below.trod laidOut (by kernel_rfl) (of_decide_eq_true (by kernel_rfl)) k0 bel lt0) trodAll_mk0), rfl, bel.frame _, fun h => by cases h⟩

theorem over : Rows.fnExactCtxOkRow.holds Tryz.pinned (OpenSpec.ofChange Rows.fnExactCtxOkSpec) :=
  OpenClaim.holds_of_wide 3 Tryz.f3 rfl rfl rfl rfl rfl rfl rfl ⟨rfl, rfl, rfl, rfl, rfl⟩ rfl rfl rfl rfl rfl (by kernel_rfl) Tryz.func3 (by kernel_rfl)
    (of_decide_eq_true (by kernel_rfl)) (by unfold Func.isWrapper; first | (rw [if_pos (by decide +kernel)]; kernel_rfl) | (rw [if_neg (by decide +kernel)]; exact ⟨rfl, rfl⟩))
    (fun os started H enc _ => lifted os started H enc)
end exCxo

theorem exCxo_holds : Rows.FnExactCtxOkSaid := exCxo.over
#print axioms exCxo_holds
end Go.Proofs.YtfopmobopmdahaaGreat
