/- At every argument the program's EnvMany answers as the model's: the law FnExactEnvMany returns true for every list of names, right or not, and leaves it as it was. No condition (the law itself answers true where the names take more than 1048576 signs). -/
import Derived.Test.YtfgjeokhcbgahaaEnM
namespace Go.Proofs.Ytfgjeokhcbgahaa
open Go.ChangeShapes Go.WideShapes Go.ChangeAt Go.RowKit Go.Joins
open Go.ChangeMaps (open_string shut_string)
set_option linter.unusedVariables false

namespace exMny
set_option maxHeartbeats 2000000 in
theorem walk (d : Option Addr) (lend capd : Nat) (Sd : Nat → ByteArray) (Vd : Nat → Int) (w : World) (hdd : DecsAt w d lend Sd Vd) (lcd : lend ≤ capd) (lnd : lend ≤ maxLen) (hzd : ∀ i, i < lend → (Sd i).size ≤ maxLen ∧ (Lit.int .i64 (Vd i)).wf = true) :
    Calls Try.prog 5 #[.slice d lend capd] w fun e w' => e = .returned (.bool true) ∧ Below w.heap.size w w' := by
  go_enter Try.func5, Try.ntmps5
  go_wp2_with fail
  refine (szDeclS_any _ _ _ _ _ _ _ hdd (by omega) (by omega) lnd (fun i hi => (hzd i hi).1)).mono ?_
  rintro e w1 ⟨⟨z, rfl, hzz⟩, b1⟩
  by_cases h0 : 0 ≤ z
  · obtain ⟨_, hz1, hn, hs⟩ := hzz.resolve_left (by omega)
    have hn' : lend ≤ 1048576 := by omega
    have HS : Hid (∀ i, i < lend → (Sd i).size ≤ 1048576) := fun i hi => by have := hs i hi; omega
    clear hzz hs hzd
    have D1 := hdd.later b1
    have BL := b1
    clear b1 hdd
    go_wp2_with fail
    refine (toDeclS_any _ _ _ _ _ _ D1 hn').mono ?_
    rintro e w2 ⟨rfl, X2, l2, b2⟩
    go_wp2_with fail
    refine (sEnvMany_any _ _ _ _ _ _ _ l2 X2 (Nat.le_refl _) hn' (unhide HS)).mono ?_
    rintro e w3 ⟨rfl, b3⟩
    have D3 := (D1.later b2).later b3
    replace BL := (BL.trans (b2.mono BL.size)).trans (b3.mono (Nat.le_trans BL.size b2.size))
    clear b2 b3 D1 X2
    go_wp2_with fail
    refine (toDeclS_any _ _ _ _ _ _ D3 hn').mono ?_
    rintro e w4 ⟨rfl, X4, l4, b4⟩
    go_wp2_with fail
    refine (iEnvMany_any _ _ _ _ _ _ _ l4 X4 (Nat.le_refl _) hn' (unhide HS)).mono ?_
    rintro e w5 ⟨rfl, b5⟩
    have D5 := (D3.later b4).later b5
    have X5 := X4.later b5
    have l5 := Nat.lt_of_lt_of_le l4 b5.size
    replace BL := (BL.trans (b4.mono BL.size)).trans (b5.mono (Nat.le_trans BL.size b4.size))
    clear b4 b5 D3 X4
    have kb : (waysV lend Sd Vd != waysV lend Sd Vd) = false := by simp
    go_wp2_with fail
    refine (toDeclS_any _ _ _ _ _ _ D5 hn').mono ?_
    rintro e w6 ⟨rfl, X6, l6, b6⟩
    go_wp2_with fail
    refine (eqDeclS_same _ _ _ _ _ _ _ _ _ _ (Nat.lt_of_lt_of_le l5 b6.size) l6 (X5.later b6) X6 hn').mono ?_
    rintro e w7 ⟨rfl, b7⟩
    go_wp2
    go_ret
    exact ⟨rfl, (BL.trans (b6.mono BL.size)).trans (b7.mono (Nat.le_trans BL.size b6.size))⟩
  · go_wp2
    go_ret
    exact ⟨rfl, b1⟩

set_option maxRecDepth 100000 in
theorem lifted (os : Os) (started : os.Started) (H : Type) (enc : TypeId × Value → H) :
    ReturnsInHanded {} Try.checked os 5 .any (Rows.fnExactEnvManySpec.pre6 enc Try.prog Try.f5 Rows.fnExactEnvManyRow.domain false) (Rows.fnExactEnvManySpec.post enc Try.prog Try.f5 false true false false) := by
  refine returnsInHanded_of_change (C := Try.checked) own started (by kernel_rfl) Try.func5
    (ChangeSpec.witness6 (enc := enc) (C := Try.checked) false ⟨#[], #[.slice none 0 0], []⟩ 8 (by kernel_rfl) (by kernel_rfl) (by kernel_rfl) (by kernel_rfl)) ?_
  intro W base args ds gs before hval0 hW hcnd _
  have hval : ∀ (j : Nat) t v, Try.f5.params[j]? = some t → args[j]? = some v → Value.okWide Try.prog W .any base t v := hval0
  have hW' := hW
  obtain ⟨p, q, hA0, hV, rfl, hfz, hnd⟩ := hW
  have hA : DataW.TrodAll enc Try.prog W 0 (fun _ => true) true Try.f5.params.toList args.toList ds p := hA0
  rw [Try.params5] at hA hval
  obtain ⟨v0, vs0, d0, ds0, p0, q0, hargs, rfl, rfl, h0, r0⟩ := trodAll_cons hA
  obtain ⟨rfl, rfl, rfl⟩ := trodAll_nil r0
  obtain rfl : args = #[v0] := by cases args; simp_all
  obtain ⟨rfl, rfl⟩ := trodVars_none hV
  obtain ⟨d, lend, capd, rfl⟩ := okWide_slice Try.underlying32 (hval 0 32 v0 rfl rfl)
  have k0 := h0
  have lt0 : ∀ x ∈ p0, x.block < W.heap.size := by obtain ⟨m, hm⟩ := k0; exact DataW.trod_lt m _ _ _ hm
  obtain ⟨lcd, lnd, Sd, Vd, hdd, hzd⟩ := decls_in h0
  clear hA0 hval0
  refine (walk d lend capd Sd Vd W hdd lcd lnd hzd).mono fun e W' ⟨he, bel⟩ => ?_
  subst he
  exact ⟨_, rfl, _, _, _, [], _, [], hW', trodAll_mk1 (shut_bool Try.underlying4 _), (trodAll_cons_mk (Below.trod laidOut (by kernel_rfl) (of_decide_eq_true (by kernel_rfl)) k0 bel lt0) trodAll_mk0), rfl, bel.frame _, fun h => by cases h⟩

theorem over : Rows.fnExactEnvManyRow.holds Try.pinned (OpenSpec.ofChange Rows.fnExactEnvManySpec) :=
  OpenClaim.holds_of_wide 5 Try.f5 rfl rfl rfl rfl rfl rfl rfl ⟨rfl, rfl, rfl, rfl, rfl⟩ rfl rfl rfl rfl rfl (by kernel_rfl) Try.func5 (by kernel_rfl)
    (of_decide_eq_true (by kernel_rfl)) (by unfold Func.isWrapper; first | (rw [if_pos (by decide +kernel)]; kernel_rfl) | (rw [if_neg (by decide +kernel)]; exact ⟨rfl, rfl⟩))
    (fun os started H enc _ => lifted os started H enc)
end exMny

theorem exMny_holds : Rows.FnExactEnvManySaid := exMny.over
#print axioms exMny_holds
end Go.Proofs.Ytfgjeokhcbgahaa
