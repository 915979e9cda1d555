/- At every argument the program's EnvOk answers as the model's: the law FnExactEnvOk returns true for every list of names and every list of numbers, right or not, and leaves them as they were. No condition (the law itself answers true where they take more than 1048576 signs or numbers). -/
import Derived.Test.YthhdgpbnkgcpnaaEnvA
namespace Go.Proofs.Ythhdgpbnkgcpnaa
open Go.ChangeShapes Go.WideShapes Go.ChangeAt Go.RowKit Go.Joins
open Go.ChangeMaps (open_string shut_string)
set_option linter.unusedVariables false

namespace exEnv
set_option maxHeartbeats 2000000 in
theorem walk (d : Option Addr) (lend capd : Nat) (Sd : Nat → ByteArray) (Vd : Nat → Int) (n : Option Addr) (lenn capn : Nat) (Vn : Nat → Int) (w : World) (hdd : DecsAt w d lend Sd Vd) (lcd : lend ≤ capd) (lnd : lend ≤ maxLen) (hzd : ∀ i, i < lend → (Sd i).size ≤ maxLen ∧ (Lit.int .i64 (Vd i)).wf = true) (hdn : IntsAt w n lenn Vn) (lcn : lenn ≤ capn) (lnn : lenn ≤ maxLen) :
    Calls Try.prog 6 #[.slice d lend capd, .slice n lenn capn] w fun e w' => e = .returned (.bool true) ∧ Below w.heap.size w w' := by
  by_cases hen : lenn ≤ 1048576
  · go_enter Try.func6, Try.ntmps6
    go_wp2_with fail
    refine (szDeclS_any _ _ _ _ _ _ _ hdd (by omega) (by omega) lnd (fun i hi => (hzd i hi).1)).mono ?_
    rintro e w1 ⟨⟨z, rfl, hzz⟩, b1⟩
    by_cases h0 : 0 ≤ z
    · obtain ⟨_, hz1, hn, hs⟩ := hzz.resolve_left (by omega)
      have hn' : lend ≤ 1048576 := by omega
      have HS : Hid (∀ i, i < lend → (Sd i).size ≤ 1048576) := fun i hi => by have := hs i hi; omega
      clear hzz hs hzd
      have D := hdd.later b1
      have I := hdn.later b1
      have BL := b1
      clear b1 hdd hdn
      have kb : (envB lend lenn Sd Vd Vn != envB lend lenn Sd Vd Vn) = false := by simp
      go_wp2_with fail
      refine (toDeclS_any _ _ _ _ _ _ D hn').mono ?_
      rintro e w2 ⟨rfl, X, lx, b2⟩
      replace D := D.later b2
      replace I := I.later b2
      replace BL := BL.trans (b2.mono BL.size)
      go_wp2_with fail
      refine (toIntS_any _ _ _ _ _ I hen).mono ?_
      rintro e w3 ⟨rfl, Y, ly, b3⟩
      replace D := D.later b3
      replace I := I.later b3
      replace X := X.later b3
      replace BL := BL.trans (b3.mono BL.size)
      replace lx := Nat.lt_of_lt_of_le lx b3.size
      go_wp2_with fail
      refine (sEnvOk_any _ _ _ _ _ _ _ _ _ _ _ _ lx X (Nat.le_refl _) hn' (unhide HS) ly Y hen).mono ?_
      rintro e w4 ⟨rfl, b4⟩
      replace D := D.later b4
      replace I := I.later b4
      replace BL := BL.trans (b4.mono BL.size)
      clear X Y lx ly b2 b3 b4
      go_wp2_with fail
      refine (toDeclS_any _ _ _ _ _ _ D hn').mono ?_
      rintro e w5 ⟨rfl, X, lx, b5⟩
      replace D := D.later b5
      replace I := I.later b5
      replace BL := BL.trans (b5.mono BL.size)
      go_wp2_with fail
      refine (toIntS_any _ _ _ _ _ I hen).mono ?_
      rintro e w6 ⟨rfl, Y, ly, b6⟩
      replace D := D.later b6
      replace I := I.later b6
      replace X := X.later b6
      replace BL := BL.trans (b6.mono BL.size)
      replace lx := Nat.lt_of_lt_of_le lx b6.size
      go_wp2_with fail
      refine (iEnvOk_any _ _ _ _ _ _ _ _ _ _ _ _ lx X (Nat.le_refl _) hn' (unhide HS) ly Y hen).mono ?_
      rintro e w7 ⟨rfl, b7⟩
      replace D := D.later b7
      replace I := I.later b7
      replace X := X.later b7
      replace Y := Y.later b7
      replace BL := BL.trans (b7.mono BL.size)
      replace lx := Nat.lt_of_lt_of_le lx b7.size
      replace ly := Nat.lt_of_lt_of_le ly b7.size
      clear b5 b6 b7
      go_wp2_with fail
      refine (toDeclS_any _ _ _ _ _ _ D hn').mono ?_
      rintro e w8 ⟨rfl, Z, lz, b8⟩
      replace D := D.later b8
      replace I := I.later b8
      replace X := X.later b8
      replace Y := Y.later b8
      replace BL := BL.trans (b8.mono BL.size)
      replace lx := Nat.lt_of_lt_of_le lx b8.size
      replace ly := Nat.lt_of_lt_of_le ly b8.size
      go_wp2_with fail
      refine (eqDeclS_same _ _ _ _ _ _ _ _ _ _ lx lz X Z hn').mono ?_
      rintro e w9 ⟨rfl, b9⟩
      replace D := D.later b9
      replace I := I.later b9
      replace Y := Y.later b9
      replace BL := BL.trans (b9.mono BL.size)
      replace ly := Nat.lt_of_lt_of_le ly b9.size
      clear b8 b9 X Z lx lz
      go_wp2_with fail
      refine (toIntS_any _ _ _ _ _ I hen).mono ?_
      rintro e w10 ⟨rfl, Z, lz, b10⟩
      replace Y := Y.later b10
      replace BL := BL.trans (b10.mono BL.size)
      replace ly := Nat.lt_of_lt_of_le ly b10.size
      go_wp2_with fail
      refine (eqIntS_same _ _ _ _ _ _ _ _ _ ly lz Y Z hen).mono ?_
      rintro e w11 ⟨rfl, b11⟩
      replace BL := BL.trans (b11.mono BL.size)
      go_wp2
      go_ret
      exact ⟨rfl, BL⟩
    · go_wp2
      go_ret
      exact ⟨rfl, b1⟩
  · go_enter Try.func6, Try.ntmps6
    go_wp2
    go_ret
    exact ⟨rfl, Below.refl _ _⟩

set_option maxRecDepth 100000 in
theorem lifted (os : Os) (started : os.Started) (H : Type) (enc : TypeId × Value → H) :
    ReturnsInHanded {} Try.checked os 6 .any (Rows.fnExactEnvOkSpec.pre6 enc Try.prog Try.f6 Rows.fnExactEnvOkRow.domain false) (Rows.fnExactEnvOkSpec.post enc Try.prog Try.f6 false true false false) := by
  refine returnsInHanded_of_change (C := Try.checked) own started (by kernel_rfl) Try.func6
    (ChangeSpec.witness6 (enc := enc) (C := Try.checked) false ⟨#[], #[.slice none 0 0, .slice none 0 0], []⟩ 8 (by kernel_rfl) (by kernel_rfl) (by kernel_rfl) (by kernel_rfl)) ?_
  intro W base args ds gs before hval0 hW hcnd _
  have hval : ∀ (j : Nat) t v, Try.f6.params[j]? = some t → args[j]? = some v → Value.okWide Try.prog W .any base t v := hval0
  have hW' := hW
  obtain ⟨p, q, hA0, hV, rfl, hfz, hnd⟩ := hW
  have hA : DataW.TrodAll enc Try.prog W 0 (fun _ => true) true Try.f6.params.toList args.toList ds p := hA0
  rw [Try.params6] at hA hval
  obtain ⟨v0, vs0, d0, ds0, p0, q0, hargs, rfl, rfl, h0, r0⟩ := trodAll_cons hA
  obtain ⟨v1, vs1, d1, ds1, p1, q1, rfl, rfl, rfl, h1, r1⟩ := trodAll_cons r0
  obtain ⟨rfl, rfl, rfl⟩ := trodAll_nil r1
  obtain rfl : args = #[v0, v1] := by cases args; simp_all
  obtain ⟨rfl, rfl⟩ := trodVars_none hV
  obtain ⟨d, lend, capd, rfl⟩ := okWide_slice Try.underlying22 (hval 0 22 v0 rfl rfl)
  have k0 := h0
  have lt0 : ∀ x ∈ p0, x.block < W.heap.size := by obtain ⟨m, hm⟩ := k0; exact DataW.trod_lt m _ _ _ hm
  obtain ⟨lcd, lnd, Sd, Vd, hdd, hzd⟩ := decls_in h0
  obtain ⟨n, lenn, capn, rfl⟩ := okWide_slice Try.underlying42 (hval 1 42 v1 rfl rfl)
  have k1 := h1
  have lt1 : ∀ x ∈ p1, x.block < W.heap.size := by obtain ⟨m, hm⟩ := k1; exact DataW.trod_lt m _ _ _ hm
  obtain ⟨lcn, lnn, Vn, hdn⟩ := ints_in h1
  clear hA0 hval0
  refine (walk d lend capd Sd Vd n lenn capn Vn W hdd lcd lnd hzd hdn lcn lnn).mono fun e W' ⟨he, bel⟩ => ?_
  subst he
  exact ⟨_, rfl, _, _, _, [], _, [], hW', trodAll_mk1 (shut_bool Try.underlying4 _), (trodAll_cons_mk (Below.trod laidOut (by kernel_rfl) (of_decide_eq_true (by kernel_rfl)) k0 bel lt0) (trodAll_cons_mk (Below.trod laidOut (by kernel_rfl) (of_decide_eq_true (by kernel_rfl)) k1 bel lt1) trodAll_mk0)), rfl, bel.frame _, fun h => by cases h⟩

theorem over : Rows.fnExactEnvOkRow.holds Try.pinned (OpenSpec.ofChange Rows.fnExactEnvOkSpec) :=
  OpenClaim.holds_of_wide 6 Try.f6 rfl rfl rfl rfl rfl rfl rfl ⟨rfl, rfl, rfl, rfl, rfl⟩ rfl rfl rfl rfl rfl (by kernel_rfl) Try.func6 (by kernel_rfl)
    (of_decide_eq_true (by kernel_rfl)) (by unfold Func.isWrapper; first | (rw [if_pos (by decide +kernel)]; kernel_rfl) | (rw [if_neg (by decide +kernel)]; exact ⟨rfl, rfl⟩))
    (fun os started H enc _ => lifted os started H enc)
end exEnv

theorem exEnv_holds : Rows.FnExactEnvOkSaid := exEnv.over
#print axioms exEnv_holds
end Go.Proofs.Ythhdgpbnkgcpnaa
