/- At every argument the program's BlastEnv answers as the model's: the law FnExactBlastEnv returns true for every list of names and every list of what comes in, right or not, leaves them as they were, and what is handed back is memory of its own. No condition (the law itself answers true where they take more than 1048576 signs or entries). -/
import Derived.Test.YtnojpdfkhhjcfaaEnvP
import Derived.Test.YtnojpdfkhhjcfaaMrkD
import Derived.Test.YtnojpdfkhhjcfaaRngK
namespace Go.Proofs.Ytnojpdfkhhjcfaa
open Go.ChangeShapes Go.WideShapes Go.ChangeAt Go.RowKit Go.Joins
open Go.ChangeMaps (open_string shut_string)
set_option linter.unusedVariables false

namespace exBle
set_option maxRecDepth 100000 in
set_option maxHeartbeats 4000000 in
theorem walk (d : Option Addr) (lend capd : Nat) (Sd : Nat → ByteArray) (Vd : Nat → Int) (e : Option Addr) (lene cape : Nat) (Ve : Nat → Bool) (w : World) (hdd : DecsAt w d lend Sd Vd) (lcd : lend ≤ capd) (lnd : lend ≤ maxLen) (hzd : ∀ i, i < lend → (Sd i).size ≤ maxLen ∧ (Lit.int .i64 (Vd i)).wf = true) (hde : BlsAt w e lene Ve) (lce : lene ≤ cape) (lne : lene ≤ maxLen) :
    Calls Try.prog 4 #[.slice d lend capd, .slice e lene cape] w fun e w' => e = .returned (.bool true) ∧ Below w.heap.size w w' := by
  by_cases hv : lene ≤ 1048576
  · have Dd := hdd
    have De := hde
    have HDd := hide hdd
    have HDe := hide hde
    have BL : Below w.heap.size w w := Below.refl _ _
    clear hdd hde
    obtain ⟨Lo, hLo⟩ : ∃ L, L = bevL lend lene Sd Vd Ve := ⟨_, rfl⟩
    have hl : Lo.length ≤ 1048576 := by rw [hLo]; have := bevL_le (n := lend) (l := lene) (S := Sd) (V := Vd) (I := Ve); omega
    have HLo := hide hLo
    clear hLo
    obtain ⟨ln, hln⟩ : ∃ l, l = Lo.length := ⟨_, rfl⟩
    rw [← hln] at hl
    have HLN := hide hln
    clear hln
    have kq : ((1 + (ln : Int)) != (1 + (ln : Int))) = false := by simp
    go_enter Try.func4, Try.ntmps4
    go_wp2_with fail
    refine (szDeclS_any _ _ _ _ _ _ _ Dd (by omega) (by omega) lnd (fun i hi => (hzd i hi).1)).mono ?_
    rintro e w1 ⟨⟨z, rfl, hzz⟩, b1⟩
    replace Dd := Dd.later b1
    replace De := De.later b1
    replace BL := BL.trans (b1.mono BL.size)
    clear b1
    by_cases h0 : 0 ≤ z
    · obtain ⟨_, hz1, hn0, hs0⟩ := hzz.resolve_left (by omega)
      have nd : lend ≤ 1048576 := by omega
      have HS : Hid (∀ i, i < lend → (Sd i).size ≤ 1048576) := fun i hi => by have := hs0 i hi; omega
      clear hzz hs0 hzd hn0 hz1
      go_wp2_with fail
      refine (toDeclS_any _ _ _ _ _ _ Dd nd).mono ?_
      rintro e w2 ⟨rfl, X, Xlt, b2⟩
      replace Dd := Dd.later b2
      replace De := De.later b2
      replace BL := BL.trans (b2.mono BL.size)
      clear b2
      go_wp2_with fail
      refine (toBoolS_any _ _ _ _ _ De hv).mono ?_
      rintro e w3 ⟨rfl, U, Ult, b3⟩
      replace Dd := Dd.later b3
      replace De := De.later b3
      replace X := X.later b3
      replace Xlt := Nat.lt_of_lt_of_le Xlt b3.size
      replace BL := BL.trans (b3.mono BL.size)
      clear b3
      go_wp2_with fail
      refine (sBlastEnv_any _ _ _ _ Sd Vd _ _ _ _ Ve _ Xlt X (Nat.le_refl _) nd (unhide HS) Ult U hv).mono ?_
      rintro e w4 ⟨⟨aw, cw, rfl, W⟩, b4⟩
      replace Dd := Dd.later b4
      replace De := De.later b4
      replace X := X.later b4
      replace U := U.later b4
      replace Xlt := Nat.lt_of_lt_of_le Xlt b4.size
      replace Ult := Nat.lt_of_lt_of_le Ult b4.size
      replace BL := BL.trans (b4.mono BL.size)
      clear b4
      rw [← unhide HLo, ← unhide HLN] at W
      rw [← unhide HLo, ← unhide HLN]
      clear X Xlt
      clear U Ult
      have WU := W.up
      have wb0 := BL.size
      go_wp2_with fail
      refine (toDeclS_made _ _ _ _ _ _ Dd nd).mono ?_
      rintro e w5 ⟨rfl, Z, Zm, b5⟩
      replace Dd := Dd.later b5
      replace De := De.later b5
      replace W := W.later b5
      replace BL := BL.trans (b5.mono BL.size)
      clear b5
      have Zlt := Zm.1
      have zt : w4.heap.size < w5.heap.size := Zm.1
      go_wp2_with fail
      refine (toBoolS_made _ _ _ _ _ De hv).mono ?_
      rintro e w6 ⟨rfl, T, Tm, b6⟩
      replace Dd := Dd.later b6
      replace De := De.later b6
      replace W := W.later b6
      replace Z := Z.later b6
      replace Zm := Zm.later b6
      replace Zlt := Nat.lt_of_lt_of_le Zlt b6.size
      replace BL := BL.trans (b6.mono BL.size)
      clear b6
      have Tlt := Tm.1
      have tk : w5.heap.size < w6.heap.size := Tm.1
      go_wp2_with fail
      refine (iBlastEnv_any _ _ _ _ Sd Vd _ _ _ _ Ve _ Zlt Z (Nat.le_refl _) nd (unhide HS) Tlt T hv).mono ?_
      rintro e w7 ⟨⟨ag, cg, rfl, K, KO⟩, b7⟩
      replace Dd := Dd.later b7
      replace De := De.later b7
      replace W := W.later b7
      replace Z := Z.later b7
      replace Zm := Zm.later b7
      replace T := T.later b7
      replace Tm := Tm.later b7
      replace Zlt := Nat.lt_of_lt_of_le Zlt b7.size
      replace Tlt := Nat.lt_of_lt_of_le Tlt b7.size
      replace BL := BL.trans (b7.mono BL.size)
      clear b7
      rw [← unhide HLo, ← unhide HLN] at K KO
      rw [← unhide HLo, ← unhide HLN]
      go_wp2_with fail
      refine (eqIntS_two _ _ _ _ _ _ _ K W hl).mono ?_
      rintro e w8 ⟨rfl, b8⟩
      replace Dd := Dd.later b8
      replace De := De.later b8
      replace W := W.later b8
      replace Z := Z.later b8
      replace Zm := Zm.later b8
      replace T := T.later b8
      replace Tm := Tm.later b8
      replace K := K.later b8
      replace KO := KO.later b8
      replace Zlt := Nat.lt_of_lt_of_le Zlt b8.size
      replace Tlt := Nat.lt_of_lt_of_le Tlt b8.size
      replace BL := BL.trans (b8.mono BL.size)
      clear b8
      go_wp2_with fail
      refine (toDeclS_any _ _ _ _ _ _ Dd nd).mono ?_
      rintro e w9 ⟨rfl, Y, Ylt, b9⟩
      replace Dd := Dd.later b9
      replace De := De.later b9
      replace W := W.later b9
      replace Z := Z.later b9
      replace Zm := Zm.later b9
      replace T := T.later b9
      replace Tm := Tm.later b9
      replace K := K.later b9
      replace KO := KO.later b9
      replace Zlt := Nat.lt_of_lt_of_le Zlt b9.size
      replace Tlt := Nat.lt_of_lt_of_le Tlt b9.size
      replace BL := BL.trans (b9.mono BL.size)
      clear b9
      go_wp2_with fail
      refine (eqDeclS_same _ _ _ _ _ _ _ _ _ _ Zlt Ylt Z Y nd).mono ?_
      rintro e w10 ⟨rfl, b10⟩
      replace Dd := Dd.later b10
      replace De := De.later b10
      replace W := W.later b10
      replace Z := Z.later b10
      replace Zm := Zm.later b10
      replace T := T.later b10
      replace Tm := Tm.later b10
      replace K := K.later b10
      replace KO := KO.later b10
      replace Y := Y.later b10
      replace Zlt := Nat.lt_of_lt_of_le Zlt b10.size
      replace Tlt := Nat.lt_of_lt_of_le Tlt b10.size
      replace Ylt := Nat.lt_of_lt_of_le Ylt b10.size
      replace BL := BL.trans (b10.mono BL.size)
      clear b10
      clear Y Ylt
      go_wp2_with fail
      refine (toBoolS_any _ _ _ _ _ De hv).mono ?_
      rintro e w11 ⟨rfl, V, Vlt, b11⟩
      replace Dd := Dd.later b11
      replace De := De.later b11
      replace W := W.later b11
      replace Z := Z.later b11
      replace Zm := Zm.later b11
      replace T := T.later b11
      replace Tm := Tm.later b11
      replace K := K.later b11
      replace KO := KO.later b11
      replace Zlt := Nat.lt_of_lt_of_le Zlt b11.size
      replace Tlt := Nat.lt_of_lt_of_le Tlt b11.size
      replace BL := BL.trans (b11.mono BL.size)
      clear b11
      go_wp2_with fail
      refine (eqBoolS_same _ _ _ _ _ _ _ (T.at Tlt) (V.at Vlt) hv).mono ?_
      rintro e w12 ⟨rfl, b12⟩
      replace Dd := Dd.later b12
      replace De := De.later b12
      replace W := W.later b12
      replace Z := Z.later b12
      replace Zm := Zm.later b12
      replace T := T.later b12
      replace Tm := Tm.later b12
      replace K := K.later b12
      replace KO := KO.later b12
      replace V := V.later b12
      replace Zlt := Nat.lt_of_lt_of_le Zlt b12.size
      replace Tlt := Nat.lt_of_lt_of_le Tlt b12.size
      replace Vlt := Nat.lt_of_lt_of_le Vlt b12.size
      replace BL := BL.trans (b12.mono BL.size)
      clear b12
      clear V Vlt
      have e3 : ((1 + 2 * lend : Nat) : Int) = 1 + 2 * (lend : Int) := by omega
      go_wp2_with fail
      have hmd := markDeclS_from 1 w4.heap.size lend lend _ (by omega) (by omega) Zm nd
      rw [e3, show ((1 : Nat) : Int) = 1 from rfl] at hmd
      refine hmd.mono ?_
      clear hmd
      rintro e wm ⟨rfl, _, vm⟩
      have rm := Rng.mov (lo := w4.heap.size) (hi := w4.heap.size + 1) vm (Nat.le_refl _) (by omega)
      clear vm
      replace BL := BL.trans (rm.below (by omega) BL.size)
      replace Dd := (unhide HDd).later BL
      replace De := (unhide HDe).later BL
      replace W := W.low (WU.mono (by omega)) rm
      replace Tm := Tm.rng rm (Or.inr (by omega))
      replace K := K.high KO rm (by omega)
      replace KO := KO.high rm (by omega)
      clear rm Z Zm Zlt
      go_wp2_with fail
      have hmb := markBoolS_from (1 + 2 * lend) (some ⟨w5.heap.size, 0, none⟩) lene lene w5.heap.size wm (by omega) (Or.inr ⟨_, rfl, Nat.le_refl _, Tm⟩) hv
      rw [e3] at hmb
      refine hmb.mono ?_
      clear hmb
      rintro e wn ⟨rfl, _, _, _, vn⟩
      have rn := Rng.mov (lo := w5.heap.size) (hi := w5.heap.size + 1) (vn _ rfl) (Nat.le_refl _) (by omega)
      clear vn
      replace BL := BL.trans (rn.below (by omega) BL.size)
      replace Dd := (unhide HDd).later BL
      replace De := (unhide HDe).later BL
      replace W := W.low (WU.mono (by omega)) rn
      replace K := K.high KO rn (by omega)
      replace KO := KO.high rn (by omega)
      clear rn T Tm Tlt
      go_wp2_with fail
      refine (eqIntS_two _ _ _ _ _ _ _ K W hl).mono ?_
      rintro e w13 ⟨rfl, b13⟩
      replace Dd := Dd.later b13
      replace De := De.later b13
      replace W := W.later b13
      replace K := K.later b13
      replace KO := KO.later b13
      replace BL := BL.trans (b13.mono BL.size)
      clear b13
      have KU := K.up
      go_wp2_with fail
      refine (markIntS_from 1 _ _ _ w6.heap.size _ (by omega) KO hl).mono ?_
      rintro e wo ⟨rfl, K2, _, _, uo⟩
      have ro := uo _ KU
      clear uo KU K KO
      have K := K2
      clear K2
      replace BL := BL.trans (ro.below (by omega) BL.size)
      replace Dd := (unhide HDd).later BL
      replace De := (unhide HDe).later BL
      replace W := W.low (WU.mono (by omega)) ro
      clear ro
      go_wp2_with fail
      refine (heldIntS_from 1 _ _ _ _ (by omega) K hl).mono ?_
      rintro e w14 ⟨rfl, b14⟩
      replace Dd := Dd.later b14
      replace De := De.later b14
      replace W := W.later b14
      replace K := K.later b14
      replace BL := BL.trans (b14.mono BL.size)
      clear b14
      go_wp2_with fail
      refine (toDeclS_any _ _ _ _ _ _ Dd nd).mono ?_
      rintro e w15 ⟨rfl, Y, Ylt, b15⟩
      replace Dd := Dd.later b15
      replace De := De.later b15
      replace W := W.later b15
      replace K := K.later b15
      replace BL := BL.trans (b15.mono BL.size)
      clear b15
      go_wp2_with fail
      refine (toBoolS_any _ _ _ _ _ De hv).mono ?_
      rintro e w16 ⟨rfl, V, Vlt, b16⟩
      replace Dd := Dd.later b16
      replace De := De.later b16
      replace W := W.later b16
      replace K := K.later b16
      replace Y := Y.later b16
      replace Ylt := Nat.lt_of_lt_of_le Ylt b16.size
      replace BL := BL.trans (b16.mono BL.size)
      clear b16
      go_wp2_with fail
      refine (iBlastEnv_any _ _ _ _ Sd Vd _ _ _ _ Ve _ Ylt Y (Nat.le_refl _) nd (unhide HS) Vlt V hv).mono ?_
      rintro e w17 ⟨⟨ah, ch, rfl, H1, _⟩, b17⟩
      replace Dd := Dd.later b17
      replace De := De.later b17
      replace W := W.later b17
      replace K := K.later b17
      replace Y := Y.later b17
      replace V := V.later b17
      replace Ylt := Nat.lt_of_lt_of_le Ylt b17.size
      replace Vlt := Nat.lt_of_lt_of_le Vlt b17.size
      replace BL := BL.trans (b17.mono BL.size)
      clear b17
      rw [← unhide HLo, ← unhide HLN] at H1
      rw [← unhide HLo, ← unhide HLN]
      clear Y Ylt
      clear V Vlt
      go_wp2_with fail
      refine (eqIntS_two _ _ _ _ _ _ _ H1 W hl).mono ?_
      rintro e w18 ⟨rfl, b18⟩
      replace Dd := Dd.later b18
      replace De := De.later b18
      replace W := W.later b18
      replace K := K.later b18
      replace H1 := H1.later b18
      replace BL := BL.trans (b18.mono BL.size)
      clear b18
      go_wp2_with fail
      refine (heldIntS_from 1 _ _ _ _ (by omega) K hl).mono ?_
      rintro e w19 ⟨rfl, b19⟩
      replace Dd := Dd.later b19
      replace De := De.later b19
      replace W := W.later b19
      replace K := K.later b19
      replace H1 := H1.later b19
      replace BL := BL.trans (b19.mono BL.size)
      clear b19
      go_wp2
      go_ret
      exact ⟨rfl, BL⟩
    · go_wp2
      go_ret
      exact ⟨rfl, BL⟩
  · go_enter Try.func4, Try.ntmps4
    go_wp2
    go_ret
    exact ⟨rfl, Below.refl _ _⟩

set_option maxRecDepth 100000 in
theorem lifted (os : Os) (started : os.Started) (H : Type) (enc : TypeId × Value → H) :
    ReturnsInHanded {} Try.checked os 4 .any (Rows.fnExactBlastEnvSpec.pre6 enc Try.prog Try.f4 Rows.fnExactBlastEnvRow.domain false) (Rows.fnExactBlastEnvSpec.post enc Try.prog Try.f4 false true false false) := by
  refine returnsInHanded_of_change (C := Try.checked) own started (by kernel_rfl) Try.func4
    (ChangeSpec.witness6 (enc := enc) (C := Try.checked) false ⟨#[], #[.slice none 0 0, .slice none 0 0], []⟩ 8 (by kernel_rfl) (by kernel_rfl) (by kernel_rfl) (by kernel_rfl)) ?_
  intro W base args ds gs before hval0 hW hcnd _
  have hval : ∀ (j : Nat) t v, Try.f4.params[j]? = some t → args[j]? = some v → Value.okWide Try.prog W .any base t v := hval0
  have hW' := hW
  obtain ⟨p, q, hA0, hV, rfl, hfz, hnd⟩ := hW
  have hA : DataW.TrodAll enc Try.prog W 0 (fun _ => true) true Try.f4.params.toList args.toList ds p := hA0
  rw [Try.params4] at hA hval
  obtain ⟨v0, vs0, d0, ds0, p0, q0, hargs, rfl, rfl, h0, r0⟩ := trodAll_cons hA
  obtain ⟨v1, vs1, d1, ds1, p1, q1, rfl, rfl, rfl, h1, r1⟩ := trodAll_cons r0
  obtain ⟨rfl, rfl, rfl⟩ := trodAll_nil r1
  obtain rfl : args = #[v0, v1] := by cases args; simp_all
  obtain ⟨rfl, rfl⟩ := trodVars_none hV
  obtain ⟨d, lend, capd, rfl⟩ := okWide_slice Try.underlying22 (hval 0 22 v0 rfl rfl)
  have k0 := h0
  have lt0 : ∀ x ∈ p0, x.block < W.heap.size := by obtain ⟨m, hm⟩ := k0; exact DataW.trod_lt m _ _ _ hm
  obtain ⟨lcd, lnd, Sd, Vd, hdd, hzd⟩ := decls_in h0
  obtain ⟨e, lene, cape, rfl⟩ := okWide_slice Try.underlying25 (hval 1 25 v1 rfl rfl)
  have k1 := h1
  have lt1 : ∀ x ∈ p1, x.block < W.heap.size := by obtain ⟨m, hm⟩ := k1; exact DataW.trod_lt m _ _ _ hm
  obtain ⟨lce, lne, Ve, hde⟩ := bools_in h1
  clear hA0 hval0
  refine (walk d lend capd Sd Vd e lene cape Ve W hdd lcd lnd hzd hde lce lne).mono fun e W' ⟨he, bel⟩ => ?_
  subst he
  exact ⟨_, rfl, _, _, _, [], _, [], hW', trodAll_mk1 (shut_bool Try.underlying4 _), (trodAll_cons_mk (Below.trod laidOut (by kernel_rfl) (of_decide_eq_true (by kernel_rfl)) k0 bel lt0) (trodAll_cons_mk (Below.trod laidOut (by kernel_rfl) (of_decide_eq_true (by kernel_rfl)) k1 bel lt1) trodAll_mk0)), rfl, bel.frame _, fun h => by cases h⟩

theorem over : Rows.fnExactBlastEnvRow.holds Try.pinned (OpenSpec.ofChange Rows.fnExactBlastEnvSpec) :=
  OpenClaim.holds_of_wide 4 Try.f4 rfl rfl rfl rfl rfl rfl rfl ⟨rfl, rfl, rfl, rfl, rfl⟩ rfl rfl rfl rfl rfl (by kernel_rfl) Try.func4 (by kernel_rfl)
    (of_decide_eq_true (by kernel_rfl)) (by unfold Func.isWrapper; first | (rw [if_pos (by decide +kernel)]; kernel_rfl) | (rw [if_neg (by decide +kernel)]; exact ⟨rfl, rfl⟩))
    (fun os started H enc _ => lifted os started H enc)
end exBle

theorem exBle_holds : Rows.FnExactBlastEnvSaid := exBle.over
#print axioms exBle_holds
end Go.Proofs.Ytnojpdfkhhjcfaa
