/- At every argument the program's CnfHas answers as the model's: the law FnExactCnfHas returns true for all clauses and every list of what is so, right or not, and leaves them as they were. No condition (the law itself answers true where the list has more than 1048576 entries, or the clauses take more numbers and lists). -/
import Derived.Test.YtndebifmimbeaaaCnfD
namespace Go.Proofs.Ytndebifmimbeaaa
open Go.ChangeShapes Go.WideShapes Go.ChangeAt Go.RowKit Go.Joins
open Go.ChangeMaps (open_string shut_string)
set_option linter.unusedVariables false
theorem laidOut : laidOutB Try.prog = true := by kernel_rfl

namespace exChs
set_option maxHeartbeats 2000000 in
theorem walk (mc : Int) (c : Option Addr) (lenc capc : Nat) (Ac : Nat → Option Addr) (Lc Cc : Nat → Nat) (Vc : Nat → Nat → Int) (v : Option Addr) (lenv capv : Nat) (Vv : Nat → Bool) (w : World) (wmc : W64 mc) (lcc : lenc ≤ capc) (lnc : lenc ≤ maxLen) (hdc : RwsAt w c lenc Ac Lc Cc Vc) (hwc : ∀ i, i < lenc → Lc i ≤ maxLen ∧ ∀ j, j < Lc i → W64 (Vc i j)) (hdv : BlsAt w v lenv Vv) (lcv : lenv ≤ capv) (lnv : lenv ≤ maxLen) :
    Calls Try.prog 6 #[.agg #[.int .i64 mc, .slice c lenc capc], .slice v lenv capv] w fun e w' => e = .returned (.bool true) ∧ Below w.heap.size w w' := by
  by_cases hv : lenv ≤ 1048576
  · have Dc := hdc
    have Dv := hdv
    have BL : Below w.heap.size w w := Below.refl _ _
    clear hdc hdv
    have kb : (chB mc lenc Lc Vc lenv Vv != chB mc lenc Lc Vc lenv Vv) = false := by simp
    go_enter Try.func6, Try.ntmps6
    go_wp2_with fail
    obtain ⟨vA, hvA⟩ : ∃ v, v = w.alloc (.cells #[.int .i64 mc, .slice c lenc capc] 24) := ⟨_, rfl⟩
    have bvA : Below w.heap.size w vA := by rw [hvA]; exact (Below.refl _ _).alloc (Nat.le_refl _) _
    have A : Box vA w.heap.size mc c lenc capc := by rw [hvA]; exact Box.new _ _ _ _ _ _
    rw [← hvA]
    clear hvA
    replace Dc := Dc.later bvA
    replace Dv := Dv.later bvA
    replace BL := BL.trans (bvA.mono BL.size)
    clear bvA
    refine (szCnf_any _ _ _ _ _ _ _ _ 1048576 _ Dc (by omega) (by omega) lnc (fun i hi => (hwc i hi).1)).mono ?_
    rintro e w2 ⟨⟨zc, rfl, hzc⟩, b2⟩
    replace Dc := Dc.later b2
    replace Dv := Dv.later b2
    replace A := A.later b2
    replace BL := BL.trans (b2.mono BL.size)
    clear b2
    by_cases h0 : 0 ≤ zc
    · have Fc : Hid (Fits lenc Lc Vc) := by
        obtain ⟨_, hz1, hn, hs⟩ := hzc.resolve_left (by omega)
        exact ⟨by omega, fun i hi => ⟨by have := hs i hi; omega, (hwc i hi).2⟩⟩
      clear hwc
      obtain ⟨A0, A1⟩ := id A
      have Al := World.block_lt_of_cell? _ _ A0
      go_wp2_with fail
      clear A0 A1 Al
      refine (toCnf_any _ _ _ _ _ _ _ _ _ Dc (unhide Fc).1 (fun i hi => ((unhide Fc).2 i hi).1)).mono ?_
      rintro e w3 ⟨XB, Xbs, rfl, Xle, Xlt, X, b3⟩
      replace Dc := Dc.later b3
      replace Dv := Dv.later b3
      replace A := A.later b3
      replace BL := BL.trans (b3.mono BL.size)
      clear b3
      clear Xle
      obtain ⟨A0, A1⟩ := id A
      have Al := World.block_lt_of_cell? _ _ A0
      go_wp2_with fail
      clear A0 A1 Al
      refine (toBoolS_any _ _ _ _ _ Dv hv).mono ?_
      rintro e w4 ⟨rfl, U, Ult, b4⟩
      replace Dc := Dc.later b4
      replace Dv := Dv.later b4
      replace X := X.later b4
      replace A := A.later b4
      replace Xlt := Nat.lt_of_lt_of_le Xlt b4.size
      replace BL := BL.trans (b4.mono BL.size)
      clear b4
      obtain ⟨A0, A1⟩ := id A
      have Al := World.block_lt_of_cell? _ _ A0
      go_wp2_with fail
      clear A0 A1 Al
      refine (sCnfHas_any _ _ _ _ _ _ _ _ _ _ _ _ _ (X.rws.at Xlt) (unhide Fc) (U.at Ult) hv).mono ?_
      rintro e w5 ⟨rfl, b5⟩
      replace Dc := Dc.later b5
      replace Dv := Dv.later b5
      replace X := X.later b5
      replace U := U.later b5
      replace A := A.later b5
      replace Xlt := Nat.lt_of_lt_of_le Xlt b5.size
      replace Ult := Nat.lt_of_lt_of_le Ult b5.size
      replace BL := BL.trans (b5.mono BL.size)
      clear b5
      clear X Xlt
      clear U Ult
      obtain ⟨A0, A1⟩ := id A
      have Al := World.block_lt_of_cell? _ _ A0
      go_wp2_with fail
      clear A0 A1 Al
      refine (toCnf_any _ _ _ _ _ _ _ _ _ Dc (unhide Fc).1 (fun i hi => ((unhide Fc).2 i hi).1)).mono ?_
      rintro e w6 ⟨YB, Ybs, rfl, Yle, Ylt, Y, b6⟩
      replace Dc := Dc.later b6
      replace Dv := Dv.later b6
      replace A := A.later b6
      replace BL := BL.trans (b6.mono BL.size)
      clear b6
      clear Yle
      obtain ⟨A0, A1⟩ := id A
      have Al := World.block_lt_of_cell? _ _ A0
      go_wp2_with fail
      clear A0 A1 Al
      obtain ⟨vP, hvP⟩ : ∃ v, v = w6.alloc (.cells #[.int .i64 mc, .slice (some ⟨YB, 0, none⟩) lenc lenc] 27) := ⟨_, rfl⟩
      have bvP : Below w6.heap.size w6 vP := by rw [hvP]; exact (Below.refl _ _).alloc (Nat.le_refl _) _
      have P : Box vP w6.heap.size mc (some ⟨YB, 0, none⟩) lenc lenc := by rw [hvP]; exact Box.new _ _ _ _ _ _
      rw [← hvP]
      clear hvP
      replace Dc := Dc.later bvP
      replace Dv := Dv.later bvP
      replace Y := Y.later bvP
      replace A := A.later bvP
      replace Ylt := Nat.lt_of_lt_of_le Ylt bvP.size
      replace BL := BL.trans (bvP.mono BL.size)
      clear bvP
      refine (toBoolS_any _ _ _ _ _ Dv hv).mono ?_
      rintro e w7 ⟨rfl, T, Tlt, b7⟩
      replace Dc := Dc.later b7
      replace Dv := Dv.later b7
      replace Y := Y.later b7
      replace A := A.later b7
      replace P := P.later b7
      replace Ylt := Nat.lt_of_lt_of_le Ylt b7.size
      replace BL := BL.trans (b7.mono BL.size)
      clear b7
      obtain ⟨A0, A1⟩ := id A
      have Al := World.block_lt_of_cell? _ _ A0
      obtain ⟨P0, P1⟩ := id P
      have Pl := World.block_lt_of_cell? _ _ P0
      go_wp2_with fail
      clear A0 A1 Al
      clear P0 P1 Pl
      refine (iCnfHas_any _ _ _ _ _ _ _ _ _ _ _ _ _ (Y.rws.at Ylt) (unhide Fc) (T.at Tlt) hv).mono ?_
      rintro e w8 ⟨rfl, b8⟩
      replace Dc := Dc.later b8
      replace Dv := Dv.later b8
      replace Y := Y.later b8
      replace T := T.later b8
      replace A := A.later b8
      replace P := P.later b8
      replace Ylt := Nat.lt_of_lt_of_le Ylt b8.size
      replace Tlt := Nat.lt_of_lt_of_le Tlt b8.size
      replace BL := BL.trans (b8.mono BL.size)
      clear b8
      obtain ⟨A0, A1⟩ := id A
      have Al := World.block_lt_of_cell? _ _ A0
      obtain ⟨P0, P1⟩ := id P
      have Pl := World.block_lt_of_cell? _ _ P0
      go_wp2
      go_region_held3 (fun w' => w'.cell? ⟨w.heap.size, 0, none⟩ = some (.int .i64 mc) ∧ w'.cell? ⟨w.heap.size, 1, none⟩ = some (.slice c lenc capc) ∧ w'.cell? ⟨w6.heap.size, 0, none⟩ = some (.int .i64 mc) ∧ w'.cell? ⟨w6.heap.size, 1, none⟩ = some (.slice (some ⟨YB, 0, none⟩) lenc lenc)) (first | go_keep | exact ⟨A0, A1, P0, P1⟩)
        (first | (go_at_call 11; refine (toCnf_any _ _ _ _ _ _ _ _ _ (by first | exact Dc | exact Dc.drew | exact Dc.drew.drew) (unhide Fc).1 (fun i hi => ((unhide Fc).2 i hi).1)).mono ?_; rintro e wq ⟨Bq, bsq, rfl, leq, ltq, Xq, bq⟩; have Dc := RwsAt.later (by first | exact Dc | exact Dc.drew | exact Dc.drew.drew) bq; have Dv := BlsAt.later (by first | exact Dv | exact Dv.drew | exact Dv.drew.drew) bq; have Y := Cop.later (by first | exact Y | exact Y.drew | exact Y.drew.drew) bq; have T := Bls.later (by first | exact T | exact T.drew | exact T.drew.drew) bq; have A := Box.later (by first | exact A | exact A.drew | exact A.drew.drew) bq; have P := Box.later (by first | exact P | exact P.drew | exact P.drew.drew) bq; have A0 := A.1; have A1 := A.2; have P0 := P.1; have P1 := P.2; have Ylt := Nat.lt_of_lt_of_le (by exact Ylt) bq.size; have Tlt := Nat.lt_of_lt_of_le (by exact Tlt) bq.size; have BL := (by first | exact BL.trans (bq.mono BL.size) | exact BL.drew.trans (bq.mono BL.size) | exact BL.drew.drew.trans (bq.mono BL.size))) | (go_at_call 13; refine (eqCnf_same _ _ _ _ _ _ _ _ _ _ _ _ _ (by exact Ylt) (by exact ltq) (Cop.rws (by first | exact Y | exact Y.drew | exact Y.drew.drew)) (Cop.rws (by first | exact Xq | exact Xq.drew | exact Xq.drew.drew)) (unhide Fc).1 (fun i hi => ((unhide Fc).2 i hi).1)).mono ?_; rintro e wp ⟨rfl, bp⟩; have Dc := RwsAt.later (by first | exact Dc | exact Dc.drew | exact Dc.drew.drew) bp; have Dv := BlsAt.later (by first | exact Dv | exact Dv.drew | exact Dv.drew.drew) bp; have Y := Cop.later (by first | exact Y | exact Y.drew | exact Y.drew.drew) bp; have T := Bls.later (by first | exact T | exact T.drew | exact T.drew.drew) bp; have A := Box.later (by first | exact A | exact A.drew | exact A.drew.drew) bp; have P := Box.later (by first | exact P | exact P.drew | exact P.drew.drew) bp; have A0 := A.1; have A1 := A.2; have P0 := P.1; have P1 := P.2; have Ylt := Nat.lt_of_lt_of_le (by exact Ylt) bp.size; have Tlt := Nat.lt_of_lt_of_le (by exact Tlt) bp.size; have BL := (by first | exact BL.trans (bp.mono BL.size) | exact BL.drew.trans (bp.mono BL.size) | exact BL.drew.drew.trans (bp.mono BL.size))))
      all_goals (try go_wp2_with fail)
      all_goals refine (toBoolS_any _ _ _ _ _ (by first | exact Dv | exact Dv.drew) hv).mono ?_
      all_goals rintro e wr ⟨rfl, Tq, Tqlt, br⟩
      all_goals have T := Bls.later (by first | exact T | exact T.drew) br
      all_goals have Tlt := Nat.lt_of_lt_of_le (by exact Tlt) br.size
      all_goals have BL := (by first | exact BL.trans (br.mono BL.size) | exact BL.drew.trans (br.mono BL.size))
      all_goals go_wp2_with fail
      all_goals refine (eqBoolS_same _ _ _ _ _ _ _ (T.at Tlt) (Tq.at Tqlt) hv).mono ?_
      all_goals rintro e ws ⟨rfl, bs⟩
      all_goals have BL := BL.trans (bs.mono BL.size)
      all_goals go_wp2
      all_goals go_ret
      all_goals exact ⟨rfl, BL⟩
    · go_wp2
      go_ret
      exact ⟨rfl, BL⟩
  · go_enter Try.func6, Try.ntmps6
    go_wp2
    go_ret
    exact ⟨rfl, (by repeat (first | exact Below.refl _ _ | assumption | refine below_drewN ?_ _ | refine Below.drew ?_ | refine Below.alloc ?_ (by first | exact Nat.le_refl _ | exact Below.size (by assumption) | (simp; done) | (simp; omega)) _ | refine Below.setCell ?_ (by first | exact Nat.le_refl _ | exact Below.size (by assumption) | (simp; done) | (simp; omega)) _ | refine Below.trans ?_ (by assumption)))⟩

set_option maxRecDepth 100000 in
theorem lifted (os : Os) (started : os.Started) (H : Type) (enc : TypeId × Value → H) :
    ReturnsInHanded {} Try.checked os 6 .any (Rows.fnExactCnfHasSpec.pre6 enc Try.prog Try.f6 Rows.fnExactCnfHasRow.domain false) (Rows.fnExactCnfHasSpec.post enc Try.prog Try.f6 false true false false) := by
  refine returnsInHanded_of_change (C := Try.checked) own started (by kernel_rfl) Try.func6
    (ChangeSpec.witness6 (enc := enc) (C := Try.checked) false ⟨#[], #[.agg #[.int .i64 0, .slice none 0 0], .slice none 0 0], []⟩ 8 (by kernel_rfl) (by kernel_rfl) (by kernel_rfl) (by kernel_rfl)) ?_
  intro W base args ds gs before hval0 hW hcnd _
  have hval : ∀ (j : Nat) t v, Try.f6.params[j]? = some t → args[j]? = some v → Value.okWide Try.prog W .any base t v := hval0
  have hW' := hW
  obtain ⟨p, q, hA0, hV, rfl, hfz, hnd⟩ := hW
  have hA : DataW.TrodAll enc Try.prog W 0 (fun _ => true) true Try.f6.params.toList args.toList ds p := hA0
  rw [Try.params6] at hA hval
  obtain ⟨v0, vs0, d0, ds0, p0, q0, hargs, rfl, rfl, h0, r0⟩ := trodAll_cons hA
  obtain ⟨v1, vs1, d1, ds1, p1, q1, rfl, rfl, rfl, h1, r1⟩ := trodAll_cons r0
  obtain ⟨rfl, rfl, rfl⟩ := trodAll_nil r1
  obtain rfl : args = #[v0, v1] := by cases args; simp_all
  obtain ⟨rfl, rfl⟩ := trodVars_none hV
  have k0 := h0
  have lt0 : ∀ x ∈ p0, x.block < W.heap.size := by obtain ⟨m, hm⟩ := k0; exact DataW.trod_lt m _ _ _ hm
  obtain ⟨mc, c, lenc, capc, Ac, Lc, Cc, Vc, rfl, wmc, lcc, lnc, hdc, hwc⟩ := cnf_in (hval 0 24 v0 rfl rfl) h0
  obtain ⟨v, lenv, capv, rfl⟩ := okWide_slice Try.underlying33 (hval 1 33 v1 rfl rfl)
  have k1 := h1
  have lt1 : ∀ x ∈ p1, x.block < W.heap.size := by obtain ⟨m, hm⟩ := k1; exact DataW.trod_lt m _ _ _ hm
  obtain ⟨lcv, lnv, Vv, hdv⟩ := bools_in h1
  clear hA0 hval0
  refine (walk mc c lenc capc Ac Lc Cc Vc v lenv capv Vv W wmc lcc lnc hdc hwc hdv lcv lnv).mono fun e W' ⟨he, bel⟩ => ?_
  subst he
  exact ⟨_, rfl, _, _, _, [], _, [], hW', trodAll_mk1 (shut_bool Try.underlying4 _), (trodAll_cons_mk (Below.trod laidOut (by kernel_rfl) (of_decide_eq_true (by kernel_rfl)) k0 bel lt0) (trodAll_cons_mk (Below.trod laidOut (by kernel_rfl) (of_decide_eq_true (by kernel_rfl)) k1 bel lt1) trodAll_mk0)), rfl, bel.frame _, fun h => by cases h⟩

theorem over : Rows.fnExactCnfHasRow.holds Try.pinned (OpenSpec.ofChange Rows.fnExactCnfHasSpec) :=
  OpenClaim.holds_of_wide 6 Try.f6 rfl rfl rfl rfl rfl rfl rfl ⟨rfl, rfl, rfl, rfl, rfl⟩ rfl rfl rfl rfl rfl (by kernel_rfl) Try.func6 (by kernel_rfl)
    (of_decide_eq_true (by kernel_rfl)) (by unfold Func.isWrapper; first | (rw [if_pos (by decide +kernel)]; kernel_rfl) | (rw [if_neg (by decide +kernel)]; exact ⟨rfl, rfl⟩))
    (fun os started H enc _ => lifted os started H enc)
end exChs

theorem exChs_holds : Rows.FnExactCnfHasSaid := exChs.over
#print axioms exChs_holds
end Go.Proofs.Ytndebifmimbeaaa
