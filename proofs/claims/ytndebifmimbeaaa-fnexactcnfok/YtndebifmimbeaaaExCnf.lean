/- At every argument the program's CnfOk answers as the model's: the law FnExactCnfOk returns true for all clauses, right or not, and leaves them as they were. No condition (the law itself answers true where they take more than 1048576 numbers and lists). -/
import Derived.Test.YtndebifmimbeaaaCnfB
namespace Go.Proofs.Ytndebifmimbeaaa
open Go.ChangeShapes Go.WideShapes Go.ChangeAt Go.RowKit Go.Joins
open Go.ChangeMaps (open_string shut_string)
set_option linter.unusedVariables false
theorem laidOut : laidOutB Try.prog = true := by kernel_rfl

namespace exCnf
set_option maxHeartbeats 2000000 in
theorem walk (mc : Int) (c : Option Addr) (lenc capc : Nat) (Ac : Nat → Option Addr) (Lc Cc : Nat → Nat) (Vc : Nat → Nat → Int) (w : World) (wmc : W64 mc) (lcc : lenc ≤ capc) (lnc : lenc ≤ maxLen) (hdc : RwsAt w c lenc Ac Lc Cc Vc) (hwc : ∀ i, i < lenc → Lc i ≤ maxLen ∧ ∀ j, j < Lc i → W64 (Vc i j)) :
    Calls Try.prog 3 #[.agg #[.int .i64 mc, .slice c lenc capc]] w fun e w' => e = .returned (.bool true) ∧ Below w.heap.size w w' := by
  have Dc := hdc
  have BL : Below w.heap.size w w := Below.refl _ _
  clear hdc
  have kb : (cnfB mc lenc Lc Vc != cnfB mc lenc Lc Vc) = false := by simp
  go_enter Try.func3, Try.ntmps3
  go_wp2_with fail
  obtain ⟨vA, hvA⟩ : ∃ v, v = w.alloc (.cells #[.int .i64 mc, .slice c lenc capc] 24) := ⟨_, rfl⟩
  have bvA : Below w.heap.size w vA := by rw [hvA]; exact (Below.refl _ _).alloc (Nat.le_refl _) _
  have A : Box vA w.heap.size mc c lenc capc := by rw [hvA]; exact Box.new _ _ _ _ _ _
  rw [← hvA]
  clear hvA
  replace Dc := Dc.later bvA
  replace BL := BL.trans (bvA.mono BL.size)
  clear bvA
  refine (szCnf_any _ _ _ _ _ _ _ _ 1048576 _ Dc (by omega) (by omega) lnc (fun i hi => (hwc i hi).1)).mono ?_
  rintro e w2 ⟨⟨zc, rfl, hzc⟩, b2⟩
  replace Dc := Dc.later b2
  replace A := A.later b2
  replace BL := BL.trans (b2.mono BL.size)
  clear b2
  by_cases h0 : 0 ≤ zc
  · have Fc : Hid (Fits lenc Lc Vc) := by
      obtain ⟨_, hz1, hn, hs⟩ := hzc.resolve_left (by omega)
      exact ⟨by omega, fun i hi => ⟨by have := hs i hi; omega, (hwc i hi).2⟩⟩
    clear hwc
    obtain ⟨A0, A1⟩ := id A
    go_wp2_with fail
    clear A0 A1
    refine (toCnf_any _ _ _ _ _ _ _ _ _ Dc (unhide Fc).1 (fun i hi => ((unhide Fc).2 i hi).1)).mono ?_
    rintro e w3 ⟨XB, Xbs, rfl, Xle, Xlt, X, b3⟩
    replace Dc := Dc.later b3
    replace A := A.later b3
    replace BL := BL.trans (b3.mono BL.size)
    clear b3
    clear Xle
    obtain ⟨A0, A1⟩ := id A
    go_wp2_with fail
    clear A0 A1
    refine (sCnfOk_any _ _ _ _ _ _ _ _ _ (X.rws.at Xlt) (unhide Fc)).mono ?_
    rintro e w4 ⟨rfl, b4⟩
    replace Dc := Dc.later b4
    replace X := X.later b4
    replace A := A.later b4
    replace Xlt := Nat.lt_of_lt_of_le Xlt b4.size
    replace BL := BL.trans (b4.mono BL.size)
    clear b4
    clear X Xlt
    obtain ⟨A0, A1⟩ := id A
    go_wp2_with fail
    clear A0 A1
    refine (toCnf_any _ _ _ _ _ _ _ _ _ Dc (unhide Fc).1 (fun i hi => ((unhide Fc).2 i hi).1)).mono ?_
    rintro e w5 ⟨YB, Ybs, rfl, Yle, Ylt, Y, b5⟩
    replace Dc := Dc.later b5
    replace A := A.later b5
    replace BL := BL.trans (b5.mono BL.size)
    clear b5
    clear Yle
    obtain ⟨A0, A1⟩ := id A
    go_wp2_with fail
    clear A0 A1
    obtain ⟨vP, hvP⟩ : ∃ v, v = w5.alloc (.cells #[.int .i64 mc, .slice (some ⟨YB, 0, none⟩) lenc lenc] 27) := ⟨_, rfl⟩
    have bvP : Below w5.heap.size w5 vP := by rw [hvP]; exact (Below.refl _ _).alloc (Nat.le_refl _) _
    have P : Box vP w5.heap.size mc (some ⟨YB, 0, none⟩) lenc lenc := by rw [hvP]; exact Box.new _ _ _ _ _ _
    rw [← hvP]
    clear hvP
    replace Dc := Dc.later bvP
    replace Y := Y.later bvP
    replace A := A.later bvP
    replace Ylt := Nat.lt_of_lt_of_le Ylt bvP.size
    replace BL := BL.trans (bvP.mono BL.size)
    clear bvP
    refine (iCnfOk_any _ _ _ _ _ _ _ _ _ (Y.rws.at Ylt) (unhide Fc)).mono ?_
    rintro e w6 ⟨rfl, b6⟩
    replace Dc := Dc.later b6
    replace Y := Y.later b6
    replace A := A.later b6
    replace P := P.later b6
    replace Ylt := Nat.lt_of_lt_of_le Ylt b6.size
    replace BL := BL.trans (b6.mono BL.size)
    clear b6
    obtain ⟨A0, A1⟩ := id A
    obtain ⟨P0, P1⟩ := id P
    go_wp2
    go_region_held3 (fun w' => w'.cell? ⟨w.heap.size, 0, none⟩ = some (.int .i64 mc) ∧ w'.cell? ⟨w.heap.size, 1, none⟩ = some (.slice c lenc capc) ∧ w'.cell? ⟨w5.heap.size, 0, none⟩ = some (.int .i64 mc) ∧ w'.cell? ⟨w5.heap.size, 1, none⟩ = some (.slice (some ⟨YB, 0, none⟩) lenc lenc)) (first | go_keep | exact ⟨A0, A1, P0, P1⟩)
      (first | (go_at_call 11; refine (toCnf_any _ _ _ _ _ _ _ _ _ (by first | exact Dc | exact Dc.drew | exact Dc.drew.drew) (unhide Fc).1 (fun i hi => ((unhide Fc).2 i hi).1)).mono ?_; rintro e wq ⟨Bq, bsq, rfl, leq, ltq, Xq, bq⟩; have Dc := RwsAt.later (by first | exact Dc | exact Dc.drew | exact Dc.drew.drew) bq; have Y := Cop.later (by first | exact Y | exact Y.drew | exact Y.drew.drew) bq; have A := Box.later (by first | exact A | exact A.drew | exact A.drew.drew) bq; have P := Box.later (by first | exact P | exact P.drew | exact P.drew.drew) bq; have A0 := A.1; have A1 := A.2; have P0 := P.1; have P1 := P.2; have Ylt := Nat.lt_of_lt_of_le (by exact Ylt) bq.size; have BL := (by first | exact BL.trans (bq.mono BL.size) | exact BL.drew.trans (bq.mono BL.size) | exact BL.drew.drew.trans (bq.mono BL.size))) | (go_at_call 13; refine (eqCnf_same _ _ _ _ _ _ _ _ _ _ _ _ _ (by exact Ylt) (by exact ltq) (Cop.rws (by first | exact Y | exact Y.drew | exact Y.drew.drew)) (Cop.rws (by first | exact Xq | exact Xq.drew | exact Xq.drew.drew)) (unhide Fc).1 (fun i hi => ((unhide Fc).2 i hi).1)).mono ?_; rintro e wp ⟨rfl, bp⟩; have Dc := RwsAt.later (by first | exact Dc | exact Dc.drew | exact Dc.drew.drew) bp; have Y := Cop.later (by first | exact Y | exact Y.drew | exact Y.drew.drew) bp; have A := Box.later (by first | exact A | exact A.drew | exact A.drew.drew) bp; have P := Box.later (by first | exact P | exact P.drew | exact P.drew.drew) bp; have A0 := A.1; have A1 := A.2; have P0 := P.1; have P1 := P.2; have Ylt := Nat.lt_of_lt_of_le (by exact Ylt) bp.size; have BL := (by first | exact BL.trans (bp.mono BL.size) | exact BL.drew.trans (bp.mono BL.size) | exact BL.drew.drew.trans (bp.mono BL.size))))
    all_goals go_wp2
    all_goals go_ret
    all_goals exact ⟨rfl, (by first | exact BL | exact BL.drew)⟩
  · go_wp2
    go_ret
    exact ⟨rfl, BL⟩

set_option maxRecDepth 100000 in
theorem lifted (os : Os) (started : os.Started) (H : Type) (enc : TypeId × Value → H) :
    ReturnsInHanded {} Try.checked os 3 .any (Rows.fnExactCnfOkSpec.pre6 enc Try.prog Try.f3 Rows.fnExactCnfOkRow.domain false) (Rows.fnExactCnfOkSpec.post enc Try.prog Try.f3 false true false false) := by
  refine returnsInHanded_of_change (C := Try.checked) own started (by kernel_rfl) Try.func3
    (ChangeSpec.witness6 (enc := enc) (C := Try.checked) false ⟨#[], #[.agg #[.int .i64 0, .slice none 0 0]], []⟩ 8 (by kernel_rfl) (by kernel_rfl) (by kernel_rfl) (by kernel_rfl)) ?_
  intro W base args ds gs before hval0 hW hcnd _
  have hval : ∀ (j : Nat) t v, Try.f3.params[j]? = some t → args[j]? = some v → Value.okWide Try.prog W .any base t v := hval0
  have hW' := hW
  obtain ⟨p, q, hA0, hV, rfl, hfz, hnd⟩ := hW
  have hA : DataW.TrodAll enc Try.prog W 0 (fun _ => true) true Try.f3.params.toList args.toList ds p := hA0
  rw [Try.params3] at hA hval
  obtain ⟨v0, vs0, d0, ds0, p0, q0, hargs, rfl, rfl, h0, r0⟩ := trodAll_cons hA
  obtain ⟨rfl, rfl, rfl⟩ := trodAll_nil r0
  obtain rfl : args = #[v0] := by cases args; simp_all
  obtain ⟨rfl, rfl⟩ := trodVars_none hV
  have k0 := h0
  have lt0 : ∀ x ∈ p0, x.block < W.heap.size := by obtain ⟨m, hm⟩ := k0; exact DataW.trod_lt m _ _ _ hm
  obtain ⟨mc, c, lenc, capc, Ac, Lc, Cc, Vc, rfl, wmc, lcc, lnc, hdc, hwc⟩ := cnf_in (hval 0 24 v0 rfl rfl) h0
  clear hA0 hval0
  refine (walk mc c lenc capc Ac Lc Cc Vc W wmc lcc lnc hdc hwc).mono fun e W' ⟨he, bel⟩ => ?_
  subst he
  exact ⟨_, rfl, _, _, _, [], _, [], hW', trodAll_mk1 (shut_bool Try.underlying4 _), (trodAll_cons_mk (Below.trod laidOut (by kernel_rfl) (of_decide_eq_true (by kernel_rfl)) k0 bel lt0) trodAll_mk0), rfl, bel.frame _, fun h => by cases h⟩

theorem over : Rows.fnExactCnfOkRow.holds Try.pinned (OpenSpec.ofChange Rows.fnExactCnfOkSpec) :=
  OpenClaim.holds_of_wide 3 Try.f3 rfl rfl rfl rfl rfl rfl rfl ⟨rfl, rfl, rfl, rfl, rfl⟩ rfl rfl rfl rfl rfl (by kernel_rfl) Try.func3 (by kernel_rfl)
    (of_decide_eq_true (by kernel_rfl)) (by unfold Func.isWrapper; first | (rw [if_pos (by decide +kernel)]; kernel_rfl) | (rw [if_neg (by decide +kernel)]; exact ⟨rfl, rfl⟩))
    (fun os started H enc _ => lifted os started H enc)
end exCnf

theorem exCnf_holds : Rows.FnExactCnfOkSaid := exCnf.over
#print axioms exCnf_holds
end Go.Proofs.Ytndebifmimbeaaa
