/- At every argument the program's NetOk answers as the model's: the law FnExactNetOk returns true for every net, right or not, and leaves it as it was. No condition (the law itself answers true where it has more than 1048576 gates). -/
import Derived.Test.YtpabepcgfhgmiaaNokC
namespace Go.Proofs.Ytpabepcgfhgmiaa
open Go.ChangeShapes Go.WideShapes Go.ChangeAt Go.RowKit Go.Joins
open Go.ChangeMaps (open_string shut_string)
set_option linter.unusedVariables false
theorem laidOut : laidOutB Try.prog = true := by kernel_rfl

namespace exNok
set_option maxHeartbeats 2000000 in
theorem walk (mc : Int) (c : Option Addr) (lenc capc : Nat) (Gc : Nat → Gt) (w : World) (wmc : W64 mc) (lcc : lenc ≤ capc) (lnc : lenc ≤ maxLen) (hdc : GtsAt w c lenc Gc) (hwc : WG lenc Gc) :
    Calls Try.prog 3 #[.agg #[.int .i64 mc, .slice c lenc capc]] w fun e w' => e = .returned (.bool true) ∧ Below w.heap.size w w' := by
  have Dc := hdc
  have HW := hide hwc
  have BL : Below w.heap.size w w := Below.refl _ _
  clear hdc hwc
  have kb : (netB mc lenc Gc != netB mc lenc Gc) = false := by simp
  go_enter Try.func3, Try.ntmps3
  go_wp2_with fail
  obtain ⟨vA, hvA⟩ : ∃ v, v = w.alloc (.cells #[.int .i64 mc, .slice c lenc capc] 24) := ⟨_, rfl⟩
  have bvA : Below w.heap.size w vA := by rw [hvA]; exact (Below.refl _ _).alloc (Nat.le_refl _) _
  have A : NBox vA w.heap.size mc c lenc capc := by rw [hvA]; exact NBox.new _ _ _ _ _ _
  rw [← hvA]
  clear hvA
  replace Dc := Dc.later bvA
  replace BL := BL.trans (bvA.mono BL.size)
  clear bvA
  refine (szNet_any _ _ _ _ 1048576 _ (by omega) (by omega) lnc).mono ?_
  rintro e w2 ⟨⟨zc, rfl, hzc⟩, b2⟩
  replace Dc := Dc.later b2
  replace A := A.later b2
  replace BL := BL.trans (b2.mono BL.size)
  clear b2
  by_cases h0 : 0 ≤ zc
  · have nc : lenc ≤ 1048576 := by rcases hzc with h | h <;> omega
    obtain ⟨A0, A1⟩ := id A
    have Al := World.block_lt_of_cell? _ _ A0
    go_wp2_with fail
    clear A0 A1 Al
    refine (toNet_any _ _ _ _ _ _ Dc nc).mono ?_
    rintro e w3 ⟨XB, rfl, Xle, X, Xm, b3⟩
    replace Dc := Dc.later b3
    replace A := A.later b3
    replace BL := BL.trans (b3.mono BL.size)
    clear b3
    have Xlt := Xm.1
    clear Xle
    obtain ⟨A0, A1⟩ := id A
    have Al := World.block_lt_of_cell? _ _ A0
    go_wp2_with fail
    clear A0 A1 Al
    refine (sNetOk_any _ _ _ _ _ _ (X.at Xlt) (unhide HW) nc).mono ?_
    rintro e w4 ⟨rfl, b4⟩
    replace Dc := Dc.later b4
    replace X := X.later b4
    replace Xm := Xm.later b4
    replace A := A.later b4
    replace Xlt := Nat.lt_of_lt_of_le Xlt b4.size
    replace BL := BL.trans (b4.mono BL.size)
    clear b4
    clear Xm
    clear X Xlt
    obtain ⟨A0, A1⟩ := id A
    have Al := World.block_lt_of_cell? _ _ A0
    go_wp2_with fail
    clear A0 A1 Al
    refine (toNet_any _ _ _ _ _ _ Dc nc).mono ?_
    rintro e w5 ⟨YB, rfl, Yle, Y, Ym, b5⟩
    replace Dc := Dc.later b5
    replace A := A.later b5
    replace BL := BL.trans (b5.mono BL.size)
    clear b5
    have Ylt := Ym.1
    clear Yle
    obtain ⟨A0, A1⟩ := id A
    have Al := World.block_lt_of_cell? _ _ A0
    go_wp2_with fail
    clear A0 A1 Al
    obtain ⟨vP, hvP⟩ : ∃ v, v = w5.alloc (.cells #[.int .i64 mc, .slice (some ⟨YB, 0, none⟩) lenc lenc] 29) := ⟨_, rfl⟩
    have bvP : Below w5.heap.size w5 vP := by rw [hvP]; exact (Below.refl _ _).alloc (Nat.le_refl _) _
    have P : NBox vP w5.heap.size mc (some ⟨YB, 0, none⟩) lenc lenc := by rw [hvP]; exact NBox.new _ _ _ _ _ _
    rw [← hvP]
    clear hvP
    replace Dc := Dc.later bvP
    replace Y := Y.later bvP
    replace Ym := Ym.later bvP
    replace A := A.later bvP
    replace Ylt := Nat.lt_of_lt_of_le Ylt bvP.size
    replace BL := BL.trans (bvP.mono BL.size)
    clear bvP
    refine (iNetOk_any _ _ _ _ _ _ (Y.at Ylt) (unhide HW) nc).mono ?_
    rintro e w6 ⟨rfl, b6⟩
    replace Dc := Dc.later b6
    replace Y := Y.later b6
    replace Ym := Ym.later b6
    replace A := A.later b6
    replace P := P.later b6
    replace Ylt := Nat.lt_of_lt_of_le Ylt b6.size
    replace BL := BL.trans (b6.mono BL.size)
    clear b6
    obtain ⟨A0, A1⟩ := id A
    have Al := World.block_lt_of_cell? _ _ A0
    obtain ⟨P0, P1⟩ := id P
    have Pl := World.block_lt_of_cell? _ _ P0
    go_wp2
    go_region_held3 (fun w' => w'.cell? ⟨w.heap.size, 0, none⟩ = some (.int .i64 mc) ∧ w'.cell? ⟨w.heap.size, 1, none⟩ = some (.slice c lenc capc) ∧ w'.cell? ⟨w5.heap.size, 0, none⟩ = some (.int .i64 mc) ∧ w'.cell? ⟨w5.heap.size, 1, none⟩ = some (.slice (some ⟨YB, 0, none⟩) lenc lenc)) (first | go_keep | exact ⟨A0, A1, P0, P1⟩)
      (first | (go_at_call 9; refine (toNet_any _ _ _ _ _ _ (by first | exact Dc | exact Dc.drew | exact Dc.drew.drew) nc).mono ?_; rintro e wq ⟨Bq, rfl, leq, Xq, mq, bq⟩; have ltq := mq.1; have Dc := GtsAt.later (by first | exact Dc | exact Dc.drew | exact Dc.drew.drew) bq; have Y := Gts.later (by first | exact Y | exact Y.drew | exact Y.drew.drew) bq; have Ym := Made.later (by first | exact Ym | exact Ym.drew | exact Ym.drew.drew) bq; have A := NBox.later (by first | exact A | exact A.drew | exact A.drew.drew) bq; have P := NBox.later (by first | exact P | exact P.drew | exact P.drew.drew) bq; have A0 := A.1; have A1 := A.2; have P0 := P.1; have P1 := P.2; have Ylt := Nat.lt_of_lt_of_le (by exact Ylt) bq.size; have BL := (by first | exact BL.trans (bq.mono BL.size) | exact BL.drew.trans (bq.mono BL.size) | exact BL.drew.drew.trans (bq.mono BL.size))) | (go_at_call 11; refine (eqNet_same _ _ _ _ _ _ _ _ (Gts.at (by first | exact Y | exact Y.drew | exact Y.drew.drew) (by exact Ylt)) (Gts.at (by first | exact Xq | exact Xq.drew | exact Xq.drew.drew) (by exact ltq)) nc).mono ?_; rintro e wp ⟨rfl, bp⟩; have Dc := GtsAt.later (by first | exact Dc | exact Dc.drew | exact Dc.drew.drew) bp; have Y := Gts.later (by first | exact Y | exact Y.drew | exact Y.drew.drew) bp; have Ym := Made.later (by first | exact Ym | exact Ym.drew | exact Ym.drew.drew) bp; have A := NBox.later (by first | exact A | exact A.drew | exact A.drew.drew) bp; have P := NBox.later (by first | exact P | exact P.drew | exact P.drew.drew) bp; have A0 := A.1; have A1 := A.2; have P0 := P.1; have P1 := P.2; have Ylt := Nat.lt_of_lt_of_le (by exact Ylt) bp.size; have BL := (by first | exact BL.trans (bp.mono BL.size) | exact BL.drew.trans (bp.mono BL.size) | exact BL.drew.drew.trans (bp.mono BL.size))))
    all_goals go_wp2
    all_goals go_ret
    all_goals exact ⟨rfl, (by first | exact BL | exact BL.drew)⟩
  · go_wp2
    go_ret
    exact ⟨rfl, BL⟩

set_option maxRecDepth 100000 in
theorem lifted (os : Os) (started : os.Started) (H : Type) (enc : TypeId × Value → H) :
    ReturnsInHanded {} Try.checked os 3 .any (Rows.fnExactNetOkSpec.pre6 enc Try.prog Try.f3 Rows.fnExactNetOkRow.domain false) (Rows.fnExactNetOkSpec.post enc Try.prog Try.f3 false true false false) := by
  refine returnsInHanded_of_change (C := Try.checked) own started (by kernel_rfl) Try.func3
    (ChangeSpec.witness6 (enc := enc) (C := Try.checked) false ⟨#[], #[.agg #[.int .i64 0, .slice none 0 0]], []⟩ 8 (by kernel_rfl) (by kernel_rfl) (by kernel_rfl) (by kernel_rfl)) ?_
  intro W base args ds gs before hval0 hW hcnd _
  have hval : ∀ (j : Nat) t v, Try.f3.params[j]? = some t → args[j]? = some v → Value.okWide Try.prog W .any base t v := hval0
  have hW' := hW
  obtain ⟨p, q, hA0, hV, rfl, hfz, hnd⟩ := hW
  have hA : DataW.TrodAll enc Try.prog W 0 (fun _ => true) true Try.f3.params.toList args.toList ds p := hA0
  rw [Try.params3] at hA hval
  obtain ⟨v0, vs0, d0, ds0, p0, q0, hargs, rfl, rfl, h0, r0⟩ := trodAll_cons hA
  obtain ⟨rfl, rfl, rfl⟩ := trodAll_nil r0
  obtain rfl : args = #[v0] := by cases args; simp_all
  obtain ⟨rfl, rfl⟩ := trodVars_none hV
  have k0 := h0
  have lt0 : ∀ x ∈ p0, x.block < W.heap.size := by obtain ⟨m, hm⟩ := k0; exact DataW.trod_lt m _ _ _ hm
  obtain ⟨mc, c, lenc, capc, Gc, rfl, wmc, lcc, lnc, hdc, hwc⟩ := net_in (hval 0 24 v0 rfl rfl) h0
  clear hA0 hval0
  refine (walk mc c lenc capc Gc W wmc lcc lnc hdc hwc).mono fun e W' ⟨he, bel⟩ => ?_
  subst he
  exact ⟨_, rfl, _, _, _, [], _, [], hW', trodAll_mk1 (shut_bool Try.underlying4 _), (trodAll_cons_mk (Below.trod laidOut (by kernel_rfl) (of_decide_eq_true (by kernel_rfl)) k0 bel lt0) trodAll_mk0), rfl, bel.frame _, fun h => by cases h⟩

theorem over : Rows.fnExactNetOkRow.holds Try.pinned (OpenSpec.ofChange Rows.fnExactNetOkSpec) :=
  OpenClaim.holds_of_wide 3 Try.f3 rfl rfl rfl rfl rfl rfl rfl ⟨rfl, rfl, rfl, rfl, rfl⟩ rfl rfl rfl rfl rfl (by kernel_rfl) Try.func3 (by kernel_rfl)
    (of_decide_eq_true (by kernel_rfl)) (by unfold Func.isWrapper; first | (rw [if_pos (by decide +kernel)]; kernel_rfl) | (rw [if_neg (by decide +kernel)]; exact ⟨rfl, rfl⟩))
    (fun os started H enc _ => lifted os started H enc)
end exNok

theorem exNok_holds : Rows.FnExactNetOkSaid := exNok.over
#print axioms exNok_holds
end Go.Proofs.Ytpabepcgfhgmiaa
