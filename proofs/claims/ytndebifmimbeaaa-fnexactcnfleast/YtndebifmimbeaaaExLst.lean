/- At every argument the program's CnfLeast answers as the model's: the law FnExactCnfLeast returns true for all clauses, right or not, leaves them as they were, and what is handed back is memory of its own. No condition (the law itself answers true where they take more than 1048576 numbers and lists). -/
import Derived.Test.YtndebifmimbeaaaMrkA
namespace Go.Proofs.Ytndebifmimbeaaa
open Go.ChangeShapes Go.WideShapes Go.ChangeAt Go.RowKit Go.Joins
open Go.ChangeMaps (open_string shut_string)
set_option linter.unusedVariables false
theorem laidOut : laidOutB Try.prog = true := by kernel_rfl
theorem least_len (m : Int) (n : Nat) (L : Nat → Nat) (V : Nat → Nat → Int) : lenO (leastO m n L V) m.toNat ≤ 1048576 := by
  by_cases h : CnfP m n L V ∧ m ≤ 10
  · have := lenO_le (leastO m n L V) m.toNat
    omega
  · rw [leastO_no h]; simp [lenO]

namespace exLst
set_option maxRecDepth 100000 in
set_option maxHeartbeats 4000000 in
theorem walk (mc : Int) (c : Option Addr) (lenc capc : Nat) (Ac : Nat → Option Addr) (Lc Cc : Nat → Nat) (Vc : Nat → Nat → Int) (w : World) (wmc : W64 mc) (lcc : lenc ≤ capc) (lnc : lenc ≤ maxLen) (hdc : RwsAt w c lenc Ac Lc Cc Vc) (hwc : ∀ i, i < lenc → Lc i ≤ maxLen ∧ ∀ j, j < Lc i → W64 (Vc i j)) :
    Calls Try.prog 7 #[.agg #[.int .i64 mc, .slice c lenc capc]] w fun e w' => e = .returned (.bool true) ∧ Below w.heap.size w w' := by
  have Dc := hdc
  have HDc := hide hdc
  have BL : Below w.heap.size w w := Below.refl _ _
  clear hdc
  have hl := least_len mc lenc Lc Vc
  have kb : ((leastO mc lenc Lc Vc).isSome != (leastO mc lenc Lc Vc).isSome) = false := by simp
  have kq : (((1 + lenO (leastO mc lenc Lc Vc) mc.toNat : Nat) : Int) != ((1 + lenO (leastO mc lenc Lc Vc) mc.toNat : Nat) : Int)) = false := by simp
  go_enter Try.func7, Try.ntmps7
  go_wp2_with fail
  obtain ⟨vA, hvA⟩ : ∃ v, v = w.alloc (.cells #[.int .i64 mc, .slice c lenc capc] 24) := ⟨_, rfl⟩
  have bvA : Below w.heap.size w vA := by rw [hvA]; exact (Below.refl _ _).alloc (Nat.le_refl _) _
  have A : Box vA w.heap.size mc c lenc capc := by rw [hvA]; exact Box.new _ _ _ _ _ _
  rw [← hvA]
  clear hvA
  replace Dc := Dc.later bvA
  replace BL := BL.trans (bvA.mono BL.size)
  clear bvA
  refine (szCnf_any _ _ _ _ _ _ _ _ 1048576 _ Dc (by omega) (by omega) lnc (fun i hi => (hwc i hi).1)).mono ?_
  rintro e w2 ⟨⟨zc, rfl, hzc⟩, b2⟩
  replace Dc := Dc.later b2
  replace A := A.later b2
  replace BL := BL.trans (b2.mono BL.size)
  clear b2
  by_cases h0 : 0 ≤ zc
  · have Fc : Hid (Fits lenc Lc Vc) := by
      obtain ⟨_, hz1, hn, hs⟩ := hzc.resolve_left (by omega)
      exact ⟨by omega, fun i hi => ⟨by have := hs i hi; omega, (hwc i hi).2⟩⟩
    clear hwc
    obtain ⟨A0, A1⟩ := id A
    have Al := World.block_lt_of_cell? _ _ A0
    go_wp2_with fail
    clear A0 A1 Al
    refine (toCnf_any _ _ _ _ _ _ _ _ _ Dc (unhide Fc).1 (fun i hi => ((unhide Fc).2 i hi).1)).mono ?_
    rintro e w3 ⟨XB, Xbs, rfl, Xle, Xlt, X, b3⟩
    replace Dc := Dc.later b3
    replace A := A.later b3
    replace BL := BL.trans (b3.mono BL.size)
    clear b3
    clear Xle
    obtain ⟨A0, A1⟩ := id A
    have Al := World.block_lt_of_cell? _ _ A0
    go_wp2_with fail
    clear A0 A1 Al
    refine (sCnfLeast_any _ _ _ _ _ _ _ _ _ (X.rws.at Xlt) (unhide Fc)).mono ?_
    rintro e w4 ⟨hW, b4⟩
    replace Dc := Dc.later b4
    replace X := X.later b4
    replace A := A.later b4
    replace Xlt := Nat.lt_of_lt_of_le Xlt b4.size
    replace BL := BL.trans (b4.mono BL.size)
    clear b4
    obtain ⟨aw, cw, rfl, W, WO⟩ := hW.out
    have WU := W.up
    clear hW WO
    clear X Xlt
    have hAw := BL.size
    obtain ⟨A0, A1⟩ := id A
    have Al := World.block_lt_of_cell? _ _ A0
    go_wp2_with fail
    clear A0 A1 Al
    refine (toCnf_any _ _ _ _ _ _ _ _ _ Dc (unhide Fc).1 (fun i hi => ((unhide Fc).2 i hi).1)).mono ?_
    rintro e w5 ⟨YB, Ybs, rfl, Yle, Ylt, Y, b5⟩
    replace Dc := Dc.later b5
    replace W := W.later b5
    replace A := A.later b5
    replace BL := BL.trans (b5.mono BL.size)
    clear b5
    obtain ⟨A0, A1⟩ := id A
    have Al := World.block_lt_of_cell? _ _ A0
    go_wp2_with fail
    clear A0 A1 Al
    obtain ⟨vP, hvP⟩ : ∃ v, v = w5.alloc (.cells #[.int .i64 mc, .slice (some ⟨YB, 0, none⟩) lenc lenc] 27) := ⟨_, rfl⟩
    have bvP : Below w5.heap.size w5 vP := by rw [hvP]; exact (Below.refl _ _).alloc (Nat.le_refl _) _
    have P : Box vP w5.heap.size mc (some ⟨YB, 0, none⟩) lenc lenc := by rw [hvP]; exact Box.new _ _ _ _ _ _
    rw [← hvP]
    clear hvP
    replace Dc := Dc.later bvP
    replace W := W.later bvP
    replace Y := Y.later bvP
    replace A := A.later bvP
    replace Ylt := Nat.lt_of_lt_of_le Ylt bvP.size
    replace BL := BL.trans (bvP.mono BL.size)
    clear bvP
    have HB : Hid (∀ i, i < lenc → Ybs i < vP.heap.size) := fun i hi => (Y i hi).2.2.1.1
    have hAlo : w.heap.size < YB + 1 := by omega
    have hAP : w.heap.size < vP.heap.size := by omega
    have WU1 : Up (YB + 1) aw (lenO (leastO mc lenc Lc Vc) mc.toNat) := WU.mono (by omega)
    have WU2 : Up vP.heap.size aw (lenO (leastO mc lenc Lc Vc) mc.toNat) := WU.mono (by omega)
    clear WU Yle hAw
    refine (iCnfLeast_any _ _ _ _ _ _ _ _ _ (Y.rws.at Ylt) (unhide Fc)).mono ?_
    rintro e w6 ⟨hG, b6⟩
    replace Dc := Dc.later b6
    replace W := W.later b6
    replace Y := Y.later b6
    replace A := A.later b6
    replace P := P.later b6
    replace Ylt := Nat.lt_of_lt_of_le Ylt b6.size
    replace BL := BL.trans (b6.mono BL.size)
    clear b6
    obtain ⟨ag, cg, rfl, G, GO⟩ := hG.out
    clear hG
    obtain ⟨A0, A1⟩ := id A
    have Al := World.block_lt_of_cell? _ _ A0
    obtain ⟨P0, P1⟩ := id P
    have Pl := World.block_lt_of_cell? _ _ P0
    go_wp2_with fail
    clear A0 A1 Al
    clear P0 P1 Pl
    refine (eqBoolS_same _ _ _ _ _ _ _ G W hl).mono ?_
    rintro e w7 ⟨rfl, b7⟩
    replace Dc := Dc.later b7
    replace W := W.later b7
    replace Y := Y.later b7
    replace G := G.later b7
    replace GO := GO.later b7
    replace A := A.later b7
    replace P := P.later b7
    replace Ylt := Nat.lt_of_lt_of_le Ylt b7.size
    replace BL := BL.trans (b7.mono BL.size)
    clear b7
    obtain ⟨A0, A1⟩ := id A
    have Al := World.block_lt_of_cell? _ _ A0
    obtain ⟨P0, P1⟩ := id P
    have Pl := World.block_lt_of_cell? _ _ P0
    go_wp2
    go_region_held3 (fun w' => w'.cell? ⟨w.heap.size, 0, none⟩ = some (.int .i64 mc) ∧ w'.cell? ⟨w.heap.size, 1, none⟩ = some (.slice c lenc capc) ∧ w'.cell? ⟨w5.heap.size, 0, none⟩ = some (.int .i64 mc) ∧ w'.cell? ⟨w5.heap.size, 1, none⟩ = some (.slice (some ⟨YB, 0, none⟩) lenc lenc)) (first | go_keep | exact ⟨A0, A1, P0, P1⟩)
      (first | (go_at_call 11; refine (toCnf_any _ _ _ _ _ _ _ _ _ (by first | exact Dc | exact Dc.drew | exact Dc.drew.drew) (unhide Fc).1 (fun i hi => ((unhide Fc).2 i hi).1)).mono ?_; rintro e wq ⟨Bq, bsq, rfl, leq, ltq, Xq, bq⟩; have Dc := RwsAt.later (by first | exact Dc | exact Dc.drew | exact Dc.drew.drew) bq; have W := BlsAt.later (by first | exact W | exact W.drew | exact W.drew.drew) bq; have Y := Cop.later (by first | exact Y | exact Y.drew | exact Y.drew.drew) bq; have G := BlsAt.later (by first | exact G | exact G.drew | exact G.drew.drew) bq; have GO := OwnB.later (by first | exact GO | exact GO.drew | exact GO.drew.drew) bq; have A := Box.later (by first | exact A | exact A.drew | exact A.drew.drew) bq; have P := Box.later (by first | exact P | exact P.drew | exact P.drew.drew) bq; have A0 := A.1; have A1 := A.2; have P0 := P.1; have P1 := P.2; have Ylt := Nat.lt_of_lt_of_le (by exact Ylt) bq.size; have BL := (by first | exact BL.trans (bq.mono BL.size) | exact BL.drew.trans (bq.mono BL.size) | exact BL.drew.drew.trans (bq.mono BL.size))) | (go_at_call 13; refine (eqCnf_same _ _ _ _ _ _ _ _ _ _ _ _ _ (by exact Ylt) (by exact ltq) (Cop.rws (by first | exact Y | exact Y.drew | exact Y.drew.drew)) (Cop.rws (by first | exact Xq | exact Xq.drew | exact Xq.drew.drew)) (unhide Fc).1 (fun i hi => ((unhide Fc).2 i hi).1)).mono ?_; rintro e wp ⟨rfl, bp⟩; have Dc := RwsAt.later (by first | exact Dc | exact Dc.drew | exact Dc.drew.drew) bp; have W := BlsAt.later (by first | exact W | exact W.drew | exact W.drew.drew) bp; have Y := Cop.later (by first | exact Y | exact Y.drew | exact Y.drew.drew) bp; have G := BlsAt.later (by first | exact G | exact G.drew | exact G.drew.drew) bp; have GO := OwnB.later (by first | exact GO | exact GO.drew | exact GO.drew.drew) bp; have A := Box.later (by first | exact A | exact A.drew | exact A.drew.drew) bp; have P := Box.later (by first | exact P | exact P.drew | exact P.drew.drew) bp; have A0 := A.1; have A1 := A.2; have P0 := P.1; have P1 := P.2; have Ylt := Nat.lt_of_lt_of_le (by exact Ylt) bp.size; have BL := (by first | exact BL.trans (bp.mono BL.size) | exact BL.drew.trans (bp.mono BL.size) | exact BL.drew.drew.trans (bp.mono BL.size))))
    all_goals
      (try clear A0 A1 P0 P1 Al Pl)
      obtain ⟨A0, A1⟩ := id A
      have Al := World.block_lt_of_cell? _ _ A0
      obtain ⟨P0, P1⟩ := id P
      have Pl := World.block_lt_of_cell? _ _ P0
      go_wp2_with fail
      clear A0 A1 Al
      clear P0 P1 Pl
      refine (markCnf_any _ (YB + 1) vP.heap.size YB _ _ Ybs Lc Vc _ Y (by omega) Ylt (unhide Fc).1 (fun i hi => ((unhide Fc).2 i hi).1) (unhide HB)).mono ?_
      rintro e wm ⟨⟨zm, rfl, hzm⟩, rm⟩
      replace BL := BL.trans (rm.below (by omega) BL.size)
      replace Dc := (unhide HDc).later BL
      replace A := A.rng rm (Or.inl hAlo)
      replace W := W.low WU1 rm
      replace G := G.high GO rm (Nat.le_refl _)
      replace GO := GO.high rm (Nat.le_refl _)
      clear rm Y Ylt P
      obtain ⟨A0, A1⟩ := id A
      have Al := World.block_lt_of_cell? _ _ A0
      go_wp2_with fail
      clear A0 A1 Al
      refine (eqBoolS_same _ _ _ _ _ _ _ G W hl).mono ?_
      rintro e w8 ⟨rfl, b8⟩
      replace Dc := Dc.later b8
      replace W := W.later b8
      replace G := G.later b8
      replace GO := GO.later b8
      replace A := A.later b8
      replace BL := BL.trans (b8.mono BL.size)
      clear b8
      obtain ⟨A0, A1⟩ := id A
      have Al := World.block_lt_of_cell? _ _ A0
      go_wp2_with fail
      clear A0 A1 Al
      refine (markBoolS_any _ _ _ vP.heap.size _ GO hl).mono ?_
      clear G GO
      rintro e wn ⟨rfl, G, GO, rn⟩
      replace BL := BL.trans (rn.below (by omega) BL.size)
      replace Dc := (unhide HDc).later BL
      replace A := A.rng rn (Or.inl hAP)
      replace W := W.low WU2 rn
      clear rn
      obtain ⟨A0, A1⟩ := id A
      have Al := World.block_lt_of_cell? _ _ A0
      go_wp2_with fail
      clear A0 A1 Al
      refine (heldBoolS_any _ _ _ _ G hl).mono ?_
      rintro e w9 ⟨rfl, b9⟩
      replace Dc := Dc.later b9
      replace W := W.later b9
      replace G := G.later b9
      replace GO := GO.later b9
      replace A := A.later b9
      replace BL := BL.trans (b9.mono BL.size)
      clear b9
      obtain ⟨A0, A1⟩ := id A
      have Al := World.block_lt_of_cell? _ _ A0
      go_wp2_with fail
      clear A0 A1 Al
      refine (toCnf_any _ _ _ _ _ _ _ _ _ Dc (unhide Fc).1 (fun i hi => ((unhide Fc).2 i hi).1)).mono ?_
      rintro e w10 ⟨ZB, Zbs, rfl, Zle, Zlt, Z, b10⟩
      replace Dc := Dc.later b10
      replace W := W.later b10
      replace G := G.later b10
      replace GO := GO.later b10
      replace A := A.later b10
      replace BL := BL.trans (b10.mono BL.size)
      clear b10
      clear Zle
      obtain ⟨A0, A1⟩ := id A
      have Al := World.block_lt_of_cell? _ _ A0
      go_wp2_with fail
      clear A0 A1 Al
      refine (iCnfLeast_any _ _ _ _ _ _ _ _ _ (Z.rws.at Zlt) (unhide Fc)).mono ?_
      rintro e w11 ⟨hH, b11⟩
      replace Dc := Dc.later b11
      replace W := W.later b11
      replace G := G.later b11
      replace GO := GO.later b11
      replace Z := Z.later b11
      replace A := A.later b11
      replace Zlt := Nat.lt_of_lt_of_le Zlt b11.size
      replace BL := BL.trans (b11.mono BL.size)
      clear b11
      obtain ⟨ah, ch, rfl, H1, HO⟩ := hH.out
      clear hH HO
      clear Z Zlt
      obtain ⟨A0, A1⟩ := id A
      have Al := World.block_lt_of_cell? _ _ A0
      go_wp2_with fail
      clear A0 A1 Al
      refine (eqBoolS_same _ _ _ _ _ _ _ H1 W hl).mono ?_
      rintro e w12 ⟨rfl, b12⟩
      replace Dc := Dc.later b12
      replace W := W.later b12
      replace G := G.later b12
      replace GO := GO.later b12
      replace A := A.later b12
      replace BL := BL.trans (b12.mono BL.size)
      clear b12
      obtain ⟨A0, A1⟩ := id A
      have Al := World.block_lt_of_cell? _ _ A0
      go_wp2_with fail
      clear A0 A1 Al
      refine (heldBoolS_any _ _ _ _ G hl).mono ?_
      rintro e w13 ⟨rfl, b13⟩
      replace Dc := Dc.later b13
      replace W := W.later b13
      replace G := G.later b13
      replace GO := GO.later b13
      replace A := A.later b13
      replace BL := BL.trans (b13.mono BL.size)
      clear b13
      go_wp2
      go_ret
      exact ⟨rfl, BL⟩
  · go_wp2
    go_ret
    exact ⟨rfl, BL⟩

set_option maxRecDepth 100000 in
theorem lifted (os : Os) (started : os.Started) (H : Type) (enc : TypeId × Value → H) :
    ReturnsInHanded {} Try.checked os 7 .any (Rows.fnExactCnfLeastSpec.pre6 enc Try.prog Try.f7 Rows.fnExactCnfLeastRow.domain false) (Rows.fnExactCnfLeastSpec.post enc Try.prog Try.f7 false true false false) := by
  refine returnsInHanded_of_change (C := Try.checked) own started (by kernel_rfl) Try.func7
    (ChangeSpec.witness6 (enc := enc) (C := Try.checked) false ⟨#[], #[.agg #[.int .i64 0, .slice none 0 0]], []⟩ 8 (by kernel_rfl) (by kernel_rfl) (by kernel_rfl) (by kernel_rfl)) ?_
  intro W base args ds gs before hval0 hW hcnd _
  have hval : ∀ (j : Nat) t v, Try.f7.params[j]? = some t → args[j]? = some v → Value.okWide Try.prog W .any base t v := hval0
  have hW' := hW
  obtain ⟨p, q, hA0, hV, rfl, hfz, hnd⟩ := hW
  have hA : DataW.TrodAll enc Try.prog W 0 (fun _ => true) true Try.f7.params.toList args.toList ds p := hA0
  rw [Try.params7] at hA hval
  obtain ⟨v0, vs0, d0, ds0, p0, q0, hargs, rfl, rfl, h0, r0⟩ := trodAll_cons hA
  obtain ⟨rfl, rfl, rfl⟩ := trodAll_nil r0
  obtain rfl : args = #[v0] := by cases args; simp_all
  obtain ⟨rfl, rfl⟩ := trodVars_none hV
  have k0 := h0
  have lt0 : ∀ x ∈ p0, x.block < W.heap.size := by obtain ⟨m, hm⟩ := k0; exact DataW.trod_lt m _ _ _ hm
  obtain ⟨mc, c, lenc, capc, Ac, Lc, Cc, Vc, rfl, wmc, lcc, lnc, hdc, hwc⟩ := cnf_in (hval 0 24 v0 rfl rfl) h0
  clear hA0 hval0
  refine (walk mc c lenc capc Ac Lc Cc Vc W wmc lcc lnc hdc hwc).mono fun e W' ⟨he, bel⟩ => ?_
  subst he
  exact ⟨_, rfl, _, _, _, [], _, [], hW', trodAll_mk1 (shut_bool Try.underlying4 _), (trodAll_cons_mk (Below.trod laidOut (by kernel_rfl) (of_decide_eq_true (by kernel_rfl)) k0 bel lt0) trodAll_mk0), rfl, bel.frame _, fun h => by cases h⟩

theorem over : Rows.fnExactCnfLeastRow.holds Try.pinned (OpenSpec.ofChange Rows.fnExactCnfLeastSpec) :=
  OpenClaim.holds_of_wide 7 Try.f7 rfl rfl rfl rfl rfl rfl rfl ⟨rfl, rfl, rfl, rfl, rfl⟩ rfl rfl rfl rfl rfl (by kernel_rfl) Try.func7 (by kernel_rfl)
    (of_decide_eq_true (by kernel_rfl)) (by unfold Func.isWrapper; first | (rw [if_pos (by decide +kernel)]; kernel_rfl) | (rw [if_neg (by decide +kernel)]; exact ⟨rfl, rfl⟩))
    (fun os started H enc _ => lifted os started H enc)
end exLst

theorem exLst_holds : Rows.FnExactCnfLeastSaid := exLst.over
#print axioms exLst_holds
end Go.Proofs.Ytndebifmimbeaaa
