/- At every argument the program's NetCnf answers as the model's: the law FnExactNetCnf returns true for every net, right or not, leaves it as it was, and what is handed back is memory of its own, clause by clause. No condition (the law itself answers true where the net has more than 1048576 gates). -/
import Derived.Test.YtoglplpchjcpoaaCnQ
import Derived.Test.YtoglplpchjcpoaaMrkN
namespace Go.Proofs.Ytoglplpchjcpoaa
open Go.ChangeShapes Go.WideShapes Go.ChangeAt Go.RowKit Go.Joins
open Go.ChangeMaps (open_string shut_string)
set_option linter.unusedVariables false
theorem laidOut : laidOutB Try.prog = true := by kernel_rfl

namespace exNcn
set_option maxRecDepth 100000 in
set_option maxHeartbeats 4000000 in
theorem walk (mc : Int) (c : Option Addr) (lenc capc : Nat) (Gc : Nat → Gt) (w : World) (wmc : W64 mc) (lcc : lenc ≤ capc) (lnc : lenc ≤ maxLen) (hdc : GtsAt w c lenc Gc) (hwc : WG lenc Gc) :
    Calls Try.prog 3 #[.agg #[.int .i64 mc, .slice c lenc capc]] w fun e w' => e = .returned (.bool true) ∧ Below w.heap.size w w' := by
  have Dc := hdc
  have HDc := hide hdc
  have HW := hide hwc
  have BL : Below w.heap.size w w := Below.refl _ _
  clear hdc hwc
  obtain ⟨M, hM⟩ : ∃ M, M = ncM mc lenc Gc := ⟨_, rfl⟩
  obtain ⟨C, hC⟩ : ∃ C, C = ncL mc lenc Gc := ⟨_, rfl⟩
  have HF : Hid (Few C) := by show Few C; rw [hC]; exact ncL_few _ _ _
  have HM := hide hM
  have HC := hide hC
  clear hM hC
  go_enter Try.func3, Try.ntmps3
  go_wp2_with fail
  obtain ⟨vE, hvE⟩ : ∃ v, v = w.alloc (.cells #[.int .i64 mc, .slice c lenc capc] 24) := ⟨_, rfl⟩
  have bvE : Below w.heap.size w vE := by rw [hvE]; exact (Below.refl _ _).alloc (Nat.le_refl _) _
  have E : NBox vE w.heap.size mc c lenc capc := by rw [hvE]; exact NBox.new _ _ _ _ _ _
  rw [← hvE]
  clear hvE
  replace Dc := Dc.later bvE
  replace BL := BL.trans (bvE.mono BL.size)
  clear bvE
  refine (szNet_any _ _ _ _ 1048576 _ (by omega) (by omega) lnc).mono ?_
  rintro e w2 ⟨⟨zc, rfl, hzc⟩, b2⟩
  replace Dc := Dc.later b2
  replace E := E.later b2
  replace BL := BL.trans (b2.mono BL.size)
  clear b2
  by_cases h0 : 0 ≤ zc
  · have nc : lenc ≤ 1048576 := by rcases hzc with h | h <;> omega
    obtain ⟨E0, E1⟩ := id E
    have El := World.block_lt_of_cell? _ _ E0
    go_wp2_with fail
    clear E0 E1 El
    refine (toNet_any _ _ _ _ _ _ Dc nc).mono ?_
    rintro e w3 ⟨XB, rfl, Xle, X, Xm, b3⟩
    replace Dc := Dc.later b3
    replace E := E.later b3
    replace BL := BL.trans (b3.mono BL.size)
    clear b3
    have Xlt := Xm.1
    clear Xle
    obtain ⟨E0, E1⟩ := id E
    have El := World.block_lt_of_cell? _ _ E0
    go_wp2_with fail
    clear E0 E1 El
    refine (sNetCnf_out mc _ lenc _ Gc _ (X.at Xlt) (unhide HW) nc).mono ?_
    rintro e w4 ⟨⟨aw, nw, cw, Qw, rfl, W, qw, lw, zw⟩, b4⟩
    replace Dc := Dc.later b4
    replace X := X.later b4
    replace Xm := Xm.later b4
    replace E := E.later b4
    replace Xlt := Nat.lt_of_lt_of_le Xlt b4.size
    replace BL := BL.trans (b4.mono BL.size)
    clear b4
    rw [← unhide HC] at qw
    rw [← unhide HM]
    have HQw := hide qw
    clear qw
    clear lw zw
    clear Xm
    clear X Xlt
    have WU := W.up
    have eb := World.block_lt_of_cell? _ _ E.1
    simp only at eb
    obtain ⟨E0, E1⟩ := id E
    have El := World.block_lt_of_cell? _ _ E0
    go_wp2_with fail
    clear E0 E1 El
    obtain ⟨vV, hvV⟩ : ∃ v, v = w4.alloc (.cells #[.int .i64 M, .slice aw nw cw] 28) := ⟨_, rfl⟩
    have bvV : Below w4.heap.size w4 vV := by rw [hvV]; exact (Below.refl _ _).alloc (Nat.le_refl _) _
    have V : NBox vV w4.heap.size M aw nw cw := by rw [hvV]; exact NBox.new _ _ _ _ _ _
    rw [← hvV]
    clear hvV
    replace Dc := Dc.later bvV
    replace W := W.later bvV
    replace E := E.later bvV
    replace BL := BL.trans (bvV.mono BL.size)
    clear bvV
    have vb : w4.heap.size < vV.heap.size := by have := World.block_lt_of_cell? _ _ V.1; simpa using this
    refine (toNet_any _ _ _ _ _ _ Dc nc).mono ?_
    rintro e w5 ⟨ZB, rfl, Zle, Z, Zm, b5⟩
    replace Dc := Dc.later b5
    replace W := W.later b5
    replace E := E.later b5
    replace V := V.later b5
    replace BL := BL.trans (b5.mono BL.size)
    clear b5
    have Zlt := Zm.1
    have zt : ZB < w5.heap.size := Zm.1
    obtain ⟨E0, E1⟩ := id E
    have El := World.block_lt_of_cell? _ _ E0
    obtain ⟨V0, V1⟩ := id V
    have Vl := World.block_lt_of_cell? _ _ V0
    go_wp2_with fail
    clear E0 E1 El
    clear V0 V1 Vl
    obtain ⟨vR, hvR⟩ : ∃ v, v = w5.alloc (.cells #[.int .i64 mc, .slice (some ⟨ZB, 0, none⟩) lenc lenc] 32) := ⟨_, rfl⟩
    have bvR : Below w5.heap.size w5 vR := by rw [hvR]; exact (Below.refl _ _).alloc (Nat.le_refl _) _
    have R : NBox vR w5.heap.size mc (some ⟨ZB, 0, none⟩) lenc lenc := by rw [hvR]; exact NBox.new _ _ _ _ _ _
    have sR : vR.heap.size ≤ w5.heap.size + 1 := by rw [hvR]; simp
    rw [← hvR]
    clear hvR
    replace Dc := Dc.later bvR
    replace W := W.later bvR
    replace Z := Z.later bvR
    replace Zm := Zm.later bvR
    replace E := E.later bvR
    replace V := V.later bvR
    replace Zlt := Nat.lt_of_lt_of_le Zlt bvR.size
    replace BL := BL.trans (bvR.mono BL.size)
    clear bvR
    have zr : w5.heap.size < vR.heap.size := by have := World.block_lt_of_cell? _ _ R.1; simpa using this
    refine (iNetCnf_out mc _ lenc _ Gc _ (Z.at Zlt) (unhide HW) nc).mono ?_
    rintro e w6 ⟨⟨ag, ng, cg, Qg, rfl, K, qg, lg, zg⟩, b6⟩
    replace Dc := Dc.later b6
    replace W := W.later b6
    replace Z := Z.later b6
    replace Zm := Zm.later b6
    replace E := E.later b6
    replace V := V.later b6
    replace R := R.later b6
    replace Zlt := Nat.lt_of_lt_of_le Zlt b6.size
    replace BL := BL.trans (b6.mono BL.size)
    clear b6
    rw [← unhide HC] at qg
    rw [← unhide HM]
    have HQg := hide qg
    clear qg
    have HLg := hide lg
    have HZg := hide zg
    clear lg zg
    have KU := K.up
    have kz : decide (1 + (sumL Qg ng : Int) < 0) = false := by simp; omega
    have kq : ((1 + (sumL Qg ng : Int)) != (1 + (sumL Qg ng : Int))) = false := by simp
    have rq := World.block_lt_of_cell? _ _ R.1
    simp only at rq
    have kl := Nat.le_refl w6.heap.size
    obtain ⟨E0, E1⟩ := id E
    have El := World.block_lt_of_cell? _ _ E0
    obtain ⟨V0, V1⟩ := id V
    have Vl := World.block_lt_of_cell? _ _ V0
    obtain ⟨R0, R1⟩ := id R
    have Rl := World.block_lt_of_cell? _ _ R0
    go_wp2_with fail
    clear E0 E1 El
    clear V0 V1 Vl
    clear R0 R1 Rl
    obtain ⟨vQ, hvQ⟩ : ∃ v, v = w6.alloc (.cells #[.int .i64 M, .slice ag ng cg] 28) := ⟨_, rfl⟩
    have bvQ : Below w6.heap.size w6 vQ := by rw [hvQ]; exact (Below.refl _ _).alloc (Nat.le_refl _) _
    have Q : NBox vQ w6.heap.size M ag ng cg := by rw [hvQ]; exact NBox.new _ _ _ _ _ _
    rw [← hvQ]
    clear hvQ
    replace Dc := Dc.later bvQ
    replace W := W.later bvQ
    replace Z := Z.later bvQ
    replace Zm := Zm.later bvQ
    replace K := K.later bvQ
    replace E := E.later bvQ
    replace V := V.later bvQ
    replace R := R.later bvQ
    replace Zlt := Nat.lt_of_lt_of_le Zlt bvQ.size
    replace BL := BL.trans (bvQ.mono BL.size)
    clear bvQ
    refine (eqCnfO_any M _ _ _ _ _ _ _ _ _ _ C _ K W (unhide HQg) (unhide HQw) (unhide HF)).mono ?_
    rintro e w7 ⟨rfl, b7⟩
    replace Dc := Dc.later b7
    replace W := W.later b7
    replace Z := Z.later b7
    replace Zm := Zm.later b7
    replace K := K.later b7
    replace E := E.later b7
    replace V := V.later b7
    replace R := R.later b7
    replace Q := Q.later b7
    replace Zlt := Nat.lt_of_lt_of_le Zlt b7.size
    replace BL := BL.trans (b7.mono BL.size)
    clear b7
    obtain ⟨E0, E1⟩ := id E
    have El := World.block_lt_of_cell? _ _ E0
    obtain ⟨V0, V1⟩ := id V
    have Vl := World.block_lt_of_cell? _ _ V0
    obtain ⟨R0, R1⟩ := id R
    have Rl := World.block_lt_of_cell? _ _ R0
    obtain ⟨Q0, Q1⟩ := id Q
    have Ql := World.block_lt_of_cell? _ _ Q0
    go_wp2
    go_region_held3 (fun w' => w'.cell? ⟨w.heap.size, 0, none⟩ = some (.int .i64 mc) ∧ w'.cell? ⟨w.heap.size, 1, none⟩ = some (.slice c lenc capc) ∧ w'.cell? ⟨w5.heap.size, 0, none⟩ = some (.int .i64 mc) ∧ w'.cell? ⟨w5.heap.size, 1, none⟩ = some (.slice (some ⟨ZB, 0, none⟩) lenc lenc)) (first | go_keep | exact ⟨E0, E1, R0, R1⟩)
      (first | (go_at_call 6; refine (toNet_any _ _ _ _ _ _ (by first | exact Dc | exact Dc.drew | exact Dc.drew.drew) nc).mono ?_; rintro e wq ⟨Bq, rfl, leq, Xq, mq, bq⟩; have ltq := mq.1; have Dc := GtsAt.later (by first | exact Dc | exact Dc.drew | exact Dc.drew.drew) bq; have W := CwO.later (by first | exact W | exact W.drew | exact W.drew.drew) bq; have Z := Gts.later (by first | exact Z | exact Z.drew | exact Z.drew.drew) bq; have Zm := Made.later (by first | exact Zm | exact Zm.drew | exact Zm.drew.drew) bq; have K := CwO.later (by first | exact K | exact K.drew | exact K.drew.drew) bq; have E := NBox.later (by first | exact E | exact E.drew | exact E.drew.drew) bq; have V := NBox.later (by first | exact V | exact V.drew | exact V.drew.drew) bq; have R := NBox.later (by first | exact R | exact R.drew | exact R.drew.drew) bq; have Q := NBox.later (by first | exact Q | exact Q.drew | exact Q.drew.drew) bq; have E0 := E.1; have E1 := E.2; have V0 := V.1; have V1 := V.2; have R0 := R.1; have R1 := R.2; have Q0 := Q.1; have Q1 := Q.2; have Zlt := Nat.lt_of_lt_of_le (by exact Zlt) bq.size; have BL := (by first | exact BL.trans (bq.mono BL.size) | exact BL.drew.trans (bq.mono BL.size) | exact BL.drew.drew.trans (bq.mono BL.size))) | (go_at_call 9; refine (eqNet_same _ _ _ _ _ _ _ _ (Gts.at (by first | exact Z | exact Z.drew | exact Z.drew.drew) (by exact Zlt)) (Gts.at (by first | exact Xq | exact Xq.drew | exact Xq.drew.drew) (by exact ltq)) nc).mono ?_; rintro e wp ⟨rfl, bp⟩; have Dc := GtsAt.later (by first | exact Dc | exact Dc.drew | exact Dc.drew.drew) bp; have W := CwO.later (by first | exact W | exact W.drew | exact W.drew.drew) bp; have Z := Gts.later (by first | exact Z | exact Z.drew | exact Z.drew.drew) bp; have Zm := Made.later (by first | exact Zm | exact Zm.drew | exact Zm.drew.drew) bp; have K := CwO.later (by first | exact K | exact K.drew | exact K.drew.drew) bp; have E := NBox.later (by first | exact E | exact E.drew | exact E.drew.drew) bp; have V := NBox.later (by first | exact V | exact V.drew | exact V.drew.drew) bp; have R := NBox.later (by first | exact R | exact R.drew | exact R.drew.drew) bp; have Q := NBox.later (by first | exact Q | exact Q.drew | exact Q.drew.drew) bp; have E0 := E.1; have E1 := E.2; have V0 := V.1; have V1 := V.2; have R0 := R.1; have R1 := R.2; have Q0 := Q.1; have Q1 := Q.2; have Zlt := Nat.lt_of_lt_of_le (by exact Zlt) bp.size; have BL := (by first | exact BL.trans (bp.mono BL.size) | exact BL.drew.trans (bp.mono BL.size) | exact BL.drew.drew.trans (bp.mono BL.size))))
    all_goals
      clear E0 E1 R0 R1 V0 V1 Q0 Q1
      (try clear El Rl Vl Ql)
      replace K := (by exact K : CwO _ _ ag ng cg Qg)
      replace W := (by exact W : CwO _ _ aw nw cw Qw)
      obtain ⟨E0, E1⟩ := id E
      have El := World.block_lt_of_cell? _ _ E0
      obtain ⟨V0, V1⟩ := id V
      have Vl := World.block_lt_of_cell? _ _ V0
      obtain ⟨R0, R1⟩ := id R
      have Rl := World.block_lt_of_cell? _ _ R0
      obtain ⟨Q0, Q1⟩ := id Q
      have Ql := World.block_lt_of_cell? _ _ Q0
      go_wp2_with fail
      clear E0 E1 El
      clear V0 V1 Vl
      clear R0 R1 Rl
      clear Q0 Q1 Ql
      refine (markNet_any 1 _ _ _ _ ZB _ (by omega) (Or.inr ⟨ZB, rfl, Nat.le_refl _, Zm⟩) nc (by omega)).mono ?_
      rintro e wm ⟨rfl, _, _, _, vm, _⟩
      have rm := Rng.mov (lo := ZB) (hi := ZB + 1) (vm ZB rfl) (Nat.le_refl _) (by omega)
      clear vm
      replace BL := BL.trans (rm.below (by omega) BL.size)
      replace Dc := (unhide HDc).later BL
      replace E := E.rng rm (Or.inl (by omega))
      replace V := V.rng rm (Or.inl (by omega))
      replace W := W.low (WU.mono (by omega)) rm
      replace Q := Q.rng rm (Or.inr (by omega))
      replace K := K.high rm (by omega)
      clear rm Z Zm Zlt R
      obtain ⟨E0, E1⟩ := id E
      have El := World.block_lt_of_cell? _ _ E0
      obtain ⟨V0, V1⟩ := id V
      have Vl := World.block_lt_of_cell? _ _ V0
      obtain ⟨Q0, Q1⟩ := id Q
      have Ql := World.block_lt_of_cell? _ _ Q0
      go_wp2_with fail
      clear E0 E1 El
      clear V0 V1 Vl
      clear Q0 Q1 Ql
      refine (eqCnfO_any M _ _ _ _ _ _ _ _ _ _ C _ K W (unhide HQg) (unhide HQw) (unhide HF)).mono ?_
      rintro e w8 ⟨rfl, b8⟩
      replace Dc := Dc.later b8
      replace W := W.later b8
      replace K := K.later b8
      replace E := E.later b8
      replace V := V.later b8
      replace Q := Q.later b8
      replace BL := BL.trans (b8.mono BL.size)
      clear b8
      obtain ⟨E0, E1⟩ := id E
      have El := World.block_lt_of_cell? _ _ E0
      obtain ⟨V0, V1⟩ := id V
      have Vl := World.block_lt_of_cell? _ _ V0
      obtain ⟨Q0, Q1⟩ := id Q
      have Ql := World.block_lt_of_cell? _ _ Q0
      go_wp2_with fail
      clear E0 E1 El
      clear V0 V1 Vl
      clear Q0 Q1 Ql
      refine (markO_any M _ w6.heap.size _ _ _ _ C _ K KU (unhide HQg) (unhide HF)).mono ?_
      rintro e wo ⟨rfl, KH, ro⟩
      clear K
      replace BL := BL.trans (ro.below (by omega) BL.size)
      replace Dc := (unhide HDc).later BL
      replace E := E.rng ro (Or.inl (by omega))
      replace V := V.rng ro (Or.inl (by omega))
      replace W := W.low (WU.mono (by omega)) ro
      replace Q := Q.rng ro (Or.inr (by omega))
      clear ro
      obtain ⟨E0, E1⟩ := id E
      have El := World.block_lt_of_cell? _ _ E0
      obtain ⟨V0, V1⟩ := id V
      have Vl := World.block_lt_of_cell? _ _ V0
      obtain ⟨Q0, Q1⟩ := id Q
      have Ql := World.block_lt_of_cell? _ _ Q0
      go_wp2_with fail
      clear E0 E1 El
      clear V0 V1 Vl
      clear Q0 Q1 Ql
      refine (heldO_any M _ _ _ _ C _ KH (unhide HLg) (unhide HZg) (unhide HQg) (unhide HF)).mono ?_
      rintro e w9 ⟨rfl, b9⟩
      replace Dc := Dc.later b9
      replace W := W.later b9
      replace KH := KH.later b9
      replace E := E.later b9
      replace V := V.later b9
      replace Q := Q.later b9
      replace BL := BL.trans (b9.mono BL.size)
      clear b9
      obtain ⟨E0, E1⟩ := id E
      have El := World.block_lt_of_cell? _ _ E0
      obtain ⟨V0, V1⟩ := id V
      have Vl := World.block_lt_of_cell? _ _ V0
      obtain ⟨Q0, Q1⟩ := id Q
      have Ql := World.block_lt_of_cell? _ _ Q0
      go_wp2_with fail
      clear E0 E1 El
      clear V0 V1 Vl
      clear Q0 Q1 Ql
      refine (toNet_any _ _ _ _ _ _ Dc nc).mono ?_
      rintro e w10 ⟨YB, rfl, Yle, Y, Ym, b10⟩
      replace Dc := Dc.later b10
      replace W := W.later b10
      replace KH := KH.later b10
      replace E := E.later b10
      replace V := V.later b10
      replace Q := Q.later b10
      replace BL := BL.trans (b10.mono BL.size)
      clear b10
      have Ylt := Ym.1
      clear Yle
      obtain ⟨E0, E1⟩ := id E
      have El := World.block_lt_of_cell? _ _ E0
      obtain ⟨V0, V1⟩ := id V
      have Vl := World.block_lt_of_cell? _ _ V0
      obtain ⟨Q0, Q1⟩ := id Q
      have Ql := World.block_lt_of_cell? _ _ Q0
      go_wp2_with fail
      clear E0 E1 El
      clear V0 V1 Vl
      clear Q0 Q1 Ql
      refine (iNetCnf_out mc _ lenc _ Gc _ (Y.at Ylt) (unhide HW) nc).mono ?_
      rintro e w11 ⟨⟨ah, nh, ch, Qh, rfl, H1, qh, lh, zh⟩, b11⟩
      replace Dc := Dc.later b11
      replace W := W.later b11
      replace KH := KH.later b11
      replace Y := Y.later b11
      replace Ym := Ym.later b11
      replace E := E.later b11
      replace V := V.later b11
      replace Q := Q.later b11
      replace Ylt := Nat.lt_of_lt_of_le Ylt b11.size
      replace BL := BL.trans (b11.mono BL.size)
      clear b11
      rw [← unhide HC] at qh
      rw [← unhide HM]
      have HQh := hide qh
      clear qh
      clear lh zh
      clear Ym
      clear Y Ylt
      obtain ⟨E0, E1⟩ := id E
      have El := World.block_lt_of_cell? _ _ E0
      obtain ⟨V0, V1⟩ := id V
      have Vl := World.block_lt_of_cell? _ _ V0
      obtain ⟨Q0, Q1⟩ := id Q
      have Ql := World.block_lt_of_cell? _ _ Q0
      go_wp2_with fail
      clear E0 E1 El
      clear V0 V1 Vl
      clear Q0 Q1 Ql
      obtain ⟨vT, hvT⟩ : ∃ v, v = w11.alloc (.cells #[.int .i64 M, .slice ah nh ch] 28) := ⟨_, rfl⟩
      have bvT : Below w11.heap.size w11 vT := by rw [hvT]; exact (Below.refl _ _).alloc (Nat.le_refl _) _
      have T : NBox vT w11.heap.size M ah nh ch := by rw [hvT]; exact NBox.new _ _ _ _ _ _
      rw [← hvT]
      clear hvT
      replace Dc := Dc.later bvT
      replace W := W.later bvT
      replace KH := KH.later bvT
      replace H1 := H1.later bvT
      replace E := E.later bvT
      replace V := V.later bvT
      replace Q := Q.later bvT
      replace BL := BL.trans (bvT.mono BL.size)
      clear bvT
      refine (eqCnfO_any M _ _ _ _ _ _ _ _ _ _ C _ H1 W (unhide HQh) (unhide HQw) (unhide HF)).mono ?_
      rintro e w12 ⟨rfl, b12⟩
      replace Dc := Dc.later b12
      replace W := W.later b12
      replace KH := KH.later b12
      replace H1 := H1.later b12
      replace E := E.later b12
      replace V := V.later b12
      replace Q := Q.later b12
      replace T := T.later b12
      replace BL := BL.trans (b12.mono BL.size)
      clear b12
      obtain ⟨E0, E1⟩ := id E
      have El := World.block_lt_of_cell? _ _ E0
      obtain ⟨V0, V1⟩ := id V
      have Vl := World.block_lt_of_cell? _ _ V0
      obtain ⟨Q0, Q1⟩ := id Q
      have Ql := World.block_lt_of_cell? _ _ Q0
      obtain ⟨T0, T1⟩ := id T
      have Tl := World.block_lt_of_cell? _ _ T0
      go_wp2_with fail
      clear E0 E1 El
      clear V0 V1 Vl
      clear Q0 Q1 Ql
      clear T0 T1 Tl
      refine (heldO_any M _ _ _ _ C _ KH (unhide HLg) (unhide HZg) (unhide HQg) (unhide HF)).mono ?_
      rintro e w13 ⟨rfl, b13⟩
      replace Dc := Dc.later b13
      replace W := W.later b13
      replace KH := KH.later b13
      replace H1 := H1.later b13
      replace E := E.later b13
      replace V := V.later b13
      replace Q := Q.later b13
      replace T := T.later b13
      replace BL := BL.trans (b13.mono BL.size)
      clear b13
      go_wp2
      go_ret
      exact ⟨rfl, BL⟩
  · go_wp2
    go_ret
    exact ⟨rfl, BL⟩

set_option maxRecDepth 100000 in
theorem lifted (os : Os) (started : os.Started) (H : Type) (enc : TypeId × Value → H) :
    ReturnsInHanded {} Try.checked os 3 .any (Rows.fnExactNetCnfSpec.pre6 enc Try.prog Try.f3 Rows.fnExactNetCnfRow.domain false) (Rows.fnExactNetCnfSpec.post enc Try.prog Try.f3 false true false false) := by
  refine returnsInHanded_of_change (C := Try.checked) own started (by kernel_rfl) Try.func3
    (ChangeSpec.witness6 (enc := enc) (C := Try.checked) false ⟨#[], #[.agg #[.int .i64 0, .slice none 0 0]], []⟩ 8 (by kernel_rfl) (by kernel_rfl) (by kernel_rfl) (by kernel_rfl)) ?_
  intro W base args ds gs before hval0 hW hcnd _
  have hval : ∀ (j : Nat) t v, Try.f3.params[j]? = some t → args[j]? = some v → Value.okWide Try.prog W .any base t v := hval0
  have hW' := hW
  obtain ⟨p, q, hA0, hV, rfl, hfz, hnd⟩ := hW
  have hA : DataW.TrodAll enc Try.prog W 0 (fun _ => true) true Try.f3.params.toList args.toList ds p := hA0
  rw [Try.params3] at hA hval
  obtain ⟨v0, vs0, d0, ds0, p0, q0, hargs, rfl, rfl, h0, r0⟩ := trodAll_cons hA
  obtain ⟨rfl, rfl, rfl⟩ := trodAll_nil r0
  obtain rfl : args = #[v0] := by cases args; simp_all
  obtain ⟨rfl, rfl⟩ := trodVars_none hV
  have k0 := h0
  have lt0 : ∀ x ∈ p0, x.block < W.heap.size := by obtain ⟨m, hm⟩ := k0; exact DataW.trod_lt m _ _ _ hm
  obtain ⟨mc, c, lenc, capc, Gc, rfl, wmc, lcc, lnc, hdc, hwc⟩ := net_in (hval 0 24 v0 rfl rfl) h0
  clear hA0 hval0
  refine (walk mc c lenc capc Gc W wmc lcc lnc hdc hwc).mono fun e W' ⟨he, bel⟩ => ?_
  subst he
  exact ⟨_, rfl, _, _, _, [], _, [], hW', trodAll_mk1 (shut_bool Try.underlying4 _), (trodAll_cons_mk (Below.trod laidOut (by kernel_rfl) (of_decide_eq_true (by kernel_rfl)) k0 bel lt0) trodAll_mk0), rfl, bel.frame _, fun h => by cases h⟩

theorem over : Rows.fnExactNetCnfRow.holds Try.pinned (OpenSpec.ofChange Rows.fnExactNetCnfSpec) :=
  OpenClaim.holds_of_wide 3 Try.f3 rfl rfl rfl rfl rfl rfl rfl ⟨rfl, rfl, rfl, rfl, rfl⟩ rfl rfl rfl rfl rfl (by kernel_rfl) Try.func3 (by kernel_rfl)
    (of_decide_eq_true (by kernel_rfl)) (by unfold Func.isWrapper; first | (rw [if_pos (by decide +kernel)]; kernel_rfl) | (rw [if_neg (by decide +kernel)]; exact ⟨rfl, rfl⟩))
    (fun os started H enc _ => lifted os started H enc)
end exNcn

theorem exNcn_holds : Rows.FnExactNetCnfSaid := exNcn.over
#print axioms exNcn_holds
end Go.Proofs.Ytoglplpchjcpoaa
