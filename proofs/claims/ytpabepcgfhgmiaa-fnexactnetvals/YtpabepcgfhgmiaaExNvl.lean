/- At every argument the program's NetVals answers as the model's: the law FnExactNetVals returns true for every net and every list of what comes in, right or not, leaves them as they were, and what is handed back is memory of its own. No condition (the law itself answers true where the list has more than 1048576 entries, or the net more gates). -/
import Derived.Test.YtpabepcgfhgmiaaNvC
import Derived.Test.YtpabepcgfhgmiaaMrkN
namespace Go.Proofs.Ytpabepcgfhgmiaa
open Go.ChangeShapes Go.WideShapes Go.ChangeAt Go.RowKit Go.Joins
open Go.ChangeMaps (open_string shut_string)
set_option linter.unusedVariables false
theorem laidOut : laidOutB Try.prog = true := by kernel_rfl

namespace exNvl
set_option maxRecDepth 100000 in
set_option maxHeartbeats 1500000 in
theorem walk (mc : Int) (c : Option Addr) (lenc capc : Nat) (Gc : Nat → Gt) (v : Option Addr) (lenv capv : Nat) (Vv : Nat → Bool) (w : World) (wmc : W64 mc) (lcc : lenc ≤ capc) (lnc : lenc ≤ maxLen) (hdc : GtsAt w c lenc Gc) (hwc : WG lenc Gc) (hdv : BlsAt w v lenv Vv) (lcv : lenv ≤ capv) (lnv : lenv ≤ maxLen) :
    Calls Try.prog 5 #[.agg #[.int .i64 mc, .slice c lenc capc], .slice v lenv capv] w fun e w' => e = .returned (.bool true) ∧ Below w.heap.size w w' := by
  by_cases hv : lenv ≤ 1048576
  · have Dc := hdc
    have Dv := hdv
    have HDc := hide hdc
    have HDv := hide hdv
    have HW := hide hwc
    have BL : Below w.heap.size w w := Below.refl _ _
    clear hdc hdv hwc
    obtain ⟨I, hIe⟩ : ∃ I, I = lst lenv Vv := ⟨_, rfl⟩
    have hI : I.length = lenv := by rw [hIe]; exact lst_len _ _
    have HI : Hid (∀ i, i < lenv → Vv i = atB I i) := fun i hi => by rw [hIe]; exact (lst_at hi).symm
    clear hIe
    obtain ⟨Lo, hLo⟩ : ∃ L, L = nvL mc lenc Gc I := ⟨_, rfl⟩
    have hl : Lo.length ≤ 1048576 := by rw [hLo]; have := nvL_le (m := mc) (n := lenc) (G := Gc) (I := I); omega
    have HLo := hide hLo
    clear hLo
    obtain ⟨ln, hln⟩ : ∃ l, l = Lo.length := ⟨_, rfl⟩
    rw [← hln] at hl
    have HLN := hide hln
    clear hln
    have kq : (((1 + ln : Nat) : Int) != ((1 + ln : Nat) : Int)) = false := by simp
    go_enter Try.func5, Try.ntmps5
    go_wp2_with fail
    obtain ⟨vE, hvE⟩ : ∃ v, v = w.alloc (.cells #[.int .i64 mc, .slice c lenc capc] 24) := ⟨_, rfl⟩
    have bvE : Below w.heap.size w vE := by rw [hvE]; exact (Below.refl _ _).alloc (Nat.le_refl _) _
    have E : NBox vE w.heap.size mc c lenc capc := by rw [hvE]; exact NBox.new _ _ _ _ _ _
    rw [← hvE]
    clear hvE
    replace Dc := Dc.later bvE
    replace Dv := Dv.later bvE
    replace BL := BL.trans (bvE.mono BL.size)
    clear bvE
    refine (szNet_any _ _ _ _ 1048576 _ (by omega) (by omega) lnc).mono ?_
    rintro e w2 ⟨⟨zc, rfl, hzc⟩, b2⟩
    replace Dc := Dc.later b2
    replace Dv := Dv.later b2
    replace E := E.later b2
    replace BL := BL.trans (b2.mono BL.size)
    clear b2
    by_cases h0 : 0 ≤ zc
    · have nc : lenc ≤ 1048576 := by rcases hzc with h | h <;> omega
      obtain ⟨E0, E1⟩ := id E
      have El := World.block_lt_of_cell? _ _ E0
      go_wp2_with fail
      clear E0 E1 El
      refine (toNet_any _ _ _ _ _ _ Dc nc).mono ?_
      rintro e w3 ⟨XB, rfl, Xle, X, Xm, b3⟩
      replace Dc := Dc.later b3
      replace Dv := Dv.later b3
      replace E := E.later b3
      replace BL := BL.trans (b3.mono BL.size)
      clear b3
      have Xlt := Xm.1
      clear Xle
      obtain ⟨E0, E1⟩ := id E
      have El := World.block_lt_of_cell? _ _ E0
      go_wp2_with fail
      clear E0 E1 El
      refine (toBoolS_any _ _ _ _ _ Dv hv).mono ?_
      rintro e w4 ⟨rfl, U, Ult, b4⟩
      replace Dc := Dc.later b4
      replace Dv := Dv.later b4
      replace X := X.later b4
      replace Xm := Xm.later b4
      replace E := E.later b4
      replace Xlt := Nat.lt_of_lt_of_le Xlt b4.size
      replace BL := BL.trans (b4.mono BL.size)
      clear b4
      obtain ⟨E0, E1⟩ := id E
      have El := World.block_lt_of_cell? _ _ E0
      go_wp2_with fail
      clear E0 E1 El
      refine (sNetVals_any _ _ _ _ _ I _ _ _ _ _ (X.at Xlt) (unhide HW) nc hv hI Ult (U.cong (unhide HI))).mono ?_
      rintro e w5 ⟨⟨aw, cw, rfl, W⟩, b5⟩
      replace Dc := Dc.later b5
      replace Dv := Dv.later b5
      replace X := X.later b5
      replace Xm := Xm.later b5
      replace U := U.later b5
      replace E := E.later b5
      replace Xlt := Nat.lt_of_lt_of_le Xlt b5.size
      replace Ult := Nat.lt_of_lt_of_le Ult b5.size
      replace BL := BL.trans (b5.mono BL.size)
      clear b5
      rw [← unhide HLo, ← unhide HLN] at W
      rw [← unhide HLo, ← unhide HLN]
      clear Xm
      clear X Xlt
      clear U Ult
      have WU := W.up
      have eb := World.block_lt_of_cell? _ _ E.1
      simp only at eb
      obtain ⟨E0, E1⟩ := id E
      have El := World.block_lt_of_cell? _ _ E0
      go_wp2_with fail
      clear E0 E1 El
      refine (toNet_any _ _ _ _ _ _ Dc nc).mono ?_
      rintro e w6 ⟨ZB, rfl, Zle, Z, Zm, b6⟩
      replace Dc := Dc.later b6
      replace Dv := Dv.later b6
      replace W := W.later b6
      replace E := E.later b6
      replace BL := BL.trans (b6.mono BL.size)
      clear b6
      have Zlt := Zm.1
      have zb : w.heap.size < ZB := by omega
      clear eb
      have zt : ZB < w6.heap.size := Zm.1
      have wz := Zle
      obtain ⟨E0, E1⟩ := id E
      have El := World.block_lt_of_cell? _ _ E0
      go_wp2_with fail
      clear E0 E1 El
      obtain ⟨vR, hvR⟩ : ∃ v, v = w6.alloc (.cells #[.int .i64 mc, .slice (some ⟨ZB, 0, none⟩) lenc lenc] 29) := ⟨_, rfl⟩
      have bvR : Below w6.heap.size w6 vR := by rw [hvR]; exact (Below.refl _ _).alloc (Nat.le_refl _) _
      have R : NBox vR w6.heap.size mc (some ⟨ZB, 0, none⟩) lenc lenc := by rw [hvR]; exact NBox.new _ _ _ _ _ _
      rw [← hvR]
      clear hvR
      replace Dc := Dc.later bvR
      replace Dv := Dv.later bvR
      replace W := W.later bvR
      replace Z := Z.later bvR
      replace Zm := Zm.later bvR
      replace E := E.later bvR
      replace Zlt := Nat.lt_of_lt_of_le Zlt bvR.size
      replace BL := BL.trans (bvR.mono BL.size)
      clear bvR
      have zr : w6.heap.size < vR.heap.size := by have := World.block_lt_of_cell? _ _ R.1; simpa using this
      refine (toBoolS_made _ _ _ _ _ Dv hv).mono ?_
      rintro e w7 ⟨rfl, T, Tm, b7⟩
      replace Dc := Dc.later b7
      replace Dv := Dv.later b7
      replace W := W.later b7
      replace Z := Z.later b7
      replace Zm := Zm.later b7
      replace E := E.later b7
      replace R := R.later b7
      replace Zlt := Nat.lt_of_lt_of_le Zlt b7.size
      replace BL := BL.trans (b7.mono BL.size)
      clear b7
      have Tlt := Tm.1
      have tk : vR.heap.size < w7.heap.size := Tm.1
      obtain ⟨E0, E1⟩ := id E
      have El := World.block_lt_of_cell? _ _ E0
      obtain ⟨R0, R1⟩ := id R
      have Rl := World.block_lt_of_cell? _ _ R0
      go_wp2_with fail
      clear E0 E1 El
      clear R0 R1 Rl
      refine (iNetVals_any _ _ _ _ _ I _ _ _ _ _ (Z.at Zlt) (unhide HW) nc hv hI Tlt (T.cong (unhide HI))).mono ?_
      rintro e w8 ⟨⟨ag, cg, rfl, K, KO⟩, b8⟩
      replace Dc := Dc.later b8
      replace Dv := Dv.later b8
      replace W := W.later b8
      replace Z := Z.later b8
      replace Zm := Zm.later b8
      replace T := T.later b8
      replace Tm := Tm.later b8
      replace E := E.later b8
      replace R := R.later b8
      replace Zlt := Nat.lt_of_lt_of_le Zlt b8.size
      replace Tlt := Nat.lt_of_lt_of_le Tlt b8.size
      replace BL := BL.trans (b8.mono BL.size)
      clear b8
      rw [← unhide HLo, ← unhide HLN] at K KO
      rw [← unhide HLo, ← unhide HLN]
      obtain ⟨E0, E1⟩ := id E
      have El := World.block_lt_of_cell? _ _ E0
      obtain ⟨R0, R1⟩ := id R
      have Rl := World.block_lt_of_cell? _ _ R0
      go_wp2_with fail
      clear E0 E1 El
      clear R0 R1 Rl
      refine (eqBoolS_same _ _ _ _ _ _ _ K W hl).mono ?_
      rintro e w9 ⟨rfl, b9⟩
      replace Dc := Dc.later b9
      replace Dv := Dv.later b9
      replace W := W.later b9
      replace Z := Z.later b9
      replace Zm := Zm.later b9
      replace T := T.later b9
      replace Tm := Tm.later b9
      replace K := K.later b9
      replace KO := KO.later b9
      replace E := E.later b9
      replace R := R.later b9
      replace Zlt := Nat.lt_of_lt_of_le Zlt b9.size
      replace Tlt := Nat.lt_of_lt_of_le Tlt b9.size
      replace BL := BL.trans (b9.mono BL.size)
      clear b9
      obtain ⟨E0, E1⟩ := id E
      have El := World.block_lt_of_cell? _ _ E0
      obtain ⟨R0, R1⟩ := id R
      have Rl := World.block_lt_of_cell? _ _ R0
      go_wp2
      go_region_held3 (fun w' => w'.cell? ⟨w.heap.size, 0, none⟩ = some (.int .i64 mc) ∧ w'.cell? ⟨w.heap.size, 1, none⟩ = some (.slice c lenc capc) ∧ w'.cell? ⟨w6.heap.size, 0, none⟩ = some (.int .i64 mc) ∧ w'.cell? ⟨w6.heap.size, 1, none⟩ = some (.slice (some ⟨ZB, 0, none⟩) lenc lenc)) (first | go_keep | exact ⟨E0, E1, R0, R1⟩)
        (first | (go_at_call 9; refine (toNet_any _ _ _ _ _ _ (by first | exact Dc | exact Dc.drew | exact Dc.drew.drew) nc).mono ?_; rintro e wq ⟨Bq, rfl, leq, Xq, mq, bq⟩; have ltq := mq.1; have Dc := GtsAt.later (by first | exact Dc | exact Dc.drew | exact Dc.drew.drew) bq; have Dv := BlsAt.later (by first | exact Dv | exact Dv.drew | exact Dv.drew.drew) bq; have W := BlsAt.later (by first | exact W | exact W.drew | exact W.drew.drew) bq; have Z := Gts.later (by first | exact Z | exact Z.drew | exact Z.drew.drew) bq; have Zm := Made.later (by first | exact Zm | exact Zm.drew | exact Zm.drew.drew) bq; have T := Bls.later (by first | exact T | exact T.drew | exact T.drew.drew) bq; have Tm := Made.later (by first | exact Tm | exact Tm.drew | exact Tm.drew.drew) bq; have K := BlsAt.later (by first | exact K | exact K.drew | exact K.drew.drew) bq; have KO := OwnB.later (by first | exact KO | exact KO.drew | exact KO.drew.drew) bq; have E := NBox.later (by first | exact E | exact E.drew | exact E.drew.drew) bq; have R := NBox.later (by first | exact R | exact R.drew | exact R.drew.drew) bq; have E0 := E.1; have E1 := E.2; have R0 := R.1; have R1 := R.2; have Zlt := Nat.lt_of_lt_of_le (by exact Zlt) bq.size; have Tlt := Nat.lt_of_lt_of_le (by exact Tlt) bq.size; have BL := (by first | exact BL.trans (bq.mono BL.size) | exact BL.drew.trans (bq.mono BL.size) | exact BL.drew.drew.trans (bq.mono BL.size))) | (go_at_call 11; refine (eqNet_same _ _ _ _ _ _ _ _ (Gts.at (by first | exact Z | exact Z.drew | exact Z.drew.drew) (by exact Zlt)) (Gts.at (by first | exact Xq | exact Xq.drew | exact Xq.drew.drew) (by exact ltq)) nc).mono ?_; rintro e wp ⟨rfl, bp⟩; have Dc := GtsAt.later (by first | exact Dc | exact Dc.drew | exact Dc.drew.drew) bp; have Dv := BlsAt.later (by first | exact Dv | exact Dv.drew | exact Dv.drew.drew) bp; have W := BlsAt.later (by first | exact W | exact W.drew | exact W.drew.drew) bp; have Z := Gts.later (by first | exact Z | exact Z.drew | exact Z.drew.drew) bp; have Zm := Made.later (by first | exact Zm | exact Zm.drew | exact Zm.drew.drew) bp; have T := Bls.later (by first | exact T | exact T.drew | exact T.drew.drew) bp; have Tm := Made.later (by first | exact Tm | exact Tm.drew | exact Tm.drew.drew) bp; have K := BlsAt.later (by first | exact K | exact K.drew | exact K.drew.drew) bp; have KO := OwnB.later (by first | exact KO | exact KO.drew | exact KO.drew.drew) bp; have E := NBox.later (by first | exact E | exact E.drew | exact E.drew.drew) bp; have R := NBox.later (by first | exact R | exact R.drew | exact R.drew.drew) bp; have E0 := E.1; have E1 := E.2; have R0 := R.1; have R1 := R.2; have Zlt := Nat.lt_of_lt_of_le (by exact Zlt) bp.size; have Tlt := Nat.lt_of_lt_of_le (by exact Tlt) bp.size; have BL := (by first | exact BL.trans (bp.mono BL.size) | exact BL.drew.trans (bp.mono BL.size) | exact BL.drew.drew.trans (bp.mono BL.size))))
      all_goals
        clear E0 E1 R0 R1
        (try clear El Rl)
        replace K := (by exact K : BlsAt _ ag ln (atB Lo))
        replace KO := (by exact KO : OwnB _ _ ag ln)
        replace W := (by exact W : BlsAt _ aw ln (atB Lo))
        obtain ⟨E0, E1⟩ := id E
        have El := World.block_lt_of_cell? _ _ E0
        obtain ⟨R0, R1⟩ := id R
        have Rl := World.block_lt_of_cell? _ _ R0
        go_wp2_with fail
        clear E0 E1 El
        clear R0 R1 Rl
        refine (toBoolS_any _ _ _ _ _ Dv hv).mono ?_
        rintro e w10 ⟨rfl, Tq, Tqlt, b10⟩
        replace Dc := Dc.later b10
        replace Dv := Dv.later b10
        replace W := W.later b10
        replace Z := Z.later b10
        replace Zm := Zm.later b10
        replace T := T.later b10
        replace Tm := Tm.later b10
        replace K := K.later b10
        replace KO := KO.later b10
        replace E := E.later b10
        replace R := R.later b10
        replace Zlt := Nat.lt_of_lt_of_le Zlt b10.size
        replace Tlt := Nat.lt_of_lt_of_le Tlt b10.size
        replace BL := BL.trans (b10.mono BL.size)
        clear b10
        obtain ⟨E0, E1⟩ := id E
        have El := World.block_lt_of_cell? _ _ E0
        obtain ⟨R0, R1⟩ := id R
        have Rl := World.block_lt_of_cell? _ _ R0
        go_wp2_with fail
        clear E0 E1 El
        clear R0 R1 Rl
        refine (eqBoolS_same _ _ _ _ _ _ _ (T.at Tlt) (Tq.at Tqlt) hv).mono ?_
        rintro e w11 ⟨rfl, b11⟩
        replace Dc := Dc.later b11
        replace Dv := Dv.later b11
        replace W := W.later b11
        replace Z := Z.later b11
        replace Zm := Zm.later b11
        replace T := T.later b11
        replace Tm := Tm.later b11
        replace K := K.later b11
        replace KO := KO.later b11
        replace Tq := Tq.later b11
        replace E := E.later b11
        replace R := R.later b11
        replace Zlt := Nat.lt_of_lt_of_le Zlt b11.size
        replace Tlt := Nat.lt_of_lt_of_le Tlt b11.size
        replace Tqlt := Nat.lt_of_lt_of_le Tqlt b11.size
        replace BL := BL.trans (b11.mono BL.size)
        clear b11
        clear Tq Tqlt
        obtain ⟨E0, E1⟩ := id E
        have El := World.block_lt_of_cell? _ _ E0
        obtain ⟨R0, R1⟩ := id R
        have Rl := World.block_lt_of_cell? _ _ R0
        go_wp2_with fail
        clear E0 E1 El
        clear R0 R1 Rl
        refine (markNet_any 1 _ _ _ _ ZB _ (by omega) (Or.inr ⟨ZB, rfl, Nat.le_refl _, Zm⟩) nc (by omega)).mono ?_
        rintro e wm ⟨rfl, _, _, _, vm⟩
        have rm := Rng.mov (lo := ZB) (hi := ZB + 1) (vm ZB rfl) (Nat.le_refl _) (by omega)
        clear vm
        replace BL := BL.trans (rm.below (by omega) BL.size)
        replace Dc := (unhide HDc).later BL
        replace Dv := (unhide HDv).later BL
        replace E := E.rng rm (Or.inl (by omega))
        replace W := W.low (WU.mono (by omega)) rm
        replace Tm := Tm.rng rm (Or.inr (by omega))
        replace K := K.high KO rm (by omega)
        replace KO := KO.high rm (by omega)
        clear rm Z Zm Zlt R
        have e3 : ((1 + 3 * lenc : Nat) : Int) = 1 + 3 * (lenc : Int) := by omega
        obtain ⟨E0, E1⟩ := id E
        have El := World.block_lt_of_cell? _ _ E0
        go_wp2_with fail
        clear E0 E1 El
        have hmb := markBoolS_from (1 + 3 * lenc) (some ⟨vR.heap.size, 0, none⟩) lenv lenv vR.heap.size wm (by omega) (Or.inr ⟨_, rfl, Nat.le_refl _, Tm⟩) hv
        rw [e3] at hmb
        refine hmb.mono ?_
        clear hmb
        rintro e wn ⟨rfl, _, _, _, vn⟩
        have rn := Rng.mov (lo := vR.heap.size) (hi := vR.heap.size + 1) (vn _ rfl) (Nat.le_refl _) (by omega)
        clear vn
        replace BL := BL.trans (rn.below (by omega) BL.size)
        replace Dc := (unhide HDc).later BL
        replace Dv := (unhide HDv).later BL
        replace E := E.rng rn (Or.inl (by omega))
        replace W := W.low (WU.mono (by omega)) rn
        replace K := K.high KO rn (by omega)
        replace KO := KO.high rn (by omega)
        clear rn T Tm Tlt
        obtain ⟨E0, E1⟩ := id E
        have El := World.block_lt_of_cell? _ _ E0
        go_wp2_with fail
        clear E0 E1 El
        refine (eqBoolS_same _ _ _ _ _ _ _ K W hl).mono ?_
        rintro e w12 ⟨rfl, b12⟩
        replace Dc := Dc.later b12
        replace Dv := Dv.later b12
        replace W := W.later b12
        replace K := K.later b12
        replace KO := KO.later b12
        replace E := E.later b12
        replace BL := BL.trans (b12.mono BL.size)
        clear b12
        obtain ⟨E0, E1⟩ := id E
        have El := World.block_lt_of_cell? _ _ E0
        go_wp2_with fail
        clear E0 E1 El
        refine (markBoolS_any _ _ _ w7.heap.size _ KO hl).mono ?_
        clear K KO
        rintro e wo ⟨rfl, K, KO, ro⟩
        replace BL := BL.trans (ro.below (by omega) BL.size)
        replace Dc := (unhide HDc).later BL
        replace Dv := (unhide HDv).later BL
        replace E := E.rng ro (Or.inl (by omega))
        replace W := W.low (WU.mono (by omega)) ro
        clear ro
        obtain ⟨E0, E1⟩ := id E
        have El := World.block_lt_of_cell? _ _ E0
        go_wp2_with fail
        clear E0 E1 El
        refine (heldBoolS_any _ _ _ _ K hl).mono ?_
        rintro e w13 ⟨rfl, b13⟩
        replace Dc := Dc.later b13
        replace Dv := Dv.later b13
        replace W := W.later b13
        replace K := K.later b13
        replace KO := KO.later b13
        replace E := E.later b13
        replace BL := BL.trans (b13.mono BL.size)
        clear b13
        obtain ⟨E0, E1⟩ := id E
        have El := World.block_lt_of_cell? _ _ E0
        go_wp2_with fail
        clear E0 E1 El
        refine (toNet_any _ _ _ _ _ _ Dc nc).mono ?_
        rintro e w14 ⟨YB, rfl, Yle, Y, Ym, b14⟩
        replace Dc := Dc.later b14
        replace Dv := Dv.later b14
        replace W := W.later b14
        replace K := K.later b14
        replace KO := KO.later b14
        replace E := E.later b14
        replace BL := BL.trans (b14.mono BL.size)
        clear b14
        have Ylt := Ym.1
        clear Yle
        obtain ⟨E0, E1⟩ := id E
        have El := World.block_lt_of_cell? _ _ E0
        go_wp2_with fail
        clear E0 E1 El
        refine (toBoolS_any _ _ _ _ _ Dv hv).mono ?_
        rintro e w15 ⟨rfl, V, Vlt, b15⟩
        replace Dc := Dc.later b15
        replace Dv := Dv.later b15
        replace W := W.later b15
        replace K := K.later b15
        replace KO := KO.later b15
        replace Y := Y.later b15
        replace Ym := Ym.later b15
        replace E := E.later b15
        replace Ylt := Nat.lt_of_lt_of_le Ylt b15.size
        replace BL := BL.trans (b15.mono BL.size)
        clear b15
        obtain ⟨E0, E1⟩ := id E
        have El := World.block_lt_of_cell? _ _ E0
        go_wp2_with fail
        clear E0 E1 El
        refine (iNetVals_any _ _ _ _ _ I _ _ _ _ _ (Y.at Ylt) (unhide HW) nc hv hI Vlt (V.cong (unhide HI))).mono ?_
        rintro e w16 ⟨⟨ah, ch, rfl, H1, _⟩, b16⟩
        replace Dc := Dc.later b16
        replace Dv := Dv.later b16
        replace W := W.later b16
        replace K := K.later b16
        replace KO := KO.later b16
        replace Y := Y.later b16
        replace Ym := Ym.later b16
        replace V := V.later b16
        replace E := E.later b16
        replace Ylt := Nat.lt_of_lt_of_le Ylt b16.size
        replace Vlt := Nat.lt_of_lt_of_le Vlt b16.size
        replace BL := BL.trans (b16.mono BL.size)
        clear b16
        rw [← unhide HLo, ← unhide HLN] at H1
        rw [← unhide HLo, ← unhide HLN]
        clear Ym
        clear Y Ylt
        clear V Vlt
        obtain ⟨E0, E1⟩ := id E
        have El := World.block_lt_of_cell? _ _ E0
        go_wp2_with fail
        clear E0 E1 El
        refine (eqBoolS_same _ _ _ _ _ _ _ H1 W hl).mono ?_
        rintro e w17 ⟨rfl, b17⟩
        replace Dc := Dc.later b17
        replace Dv := Dv.later b17
        replace W := W.later b17
        replace K := K.later b17
        replace KO := KO.later b17
        replace H1 := H1.later b17
        replace E := E.later b17
        replace BL := BL.trans (b17.mono BL.size)
        clear b17
        obtain ⟨E0, E1⟩ := id E
        have El := World.block_lt_of_cell? _ _ E0
        go_wp2_with fail
        clear E0 E1 El
        refine (heldBoolS_any _ _ _ _ K hl).mono ?_
        rintro e w18 ⟨rfl, b18⟩
        replace Dc := Dc.later b18
        replace Dv := Dv.later b18
        replace W := W.later b18
        replace K := K.later b18
        replace KO := KO.later b18
        replace H1 := H1.later b18
        replace E := E.later b18
        replace BL := BL.trans (b18.mono BL.size)
        clear b18
        go_wp2
        go_ret
        exact ⟨rfl, BL⟩
    · go_wp2
      go_ret
      exact ⟨rfl, BL⟩
  · go_enter Try.func5, Try.ntmps5
    go_wp2
    go_ret
    exact ⟨rfl, (by repeat (first | exact Below.refl _ _ | assumption | refine below_drewN ?_ _ | refine Below.drew ?_ | refine Below.alloc ?_ (by first | exact Nat.le_refl _ | exact Below.size (by assumption) | (simp; done) | (simp; omega)) _ | refine Below.setCell ?_ (by first | exact Nat.le_refl _ | exact Below.size (by assumption) | (simp; done) | (simp; omega)) _ | refine Below.trans ?_ (by assumption)))⟩

set_option maxRecDepth 100000 in
theorem lifted (os : Os) (started : os.Started) (H : Type) (enc : TypeId × Value → H) :
    ReturnsInHanded {} Try.checked os 5 .any (Rows.fnExactNetValsSpec.pre6 enc Try.prog Try.f5 Rows.fnExactNetValsRow.domain false) (Rows.fnExactNetValsSpec.post enc Try.prog Try.f5 false true false false) := by
  refine returnsInHanded_of_change (C := Try.checked) own started (by kernel_rfl) Try.func5
    (ChangeSpec.witness6 (enc := enc) (C := Try.checked) false ⟨#[], #[.agg #[.int .i64 0, .slice none 0 0], .slice none 0 0], []⟩ 8 (by kernel_rfl) (by kernel_rfl) (by kernel_rfl) (by kernel_rfl)) ?_
  intro W base args ds gs before hval0 hW hcnd _
  have hval : ∀ (j : Nat) t v, Try.f5.params[j]? = some t → args[j]? = some v → Value.okWide Try.prog W .any base t v := hval0
  have hW' := hW
  obtain ⟨p, q, hA0, hV, rfl, hfz, hnd⟩ := hW
  have hA : DataW.TrodAll enc Try.prog W 0 (fun _ => true) true Try.f5.params.toList args.toList ds p := hA0
  rw [Try.params5] at hA hval
  obtain ⟨v0, vs0, d0, ds0, p0, q0, hargs, rfl, rfl, h0, r0⟩ := trodAll_cons hA
  obtain ⟨v1, vs1, d1, ds1, p1, q1, rfl, rfl, rfl, h1, r1⟩ := trodAll_cons r0
  obtain ⟨rfl, rfl, rfl⟩ := trodAll_nil r1
  obtain rfl : args = #[v0, v1] := by cases args; simp_all
  obtain ⟨rfl, rfl⟩ := trodVars_none hV
  have k0 := h0
  have lt0 : ∀ x ∈ p0, x.block < W.heap.size := by obtain ⟨m, hm⟩ := k0; exact DataW.trod_lt m _ _ _ hm
  obtain ⟨mc, c, lenc, capc, Gc, rfl, wmc, lcc, lnc, hdc, hwc⟩ := net_in (hval 0 24 v0 rfl rfl) h0
  obtain ⟨v, lenv, capv, rfl⟩ := okWide_slice Try.underlying34 (hval 1 34 v1 rfl rfl)
  have k1 := h1
  have lt1 : ∀ x ∈ p1, x.block < W.heap.size := by obtain ⟨m, hm⟩ := k1; exact DataW.trod_lt m _ _ _ hm
  obtain ⟨lcv, lnv, Vv, hdv⟩ := bools_in h1
  clear hA0 hval0
  refine (walk mc c lenc capc Gc v lenv capv Vv W wmc lcc lnc hdc hwc hdv lcv lnv).mono fun e W' ⟨he, bel⟩ => ?_
  subst he
  exact ⟨_, rfl, _, _, _, [], _, [], hW', trodAll_mk1 (shut_bool Try.underlying4 _), (trodAll_cons_mk (Below.trod laidOut (by kernel_rfl) (of_decide_eq_true (by kernel_rfl)) k0 bel lt0) (trodAll_cons_mk (Below.trod laidOut (by kernel_rfl) (of_decide_eq_true (by kernel_rfl)) k1 bel lt1) trodAll_mk0)), rfl, bel.frame _, fun h => by cases h⟩

theorem over : Rows.fnExactNetValsRow.holds Try.pinned (OpenSpec.ofChange Rows.fnExactNetValsSpec) :=
  OpenClaim.holds_of_wide 5 Try.f5 rfl rfl rfl rfl rfl rfl rfl ⟨rfl, rfl, rfl, rfl, rfl⟩ rfl rfl rfl rfl rfl (by kernel_rfl) Try.func5 (by kernel_rfl)
    (of_decide_eq_true (by kernel_rfl)) (by unfold Func.isWrapper; first | (rw [if_pos (by decide +kernel)]; kernel_rfl) | (rw [if_neg (by decide +kernel)]; exact ⟨rfl, rfl⟩))
    (fun os started H enc _ => lifted os started H enc)
end exNvl

theorem exNvl_holds : Rows.FnExactNetValsSaid := exNvl.over
#print axioms exNvl_holds
end Go.Proofs.Ytpabepcgfhgmiaa
