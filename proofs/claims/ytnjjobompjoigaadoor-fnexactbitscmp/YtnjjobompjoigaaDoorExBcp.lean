/- At every argument the program's BitsCmp answers as the model's: the law FnExactBitsCmp returns true for every net, every question and any two lists of marks, right or not, leaves them as they were, and what is handed back is memory of its own. Condition: the package's two errors read as the program's text lays them (the card ties them). (The law itself answers true where a list or the net has more than 1048576 entries.) -/
import Derived.Test.YtnjjobompjoigaaDoorCpV
import Derived.Test.YtnjjobompjoigaaDoorCpX
import Derived.Test.YtnjjobompjoigaaDoorRngI
namespace Go.Proofs.YtnjjobompjoigaaDoor
open Go.ChangeShapes Go.WideShapes Go.ChangeAt Go.RowKit Go.Joins
open Go.ChangeMaps (open_string shut_string)
set_option linter.unusedVariables false
set_option maxRecDepth 100000
theorem laidOut : laidOutB Tryd.prog = true := by kernel_rfl
theorem Sent.later {w w' : World} {base : Nat} {aF aR : Addr} (h : Sent w base aF aR) (hb : Below w.heap.size w w') : Sent w' base aF aR := ⟨cell_later hb h.f, cell_later hb h.r, h.b⟩

theorem cmpBR_bd (m : Int) (n : Nat) (G : Nat → Gt) (op : Int) (L M : List Int) : (cmpBR m n G op L M).n ≤ 600 := by
  by_cases h : CmpP m n G op L M
  · rw [cmpBR_yes h]
    obtain ⟨h1, h2, h3, h4, h5, h6⟩ := h
    exact brK_n (cmpK_good (by omega) (kS_ok h1) (h2.mk (G := G) h1) (h3.mk (G := G) h1) h4 h2.2.1).1
  · rw [cmpBR_no h]; simp [nilB]

namespace exBcp
set_option maxRecDepth 100000 in
set_option maxHeartbeats 4000000 in
theorem walk (mc : Int) (c : Option Addr) (lenc capc : Nat) (Gc : Nat → Gt) (a : Int) (u : Option Addr) (lenu capu : Nat) (Vu : Nat → Int) (v : Option Addr) (lenv capv : Nat) (Vv : Nat → Int) (aF aR : Addr) (w : World) (hS : Sent w 2 aF aR) (hsz : 2 ≤ w.heap.size) (wmc : W64 mc) (lcc : lenc ≤ capc) (lnc : lenc ≤ maxLen) (hdc : GtsAt w c lenc Gc) (hwc : WG lenc Gc) (wa : (Lit.int .i64 a).wf = true) (hdu : IntsAt w u lenu Vu) (lcu : lenu ≤ capu) (lnu : lenu ≤ maxLen) (hwu : ∀ i, i < lenu → W64 (Vu i)) (hdv : IntsAt w v lenv Vv) (lcv : lenv ≤ capv) (lnv : lenv ≤ maxLen) (hwv : ∀ i, i < lenv → W64 (Vv i)) :
    Calls Tryd.prog 3 #[.agg #[.int .i64 mc, .slice c lenc capc], .int .i64 a, .slice u lenu capu, .slice v lenv capv] w fun e w' => e = .returned (.bool true) ∧ Below w.heap.size w w' := by
  by_cases hu : lenu ≤ 1048576
  · by_cases hv : lenv ≤ 1048576
    · obtain ⟨Lu, hLu⟩ : ∃ L, L = lsI lenu Vu := ⟨_, rfl⟩
      obtain ⟨Lv, hLv⟩ : ∃ L, L = lsI lenv Vv := ⟨_, rfl⟩
      have Dc := hdc
      have Du : IntsAt w u lenu (at0 Lu) := hdu.cong (fun i hi => by rw [hLu]; exact (lsI_at hi).symm)
      have Dv : IntsAt w v lenv (at0 Lv) := hdv.cong (fun i hi => by rw [hLv]; exact (lsI_at hi).symm)
      have NLu : Hid (Lu.length = lenu) := by rw [hLu]; exact lsI_len _ _
      have NLv : Hid (Lv.length = lenv) := by rw [hLv]; exact lsI_len _ _
      have HWu : Hid (∀ i, i < lenu → W64 (at0 Lu i)) := fun i hi => by rw [hLu, lsI_at hi]; exact hwu i hi
      have HWv : Hid (∀ i, i < lenv → W64 (at0 Lv i)) := fun i hi => by rw [hLv, lsI_at hi]; exact hwv i hi
      have HDc := hide hdc
      have HDu := hide Du
      have HDv := hide Dv
      have HW := hide hwc
      have HSt := hide hS
      have S := hS
      have ha := W64.of wa
      have BL : Below w.heap.size w w := Below.refl _ _
      clear hdc hdu hdv hwc hwu hwv hS hLu hLv
      obtain ⟨r, hr⟩ : ∃ r, r = cmpBR mc lenc Gc a Lu Lv := ⟨_, rfl⟩
      have hrn := cmpBR_bd mc lenc Gc a Lu Lv
      rw [← hr] at hrn
      have hl : r.n ≤ 1048576 := by omega
      have HLo := hide hr
      clear hr
      obtain ⟨zr, hzr⟩ : ∃ z, z = at0 r.L 0 := ⟨_, rfl⟩
      have HLN := hide hzr
      clear hzr
      have kq : ((1 + 3 * (r.n : Int)) != (1 + 3 * (r.n : Int))) = false := by simp
      have kz : (zr != zr) = false := by simp
      go_enter Tryd.func3, Tryd.ntmps3
      go_wp2_with fail
      obtain ⟨vE, hvE⟩ : ∃ v, v = w.alloc (.cells #[.int .i64 mc, .slice c lenc capc] 24) := ⟨_, rfl⟩
      have bvE : Below w.heap.size w vE := by rw [hvE]; exact (Below.refl _ _).alloc (Nat.le_refl _) _
      have E : NBox vE w.heap.size mc c lenc capc := by rw [hvE]; exact NBox.new _ _ _ _ _ _
      rw [← hvE]
      clear hvE
      replace Dc := Dc.later bvE
      replace Du := Du.later bvE
      replace Dv := Dv.later bvE
      replace S := S.later bvE
      replace BL := BL.trans (bvE.mono BL.size)
      clear bvE
      refine (szNet_any _ _ _ _ 1048576 _ (by omega) (by omega) lnc).mono ?_
      rintro e w2 ⟨⟨zc, rfl, hzc⟩, b2⟩
      replace Dc := Dc.later b2
      replace Du := Du.later b2
      replace Dv := Dv.later b2
      replace S := S.later b2
      replace E := E.later b2
      replace BL := BL.trans (b2.mono BL.size)
      clear b2
      by_cases h0 : 0 ≤ zc
      · have nc : lenc ≤ 1048576 := by rcases hzc with h | h <;> omega
        obtain ⟨E0, E1⟩ := id E
        have El := World.block_lt_of_cell? _ _ E0
        go_wp2_with fail
        clear E0 E1 El
        refine (toNet_any _ _ _ _ _ _ Dc nc).mono ?_
        rintro e w3 ⟨XB, rfl, Xle, X, Xm, b3⟩
        replace Dc := Dc.later b3
        replace Du := Du.later b3
        replace Dv := Dv.later b3
        replace S := S.later b3
        replace E := E.later b3
        replace BL := BL.trans (b3.mono BL.size)
        clear b3
        have Xlt := Xm.1
        clear Xle
        obtain ⟨E0, E1⟩ := id E
        have El := World.block_lt_of_cell? _ _ E0
        go_wp2_with fail
        clear E0 E1 El
        refine (toIntS_made _ _ _ _ _ Du hu).mono ?_
        rintro e w4 ⟨rfl, U, Um, b4⟩
        replace Dc := Dc.later b4
        replace Du := Du.later b4
        replace Dv := Dv.later b4
        replace S := S.later b4
        replace X := X.later b4
        replace Xm := Xm.later b4
        replace E := E.later b4
        replace Xlt := Nat.lt_of_lt_of_le Xlt b4.size
        replace BL := BL.trans (b4.mono BL.size)
        clear b4
        have Ult := Um.1
        obtain ⟨E0, E1⟩ := id E
        have El := World.block_lt_of_cell? _ _ E0
        go_wp2_with fail
        clear E0 E1 El
        refine (toIntS_made _ _ _ _ _ Dv hv).mono ?_
        rintro e w5 ⟨rfl, T, Tm, b5⟩
        replace Dc := Dc.later b5
        replace Du := Du.later b5
        replace Dv := Dv.later b5
        replace S := S.later b5
        replace X := X.later b5
        replace Xm := Xm.later b5
        replace U := U.later b5
        replace Um := Um.later b5
        replace E := E.later b5
        replace Xlt := Nat.lt_of_lt_of_le Xlt b5.size
        replace Ult := Nat.lt_of_lt_of_le Ult b5.size
        replace BL := BL.trans (b5.mono BL.size)
        clear b5
        have Tlt := Tm.1
        obtain ⟨E0, E1⟩ := id E
        have El := World.block_lt_of_cell? _ _ E0
        go_wp2_with fail
        clear E0 E1 El
        refine (sBitsCmp_any mc _ lenc _ Gc a _ lenu _ Lu _ lenv _ Lv _ (X.at Xlt) (unhide HW) (fun h => by cases h) (fun p h => by cases h; rfl) (fun p h => by cases h; exact Xlt) nc (U.at Ult) (T.at Tlt) (unhide NLu) (unhide NLv) hu hv (Nat.le_refl _) (Nat.le_refl _)).mono ?_
        rintro e w6 ⟨⟨aw, cw, rfl, W, _⟩, b6⟩
        replace Dc := Dc.later b6
        replace Du := Du.later b6
        replace Dv := Dv.later b6
        replace S := S.later b6
        replace X := X.later b6
        replace Xm := Xm.later b6
        replace U := U.later b6
        replace Um := Um.later b6
        replace T := T.later b6
        replace Tm := Tm.later b6
        replace E := E.later b6
        replace Xlt := Nat.lt_of_lt_of_le Xlt b6.size
        replace Ult := Nat.lt_of_lt_of_le Ult b6.size
        replace Tlt := Nat.lt_of_lt_of_le Tlt b6.size
        replace BL := BL.trans (b6.mono BL.size)
        clear b6
        rw [← unhide HLo] at W
        rw [← unhide HLo]
        rw [← unhide HLN]
        clear Xm
        clear X Xlt
        clear Um
        clear U Ult
        clear Tm
        clear T Tlt
        have WU := W.up
        have eb := World.block_lt_of_cell? _ _ E.1
        simp only at eb
        obtain ⟨E0, E1⟩ := id E
        have El := World.block_lt_of_cell? _ _ E0
        go_wp2_with fail
        clear E0 E1 El
        obtain ⟨vV, hvV⟩ : ∃ v, v = w6.alloc (.cells #[.int .i64 r.m, .slice aw r.n cw] 29) := ⟨_, rfl⟩
        have bvV : Below w6.heap.size w6 vV := by rw [hvV]; exact (Below.refl _ _).alloc (Nat.le_refl _) _
        have V : NBox vV w6.heap.size r.m aw r.n cw := by rw [hvV]; exact NBox.new _ _ _ _ _ _
        rw [← hvV]
        clear hvV
        replace Dc := Dc.later bvV
        replace Du := Du.later bvV
        replace Dv := Dv.later bvV
        replace S := S.later bvV
        replace W := W.later bvV
        replace E := E.later bvV
        replace BL := BL.trans (bvV.mono BL.size)
        clear bvV
        have vb : w6.heap.size < vV.heap.size := by have := World.block_lt_of_cell? _ _ V.1; simpa using this
        refine (toNet_any _ _ _ _ _ _ Dc nc).mono ?_
        rintro e w7 ⟨ZB, rfl, Zle, Z, Zm, b7⟩
        replace Dc := Dc.later b7
        replace Du := Du.later b7
        replace Dv := Dv.later b7
        replace S := S.later b7
        replace W := W.later b7
        replace E := E.later b7
        replace V := V.later b7
        replace BL := BL.trans (b7.mono BL.size)
        clear b7
        have Zlt := Zm.1
        have zt : ZB < w7.heap.size := Zm.1
        obtain ⟨E0, E1⟩ := id E
        have El := World.block_lt_of_cell? _ _ E0
        obtain ⟨V0, V1⟩ := id V
        have Vl := World.block_lt_of_cell? _ _ V0
        go_wp2_with fail
        clear E0 E1 El
        clear V0 V1 Vl
        obtain ⟨vR, hvR⟩ : ∃ v, v = w7.alloc (.cells #[.int .i64 mc, .slice (some ⟨ZB, 0, none⟩) lenc lenc] 29) := ⟨_, rfl⟩
        have bvR : Below w7.heap.size w7 vR := by rw [hvR]; exact (Below.refl _ _).alloc (Nat.le_refl _) _
        have R : NBox vR w7.heap.size mc (some ⟨ZB, 0, none⟩) lenc lenc := by rw [hvR]; exact NBox.new _ _ _ _ _ _
        have sR : vR.heap.size ≤ w7.heap.size + 1 := by rw [hvR]; simp
        rw [← hvR]
        clear hvR
        replace Dc := Dc.later bvR
        replace Du := Du.later bvR
        replace Dv := Dv.later bvR
        replace S := S.later bvR
        replace W := W.later bvR
        replace Z := Z.later bvR
        replace Zm := Zm.later bvR
        replace E := E.later bvR
        replace V := V.later bvR
        replace Zlt := Nat.lt_of_lt_of_le Zlt bvR.size
        replace BL := BL.trans (bvR.mono BL.size)
        clear bvR
        have zr : w7.heap.size < vR.heap.size := by have := World.block_lt_of_cell? _ _ R.1; simpa using this
        refine (toIntS_made _ _ _ _ _ Du hu).mono ?_
        rintro e w8 ⟨rfl, P2, P2m, b8⟩
        replace Dc := Dc.later b8
        replace Du := Du.later b8
        replace Dv := Dv.later b8
        replace S := S.later b8
        replace W := W.later b8
        replace Z := Z.later b8
        replace Zm := Zm.later b8
        replace E := E.later b8
        replace V := V.later b8
        replace R := R.later b8
        replace Zlt := Nat.lt_of_lt_of_le Zlt b8.size
        replace BL := BL.trans (b8.mono BL.size)
        clear b8
        have P2lt := P2m.1
        have t2 : vR.heap.size < w8.heap.size := P2m.1
        obtain ⟨E0, E1⟩ := id E
        have El := World.block_lt_of_cell? _ _ E0
        obtain ⟨V0, V1⟩ := id V
        have Vl := World.block_lt_of_cell? _ _ V0
        obtain ⟨R0, R1⟩ := id R
        have Rl := World.block_lt_of_cell? _ _ R0
        go_wp2_with fail
        clear E0 E1 El
        clear V0 V1 Vl
        clear R0 R1 Rl
        refine (toIntS_made _ _ _ _ _ Dv hv).mono ?_
        rintro e w9 ⟨rfl, P3, P3m, b9⟩
        replace Dc := Dc.later b9
        replace Du := Du.later b9
        replace Dv := Dv.later b9
        replace S := S.later b9
        replace W := W.later b9
        replace Z := Z.later b9
        replace Zm := Zm.later b9
        replace P2 := P2.later b9
        replace P2m := P2m.later b9
        replace E := E.later b9
        replace V := V.later b9
        replace R := R.later b9
        replace Zlt := Nat.lt_of_lt_of_le Zlt b9.size
        replace P2lt := Nat.lt_of_lt_of_le P2lt b9.size
        replace BL := BL.trans (b9.mono BL.size)
        clear b9
        have P3lt := P3m.1
        have t3 : w8.heap.size < w9.heap.size := P3m.1
        obtain ⟨E0, E1⟩ := id E
        have El := World.block_lt_of_cell? _ _ E0
        obtain ⟨V0, V1⟩ := id V
        have Vl := World.block_lt_of_cell? _ _ V0
        obtain ⟨R0, R1⟩ := id R
        have Rl := World.block_lt_of_cell? _ _ R0
        go_wp2_with fail
        clear E0 E1 El
        clear V0 V1 Vl
        clear R0 R1 Rl
        refine (iBitsCmp_any mc _ lenc _ Gc a _ lenu _ Lu _ lenv _ Lv 2 aF aR _ (Z.at Zlt) (unhide HW) ⟨_, rfl, rfl⟩ nc (P2.at P2lt) (P3.at P3lt) (unhide NLu) (unhide NLv) hu hv (unhide HWu) (unhide HWv) S (by have := BL.size; omega)).mono ?_
        rintro e w10 ⟨⟨ag, cg, rfl, K, KO⟩, b10⟩
        have k34 := b10.size
        replace Dc := Dc.later b10
        replace Du := Du.later b10
        replace Dv := Dv.later b10
        replace S := S.later b10
        replace W := W.later b10
        replace Z := Z.later b10
        replace Zm := Zm.later b10
        replace P2 := P2.later b10
        replace P2m := P2m.later b10
        replace P3 := P3.later b10
        replace P3m := P3m.later b10
        replace E := E.later b10
        replace V := V.later b10
        replace R := R.later b10
        replace Zlt := Nat.lt_of_lt_of_le Zlt b10.size
        replace P2lt := Nat.lt_of_lt_of_le P2lt b10.size
        replace P3lt := Nat.lt_of_lt_of_le P3lt b10.size
        replace BL := BL.trans (b10.mono BL.size)
        clear b10
        rw [← unhide HLo] at K KO
        rw [← unhide HLo]
        rw [← unhide HLN]
        have KU := K.up
        have z4 : ZB < w10.heap.size := Zm.1
        have p24 : vR.heap.size < w10.heap.size := P2m.1
        have p34 : w8.heap.size < w10.heap.size := P3m.1
        have rq := World.block_lt_of_cell? _ _ R.1
        simp only at rq
        have kl := Nat.le_refl w10.heap.size
        obtain ⟨E0, E1⟩ := id E
        have El := World.block_lt_of_cell? _ _ E0
        obtain ⟨V0, V1⟩ := id V
        have Vl := World.block_lt_of_cell? _ _ V0
        obtain ⟨R0, R1⟩ := id R
        have Rl := World.block_lt_of_cell? _ _ R0
        go_wp2_with fail
        clear E0 E1 El
        clear V0 V1 Vl
        clear R0 R1 Rl
        obtain ⟨vQ, hvQ⟩ : ∃ v, v = w10.alloc (.cells #[.int .i64 r.m, .slice ag r.n cg] 29) := ⟨_, rfl⟩
        have bvQ : Below w10.heap.size w10 vQ := by rw [hvQ]; exact (Below.refl _ _).alloc (Nat.le_refl _) _
        have Q : NBox vQ w10.heap.size r.m ag r.n cg := by rw [hvQ]; exact NBox.new _ _ _ _ _ _
        rw [← hvQ]
        clear hvQ
        replace Dc := Dc.later bvQ
        replace Du := Du.later bvQ
        replace Dv := Dv.later bvQ
        replace S := S.later bvQ
        replace W := W.later bvQ
        replace Z := Z.later bvQ
        replace Zm := Zm.later bvQ
        replace P2 := P2.later bvQ
        replace P2m := P2m.later bvQ
        replace P3 := P3.later bvQ
        replace P3m := P3m.later bvQ
        replace K := K.later bvQ
        replace KO := KO.later bvQ
        replace E := E.later bvQ
        replace V := V.later bvQ
        replace R := R.later bvQ
        replace Zlt := Nat.lt_of_lt_of_le Zlt bvQ.size
        replace P2lt := Nat.lt_of_lt_of_le P2lt bvQ.size
        replace P3lt := Nat.lt_of_lt_of_le P3lt bvQ.size
        replace BL := BL.trans (bvQ.mono BL.size)
        clear bvQ
        refine (eqNet_same _ _ _ _ _ _ _ _ K W hl).mono ?_
        rintro e w11 ⟨rfl, b11⟩
        replace Dc := Dc.later b11
        replace Du := Du.later b11
        replace Dv := Dv.later b11
        replace S := S.later b11
        replace W := W.later b11
        replace Z := Z.later b11
        replace Zm := Zm.later b11
        replace P2 := P2.later b11
        replace P2m := P2m.later b11
        replace P3 := P3.later b11
        replace P3m := P3m.later b11
        replace K := K.later b11
        replace KO := KO.later b11
        replace E := E.later b11
        replace V := V.later b11
        replace R := R.later b11
        replace Q := Q.later b11
        replace Zlt := Nat.lt_of_lt_of_le Zlt b11.size
        replace P2lt := Nat.lt_of_lt_of_le P2lt b11.size
        replace P3lt := Nat.lt_of_lt_of_le P3lt b11.size
        replace BL := BL.trans (b11.mono BL.size)
        clear b11
        obtain ⟨E0, E1⟩ := id E
        have El := World.block_lt_of_cell? _ _ E0
        obtain ⟨V0, V1⟩ := id V
        have Vl := World.block_lt_of_cell? _ _ V0
        obtain ⟨R0, R1⟩ := id R
        have Rl := World.block_lt_of_cell? _ _ R0
        obtain ⟨Q0, Q1⟩ := id Q
        have Ql := World.block_lt_of_cell? _ _ Q0
        go_wp2
        go_region_held3 (fun w' => w'.cell? ⟨w.heap.size, 0, none⟩ = some (.int .i64 mc) ∧ w'.cell? ⟨w.heap.size, 1, none⟩ = some (.slice c lenc capc) ∧ w'.cell? ⟨w7.heap.size, 0, none⟩ = some (.int .i64 mc) ∧ w'.cell? ⟨w7.heap.size, 1, none⟩ = some (.slice (some ⟨ZB, 0, none⟩) lenc lenc)) (first | go_keep | exact ⟨E0, E1, R0, R1⟩)
          (first | (go_at_call 6; refine (toNet_any _ _ _ _ _ _ (by first | exact Dc | exact Dc.drew | exact Dc.drew.drew) nc).mono ?_; rintro e wq ⟨Bq, rfl, leq, Xq, mq, bq⟩; have ltq := mq.1; have Dc := GtsAt.later (by first | exact Dc | exact Dc.drew | exact Dc.drew.drew) bq; have Du := IntsAt.later (by first | exact Du | exact Du.drew | exact Du.drew.drew) bq; have Dv := IntsAt.later (by first | exact Dv | exact Dv.drew | exact Dv.drew.drew) bq; have S := Sent.later (by first | exact S | exact S.drew | exact S.drew.drew) bq; have W := GtsAt.later (by first | exact W | exact W.drew | exact W.drew.drew) bq; have Z := Gts.later (by first | exact Z | exact Z.drew | exact Z.drew.drew) bq; have Zm := Made.later (by first | exact Zm | exact Zm.drew | exact Zm.drew.drew) bq; have P2 := Ints.later (by first | exact P2 | exact P2.drew | exact P2.drew.drew) bq; have P2m := Made.later (by first | exact P2m | exact P2m.drew | exact P2m.drew.drew) bq; have P3 := Ints.later (by first | exact P3 | exact P3.drew | exact P3.drew.drew) bq; have P3m := Made.later (by first | exact P3m | exact P3m.drew | exact P3m.drew.drew) bq; have K := GtsAt.later (by first | exact K | exact K.drew | exact K.drew.drew) bq; have KO := OwnG.later (by first | exact KO | exact KO.drew | exact KO.drew.drew) bq; have E := NBox.later (by first | exact E | exact E.drew | exact E.drew.drew) bq; have V := NBox.later (by first | exact V | exact V.drew | exact V.drew.drew) bq; have R := NBox.later (by first | exact R | exact R.drew | exact R.drew.drew) bq; have Q := NBox.later (by first | exact Q | exact Q.drew | exact Q.drew.drew) bq; have E0 := E.1; have E1 := E.2; have V0 := V.1; have V1 := V.2; have R0 := R.1; have R1 := R.2; have Q0 := Q.1; have Q1 := Q.2; have Zlt := Nat.lt_of_lt_of_le (by exact Zlt) bq.size; have P2lt := Nat.lt_of_lt_of_le (by exact P2lt) bq.size; have P3lt := Nat.lt_of_lt_of_le (by exact P3lt) bq.size; have BL := (by first | exact BL.trans (bq.mono BL.size) | exact BL.drew.trans (bq.mono BL.size) | exact BL.drew.drew.trans (bq.mono BL.size))) | (go_at_call 9; refine (eqNet_same _ _ _ _ _ _ _ _ (Gts.at (by first | exact Z | exact Z.drew | exact Z.drew.drew) (by exact Zlt)) (Gts.at (by first | exact Xq | exact Xq.drew | exact Xq.drew.drew) (by exact ltq)) nc).mono ?_; rintro e wp ⟨rfl, bp⟩; have Dc := GtsAt.later (by first | exact Dc | exact Dc.drew | exact Dc.drew.drew) bp; have Du := IntsAt.later (by first | exact Du | exact Du.drew | exact Du.drew.drew) bp; have Dv := IntsAt.later (by first | exact Dv | exact Dv.drew | exact Dv.drew.drew) bp; have S := Sent.later (by first | exact S | exact S.drew | exact S.drew.drew) bp; have W := GtsAt.later (by first | exact W | exact W.drew | exact W.drew.drew) bp; have Z := Gts.later (by first | exact Z | exact Z.drew | exact Z.drew.drew) bp; have Zm := Made.later (by first | exact Zm | exact Zm.drew | exact Zm.drew.drew) bp; have P2 := Ints.later (by first | exact P2 | exact P2.drew | exact P2.drew.drew) bp; have P2m := Made.later (by first | exact P2m | exact P2m.drew | exact P2m.drew.drew) bp; have P3 := Ints.later (by first | exact P3 | exact P3.drew | exact P3.drew.drew) bp; have P3m := Made.later (by first | exact P3m | exact P3m.drew | exact P3m.drew.drew) bp; have K := GtsAt.later (by first | exact K | exact K.drew | exact K.drew.drew) bp; have KO := OwnG.later (by first | exact KO | exact KO.drew | exact KO.drew.drew) bp; have E := NBox.later (by first | exact E | exact E.drew | exact E.drew.drew) bp; have V := NBox.later (by first | exact V | exact V.drew | exact V.drew.drew) bp; have R := NBox.later (by first | exact R | exact R.drew | exact R.drew.drew) bp; have Q := NBox.later (by first | exact Q | exact Q.drew | exact Q.drew.drew) bp; have E0 := E.1; have E1 := E.2; have V0 := V.1; have V1 := V.2; have R0 := R.1; have R1 := R.2; have Q0 := Q.1; have Q1 := Q.2; have Zlt := Nat.lt_of_lt_of_le (by exact Zlt) bp.size; have P2lt := Nat.lt_of_lt_of_le (by exact P2lt) bp.size; have P3lt := Nat.lt_of_lt_of_le (by exact P3lt) bp.size; have BL := (by first | exact BL.trans (bp.mono BL.size) | exact BL.drew.trans (bp.mono BL.size) | exact BL.drew.drew.trans (bp.mono BL.size))))
        all_goals
          clear E0 E1 R0 R1 V0 V1 Q0 Q1
          (try clear El Rl Vl Ql)
          replace K := (by exact K : GtsAt _ ag r.n r.G)
          replace KO := (by exact KO : OwnG _ _ ag r.n)
          replace W := (by exact W : GtsAt _ aw r.n r.G)
          replace P2 := (by exact P2 : Ints _ vR.heap.size 0 lenu (at0 Lu))
          replace P3 := (by exact P3 : Ints _ w8.heap.size 0 lenv (at0 Lv))
          replace P2m := (by exact P2m : Made _ vR.heap.size lenu)
          replace P3m := (by exact P3m : Made _ w8.heap.size lenv)
          obtain ⟨E0, E1⟩ := id E
          have El := World.block_lt_of_cell? _ _ E0
          obtain ⟨V0, V1⟩ := id V
          have Vl := World.block_lt_of_cell? _ _ V0
          obtain ⟨R0, R1⟩ := id R
          have Rl := World.block_lt_of_cell? _ _ R0
          obtain ⟨Q0, Q1⟩ := id Q
          have Ql := World.block_lt_of_cell? _ _ Q0
          go_wp2_with fail
          clear E0 E1 El
          clear V0 V1 Vl
          clear R0 R1 Rl
          clear Q0 Q1 Ql
          refine (toIntS_made _ _ _ _ _ Du hu).mono ?_
          rintro e w12 ⟨rfl, P2q, P2qm, b12⟩
          replace Dc := Dc.later b12
          replace Du := Du.later b12
          replace Dv := Dv.later b12
          replace S := S.later b12
          replace W := W.later b12
          replace Z := Z.later b12
          replace Zm := Zm.later b12
          replace P2 := P2.later b12
          replace P2m := P2m.later b12
          replace P3 := P3.later b12
          replace P3m := P3m.later b12
          replace K := K.later b12
          replace KO := KO.later b12
          replace E := E.later b12
          replace V := V.later b12
          replace R := R.later b12
          replace Q := Q.later b12
          replace Zlt := Nat.lt_of_lt_of_le Zlt b12.size
          replace P2lt := Nat.lt_of_lt_of_le P2lt b12.size
          replace P3lt := Nat.lt_of_lt_of_le P3lt b12.size
          replace BL := BL.trans (b12.mono BL.size)
          clear b12
          have P2qlt := P2qm.1
          obtain ⟨E0, E1⟩ := id E
          have El := World.block_lt_of_cell? _ _ E0
          obtain ⟨V0, V1⟩ := id V
          have Vl := World.block_lt_of_cell? _ _ V0
          obtain ⟨R0, R1⟩ := id R
          have Rl := World.block_lt_of_cell? _ _ R0
          obtain ⟨Q0, Q1⟩ := id Q
          have Ql := World.block_lt_of_cell? _ _ Q0
          go_wp2_with fail
          clear E0 E1 El
          clear V0 V1 Vl
          clear R0 R1 Rl
          clear Q0 Q1 Ql
          refine (eqIntS_two _ _ _ _ _ _ _ (P2.at P2lt) (P2q.at P2qlt) hu).mono ?_
          rintro e w13 ⟨rfl, b13⟩
          replace Dc := Dc.later b13
          replace Du := Du.later b13
          replace Dv := Dv.later b13
          replace S := S.later b13
          replace W := W.later b13
          replace Z := Z.later b13
          replace Zm := Zm.later b13
          replace P2 := P2.later b13
          replace P2m := P2m.later b13
          replace P3 := P3.later b13
          replace P3m := P3m.later b13
          replace K := K.later b13
          replace KO := KO.later b13
          replace P2q := P2q.later b13
          replace P2qm := P2qm.later b13
          replace E := E.later b13
          replace V := V.later b13
          replace R := R.later b13
          replace Q := Q.later b13
          replace Zlt := Nat.lt_of_lt_of_le Zlt b13.size
          replace P2lt := Nat.lt_of_lt_of_le P2lt b13.size
          replace P3lt := Nat.lt_of_lt_of_le P3lt b13.size
          replace P2qlt := Nat.lt_of_lt_of_le P2qlt b13.size
          replace BL := BL.trans (b13.mono BL.size)
          clear b13
          clear P2q P2qm P2qlt
          obtain ⟨E0, E1⟩ := id E
          have El := World.block_lt_of_cell? _ _ E0
          obtain ⟨V0, V1⟩ := id V
          have Vl := World.block_lt_of_cell? _ _ V0
          obtain ⟨R0, R1⟩ := id R
          have Rl := World.block_lt_of_cell? _ _ R0
          obtain ⟨Q0, Q1⟩ := id Q
          have Ql := World.block_lt_of_cell? _ _ Q0
          go_wp2_with fail
          clear E0 E1 El
          clear V0 V1 Vl
          clear R0 R1 Rl
          clear Q0 Q1 Ql
          refine (toIntS_made _ _ _ _ _ Dv hv).mono ?_
          rintro e w14 ⟨rfl, P3q, P3qm, b14⟩
          replace Dc := Dc.later b14
          replace Du := Du.later b14
          replace Dv := Dv.later b14
          replace S := S.later b14
          replace W := W.later b14
          replace Z := Z.later b14
          replace Zm := Zm.later b14
          replace P2 := P2.later b14
          replace P2m := P2m.later b14
          replace P3 := P3.later b14
          replace P3m := P3m.later b14
          replace K := K.later b14
          replace KO := KO.later b14
          replace E := E.later b14
          replace V := V.later b14
          replace R := R.later b14
          replace Q := Q.later b14
          replace Zlt := Nat.lt_of_lt_of_le Zlt b14.size
          replace P2lt := Nat.lt_of_lt_of_le P2lt b14.size
          replace P3lt := Nat.lt_of_lt_of_le P3lt b14.size
          replace BL := BL.trans (b14.mono BL.size)
          clear b14
          have P3qlt := P3qm.1
          obtain ⟨E0, E1⟩ := id E
          have El := World.block_lt_of_cell? _ _ E0
          obtain ⟨V0, V1⟩ := id V
          have Vl := World.block_lt_of_cell? _ _ V0
          obtain ⟨R0, R1⟩ := id R
          have Rl := World.block_lt_of_cell? _ _ R0
          obtain ⟨Q0, Q1⟩ := id Q
          have Ql := World.block_lt_of_cell? _ _ Q0
          go_wp2_with fail
          clear E0 E1 El
          clear V0 V1 Vl
          clear R0 R1 Rl
          clear Q0 Q1 Ql
          refine (eqIntS_two _ _ _ _ _ _ _ (P3.at P3lt) (P3q.at P3qlt) hv).mono ?_
          rintro e w15 ⟨rfl, b15⟩
          replace Dc := Dc.later b15
          replace Du := Du.later b15
          replace Dv := Dv.later b15
          replace S := S.later b15
          replace W := W.later b15
          replace Z := Z.later b15
          replace Zm := Zm.later b15
          replace P2 := P2.later b15
          replace P2m := P2m.later b15
          replace P3 := P3.later b15
          replace P3m := P3m.later b15
          replace K := K.later b15
          replace KO := KO.later b15
          replace P3q := P3q.later b15
          replace P3qm := P3qm.later b15
          replace E := E.later b15
          replace V := V.later b15
          replace R := R.later b15
          replace Q := Q.later b15
          replace Zlt := Nat.lt_of_lt_of_le Zlt b15.size
          replace P2lt := Nat.lt_of_lt_of_le P2lt b15.size
          replace P3lt := Nat.lt_of_lt_of_le P3lt b15.size
          replace P3qlt := Nat.lt_of_lt_of_le P3qlt b15.size
          replace BL := BL.trans (b15.mono BL.size)
          clear b15
          clear P3q P3qm P3qlt
          obtain ⟨E0, E1⟩ := id E
          have El := World.block_lt_of_cell? _ _ E0
          obtain ⟨V0, V1⟩ := id V
          have Vl := World.block_lt_of_cell? _ _ V0
          obtain ⟨R0, R1⟩ := id R
          have Rl := World.block_lt_of_cell? _ _ R0
          obtain ⟨Q0, Q1⟩ := id Q
          have Ql := World.block_lt_of_cell? _ _ Q0
          go_wp2_with fail
          clear E0 E1 El
          clear V0 V1 Vl
          clear R0 R1 Rl
          clear Q0 Q1 Ql
          refine (markNet_any 1 _ _ _ _ ZB _ (by omega) (Or.inr ⟨ZB, rfl, Nat.le_refl _, Zm⟩) nc (by omega)).mono ?_
          rintro e wm ⟨rfl, _, _, _, vm, _⟩
          have rm := Rng.mov (lo := ZB) (hi := ZB + 1) (vm ZB rfl) (Nat.le_refl _) (by omega)
          clear vm
          replace BL := BL.trans (rm.below (by omega) BL.size)
          replace Dc := (unhide HDc).later BL
          replace Du := (unhide HDu).later BL
          replace Dv := (unhide HDv).later BL
          replace S := (unhide HSt).later BL
          replace E := E.rng rm (Or.inl (by omega))
          replace V := V.rng rm (Or.inl (by omega))
          replace W := W.low (WU.mono (by omega)) rm
          replace Q := Q.rng rm (Or.inr (by omega))
          replace K := K.high KO rm (by omega)
          replace KO := KO.high rm (by omega)
          replace P2m := P2m.rng rm (Or.inr (by omega))
          replace P3m := P3m.rng rm (Or.inr (by omega))
          clear rm Z Zm Zlt R P2 P2lt P3 P3lt
          obtain ⟨E0, E1⟩ := id E
          have El := World.block_lt_of_cell? _ _ E0
          obtain ⟨V0, V1⟩ := id V
          have Vl := World.block_lt_of_cell? _ _ V0
          obtain ⟨Q0, Q1⟩ := id Q
          have Ql := World.block_lt_of_cell? _ _ Q0
          go_wp2_with fail
          clear E0 E1 El
          clear V0 V1 Vl
          clear Q0 Q1 Ql
          refine (markIntS_from (1 + 3 * (lenc : Int)) (some ⟨vR.heap.size, 0, none⟩) lenu lenu (vR.heap.size) _ (by omega) (Or.inr ⟨_, rfl, Nat.le_refl _, P2m⟩) hu).mono ?_
          rintro e wn ⟨rfl, _, _, vm, _⟩
          have rn := Rng.mov (lo := vR.heap.size) (hi := vR.heap.size + 1) (vm _ rfl) (Nat.le_refl _) (by omega)
          clear vm
          replace BL := BL.trans (rn.below (by omega) BL.size)
          replace Dc := (unhide HDc).later BL
          replace Du := (unhide HDu).later BL
          replace Dv := (unhide HDv).later BL
          replace S := (unhide HSt).later BL
          replace E := E.rng rn (Or.inl (by omega))
          replace V := V.rng rn (Or.inl (by omega))
          replace W := W.low (WU.mono (by omega)) rn
          replace Q := Q.rng rn (Or.inr (by omega))
          replace K := K.high KO rn (by omega)
          replace KO := KO.high rn (by omega)
          replace P3m := P3m.rng rn (Or.inr (by omega))
          clear rn P2m
          obtain ⟨E0, E1⟩ := id E
          have El := World.block_lt_of_cell? _ _ E0
          obtain ⟨V0, V1⟩ := id V
          have Vl := World.block_lt_of_cell? _ _ V0
          obtain ⟨Q0, Q1⟩ := id Q
          have Ql := World.block_lt_of_cell? _ _ Q0
          go_wp2_with fail
          clear E0 E1 El
          clear V0 V1 Vl
          clear Q0 Q1 Ql
          refine (markIntS_from (1 + 3 * (lenc : Int) + (lenu : Int)) (some ⟨w8.heap.size, 0, none⟩) lenv lenv (w8.heap.size) _ (by omega) (Or.inr ⟨_, rfl, Nat.le_refl _, P3m⟩) hv).mono ?_
          rintro e wx ⟨rfl, _, _, vm, _⟩
          have rx := Rng.mov (lo := w8.heap.size) (hi := w8.heap.size + 1) (vm _ rfl) (Nat.le_refl _) (by omega)
          clear vm
          replace BL := BL.trans (rx.below (by omega) BL.size)
          replace Dc := (unhide HDc).later BL
          replace Du := (unhide HDu).later BL
          replace Dv := (unhide HDv).later BL
          replace S := (unhide HSt).later BL
          replace E := E.rng rx (Or.inl (by omega))
          replace V := V.rng rx (Or.inl (by omega))
          replace W := W.low (WU.mono (by omega)) rx
          replace Q := Q.rng rx (Or.inr (by omega))
          replace K := K.high KO rx (by omega)
          replace KO := KO.high rx (by omega)
          clear rx P3m
          obtain ⟨E0, E1⟩ := id E
          have El := World.block_lt_of_cell? _ _ E0
          obtain ⟨V0, V1⟩ := id V
          have Vl := World.block_lt_of_cell? _ _ V0
          obtain ⟨Q0, Q1⟩ := id Q
          have Ql := World.block_lt_of_cell? _ _ Q0
          go_wp2_with fail
          clear E0 E1 El
          clear V0 V1 Vl
          clear Q0 Q1 Ql
          refine (eqNet_same _ _ _ _ _ _ _ _ K W hl).mono ?_
          rintro e w16 ⟨rfl, b16⟩
          replace Dc := Dc.later b16
          replace Du := Du.later b16
          replace Dv := Dv.later b16
          replace S := S.later b16
          replace W := W.later b16
          replace K := K.later b16
          replace KO := KO.later b16
          replace E := E.later b16
          replace V := V.later b16
          replace Q := Q.later b16
          replace BL := BL.trans (b16.mono BL.size)
          clear b16
          obtain ⟨E0, E1⟩ := id E
          have El := World.block_lt_of_cell? _ _ E0
          obtain ⟨V0, V1⟩ := id V
          have Vl := World.block_lt_of_cell? _ _ V0
          obtain ⟨Q0, Q1⟩ := id Q
          have Ql := World.block_lt_of_cell? _ _ Q0
          go_wp2_with fail
          clear E0 E1 El
          clear V0 V1 Vl
          clear Q0 Q1 Ql
          refine (markNet_any 1 _ _ _ _ w9.heap.size _ (by omega) KO hl (by have := World.block_lt_of_cell? _ _ Q.1; simp only at this; omega)).mono ?_
          rintro e wo ⟨rfl, K3, KO2, _, vo, uo⟩
          have ro := uo w10.heap.size KU
          clear uo vo K KO KO2
          replace BL := BL.trans (ro.below (by omega) BL.size)
          replace Dc := (unhide HDc).later BL
          replace Du := (unhide HDu).later BL
          replace Dv := (unhide HDv).later BL
          replace S := (unhide HSt).later BL
          replace E := E.rng ro (Or.inl (by omega))
          replace V := V.rng ro (Or.inl (by omega))
          replace W := W.low (WU.mono (by omega)) ro
          replace Q := Q.rng ro (Or.inr (by omega))
          clear ro
          obtain ⟨E0, E1⟩ := id E
          have El := World.block_lt_of_cell? _ _ E0
          obtain ⟨V0, V1⟩ := id V
          have Vl := World.block_lt_of_cell? _ _ V0
          obtain ⟨Q0, Q1⟩ := id Q
          have Ql := World.block_lt_of_cell? _ _ Q0
          go_wp2_with fail
          clear E0 E1 El
          clear V0 V1 Vl
          clear Q0 Q1 Ql
          refine (heldNet_any 1 _ _ _ _ _ (by omega) K3 hl).mono ?_
          rintro e w17 ⟨rfl, b17⟩
          replace Dc := Dc.later b17
          replace Du := Du.later b17
          replace Dv := Dv.later b17
          replace S := S.later b17
          replace W := W.later b17
          replace K3 := K3.later b17
          replace E := E.later b17
          replace V := V.later b17
          replace Q := Q.later b17
          replace BL := BL.trans (b17.mono BL.size)
          clear b17
          obtain ⟨E0, E1⟩ := id E
          have El := World.block_lt_of_cell? _ _ E0
          obtain ⟨V0, V1⟩ := id V
          have Vl := World.block_lt_of_cell? _ _ V0
          obtain ⟨Q0, Q1⟩ := id Q
          have Ql := World.block_lt_of_cell? _ _ Q0
          go_wp2_with fail
          clear E0 E1 El
          clear V0 V1 Vl
          clear Q0 Q1 Ql
          refine (toNet_any _ _ _ _ _ _ Dc nc).mono ?_
          rintro e w18 ⟨YB, rfl, Yle, Y, Ym, b18⟩
          replace Dc := Dc.later b18
          replace Du := Du.later b18
          replace Dv := Dv.later b18
          replace S := S.later b18
          replace W := W.later b18
          replace K3 := K3.later b18
          replace E := E.later b18
          replace V := V.later b18
          replace Q := Q.later b18
          replace BL := BL.trans (b18.mono BL.size)
          clear b18
          have Ylt := Ym.1
          clear Yle
          obtain ⟨E0, E1⟩ := id E
          have El := World.block_lt_of_cell? _ _ E0
          obtain ⟨V0, V1⟩ := id V
          have Vl := World.block_lt_of_cell? _ _ V0
          obtain ⟨Q0, Q1⟩ := id Q
          have Ql := World.block_lt_of_cell? _ _ Q0
          go_wp2_with fail
          clear E0 E1 El
          clear V0 V1 Vl
          clear Q0 Q1 Ql
          refine (toIntS_made _ _ _ _ _ Du hu).mono ?_
          rintro e w19 ⟨rfl, Y2, Y2m, b19⟩
          replace Dc := Dc.later b19
          replace Du := Du.later b19
          replace Dv := Dv.later b19
          replace S := S.later b19
          replace W := W.later b19
          replace K3 := K3.later b19
          replace Y := Y.later b19
          replace Ym := Ym.later b19
          replace E := E.later b19
          replace V := V.later b19
          replace Q := Q.later b19
          replace Ylt := Nat.lt_of_lt_of_le Ylt b19.size
          replace BL := BL.trans (b19.mono BL.size)
          clear b19
          have Y2lt := Y2m.1
          obtain ⟨E0, E1⟩ := id E
          have El := World.block_lt_of_cell? _ _ E0
          obtain ⟨V0, V1⟩ := id V
          have Vl := World.block_lt_of_cell? _ _ V0
          obtain ⟨Q0, Q1⟩ := id Q
          have Ql := World.block_lt_of_cell? _ _ Q0
          go_wp2_with fail
          clear E0 E1 El
          clear V0 V1 Vl
          clear Q0 Q1 Ql
          refine (toIntS_made _ _ _ _ _ Dv hv).mono ?_
          rintro e w20 ⟨rfl, Y3, Y3m, b20⟩
          replace Dc := Dc.later b20
          replace Du := Du.later b20
          replace Dv := Dv.later b20
          replace S := S.later b20
          replace W := W.later b20
          replace K3 := K3.later b20
          replace Y := Y.later b20
          replace Ym := Ym.later b20
          replace Y2 := Y2.later b20
          replace Y2m := Y2m.later b20
          replace E := E.later b20
          replace V := V.later b20
          replace Q := Q.later b20
          replace Ylt := Nat.lt_of_lt_of_le Ylt b20.size
          replace Y2lt := Nat.lt_of_lt_of_le Y2lt b20.size
          replace BL := BL.trans (b20.mono BL.size)
          clear b20
          have Y3lt := Y3m.1
          obtain ⟨E0, E1⟩ := id E
          have El := World.block_lt_of_cell? _ _ E0
          obtain ⟨V0, V1⟩ := id V
          have Vl := World.block_lt_of_cell? _ _ V0
          obtain ⟨Q0, Q1⟩ := id Q
          have Ql := World.block_lt_of_cell? _ _ Q0
          go_wp2_with fail
          clear E0 E1 El
          clear V0 V1 Vl
          clear Q0 Q1 Ql
          refine (iBitsCmp_any mc _ lenc _ Gc a _ lenu _ Lu _ lenv _ Lv 2 aF aR _ (Y.at Ylt) (unhide HW) ⟨_, rfl, rfl⟩ nc (Y2.at Y2lt) (Y3.at Y3lt) (unhide NLu) (unhide NLv) hu hv (unhide HWu) (unhide HWv) S (by have := BL.size; omega)).mono ?_
          rintro e w21 ⟨⟨ah, ch, rfl, H1, _⟩, b21⟩
          replace Dc := Dc.later b21
          replace Du := Du.later b21
          replace Dv := Dv.later b21
          replace S := S.later b21
          replace W := W.later b21
          replace K3 := K3.later b21
          replace Y := Y.later b21
          replace Ym := Ym.later b21
          replace Y2 := Y2.later b21
          replace Y2m := Y2m.later b21
          replace Y3 := Y3.later b21
          replace Y3m := Y3m.later b21
          replace E := E.later b21
          replace V := V.later b21
          replace Q := Q.later b21
          replace Ylt := Nat.lt_of_lt_of_le Ylt b21.size
          replace Y2lt := Nat.lt_of_lt_of_le Y2lt b21.size
          replace Y3lt := Nat.lt_of_lt_of_le Y3lt b21.size
          replace BL := BL.trans (b21.mono BL.size)
          clear b21
          rw [← unhide HLo] at H1
          rw [← unhide HLo]
          rw [← unhide HLN]
          clear Ym
          clear Y Ylt
          clear Y2m
          clear Y2 Y2lt
          clear Y3m
          clear Y3 Y3lt
          obtain ⟨E0, E1⟩ := id E
          have El := World.block_lt_of_cell? _ _ E0
          obtain ⟨V0, V1⟩ := id V
          have Vl := World.block_lt_of_cell? _ _ V0
          obtain ⟨Q0, Q1⟩ := id Q
          have Ql := World.block_lt_of_cell? _ _ Q0
          go_wp2_with fail
          clear E0 E1 El
          clear V0 V1 Vl
          clear Q0 Q1 Ql
          obtain ⟨vT, hvT⟩ : ∃ v, v = w21.alloc (.cells #[.int .i64 r.m, .slice ah r.n ch] 29) := ⟨_, rfl⟩
          have bvT : Below w21.heap.size w21 vT := by rw [hvT]; exact (Below.refl _ _).alloc (Nat.le_refl _) _
          have T : NBox vT w21.heap.size r.m ah r.n ch := by rw [hvT]; exact NBox.new _ _ _ _ _ _
          rw [← hvT]
          clear hvT
          replace Dc := Dc.later bvT
          replace Du := Du.later bvT
          replace Dv := Dv.later bvT
          replace S := S.later bvT
          replace W := W.later bvT
          replace K3 := K3.later bvT
          replace H1 := H1.later bvT
          replace E := E.later bvT
          replace V := V.later bvT
          replace Q := Q.later bvT
          replace BL := BL.trans (bvT.mono BL.size)
          clear bvT
          refine (eqNet_same _ _ _ _ _ _ _ _ H1 W hl).mono ?_
          rintro e w22 ⟨rfl, b22⟩
          replace Dc := Dc.later b22
          replace Du := Du.later b22
          replace Dv := Dv.later b22
          replace S := S.later b22
          replace W := W.later b22
          replace K3 := K3.later b22
          replace H1 := H1.later b22
          replace E := E.later b22
          replace V := V.later b22
          replace Q := Q.later b22
          replace T := T.later b22
          replace BL := BL.trans (b22.mono BL.size)
          clear b22
          obtain ⟨E0, E1⟩ := id E
          have El := World.block_lt_of_cell? _ _ E0
          obtain ⟨V0, V1⟩ := id V
          have Vl := World.block_lt_of_cell? _ _ V0
          obtain ⟨Q0, Q1⟩ := id Q
          have Ql := World.block_lt_of_cell? _ _ Q0
          obtain ⟨T0, T1⟩ := id T
          have Tl := World.block_lt_of_cell? _ _ T0
          go_wp2_with fail
          clear E0 E1 El
          clear V0 V1 Vl
          clear Q0 Q1 Ql
          clear T0 T1 Tl
          refine (heldNet_any 1 _ _ _ _ _ (by omega) K3 hl).mono ?_
          rintro e w23 ⟨rfl, b23⟩
          replace Dc := Dc.later b23
          replace Du := Du.later b23
          replace Dv := Dv.later b23
          replace S := S.later b23
          replace W := W.later b23
          replace K3 := K3.later b23
          replace H1 := H1.later b23
          replace E := E.later b23
          replace V := V.later b23
          replace Q := Q.later b23
          replace T := T.later b23
          replace BL := BL.trans (b23.mono BL.size)
          clear b23
          go_wp2
          go_ret
          exact ⟨rfl, BL⟩
      · go_wp2
        go_ret
        exact ⟨rfl, BL⟩
    · go_enter Tryd.func3, Tryd.ntmps3
      go_wp2
      go_ret
      exact ⟨rfl, (by repeat (first | exact Below.refl _ _ | assumption | refine below_drewN ?_ _ | refine Below.drew ?_ | refine Below.alloc ?_ (by first | exact Nat.le_refl _ | exact Below.size (by assumption) | (simp; done) | (simp; omega)) _ | refine Below.setCell ?_ (by first | exact Nat.le_refl _ | exact Below.size (by assumption) | (simp; done) | (simp; omega)) _ | refine Below.trans ?_ (by assumption)))⟩
  · go_enter Tryd.func3, Tryd.ntmps3
    go_wp2
    go_ret
    exact ⟨rfl, (by repeat (first | exact Below.refl _ _ | assumption | refine below_drewN ?_ _ | refine Below.drew ?_ | refine Below.alloc ?_ (by first | exact Nat.le_refl _ | exact Below.size (by assumption) | (simp; done) | (simp; omega)) _ | refine Below.setCell ?_ (by first | exact Nat.le_refl _ | exact Below.size (by assumption) | (simp; done) | (simp; omega)) _ | refine Below.trans ?_ (by assumption)))⟩
end exBcp
end Go.Proofs.YtnjjobompjoigaaDoor
