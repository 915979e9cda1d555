/- At every argument the program's BitsUn answers as the model's: the law FnExactBitsUn returns true for every net, every op and any list of marks, right or not, leaves them as they were, and what is handed back is memory of its own. Condition: the package's two errors read as the program's text lays them (the card ties them). (The law itself answers true where a list or the net has more than 1048576 entries.) -/
import Derived.Test.YtjchdggpfkjcgaaDoorBuZ
import Derived.Test.YtjchdggpfkjcgaaDoorBuY
import Derived.Test.YtjchdggpfkjcgaaDoorRngI
namespace Go.Proofs.YtjchdggpfkjcgaaDoor
open Go.ChangeShapes Go.WideShapes Go.ChangeAt Go.RowKit Go.Joins
open Go.ChangeMaps (open_string shut_string)
set_option linter.unusedVariables false
set_option maxRecDepth 100000
theorem laidOut : laidOutB Tryd.prog = true := by kernel_rfl
theorem Sent.later {w w' : World} {base : Nat} {aF aR : Addr} (h : Sent w base aF aR) (hb : Below w.heap.size w w') : Sent w' base aF aR := ⟨cell_later hb h.f, cell_later hb h.r, h.b⟩

namespace exBun
set_option maxRecDepth 100000 in
set_option maxHeartbeats 4000000 in
theorem walk (mc : Int) (c : Option Addr) (lenc capc : Nat) (Gc : Nat → Gt) (a : Int) (u : Option Addr) (lenu capu : Nat) (Vu : Nat → Int) (aF aR : Addr) (w : World) (hS : Sent w 2 aF aR) (hsz : 2 ≤ w.heap.size) (wmc : W64 mc) (lcc : lenc ≤ capc) (lnc : lenc ≤ maxLen) (hdc : GtsAt w c lenc Gc) (hwc : WG lenc Gc) (wa : (Lit.int .i64 a).wf = true) (hdu : IntsAt w u lenu Vu) (lcu : lenu ≤ capu) (lnu : lenu ≤ maxLen) (hwu : ∀ i, i < lenu → W64 (Vu i)) :
    Calls Tryd.prog 3 #[.agg #[.int .i64 mc, .slice c lenc capc], .int .i64 a, .slice u lenu capu] w fun e w' => e = .returned (.bool true) ∧ Below w.heap.size w w' := by
  by_cases hu : lenu ≤ 1048576
  · by_cases hv : True
    · obtain ⟨Lu, hLu⟩ : ∃ L, L = lsI lenu Vu := ⟨_, rfl⟩
      have Dc := hdc
      have Du : IntsAt w u lenu (at0 Lu) := hdu.cong (fun i hi => by rw [hLu]; exact (lsI_at hi).symm)
      have NLu : Hid (Lu.length = lenu) := by rw [hLu]; exact lsI_len _ _
      have HWu : Hid (∀ i, i < lenu → W64 (at0 Lu i)) := fun i hi => by rw [hLu, lsI_at hi]; exact hwu i hi
      have HDc := hide hdc
      have HDu := hide Du
      have HW := hide hwc
      have HSt := hide hS
      have S := hS
      have BL : Below w.heap.size w w := Below.refl _ _
      clear hdc hdu hwc hwu hS hLu hv
      obtain ⟨r, hr⟩ : ∃ r, r = unBR mc lenc Gc a Lu := ⟨_, rfl⟩
      have hrn := unBR_bd mc lenc Gc a Lu
      rw [← hr] at hrn
      have hl : r.n ≤ 1048576 := by omega
      have HLo := hide hr
      clear hr
      obtain ⟨ln, hln⟩ : ∃ l, l = r.L.length := ⟨_, rfl⟩
      rw [← hln] at hrn
      have hl2 : ln ≤ 1048576 := by omega
      have HLN := hide hln
      clear hln
      have kq : ((1 + 3 * (r.n : Int) + (ln : Int)) != (1 + 3 * (r.n : Int) + (ln : Int))) = false := by simp
      go_enter Tryd.func3, Tryd.ntmps3
      go_wp2_with fail
      obtain ⟨vE, hvE⟩ : ∃ v, v = w.alloc (.cells #[.int .i64 mc, .slice c lenc capc] 24) := ⟨_, rfl⟩
      have bvE : Below w.heap.size w vE := by rw [hvE]; exact (Below.refl _ _).alloc (Nat.le_refl _) _
      have E : NBox vE w.heap.size mc c lenc capc := by rw [hvE]; exact NBox.new _ _ _ _ _ _
      rw [← hvE]
      clear hvE
      replace Dc := Dc.later bvE
      replace Du := Du.later bvE
      replace S := S.later bvE
      replace BL := BL.trans (bvE.mono BL.size)
      clear bvE
      refine (szNet_any _ _ _ _ 1048576 _ (by omega) (by omega) lnc).mono ?_
      rintro e w2 ⟨⟨zc, rfl, hzc⟩, b2⟩
      replace Dc := Dc.later b2
      replace Du := Du.later b2
      replace S := S.later b2
      replace E := E.later b2
      replace BL := BL.trans (b2.mono BL.size)
      clear b2
      by_cases h0 : 0 ≤ zc
      · have nc : lenc ≤ 1048576 := by rcases hzc with h | h <;> omega
        obtain ⟨E0, E1⟩ := id E
        have El := World.block_lt_of_cell? _ _ E0
        go_wp2_with fail
        clear E0 E1 El
        refine (toNet_any _ _ _ _ _ _ Dc nc).mono ?_
        rintro e w3 ⟨XB, rfl, Xle, X, Xm, b3⟩
        replace Dc := Dc.later b3
        replace Du := Du.later b3
        replace S := S.later b3
        replace E := E.later b3
        replace BL := BL.trans (b3.mono BL.size)
        clear b3
        have Xlt := Xm.1
        clear Xle
        obtain ⟨E0, E1⟩ := id E
        have El := World.block_lt_of_cell? _ _ E0
        go_wp2_with fail
        clear E0 E1 El
        refine (toIntS_made _ _ _ _ _ Du hu).mono ?_
        rintro e w4 ⟨rfl, U, Um, b4⟩
        replace Dc := Dc.later b4
        replace Du := Du.later b4
        replace S := S.later b4
        replace X := X.later b4
        replace Xm := Xm.later b4
        replace E := E.later b4
        replace Xlt := Nat.lt_of_lt_of_le Xlt b4.size
        replace BL := BL.trans (b4.mono BL.size)
        clear b4
        have Ult := Um.1
        obtain ⟨E0, E1⟩ := id E
        have El := World.block_lt_of_cell? _ _ E0
        go_wp2_with fail
        clear E0 E1 El
        refine (sBitsUn_any mc _ lenc _ Gc a _ lenu _ Lu _ (X.at Xlt) (unhide HW) (fun h => by cases h) (fun p h => by cases h; rfl) (fun p h => by cases h; exact Xlt) nc (U.at Ult) (unhide NLu) hu).mono ?_
        rintro e w5 ⟨⟨aw, cw, gw, cpw, rfl, ⟨W, _⟩, WI, _⟩, b5⟩
        replace Dc := Dc.later b5
        replace Du := Du.later b5
        replace S := S.later b5
        replace X := X.later b5
        replace Xm := Xm.later b5
        replace U := U.later b5
        replace Um := Um.later b5
        replace E := E.later b5
        replace Xlt := Nat.lt_of_lt_of_le Xlt b5.size
        replace Ult := Nat.lt_of_lt_of_le Ult b5.size
        replace BL := BL.trans (b5.mono BL.size)
        clear b5
        rw [← unhide HLo] at W WI
        rw [← unhide HLo]
        rw [← unhide HLN]
        rw [← unhide HLN] at WI
        clear Xm
        clear X Xlt
        clear Um
        clear U Ult
        have WU := W.up
        have WIU := WI.up
        have eb := World.block_lt_of_cell? _ _ E.1
        simp only at eb
        obtain ⟨E0, E1⟩ := id E
        have El := World.block_lt_of_cell? _ _ E0
        go_wp2_with fail
        clear E0 E1 El
        obtain ⟨vV, hvV⟩ : ∃ v, v = w5.alloc (.cells #[.int .i64 r.m, .slice aw r.n cw] 29) := ⟨_, rfl⟩
        have bvV : Below w5.heap.size w5 vV := by rw [hvV]; exact (Below.refl _ _).alloc (Nat.le_refl _) _
        have V : NBox vV w5.heap.size r.m aw r.n cw := by rw [hvV]; exact NBox.new _ _ _ _ _ _
        rw [← hvV]
        clear hvV
        replace Dc := Dc.later bvV
        replace Du := Du.later bvV
        replace S := S.later bvV
        replace W := W.later bvV
        replace WI := WI.later bvV
        replace E := E.later bvV
        replace BL := BL.trans (bvV.mono BL.size)
        clear bvV
        have vb : w5.heap.size < vV.heap.size := by have := World.block_lt_of_cell? _ _ V.1; simpa using this
        refine (toNet_any _ _ _ _ _ _ Dc nc).mono ?_
        rintro e w6 ⟨ZB, rfl, Zle, Z, Zm, b6⟩
        replace Dc := Dc.later b6
        replace Du := Du.later b6
        replace S := S.later b6
        replace W := W.later b6
        replace WI := WI.later b6
        replace E := E.later b6
        replace V := V.later b6
        replace BL := BL.trans (b6.mono BL.size)
        clear b6
        have Zlt := Zm.1
        have zt : ZB < w6.heap.size := Zm.1
        obtain ⟨E0, E1⟩ := id E
        have El := World.block_lt_of_cell? _ _ E0
        obtain ⟨V0, V1⟩ := id V
        have Vl := World.block_lt_of_cell? _ _ V0
        go_wp2_with fail
        clear E0 E1 El
        clear V0 V1 Vl
        obtain ⟨vR, hvR⟩ : ∃ v, v = w6.alloc (.cells #[.int .i64 mc, .slice (some ⟨ZB, 0, none⟩) lenc lenc] 29) := ⟨_, rfl⟩
        have bvR : Below w6.heap.size w6 vR := by rw [hvR]; exact (Below.refl _ _).alloc (Nat.le_refl _) _
        have R : NBox vR w6.heap.size mc (some ⟨ZB, 0, none⟩) lenc lenc := by rw [hvR]; exact NBox.new _ _ _ _ _ _
        have sR : vR.heap.size ≤ w6.heap.size + 1 := by rw [hvR]; simp
        rw [← hvR]
        clear hvR
        replace Dc := Dc.later bvR
        replace Du := Du.later bvR
        replace S := S.later bvR
        replace W := W.later bvR
        replace WI := WI.later bvR
        replace Z := Z.later bvR
        replace Zm := Zm.later bvR
        replace E := E.later bvR
        replace V := V.later bvR
        replace Zlt := Nat.lt_of_lt_of_le Zlt bvR.size
        replace BL := BL.trans (bvR.mono BL.size)
        clear bvR
        have zr : w6.heap.size < vR.heap.size := by have := World.block_lt_of_cell? _ _ R.1; simpa using this
        refine (toIntS_made _ _ _ _ _ Du hu).mono ?_
        rintro e w7 ⟨rfl, P2, P2m, b7⟩
        replace Dc := Dc.later b7
        replace Du := Du.later b7
        replace S := S.later b7
        replace W := W.later b7
        replace WI := WI.later b7
        replace Z := Z.later b7
        replace Zm := Zm.later b7
        replace E := E.later b7
        replace V := V.later b7
        replace R := R.later b7
        replace Zlt := Nat.lt_of_lt_of_le Zlt b7.size
        replace BL := BL.trans (b7.mono BL.size)
        clear b7
        have P2lt := P2m.1
        have t2 : vR.heap.size < w7.heap.size := P2m.1
        obtain ⟨E0, E1⟩ := id E
        have El := World.block_lt_of_cell? _ _ E0
        obtain ⟨V0, V1⟩ := id V
        have Vl := World.block_lt_of_cell? _ _ V0
        obtain ⟨R0, R1⟩ := id R
        have Rl := World.block_lt_of_cell? _ _ R0
        go_wp2_with fail
        clear E0 E1 El
        clear V0 V1 Vl
        clear R0 R1 Rl
        refine (iBitsUn_any mc _ lenc _ Gc a _ lenu _ Lu 2 aF aR _ (Z.at Zlt) (unhide HW) ⟨_, rfl, rfl⟩ nc (P2.at P2lt) (unhide NLu) hu (unhide HWu) S (by have := BL.size; omega)).mono ?_
        rintro e w8 ⟨⟨ag, cg, gg, cpg, rfl, ⟨K, KO⟩, ⟨KI, KIO⟩, SP⟩, b8⟩
        have k34 := b8.size
        replace Dc := Dc.later b8
        replace Du := Du.later b8
        replace S := S.later b8
        replace W := W.later b8
        replace WI := WI.later b8
        replace Z := Z.later b8
        replace Zm := Zm.later b8
        replace P2 := P2.later b8
        replace P2m := P2m.later b8
        replace E := E.later b8
        replace V := V.later b8
        replace R := R.later b8
        replace Zlt := Nat.lt_of_lt_of_le Zlt b8.size
        replace P2lt := Nat.lt_of_lt_of_le P2lt b8.size
        replace BL := BL.trans (b8.mono BL.size)
        clear b8
        rw [← unhide HLo] at K KO KI KIO SP
        rw [← unhide HLo]
        rw [← unhide HLN]
        rw [← unhide HLN] at KI KIO SP
        have HSP : Hid (Sep ag r.n gg ln) := SP
        clear SP
        have KU := K.up
        have KIU := KI.up
        have z4 : ZB < w8.heap.size := Zm.1
        have p24 : vR.heap.size < w8.heap.size := P2m.1
        have rq := World.block_lt_of_cell? _ _ R.1
        simp only at rq
        have kl := Nat.le_refl w8.heap.size
        obtain ⟨E0, E1⟩ := id E
        have El := World.block_lt_of_cell? _ _ E0
        obtain ⟨V0, V1⟩ := id V
        have Vl := World.block_lt_of_cell? _ _ V0
        obtain ⟨R0, R1⟩ := id R
        have Rl := World.block_lt_of_cell? _ _ R0
        go_wp2_with fail
        clear E0 E1 El
        clear V0 V1 Vl
        clear R0 R1 Rl
        obtain ⟨vQ, hvQ⟩ : ∃ v, v = w8.alloc (.cells #[.int .i64 r.m, .slice ag r.n cg] 29) := ⟨_, rfl⟩
        have bvQ : Below w8.heap.size w8 vQ := by rw [hvQ]; exact (Below.refl _ _).alloc (Nat.le_refl _) _
        have Q : NBox vQ w8.heap.size r.m ag r.n cg := by rw [hvQ]; exact NBox.new _ _ _ _ _ _
        rw [← hvQ]
        clear hvQ
        replace Dc := Dc.later bvQ
        replace Du := Du.later bvQ
        replace S := S.later bvQ
        replace W := W.later bvQ
        replace WI := WI.later bvQ
        replace Z := Z.later bvQ
        replace Zm := Zm.later bvQ
        replace P2 := P2.later bvQ
        replace P2m := P2m.later bvQ
        replace K := K.later bvQ
        replace KO := KO.later bvQ
        replace KI := KI.later bvQ
        replace KIO := KIO.later bvQ
        replace E := E.later bvQ
        replace V := V.later bvQ
        replace R := R.later bvQ
        replace Zlt := Nat.lt_of_lt_of_le Zlt bvQ.size
        replace P2lt := Nat.lt_of_lt_of_le P2lt bvQ.size
        replace BL := BL.trans (bvQ.mono BL.size)
        clear bvQ
        refine (eqNet_same _ _ _ _ _ _ _ _ K W hl).mono ?_
        rintro e w9 ⟨rfl, b9⟩
        replace Dc := Dc.later b9
        replace Du := Du.later b9
        replace S := S.later b9
        replace W := W.later b9
        replace WI := WI.later b9
        replace Z := Z.later b9
        replace Zm := Zm.later b9
        replace P2 := P2.later b9
        replace P2m := P2m.later b9
        replace K := K.later b9
        replace KO := KO.later b9
        replace KI := KI.later b9
        replace KIO := KIO.later b9
        replace E := E.later b9
        replace V := V.later b9
        replace R := R.later b9
        replace Q := Q.later b9
        replace Zlt := Nat.lt_of_lt_of_le Zlt b9.size
        replace P2lt := Nat.lt_of_lt_of_le P2lt b9.size
        replace BL := BL.trans (b9.mono BL.size)
        clear b9
        obtain ⟨E0, E1⟩ := id E
        have El := World.block_lt_of_cell? _ _ E0
        obtain ⟨V0, V1⟩ := id V
        have Vl := World.block_lt_of_cell? _ _ V0
        obtain ⟨R0, R1⟩ := id R
        have Rl := World.block_lt_of_cell? _ _ R0
        obtain ⟨Q0, Q1⟩ := id Q
        have Ql := World.block_lt_of_cell? _ _ Q0
        go_wp2_with fail
        clear E0 E1 El
        clear V0 V1 Vl
        clear R0 R1 Rl
        clear Q0 Q1 Ql
        refine (eqIntS_two _ _ _ _ _ _ _ KI WI hl2).mono ?_
        rintro e w10 ⟨rfl, b10⟩
        replace Dc := Dc.later b10
        replace Du := Du.later b10
        replace S := S.later b10
        replace W := W.later b10
        replace WI := WI.later b10
        replace Z := Z.later b10
        replace Zm := Zm.later b10
        replace P2 := P2.later b10
        replace P2m := P2m.later b10
        replace K := K.later b10
        replace KO := KO.later b10
        replace KI := KI.later b10
        replace KIO := KIO.later b10
        replace E := E.later b10
        replace V := V.later b10
        replace R := R.later b10
        replace Q := Q.later b10
        replace Zlt := Nat.lt_of_lt_of_le Zlt b10.size
        replace P2lt := Nat.lt_of_lt_of_le P2lt b10.size
        replace BL := BL.trans (b10.mono BL.size)
        clear b10
        obtain ⟨E0, E1⟩ := id E
        have El := World.block_lt_of_cell? _ _ E0
        obtain ⟨V0, V1⟩ := id V
        have Vl := World.block_lt_of_cell? _ _ V0
        obtain ⟨R0, R1⟩ := id R
        have Rl := World.block_lt_of_cell? _ _ R0
        obtain ⟨Q0, Q1⟩ := id Q
        have Ql := World.block_lt_of_cell? _ _ Q0
        go_wp2
        go_region_held3 (fun w' => w'.cell? ⟨w.heap.size, 0, none⟩ = some (.int .i64 mc) ∧ w'.cell? ⟨w.heap.size, 1, none⟩ = some (.slice c lenc capc) ∧ w'.cell? ⟨w6.heap.size, 0, none⟩ = some (.int .i64 mc) ∧ w'.cell? ⟨w6.heap.size, 1, none⟩ = some (.slice (some ⟨ZB, 0, none⟩) lenc lenc)) (first | go_keep | exact ⟨E0, E1, R0, R1⟩)
          (first | (go_at_call 8; refine (toNet_any _ _ _ _ _ _ (by first | exact Dc | exact Dc.drew | exact Dc.drew.drew) nc).mono ?_; rintro e wq ⟨Bq, rfl, leq, Xq, mq, bq⟩; have ltq := mq.1; have Dc := GtsAt.later (by first | exact Dc | exact Dc.drew | exact Dc.drew.drew) bq; have Du := IntsAt.later (by first | exact Du | exact Du.drew | exact Du.drew.drew) bq; have S := Sent.later (by first | exact S | exact S.drew | exact S.drew.drew) bq; have W := GtsAt.later (by first | exact W | exact W.drew | exact W.drew.drew) bq; have WI := IntsAt.later (by first | exact WI | exact WI.drew | exact WI.drew.drew) bq; have Z := Gts.later (by first | exact Z | exact Z.drew | exact Z.drew.drew) bq; have Zm := Made.later (by first | exact Zm | exact Zm.drew | exact Zm.drew.drew) bq; have P2 := Ints.later (by first | exact P2 | exact P2.drew | exact P2.drew.drew) bq; have P2m := Made.later (by first | exact P2m | exact P2m.drew | exact P2m.drew.drew) bq; have K := GtsAt.later (by first | exact K | exact K.drew | exact K.drew.drew) bq; have KO := OwnG.later (by first | exact KO | exact KO.drew | exact KO.drew.drew) bq; have KI := IntsAt.later (by first | exact KI | exact KI.drew | exact KI.drew.drew) bq; have KIO := OwnB.later (by first | exact KIO | exact KIO.drew | exact KIO.drew.drew) bq; have E := NBox.later (by first | exact E | exact E.drew | exact E.drew.drew) bq; have V := NBox.later (by first | exact V | exact V.drew | exact V.drew.drew) bq; have R := NBox.later (by first | exact R | exact R.drew | exact R.drew.drew) bq; have Q := NBox.later (by first | exact Q | exact Q.drew | exact Q.drew.drew) bq; have E0 := E.1; have E1 := E.2; have V0 := V.1; have V1 := V.2; have R0 := R.1; have R1 := R.2; have Q0 := Q.1; have Q1 := Q.2; have Zlt := Nat.lt_of_lt_of_le (by exact Zlt) bq.size; have P2lt := Nat.lt_of_lt_of_le (by exact P2lt) bq.size; have BL := (by first | exact BL.trans (bq.mono BL.size) | exact BL.drew.trans (bq.mono BL.size) | exact BL.drew.drew.trans (bq.mono BL.size))) | (go_at_call 11; refine (eqNet_same _ _ _ _ _ _ _ _ (Gts.at (by first | exact Z | exact Z.drew | exact Z.drew.drew) (by exact Zlt)) (Gts.at (by first | exact Xq | exact Xq.drew | exact Xq.drew.drew) (by exact ltq)) nc).mono ?_; rintro e wp ⟨rfl, bp⟩; have Dc := GtsAt.later (by first | exact Dc | exact Dc.drew | exact Dc.drew.drew) bp; have Du := IntsAt.later (by first | exact Du | exact Du.drew | exact Du.drew.drew) bp; have S := Sent.later (by first | exact S | exact S.drew | exact S.drew.drew) bp; have W := GtsAt.later (by first | exact W | exact W.drew | exact W.drew.drew) bp; have WI := IntsAt.later (by first | exact WI | exact WI.drew | exact WI.drew.drew) bp; have Z := Gts.later (by first | exact Z | exact Z.drew | exact Z.drew.drew) bp; have Zm := Made.later (by first | exact Zm | exact Zm.drew | exact Zm.drew.drew) bp; have P2 := Ints.later (by first | exact P2 | exact P2.drew | exact P2.drew.drew) bp; have P2m := Made.later (by first | exact P2m | exact P2m.drew | exact P2m.drew.drew) bp; have K := GtsAt.later (by first | exact K | exact K.drew | exact K.drew.drew) bp; have KO := OwnG.later (by first | exact KO | exact KO.drew | exact KO.drew.drew) bp; have KI := IntsAt.later (by first | exact KI | exact KI.drew | exact KI.drew.drew) bp; have KIO := OwnB.later (by first | exact KIO | exact KIO.drew | exact KIO.drew.drew) bp; have E := NBox.later (by first | exact E | exact E.drew | exact E.drew.drew) bp; have V := NBox.later (by first | exact V | exact V.drew | exact V.drew.drew) bp; have R := NBox.later (by first | exact R | exact R.drew | exact R.drew.drew) bp; have Q := NBox.later (by first | exact Q | exact Q.drew | exact Q.drew.drew) bp; have E0 := E.1; have E1 := E.2; have V0 := V.1; have V1 := V.2; have R0 := R.1; have R1 := R.2; have Q0 := Q.1; have Q1 := Q.2; have Zlt := Nat.lt_of_lt_of_le (by exact Zlt) bp.size; have P2lt := Nat.lt_of_lt_of_le (by exact P2lt) bp.size; have BL := (by first | exact BL.trans (bp.mono BL.size) | exact BL.drew.trans (bp.mono BL.size) | exact BL.drew.drew.trans (bp.mono BL.size))))
        all_goals
          clear E0 E1 R0 R1 V0 V1 Q0 Q1
          (try clear El Rl Vl Ql)
          replace K := (by exact K : GtsAt _ ag r.n r.G)
          replace KO := (by exact KO : OwnG _ _ ag r.n)
          replace W := (by exact W : GtsAt _ aw r.n r.G)
          replace KI := (by exact KI : IntsAt _ gg ln (at0 r.L))
          replace KIO := (by exact KIO : OwnB _ _ gg ln)
          replace WI := (by exact WI : IntsAt _ gw ln (at0 r.L))
          replace P2 := (by exact P2 : Ints _ vR.heap.size 0 lenu (at0 Lu))
          replace P2m := (by exact P2m : Made _ vR.heap.size lenu)
          obtain ⟨E0, E1⟩ := id E
          have El := World.block_lt_of_cell? _ _ E0
          obtain ⟨V0, V1⟩ := id V
          have Vl := World.block_lt_of_cell? _ _ V0
          obtain ⟨R0, R1⟩ := id R
          have Rl := World.block_lt_of_cell? _ _ R0
          obtain ⟨Q0, Q1⟩ := id Q
          have Ql := World.block_lt_of_cell? _ _ Q0
          go_wp2_with fail
          clear E0 E1 El
          clear V0 V1 Vl
          clear R0 R1 Rl
          clear Q0 Q1 Ql
          refine (toIntS_made _ _ _ _ _ Du hu).mono ?_
          rintro e w11 ⟨rfl, P2q, P2qm, b11⟩
          replace Dc := Dc.later b11
          replace Du := Du.later b11
          replace S := S.later b11
          replace W := W.later b11
          replace WI := WI.later b11
          replace Z := Z.later b11
          replace Zm := Zm.later b11
          replace P2 := P2.later b11
          replace P2m := P2m.later b11
          replace K := K.later b11
          replace KO := KO.later b11
          replace KI := KI.later b11
          replace KIO := KIO.later b11
          replace E := E.later b11
          replace V := V.later b11
          replace R := R.later b11
          replace Q := Q.later b11
          replace Zlt := Nat.lt_of_lt_of_le Zlt b11.size
          replace P2lt := Nat.lt_of_lt_of_le P2lt b11.size
          replace BL := BL.trans (b11.mono BL.size)
          clear b11
          have P2qlt := P2qm.1
          obtain ⟨E0, E1⟩ := id E
          have El := World.block_lt_of_cell? _ _ E0
          obtain ⟨V0, V1⟩ := id V
          have Vl := World.block_lt_of_cell? _ _ V0
          obtain ⟨R0, R1⟩ := id R
          have Rl := World.block_lt_of_cell? _ _ R0
          obtain ⟨Q0, Q1⟩ := id Q
          have Ql := World.block_lt_of_cell? _ _ Q0
          go_wp2_with fail
          clear E0 E1 El
          clear V0 V1 Vl
          clear R0 R1 Rl
          clear Q0 Q1 Ql
          refine (eqIntS_two _ _ _ _ _ _ _ (P2.at P2lt) (P2q.at P2qlt) hu).mono ?_
          rintro e w12 ⟨rfl, b12⟩
          replace Dc := Dc.later b12
          replace Du := Du.later b12
          replace S := S.later b12
          replace W := W.later b12
          replace WI := WI.later b12
          replace Z := Z.later b12
          replace Zm := Zm.later b12
          replace P2 := P2.later b12
          replace P2m := P2m.later b12
          replace K := K.later b12
          replace KO := KO.later b12
          replace KI := KI.later b12
          replace KIO := KIO.later b12
          replace P2q := P2q.later b12
          replace P2qm := P2qm.later b12
          replace E := E.later b12
          replace V := V.later b12
          replace R := R.later b12
          replace Q := Q.later b12
          replace Zlt := Nat.lt_of_lt_of_le Zlt b12.size
          replace P2lt := Nat.lt_of_lt_of_le P2lt b12.size
          replace P2qlt := Nat.lt_of_lt_of_le P2qlt b12.size
          replace BL := BL.trans (b12.mono BL.size)
          clear b12
          clear P2q P2qm P2qlt
          obtain ⟨E0, E1⟩ := id E
          have El := World.block_lt_of_cell? _ _ E0
          obtain ⟨V0, V1⟩ := id V
          have Vl := World.block_lt_of_cell? _ _ V0
          obtain ⟨R0, R1⟩ := id R
          have Rl := World.block_lt_of_cell? _ _ R0
          obtain ⟨Q0, Q1⟩ := id Q
          have Ql := World.block_lt_of_cell? _ _ Q0
          go_wp2_with fail
          clear E0 E1 El
          clear V0 V1 Vl
          clear R0 R1 Rl
          clear Q0 Q1 Ql
          refine (markNet_any 1 _ _ _ _ ZB _ (by omega) (Or.inr ⟨ZB, rfl, Nat.le_refl _, Zm⟩) nc (by omega)).mono ?_
          rintro e wm ⟨rfl, _, _, _, vm, _⟩
          have rm := Rng.mov (lo := ZB) (hi := ZB + 1) (vm ZB rfl) (Nat.le_refl _) (by omega)
          clear vm
          replace BL := BL.trans (rm.below (by omega) BL.size)
          replace Dc := (unhide HDc).later BL
          replace Du := (unhide HDu).later BL
          replace S := (unhide HSt).later BL
          replace E := E.rng rm (Or.inl (by omega))
          replace V := V.rng rm (Or.inl (by omega))
          replace W := W.low (WU.mono (by omega)) rm
          replace WI := WI.low (WIU.mono (by omega)) rm
          replace Q := Q.rng rm (Or.inr (by omega))
          replace K := K.high KO rm (by omega)
          replace KO := KO.high rm (by omega)
          replace KI := KI.high KIO rm (by omega)
          replace KIO := KIO.high rm (by omega)
          replace P2m := P2m.rng rm (Or.inr (by omega))
          clear rm Z Zm Zlt R P2 P2lt
          obtain ⟨E0, E1⟩ := id E
          have El := World.block_lt_of_cell? _ _ E0
          obtain ⟨V0, V1⟩ := id V
          have Vl := World.block_lt_of_cell? _ _ V0
          obtain ⟨Q0, Q1⟩ := id Q
          have Ql := World.block_lt_of_cell? _ _ Q0
          go_wp2_with fail
          clear E0 E1 El
          clear V0 V1 Vl
          clear Q0 Q1 Ql
          refine (markIntS_from (1 + 3 * (lenc : Int)) (some ⟨vR.heap.size, 0, none⟩) lenu lenu (vR.heap.size) _ (by omega) (Or.inr ⟨_, rfl, Nat.le_refl _, P2m⟩) hu).mono ?_
          rintro e wn ⟨rfl, _, _, vm, _⟩
          have rn := Rng.mov (lo := vR.heap.size) (hi := vR.heap.size + 1) (vm _ rfl) (Nat.le_refl _) (by omega)
          clear vm
          replace BL := BL.trans (rn.below (by omega) BL.size)
          replace Dc := (unhide HDc).later BL
          replace Du := (unhide HDu).later BL
          replace S := (unhide HSt).later BL
          replace E := E.rng rn (Or.inl (by omega))
          replace V := V.rng rn (Or.inl (by omega))
          replace W := W.low (WU.mono (by omega)) rn
          replace WI := WI.low (WIU.mono (by omega)) rn
          replace Q := Q.rng rn (Or.inr (by omega))
          replace K := K.high KO rn (by omega)
          replace KO := KO.high rn (by omega)
          replace KI := KI.high KIO rn (by omega)
          replace KIO := KIO.high rn (by omega)
          clear rn P2m
          obtain ⟨E0, E1⟩ := id E
          have El := World.block_lt_of_cell? _ _ E0
          obtain ⟨V0, V1⟩ := id V
          have Vl := World.block_lt_of_cell? _ _ V0
          obtain ⟨Q0, Q1⟩ := id Q
          have Ql := World.block_lt_of_cell? _ _ Q0
          go_wp2_with fail
          clear E0 E1 El
          clear V0 V1 Vl
          clear Q0 Q1 Ql
          refine (eqNet_same _ _ _ _ _ _ _ _ K W hl).mono ?_
          rintro e w13 ⟨rfl, b13⟩
          replace Dc := Dc.later b13
          replace Du := Du.later b13
          replace S := S.later b13
          replace W := W.later b13
          replace WI := WI.later b13
          replace K := K.later b13
          replace KO := KO.later b13
          replace KI := KI.later b13
          replace KIO := KIO.later b13
          replace E := E.later b13
          replace V := V.later b13
          replace Q := Q.later b13
          replace BL := BL.trans (b13.mono BL.size)
          clear b13
          obtain ⟨E0, E1⟩ := id E
          have El := World.block_lt_of_cell? _ _ E0
          obtain ⟨V0, V1⟩ := id V
          have Vl := World.block_lt_of_cell? _ _ V0
          obtain ⟨Q0, Q1⟩ := id Q
          have Ql := World.block_lt_of_cell? _ _ Q0
          go_wp2_with fail
          clear E0 E1 El
          clear V0 V1 Vl
          clear Q0 Q1 Ql
          refine (eqIntS_two _ _ _ _ _ _ _ KI WI hl2).mono ?_
          rintro e w14 ⟨rfl, b14⟩
          replace Dc := Dc.later b14
          replace Du := Du.later b14
          replace S := S.later b14
          replace W := W.later b14
          replace WI := WI.later b14
          replace K := K.later b14
          replace KO := KO.later b14
          replace KI := KI.later b14
          replace KIO := KIO.later b14
          replace E := E.later b14
          replace V := V.later b14
          replace Q := Q.later b14
          replace BL := BL.trans (b14.mono BL.size)
          clear b14
          obtain ⟨E0, E1⟩ := id E
          have El := World.block_lt_of_cell? _ _ E0
          obtain ⟨V0, V1⟩ := id V
          have Vl := World.block_lt_of_cell? _ _ V0
          obtain ⟨Q0, Q1⟩ := id Q
          have Ql := World.block_lt_of_cell? _ _ Q0
          go_wp2_with fail
          clear E0 E1 El
          clear V0 V1 Vl
          clear Q0 Q1 Ql
          refine (markNet_any 1 _ _ _ _ w7.heap.size _ (by omega) KO hl (by have := World.block_lt_of_cell? _ _ Q.1; simp only at this; omega)).mono ?_
          rintro e wo ⟨rfl, K2, KO2, _, vo, uo⟩
          have KIO2 := list_keep (unhide HSP) KIO KO vo uo
          have ro := uo w8.heap.size KU
          clear uo vo K KO KI KIO
          replace BL := BL.trans (ro.below (by omega) BL.size)
          replace Dc := (unhide HDc).later BL
          replace Du := (unhide HDu).later BL
          replace S := (unhide HSt).later BL
          replace E := E.rng ro (Or.inl (by omega))
          replace V := V.rng ro (Or.inl (by omega))
          replace W := W.low (WU.mono (by omega)) ro
          replace WI := WI.low (WIU.mono (by omega)) ro
          replace Q := Q.rng ro (Or.inr (by omega))
          clear ro
          obtain ⟨E0, E1⟩ := id E
          have El := World.block_lt_of_cell? _ _ E0
          obtain ⟨V0, V1⟩ := id V
          have Vl := World.block_lt_of_cell? _ _ V0
          obtain ⟨Q0, Q1⟩ := id Q
          have Ql := World.block_lt_of_cell? _ _ Q0
          go_wp2_with fail
          clear E0 E1 El
          clear V0 V1 Vl
          clear Q0 Q1 Ql
          refine (markIntS_from (1 + 3 * (r.n : Int)) _ _ _ w7.heap.size _ (by omega) KIO2 hl2).mono ?_
          rintro e wp ⟨rfl, KI3, _, vp, up⟩
          have K3 := gts_keep (unhide HSP) K2 KIO2 vp up KO2
          have rp := up w8.heap.size KIU
          clear up vp K2 KO2 KIO2
          replace BL := BL.trans (rp.below (by omega) BL.size)
          replace Dc := (unhide HDc).later BL
          replace Du := (unhide HDu).later BL
          replace S := (unhide HSt).later BL
          replace E := E.rng rp (Or.inl (by omega))
          replace V := V.rng rp (Or.inl (by omega))
          replace W := W.low (WU.mono (by omega)) rp
          replace WI := WI.low (WIU.mono (by omega)) rp
          replace Q := Q.rng rp (Or.inr (by omega))
          clear rp
          obtain ⟨E0, E1⟩ := id E
          have El := World.block_lt_of_cell? _ _ E0
          obtain ⟨V0, V1⟩ := id V
          have Vl := World.block_lt_of_cell? _ _ V0
          obtain ⟨Q0, Q1⟩ := id Q
          have Ql := World.block_lt_of_cell? _ _ Q0
          go_wp2_with fail
          clear E0 E1 El
          clear V0 V1 Vl
          clear Q0 Q1 Ql
          refine (heldNet_any 1 _ _ _ _ _ (by omega) K3 hl).mono ?_
          rintro e w15 ⟨rfl, b15⟩
          replace Dc := Dc.later b15
          replace Du := Du.later b15
          replace S := S.later b15
          replace W := W.later b15
          replace WI := WI.later b15
          replace K3 := K3.later b15
          replace KI3 := KI3.later b15
          replace E := E.later b15
          replace V := V.later b15
          replace Q := Q.later b15
          replace BL := BL.trans (b15.mono BL.size)
          clear b15
          obtain ⟨E0, E1⟩ := id E
          have El := World.block_lt_of_cell? _ _ E0
          obtain ⟨V0, V1⟩ := id V
          have Vl := World.block_lt_of_cell? _ _ V0
          obtain ⟨Q0, Q1⟩ := id Q
          have Ql := World.block_lt_of_cell? _ _ Q0
          go_wp2_with fail
          clear E0 E1 El
          clear V0 V1 Vl
          clear Q0 Q1 Ql
          refine (heldIntS_from (1 + 3 * (r.n : Int)) _ _ _ _ (by omega) KI3 hl2).mono ?_
          rintro e w16 ⟨rfl, b16⟩
          replace Dc := Dc.later b16
          replace Du := Du.later b16
          replace S := S.later b16
          replace W := W.later b16
          replace WI := WI.later b16
          replace K3 := K3.later b16
          replace KI3 := KI3.later b16
          replace E := E.later b16
          replace V := V.later b16
          replace Q := Q.later b16
          replace BL := BL.trans (b16.mono BL.size)
          clear b16
          obtain ⟨E0, E1⟩ := id E
          have El := World.block_lt_of_cell? _ _ E0
          obtain ⟨V0, V1⟩ := id V
          have Vl := World.block_lt_of_cell? _ _ V0
          obtain ⟨Q0, Q1⟩ := id Q
          have Ql := World.block_lt_of_cell? _ _ Q0
          go_wp2_with fail
          clear E0 E1 El
          clear V0 V1 Vl
          clear Q0 Q1 Ql
          refine (toNet_any _ _ _ _ _ _ Dc nc).mono ?_
          rintro e w17 ⟨YB, rfl, Yle, Y, Ym, b17⟩
          replace Dc := Dc.later b17
          replace Du := Du.later b17
          replace S := S.later b17
          replace W := W.later b17
          replace WI := WI.later b17
          replace K3 := K3.later b17
          replace KI3 := KI3.later b17
          replace E := E.later b17
          replace V := V.later b17
          replace Q := Q.later b17
          replace BL := BL.trans (b17.mono BL.size)
          clear b17
          have Ylt := Ym.1
          clear Yle
          obtain ⟨E0, E1⟩ := id E
          have El := World.block_lt_of_cell? _ _ E0
          obtain ⟨V0, V1⟩ := id V
          have Vl := World.block_lt_of_cell? _ _ V0
          obtain ⟨Q0, Q1⟩ := id Q
          have Ql := World.block_lt_of_cell? _ _ Q0
          go_wp2_with fail
          clear E0 E1 El
          clear V0 V1 Vl
          clear Q0 Q1 Ql
          refine (toIntS_made _ _ _ _ _ Du hu).mono ?_
          rintro e w18 ⟨rfl, Y2, Y2m, b18⟩
          replace Dc := Dc.later b18
          replace Du := Du.later b18
          replace S := S.later b18
          replace W := W.later b18
          replace WI := WI.later b18
          replace K3 := K3.later b18
          replace KI3 := KI3.later b18
          replace Y := Y.later b18
          replace Ym := Ym.later b18
          replace E := E.later b18
          replace V := V.later b18
          replace Q := Q.later b18
          replace Ylt := Nat.lt_of_lt_of_le Ylt b18.size
          replace BL := BL.trans (b18.mono BL.size)
          clear b18
          have Y2lt := Y2m.1
          obtain ⟨E0, E1⟩ := id E
          have El := World.block_lt_of_cell? _ _ E0
          obtain ⟨V0, V1⟩ := id V
          have Vl := World.block_lt_of_cell? _ _ V0
          obtain ⟨Q0, Q1⟩ := id Q
          have Ql := World.block_lt_of_cell? _ _ Q0
          go_wp2_with fail
          clear E0 E1 El
          clear V0 V1 Vl
          clear Q0 Q1 Ql
          refine (iBitsUn_any mc _ lenc _ Gc a _ lenu _ Lu 2 aF aR _ (Y.at Ylt) (unhide HW) ⟨_, rfl, rfl⟩ nc (Y2.at Y2lt) (unhide NLu) hu (unhide HWu) S (by have := BL.size; omega)).mono ?_
          rintro e w19 ⟨⟨ah, ch, gh, cph, rfl, ⟨H1, _⟩, ⟨H2, _⟩, _⟩, b19⟩
          replace Dc := Dc.later b19
          replace Du := Du.later b19
          replace S := S.later b19
          replace W := W.later b19
          replace WI := WI.later b19
          replace K3 := K3.later b19
          replace KI3 := KI3.later b19
          replace Y := Y.later b19
          replace Ym := Ym.later b19
          replace Y2 := Y2.later b19
          replace Y2m := Y2m.later b19
          replace E := E.later b19
          replace V := V.later b19
          replace Q := Q.later b19
          replace Ylt := Nat.lt_of_lt_of_le Ylt b19.size
          replace Y2lt := Nat.lt_of_lt_of_le Y2lt b19.size
          replace BL := BL.trans (b19.mono BL.size)
          clear b19
          rw [← unhide HLo] at H1 H2
          rw [← unhide HLo]
          rw [← unhide HLN]
          rw [← unhide HLN] at H2
          clear Ym
          clear Y Ylt
          clear Y2m
          clear Y2 Y2lt
          obtain ⟨E0, E1⟩ := id E
          have El := World.block_lt_of_cell? _ _ E0
          obtain ⟨V0, V1⟩ := id V
          have Vl := World.block_lt_of_cell? _ _ V0
          obtain ⟨Q0, Q1⟩ := id Q
          have Ql := World.block_lt_of_cell? _ _ Q0
          go_wp2_with fail
          clear E0 E1 El
          clear V0 V1 Vl
          clear Q0 Q1 Ql
          obtain ⟨vT, hvT⟩ : ∃ v, v = w19.alloc (.cells #[.int .i64 r.m, .slice ah r.n ch] 29) := ⟨_, rfl⟩
          have bvT : Below w19.heap.size w19 vT := by rw [hvT]; exact (Below.refl _ _).alloc (Nat.le_refl _) _
          have T : NBox vT w19.heap.size r.m ah r.n ch := by rw [hvT]; exact NBox.new _ _ _ _ _ _
          rw [← hvT]
          clear hvT
          replace Dc := Dc.later bvT
          replace Du := Du.later bvT
          replace S := S.later bvT
          replace W := W.later bvT
          replace WI := WI.later bvT
          replace K3 := K3.later bvT
          replace KI3 := KI3.later bvT
          replace H1 := H1.later bvT
          replace H2 := H2.later bvT
          replace E := E.later bvT
          replace V := V.later bvT
          replace Q := Q.later bvT
          replace BL := BL.trans (bvT.mono BL.size)
          clear bvT
          refine (eqNet_same _ _ _ _ _ _ _ _ H1 W hl).mono ?_
          rintro e w20 ⟨rfl, b20⟩
          replace Dc := Dc.later b20
          replace Du := Du.later b20
          replace S := S.later b20
          replace W := W.later b20
          replace WI := WI.later b20
          replace K3 := K3.later b20
          replace KI3 := KI3.later b20
          replace H1 := H1.later b20
          replace H2 := H2.later b20
          replace E := E.later b20
          replace V := V.later b20
          replace Q := Q.later b20
          replace T := T.later b20
          replace BL := BL.trans (b20.mono BL.size)
          clear b20
          obtain ⟨E0, E1⟩ := id E
          have El := World.block_lt_of_cell? _ _ E0
          obtain ⟨V0, V1⟩ := id V
          have Vl := World.block_lt_of_cell? _ _ V0
          obtain ⟨Q0, Q1⟩ := id Q
          have Ql := World.block_lt_of_cell? _ _ Q0
          obtain ⟨T0, T1⟩ := id T
          have Tl := World.block_lt_of_cell? _ _ T0
          go_wp2_with fail
          clear E0 E1 El
          clear V0 V1 Vl
          clear Q0 Q1 Ql
          clear T0 T1 Tl
          refine (eqIntS_two _ _ _ _ _ _ _ H2 WI hl2).mono ?_
          rintro e w21 ⟨rfl, b21⟩
          replace Dc := Dc.later b21
          replace Du := Du.later b21
          replace S := S.later b21
          replace W := W.later b21
          replace WI := WI.later b21
          replace K3 := K3.later b21
          replace KI3 := KI3.later b21
          replace H1 := H1.later b21
          replace H2 := H2.later b21
          replace E := E.later b21
          replace V := V.later b21
          replace Q := Q.later b21
          replace T := T.later b21
          replace BL := BL.trans (b21.mono BL.size)
          clear b21
          obtain ⟨E0, E1⟩ := id E
          have El := World.block_lt_of_cell? _ _ E0
          obtain ⟨V0, V1⟩ := id V
          have Vl := World.block_lt_of_cell? _ _ V0
          obtain ⟨Q0, Q1⟩ := id Q
          have Ql := World.block_lt_of_cell? _ _ Q0
          obtain ⟨T0, T1⟩ := id T
          have Tl := World.block_lt_of_cell? _ _ T0
          go_wp2_with fail
          clear E0 E1 El
          clear V0 V1 Vl
          clear Q0 Q1 Ql
          clear T0 T1 Tl
          refine (heldNet_any 1 _ _ _ _ _ (by omega) K3 hl).mono ?_
          rintro e w22 ⟨rfl, b22⟩
          replace Dc := Dc.later b22
          replace Du := Du.later b22
          replace S := S.later b22
          replace W := W.later b22
          replace WI := WI.later b22
          replace K3 := K3.later b22
          replace KI3 := KI3.later b22
          replace H1 := H1.later b22
          replace H2 := H2.later b22
          replace E := E.later b22
          replace V := V.later b22
          replace Q := Q.later b22
          replace T := T.later b22
          replace BL := BL.trans (b22.mono BL.size)
          clear b22
          obtain ⟨E0, E1⟩ := id E
          have El := World.block_lt_of_cell? _ _ E0
          obtain ⟨V0, V1⟩ := id V
          have Vl := World.block_lt_of_cell? _ _ V0
          obtain ⟨Q0, Q1⟩ := id Q
          have Ql := World.block_lt_of_cell? _ _ Q0
          obtain ⟨T0, T1⟩ := id T
          have Tl := World.block_lt_of_cell? _ _ T0
          go_wp2_with fail
          clear E0 E1 El
          clear V0 V1 Vl
          clear Q0 Q1 Ql
          clear T0 T1 Tl
          refine (heldIntS_from (1 + 3 * (r.n : Int)) _ _ _ _ (by omega) KI3 hl2).mono ?_
          rintro e w23 ⟨rfl, b23⟩
          replace Dc := Dc.later b23
          replace Du := Du.later b23
          replace S := S.later b23
          replace W := W.later b23
          replace WI := WI.later b23
          replace K3 := K3.later b23
          replace KI3 := KI3.later b23
          replace H1 := H1.later b23
          replace H2 := H2.later b23
          replace E := E.later b23
          replace V := V.later b23
          replace Q := Q.later b23
          replace T := T.later b23
          replace BL := BL.trans (b23.mono BL.size)
          clear b23
          go_wp2
          go_ret
          exact ⟨rfl, BL⟩
      · go_wp2
        go_ret
        exact ⟨rfl, BL⟩
    · exact absurd trivial hv
  · go_enter Tryd.func3, Tryd.ntmps3
    go_wp2
    go_ret
    exact ⟨rfl, (by repeat (first | exact Below.refl _ _ | assumption | refine below_drewN ?_ _ | refine Below.drew ?_ | refine Below.alloc ?_ (by first | exact Nat.le_refl _ | exact Below.size (by assumption) | (simp; done) | (simp; omega)) _ | refine Below.setCell ?_ (by first | exact Nat.le_refl _ | exact Below.size (by assumption) | (simp; done) | (simp; omega)) _ | refine Below.trans ?_ (by assumption)))⟩
end exBun
end Go.Proofs.YtjchdggpfkjcgaaDoor
