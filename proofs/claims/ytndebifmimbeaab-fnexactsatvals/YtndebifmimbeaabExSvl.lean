/- At every argument the program's SatVals answers as the model's: the law FnExactSatVals returns true for all clauses and every search, right or not, leaves them as they were, and what is handed back is memory of its own. No condition (the law itself answers true where they take more than 1048576 numbers and lists). -/
import Derived.Test.YtndebifmimbeaabValB
import Derived.Test.YtndebifmimbeaabMrkB
namespace Go.Proofs.Ytndebifmimbeaab
open Go.ChangeShapes Go.WideShapes Go.ChangeAt Go.RowKit Go.Joins
open Go.ChangeMaps (open_string shut_string)
set_option linter.unusedVariables false
theorem laidOut : laidOutB Try.prog = true := by kernel_rfl
theorem sv_len {m : Int} {n : Nat} {L : Nat → Nat} {V : Nat → Nat → Int} {np : Nat} {P : Nat → Int} {nq : Nat} {Q : Nat → Int} {n' : Nat} {L' : Nat → Nat} {V' : Nat → Nat → Int} {code : Int} : svLen m (sokB m n L V np P nq Q n' L' V' code) ≤ 1048576 := by
  cases h : sokB m n L V np P nq Q n' L' V' code
  · rw [svLen_no rfl]; omega
  · rw [svLen_yes rfl]
    have := (sokB_iff.1 h).1.2.1
    omega

namespace exSvl
set_option maxRecDepth 100000 in
set_option maxHeartbeats 4000000 in
theorem walk (mc : Int) (c : Option Addr) (lenc capc : Nat) (Ac : Nat → Option Addr) (Lc Cc : Nat → Nat) (Vc : Nat → Nat → Int) (pS : Option Addr) (npS cpS : Nat) (PS : Nat → Int) (qS : Option Addr) (nqS cqS : Nat) (QS : Nat → Int) (aS : Option Addr) (nS capS : Nat) (AS : Nat → Option Addr) (LS CS : Nat → Nat) (VS : Nat → Nat → Int) (codeS : Int) (w : World) (wmc : W64 mc) (lcc : lenc ≤ capc) (lnc : lenc ≤ maxLen) (hdc : RwsAt w c lenc Ac Lc Cc Vc) (hwc : ∀ i, i < lenc → Lc i ≤ maxLen ∧ ∀ j, j < Lc i → W64 (Vc i j)) (wcS : W64 codeS) (lpS : npS ≤ maxLen) (lqS : nqS ≤ maxLen) (lnS : nS ≤ maxLen) (hdS : SatIn w pS npS PS qS nqS QS aS nS AS LS CS VS) (wpS : ∀ i, i < npS → W64 (PS i)) (wqS : ∀ i, i < nqS → W64 (QS i)) (hwS : ∀ i, i < nS → LS i ≤ maxLen ∧ ∀ j, j < LS i → W64 (VS i j)) :
    Calls Try.prog 4 #[.agg #[.int .i64 mc, .slice c lenc capc], .agg #[.slice pS npS cpS, .slice qS nqS cqS, .slice aS nS capS, .int .i64 codeS]] w fun e w' => e = .returned (.bool true) ∧ Below w.heap.size w w' := by
  have Dc := hdc
  have DS := hdS
  have HDc := hide hdc
  have HDS := hide hdS
  have BL : Below w.heap.size w w := Below.refl _ _
  clear hdc hdS
  have hl := sv_len (m := mc) (n := lenc) (L := Lc) (V := Vc) (np := npS) (P := PS) (nq := nqS) (Q := QS) (n' := nS) (L' := LS) (V' := VS) (code := codeS)
  obtain ⟨ln, hln⟩ : ∃ l, l = svLen mc (sokB mc lenc Lc Vc npS PS nqS QS nS LS VS codeS) := ⟨_, rfl⟩
  rw [← hln] at hl
  have HLN := hide hln
  clear hln
  have kq : (((1 + ln : Nat) : Int) != ((1 + ln : Nat) : Int)) = false := by simp
  go_enter Try.func4, Try.ntmps4
  go_wp2_with fail
  obtain ⟨vE, hvE⟩ : ∃ v, v = w.alloc (.cells #[.int .i64 mc, .slice c lenc capc] 32) := ⟨_, rfl⟩
  have bvE : Below w.heap.size w vE := by rw [hvE]; exact (Below.refl _ _).alloc (Nat.le_refl _) _
  have E : Box vE w.heap.size mc c lenc capc := by rw [hvE]; exact Box.new _ _ _ _ _ _
  have hsz : w.heap.size + 1 = vE.heap.size := by rw [hvE]; simp
  try rw [hsz]
  rw [← hvE]
  clear hvE hsz
  replace Dc := Dc.later bvE
  replace DS := DS.later bvE
  replace BL := BL.trans (bvE.mono BL.size)
  clear bvE
  obtain ⟨vG, hvG⟩ : ∃ v, v = vE.alloc (.cells #[.slice pS npS cpS, .slice qS nqS cqS, .slice aS nS capS, .int .i64 codeS] 25) := ⟨_, rfl⟩
  have bvG : Below vE.heap.size vE vG := by rw [hvG]; exact (Below.refl _ _).alloc (Nat.le_refl _) _
  have G : SBox vG vE.heap.size pS npS cpS qS nqS cqS aS nS capS codeS := by rw [hvG]; exact SBox.new _ _ _ _ _ _ _ _ _ _ _ _
  rw [← hvG]
  clear hvG
  replace Dc := Dc.later bvG
  replace DS := DS.later bvG
  replace E := E.later bvG
  replace BL := BL.trans (bvG.mono BL.size)
  clear bvG
  refine (szCnf_any _ _ _ _ _ _ _ _ 1048576 _ Dc (by omega) (by omega) lnc (fun i hi => (hwc i hi).1)).mono ?_
  rintro e w2 ⟨⟨zc, rfl, hzc⟩, b2⟩
  replace Dc := Dc.later b2
  replace DS := DS.later b2
  replace E := E.later b2
  replace G := G.later b2
  replace BL := BL.trans (b2.mono BL.size)
  clear b2
  by_cases h0 : 0 ≤ zc
  · have hz0 : zc ≤ 1048576 := by rcases hzc with h | h <;> omega
    have Fc : Hid (Fits lenc Lc Vc) := by
      obtain ⟨_, hz1, hn, hs⟩ := hzc.resolve_left (by omega)
      exact ⟨by omega, fun i hi => ⟨by have := hs i hi; omega, (hwc i hi).2⟩⟩
    clear hwc
    obtain ⟨E0, E1⟩ := id E
    have El := World.block_lt_of_cell? _ _ E0
    obtain ⟨G0, G1, G2, G3⟩ := id G
    have Gl := World.block_lt_of_cell? _ _ G0
    go_wp2_with fail
    clear E0 E1 El
    clear G0 G1 G2 G3 Gl
    refine (szSat_any _ _ _ _ _ _ _ _ _ _ _ _ _ _ _ _ zc _ DS h0 hz0 lpS lqS lnS (fun i hi => (hwS i hi).1)).mono ?_
    rintro e w3 ⟨⟨zS, rfl, hzS⟩, b3⟩
    replace Dc := Dc.later b3
    replace DS := DS.later b3
    replace E := E.later b3
    replace G := G.later b3
    replace BL := BL.trans (b3.mono BL.size)
    clear b3
    by_cases h1 : 0 ≤ zS
    · have FS : Hid (SFit npS PS nqS QS nS LS VS codeS) := by
        obtain ⟨_, hz1, hp, hq, hn, hs⟩ := hzS.resolve_left (by omega)
        exact ⟨by omega, by omega, wpS, wqS, ⟨by omega, fun i hi => ⟨by have := hs i hi; omega, (hwS i hi).2⟩⟩, wcS⟩
      clear hwS wpS wqS
      obtain ⟨E0, E1⟩ := id E
      have El := World.block_lt_of_cell? _ _ E0
      obtain ⟨G0, G1, G2, G3⟩ := id G
      have Gl := World.block_lt_of_cell? _ _ G0
      go_wp2
      go_region_held3 (fun w' => w'.cell? ⟨w.heap.size, 0, none⟩ = some (.int .i64 mc) ∧ w'.cell? ⟨w.heap.size, 1, none⟩ = some (.slice c lenc capc) ∧ w'.cell? ⟨vE.heap.size, 0, none⟩ = some (.slice pS npS cpS) ∧ w'.cell? ⟨vE.heap.size, 1, none⟩ = some (.slice qS nqS cqS) ∧ w'.cell? ⟨vE.heap.size, 2, none⟩ = some (.slice aS nS capS) ∧ w'.cell? ⟨vE.heap.size, 3, none⟩ = some (.int .i64 codeS)) (first | go_keep | exact ⟨E0, E1, G0, G1, G2, G3⟩)
        (first | (go_at_call 12; refine (toCnf_any _ _ _ _ _ _ _ _ _ (by first | exact Dc | exact Dc.drew | exact Dc.drew.drew) (unhide Fc).1 (fun i hi => ((unhide Fc).2 i hi).1)).mono ?_; rintro e wq ⟨Bq, bsq, rfl, leq, ltq, Cq, bq⟩; have Dc := RwsAt.later (by first | exact Dc | exact Dc.drew | exact Dc.drew.drew) bq; have DS := SatIn.later (by first | exact DS | exact DS.drew | exact DS.drew.drew) bq; have E := Box.later (by first | exact E | exact E.drew | exact E.drew.drew) bq; have G := SBox.later (by first | exact G | exact G.drew | exact G.drew.drew) bq; obtain ⟨E0, E1⟩ := id E; obtain ⟨G0, G1, G2, G3⟩ := id G; have BL := (by first | exact BL.trans (bq.mono BL.size) | exact BL.drew.trans (bq.mono BL.size) | exact BL.drew.drew.trans (bq.mono BL.size)); (try (have Cp := SCop.later (by first | exact Cp | exact Cp.drew | exact Cp.drew.drew) bq))) | (go_at_call 7; refine (toSat_any _ _ _ _ _ _ _ _ _ _ _ _ _ _ _ _ _ (by first | exact DS | exact DS.drew | exact DS.drew.drew) (unhide FS)).mono ?_; rintro e wp ⟨Bp1, Bp2, Bp3, bsp, rfl, Cp, bp⟩; have Dc := RwsAt.later (by first | exact Dc | exact Dc.drew | exact Dc.drew.drew) bp; have DS := SatIn.later (by first | exact DS | exact DS.drew | exact DS.drew.drew) bp; have E := Box.later (by first | exact E | exact E.drew | exact E.drew.drew) bp; have G := SBox.later (by first | exact G | exact G.drew | exact G.drew.drew) bp; obtain ⟨E0, E1⟩ := id E; obtain ⟨G0, G1, G2, G3⟩ := id G; have BL := (by first | exact BL.trans (bp.mono BL.size) | exact BL.drew.trans (bp.mono BL.size) | exact BL.drew.drew.trans (bp.mono BL.size)); (try (have Cq := Cop.later (by first | exact Cq | exact Cq.drew | exact Cq.drew.drew) bp; have ltq := Nat.lt_of_lt_of_le (by exact ltq) bp.size))) | (go_at_call 11; refine (sSatVals_any _ _ _ _ _ _ _ _ _ _ _ _ _ _ _ _ _ _ _ _ _ _ _ _ _ ((Cop.rws (by first | exact Cq | exact Cq.drew | exact Cq.drew.drew)).at (by exact ltq)) (unhide Fc) (SCop.in (by first | exact Cp | exact Cp.drew | exact Cp.drew.drew)) (unhide FS)).mono ?_; rintro e ws ⟨⟨aw, cw, rfl, W, _⟩, bs⟩; rw [← unhide HLN] at W ⊢; have Dc := RwsAt.later (by first | exact Dc | exact Dc.drew | exact Dc.drew.drew) bs; have DS := SatIn.later (by first | exact DS | exact DS.drew | exact DS.drew.drew) bs; have E := Box.later (by first | exact E | exact E.drew | exact E.drew.drew) bs; have G := SBox.later (by first | exact G | exact G.drew | exact G.drew.drew) bs; obtain ⟨E0, E1⟩ := id E; obtain ⟨G0, G1, G2, G3⟩ := id G; have BL := (by first | exact BL.trans (bs.mono BL.size) | exact BL.drew.trans (bs.mono BL.size) | exact BL.drew.drew.trans (bs.mono BL.size))))
      all_goals
        (try clear E0 E1 El G0 G1 G2 G3 Gl)
        have WU := W.up
        have hAw := BL.size
        have hGl := World.block_lt_of_cell? _ _ G.1
        simp only at hGl
        replace W := (by first | exact W | exact W.drew : BlsAt _ aw ln (soB PS npS))
        obtain ⟨E0, E1⟩ := id E
        have El := World.block_lt_of_cell? _ _ E0
        obtain ⟨G0, G1, G2, G3⟩ := id G
        have Gl := World.block_lt_of_cell? _ _ G0
        go_wp2_with fail
        clear E0 E1 El
        clear G0 G1 G2 G3 Gl
        refine (toCnf_any _ _ _ _ _ _ _ _ _ Dc (unhide Fc).1 (fun i hi => ((unhide Fc).2 i hi).1)).mono ?_
        rintro e w4 ⟨ZB, Zbs, rfl, Zle, Zlt, Z, b4⟩
        replace Dc := Dc.later b4
        replace DS := DS.later b4
        replace W := W.later b4
        replace E := E.later b4
        replace G := G.later b4
        replace BL := BL.trans (b4.mono BL.size)
        clear b4
        have HZ : Hid (∀ i, i < lenc → Zbs i < w4.heap.size) := fun i hi => (Z i hi).2.2.1.1
        have zl : ZB < w4.heap.size := Zlt
        obtain ⟨E0, E1⟩ := id E
        have El := World.block_lt_of_cell? _ _ E0
        obtain ⟨G0, G1, G2, G3⟩ := id G
        have Gl := World.block_lt_of_cell? _ _ G0
        go_wp2_with fail
        clear E0 E1 El
        clear G0 G1 G2 G3 Gl
        obtain ⟨vR, hvR⟩ : ∃ v, v = w4.alloc (.cells #[.int .i64 mc, .slice (some ⟨ZB, 0, none⟩) lenc lenc] 36) := ⟨_, rfl⟩
        have bvR : Below w4.heap.size w4 vR := by rw [hvR]; exact (Below.refl _ _).alloc (Nat.le_refl _) _
        have R : Box vR w4.heap.size mc (some ⟨ZB, 0, none⟩) lenc lenc := by rw [hvR]; exact Box.new _ _ _ _ _ _
        rw [← hvR]
        clear hvR
        replace Dc := Dc.later bvR
        replace DS := DS.later bvR
        replace W := W.later bvR
        replace Z := Z.later bvR
        replace E := E.later bvR
        replace G := G.later bvR
        replace Zlt := Nat.lt_of_lt_of_le Zlt bvR.size
        replace BL := BL.trans (bvR.mono BL.size)
        clear bvR
        have zr : w4.heap.size < vR.heap.size := by have := World.block_lt_of_cell? _ _ R.1; simpa using this
        refine (toSat_any _ _ _ _ _ _ _ _ _ _ _ _ _ _ _ _ _ DS (unhide FS)).mono ?_
        rintro e w5 ⟨U1, U2, U3, Ubs, rfl, U, b5⟩
        replace Dc := Dc.later b5
        replace DS := DS.later b5
        replace W := W.later b5
        replace Z := Z.later b5
        replace E := E.later b5
        replace G := G.later b5
        replace R := R.later b5
        replace Zlt := Nat.lt_of_lt_of_le Zlt b5.size
        replace BL := BL.trans (b5.mono BL.size)
        clear b5
        have HU : Hid (∀ i, i < nS → Ubs i < w5.heap.size) := fun i hi => (U.2.2.2.2 i hi).2.2.1.1
        have u1 : U1 < w5.heap.size := U.1.2.1.1
        have u2 : U2 < w5.heap.size := U.2.1.2.1.1
        have u3 : vR.heap.size ≤ U1 := U.1.1
        obtain ⟨E0, E1⟩ := id E
        have El := World.block_lt_of_cell? _ _ E0
        obtain ⟨G0, G1, G2, G3⟩ := id G
        have Gl := World.block_lt_of_cell? _ _ G0
        obtain ⟨R0, R1⟩ := id R
        have Rl := World.block_lt_of_cell? _ _ R0
        go_wp2_with fail
        clear E0 E1 El
        clear G0 G1 G2 G3 Gl
        clear R0 R1 Rl
        obtain ⟨vT, hvT⟩ : ∃ v, v = w5.alloc (.cells #[.slice (some ⟨U1, 0, none⟩) npS npS, .slice (some ⟨U2, 0, none⟩) nqS nqS, .slice (some ⟨U3, 0, none⟩) nS nS, .int .i64 codeS] 28) := ⟨_, rfl⟩
        have bvT : Below w5.heap.size w5 vT := by rw [hvT]; exact (Below.refl _ _).alloc (Nat.le_refl _) _
        have T : SBox vT w5.heap.size (some ⟨U1, 0, none⟩) npS npS (some ⟨U2, 0, none⟩) nqS nqS (some ⟨U3, 0, none⟩) nS nS codeS := by rw [hvT]; exact SBox.new _ _ _ _ _ _ _ _ _ _ _ _
        rw [← hvT]
        clear hvT
        replace Dc := Dc.later bvT
        replace DS := DS.later bvT
        replace W := W.later bvT
        replace Z := Z.later bvT
        replace U := U.later bvT
        replace E := E.later bvT
        replace G := G.later bvT
        replace R := R.later bvT
        replace Zlt := Nat.lt_of_lt_of_le Zlt bvT.size
        replace BL := BL.trans (bvT.mono BL.size)
        clear bvT
        have ut : w5.heap.size < vT.heap.size := by have := World.block_lt_of_cell? _ _ T.1; simpa using this
        refine (iSatVals_any _ _ _ _ _ _ _ _ _ _ _ _ _ _ _ _ _ _ _ _ _ _ _ _ _ (Z.rws.at Zlt) (unhide Fc) U.in (unhide FS)).mono ?_
        rintro e w6 ⟨⟨ag, cg, rfl, K, KO⟩, b6⟩
        replace Dc := Dc.later b6
        replace DS := DS.later b6
        replace W := W.later b6
        replace Z := Z.later b6
        replace U := U.later b6
        replace E := E.later b6
        replace G := G.later b6
        replace R := R.later b6
        replace T := T.later b6
        replace Zlt := Nat.lt_of_lt_of_le Zlt b6.size
        replace BL := BL.trans (b6.mono BL.size)
        clear b6
        rw [← unhide HLN] at K KO ⊢
        obtain ⟨E0, E1⟩ := id E
        have El := World.block_lt_of_cell? _ _ E0
        obtain ⟨G0, G1, G2, G3⟩ := id G
        have Gl := World.block_lt_of_cell? _ _ G0
        obtain ⟨R0, R1⟩ := id R
        have Rl := World.block_lt_of_cell? _ _ R0
        obtain ⟨T0, T1, T2, T3⟩ := id T
        have Tl := World.block_lt_of_cell? _ _ T0
        go_wp2_with fail
        clear E0 E1 El
        clear G0 G1 G2 G3 Gl
        clear R0 R1 Rl
        clear T0 T1 T2 T3 Tl
        refine (eqBoolS_same _ _ _ _ _ _ _ K W hl).mono ?_
        rintro e w7 ⟨rfl, b7⟩
        replace Dc := Dc.later b7
        replace DS := DS.later b7
        replace W := W.later b7
        replace Z := Z.later b7
        replace U := U.later b7
        replace K := K.later b7
        replace KO := KO.later b7
        replace E := E.later b7
        replace G := G.later b7
        replace R := R.later b7
        replace T := T.later b7
        replace Zlt := Nat.lt_of_lt_of_le Zlt b7.size
        replace BL := BL.trans (b7.mono BL.size)
        clear b7
        obtain ⟨E0, E1⟩ := id E
        have El := World.block_lt_of_cell? _ _ E0
        obtain ⟨G0, G1, G2, G3⟩ := id G
        have Gl := World.block_lt_of_cell? _ _ G0
        obtain ⟨R0, R1⟩ := id R
        have Rl := World.block_lt_of_cell? _ _ R0
        obtain ⟨T0, T1, T2, T3⟩ := id T
        have Tl := World.block_lt_of_cell? _ _ T0
        go_wp2
        go_region_held3 (fun w' => w'.cell? ⟨w.heap.size, 0, none⟩ = some (.int .i64 mc) ∧ w'.cell? ⟨w.heap.size, 1, none⟩ = some (.slice c lenc capc) ∧ w'.cell? ⟨w4.heap.size, 0, none⟩ = some (.int .i64 mc) ∧ w'.cell? ⟨w4.heap.size, 1, none⟩ = some (.slice (some ⟨ZB, 0, none⟩) lenc lenc)) (first | go_keep | exact ⟨E0, E1, R0, R1⟩)
          (first | (go_at_call 12; refine (toCnf_any _ _ _ _ _ _ _ _ _ (by first | exact Dc | exact Dc.drew | exact Dc.drew.drew) (unhide Fc).1 (fun i hi => ((unhide Fc).2 i hi).1)).mono ?_; rintro e wq ⟨Bq, bsq, rfl, leq, ltq, Xq, bq⟩; have Dc := RwsAt.later (by first | exact Dc | exact Dc.drew | exact Dc.drew.drew) bq; have DS := SatIn.later (by first | exact DS | exact DS.drew | exact DS.drew.drew) bq; have W := BlsAt.later (by first | exact W | exact W.drew | exact W.drew.drew) bq; have Z := Cop.later (by first | exact Z | exact Z.drew | exact Z.drew.drew) bq; have U := SCop.later (by first | exact U | exact U.drew | exact U.drew.drew) bq; have K := BlsAt.later (by first | exact K | exact K.drew | exact K.drew.drew) bq; have KO := OwnB.later (by first | exact KO | exact KO.drew | exact KO.drew.drew) bq; have E := Box.later (by first | exact E | exact E.drew | exact E.drew.drew) bq; have G := SBox.later (by first | exact G | exact G.drew | exact G.drew.drew) bq; have R := Box.later (by first | exact R | exact R.drew | exact R.drew.drew) bq; have T := SBox.later (by first | exact T | exact T.drew | exact T.drew.drew) bq; obtain ⟨E0, E1⟩ := id E; obtain ⟨G0, G1, G2, G3⟩ := id G; obtain ⟨R0, R1⟩ := id R; obtain ⟨T0, T1, T2, T3⟩ := id T; have Zlt := Nat.lt_of_lt_of_le (by exact Zlt) bq.size; have BL := (by first | exact BL.trans (bq.mono BL.size) | exact BL.drew.trans (bq.mono BL.size) | exact BL.drew.drew.trans (bq.mono BL.size))) | (go_at_call 15; refine (eqCnf_same _ _ _ _ _ _ _ _ _ _ _ _ _ (by exact Zlt) (by exact ltq) (Cop.rws (by first | exact Z | exact Z.drew | exact Z.drew.drew)) (Cop.rws (by first | exact Xq | exact Xq.drew | exact Xq.drew.drew)) (unhide Fc).1 (fun i hi => ((unhide Fc).2 i hi).1)).mono ?_; rintro e wp ⟨rfl, bp⟩; have Dc := RwsAt.later (by first | exact Dc | exact Dc.drew | exact Dc.drew.drew) bp; have DS := SatIn.later (by first | exact DS | exact DS.drew | exact DS.drew.drew) bp; have W := BlsAt.later (by first | exact W | exact W.drew | exact W.drew.drew) bp; have Z := Cop.later (by first | exact Z | exact Z.drew | exact Z.drew.drew) bp; have U := SCop.later (by first | exact U | exact U.drew | exact U.drew.drew) bp; have K := BlsAt.later (by first | exact K | exact K.drew | exact K.drew.drew) bp; have KO := OwnB.later (by first | exact KO | exact KO.drew | exact KO.drew.drew) bp; have E := Box.later (by first | exact E | exact E.drew | exact E.drew.drew) bp; have G := SBox.later (by first | exact G | exact G.drew | exact G.drew.drew) bp; have R := Box.later (by first | exact R | exact R.drew | exact R.drew.drew) bp; have T := SBox.later (by first | exact T | exact T.drew | exact T.drew.drew) bp; obtain ⟨E0, E1⟩ := id E; obtain ⟨G0, G1, G2, G3⟩ := id G; obtain ⟨R0, R1⟩ := id R; obtain ⟨T0, T1, T2, T3⟩ := id T; have Zlt := Nat.lt_of_lt_of_le (by exact Zlt) bp.size; have BL := (by first | exact BL.trans (bp.mono BL.size) | exact BL.drew.trans (bp.mono BL.size) | exact BL.drew.drew.trans (bp.mono BL.size))))
        all_goals
          (try clear E0 E1 El G0 G1 G2 G3 Gl R0 R1 Rl T0 T1 T2 T3 Tl)
          obtain ⟨E0, E1⟩ := id E
          have El := World.block_lt_of_cell? _ _ E0
          obtain ⟨G0, G1, G2, G3⟩ := id G
          have Gl := World.block_lt_of_cell? _ _ G0
          obtain ⟨R0, R1⟩ := id R
          have Rl := World.block_lt_of_cell? _ _ R0
          obtain ⟨T0, T1, T2, T3⟩ := id T
          have Tl := World.block_lt_of_cell? _ _ T0
          go_wp2
          go_region_held3 (fun w' => w'.cell? ⟨vE.heap.size, 0, none⟩ = some (.slice pS npS cpS) ∧ w'.cell? ⟨vE.heap.size, 1, none⟩ = some (.slice qS nqS cqS) ∧ w'.cell? ⟨vE.heap.size, 2, none⟩ = some (.slice aS nS capS) ∧ w'.cell? ⟨vE.heap.size, 3, none⟩ = some (.int .i64 codeS) ∧ w'.cell? ⟨w5.heap.size, 0, none⟩ = some (.slice (some ⟨U1, 0, none⟩) npS npS) ∧ w'.cell? ⟨w5.heap.size, 1, none⟩ = some (.slice (some ⟨U2, 0, none⟩) nqS nqS) ∧ w'.cell? ⟨w5.heap.size, 2, none⟩ = some (.slice (some ⟨U3, 0, none⟩) nS nS) ∧ w'.cell? ⟨w5.heap.size, 3, none⟩ = some (.int .i64 codeS)) (first | go_keep | exact ⟨G0, G1, G2, G3, T0, T1, T2, T3⟩)
            (first | (go_at_call 7; refine (toSat_any _ _ _ _ _ _ _ _ _ _ _ _ _ _ _ _ _ (by first | exact DS | exact DS.drew | exact DS.drew.drew) (unhide FS)).mono ?_; rintro e wq ⟨Bq1, Bq2, Bq3, bsq, rfl, Xq, bq⟩; have Dc := RwsAt.later (by first | exact Dc | exact Dc.drew | exact Dc.drew.drew) bq; have DS := SatIn.later (by first | exact DS | exact DS.drew | exact DS.drew.drew) bq; have W := BlsAt.later (by first | exact W | exact W.drew | exact W.drew.drew) bq; have Z := Cop.later (by first | exact Z | exact Z.drew | exact Z.drew.drew) bq; have U := SCop.later (by first | exact U | exact U.drew | exact U.drew.drew) bq; have K := BlsAt.later (by first | exact K | exact K.drew | exact K.drew.drew) bq; have KO := OwnB.later (by first | exact KO | exact KO.drew | exact KO.drew.drew) bq; have E := Box.later (by first | exact E | exact E.drew | exact E.drew.drew) bq; have G := SBox.later (by first | exact G | exact G.drew | exact G.drew.drew) bq; have R := Box.later (by first | exact R | exact R.drew | exact R.drew.drew) bq; have T := SBox.later (by first | exact T | exact T.drew | exact T.drew.drew) bq; obtain ⟨E0, E1⟩ := id E; obtain ⟨G0, G1, G2, G3⟩ := id G; obtain ⟨R0, R1⟩ := id R; obtain ⟨T0, T1, T2, T3⟩ := id T; have Zlt := Nat.lt_of_lt_of_le (by exact Zlt) bq.size; have BL := (by first | exact BL.trans (bq.mono BL.size) | exact BL.drew.trans (bq.mono BL.size) | exact BL.drew.drew.trans (bq.mono BL.size))) | (go_at_call 9; refine (eqSat_same _ _ _ _ _ _ _ _ _ _ _ _ _ _ _ _ _ _ _ (by first | exact U | exact U.drew | exact U.drew.drew) (by first | exact Xq | exact Xq.drew | exact Xq.drew.drew) (unhide FS)).mono ?_; rintro e wp ⟨rfl, bp⟩; have Dc := RwsAt.later (by first | exact Dc | exact Dc.drew | exact Dc.drew.drew) bp; have DS := SatIn.later (by first | exact DS | exact DS.drew | exact DS.drew.drew) bp; have W := BlsAt.later (by first | exact W | exact W.drew | exact W.drew.drew) bp; have Z := Cop.later (by first | exact Z | exact Z.drew | exact Z.drew.drew) bp; have U := SCop.later (by first | exact U | exact U.drew | exact U.drew.drew) bp; have K := BlsAt.later (by first | exact K | exact K.drew | exact K.drew.drew) bp; have KO := OwnB.later (by first | exact KO | exact KO.drew | exact KO.drew.drew) bp; have E := Box.later (by first | exact E | exact E.drew | exact E.drew.drew) bp; have G := SBox.later (by first | exact G | exact G.drew | exact G.drew.drew) bp; have R := Box.later (by first | exact R | exact R.drew | exact R.drew.drew) bp; have T := SBox.later (by first | exact T | exact T.drew | exact T.drew.drew) bp; obtain ⟨E0, E1⟩ := id E; obtain ⟨G0, G1, G2, G3⟩ := id G; obtain ⟨R0, R1⟩ := id R; obtain ⟨T0, T1, T2, T3⟩ := id T; have Zlt := Nat.lt_of_lt_of_le (by exact Zlt) bp.size; have BL := (by first | exact BL.trans (bp.mono BL.size) | exact BL.drew.trans (bp.mono BL.size) | exact BL.drew.drew.trans (bp.mono BL.size))))
          all_goals
            (try clear E0 E1 El G0 G1 G2 G3 Gl R0 R1 Rl T0 T1 T2 T3 Tl)
            obtain ⟨E0, E1⟩ := id E
            have El := World.block_lt_of_cell? _ _ E0
            obtain ⟨G0, G1, G2, G3⟩ := id G
            have Gl := World.block_lt_of_cell? _ _ G0
            obtain ⟨R0, R1⟩ := id R
            have Rl := World.block_lt_of_cell? _ _ R0
            obtain ⟨T0, T1, T2, T3⟩ := id T
            have Tl := World.block_lt_of_cell? _ _ T0
            go_wp2_with fail
            clear E0 E1 El
            clear G0 G1 G2 G3 Gl
            clear R0 R1 Rl
            clear T0 T1 T2 T3 Tl
            refine (markCnf_from _ (ZB + 1) w4.heap.size ZB _ _ Zbs Lc Vc _ (by first | exact Z | exact Z.drew | exact Z.drew.drew) (by omega) (by exact Zlt) (unhide Fc).1 (fun i hi => ((unhide Fc).2 i hi).1) (unhide HZ)).mono ?_
            rintro e wm ⟨⟨zm, rfl, hzm, hzn⟩, rm⟩
            have hn20 : (lenc : Int) ≤ 1048576 := by have := (unhide Fc).1; omega
            replace BL := BL.trans (rm.below (by omega) BL.size)
            replace Dc := (unhide HDc).later BL
            replace DS := (unhide HDS).later BL
            replace E := E.rng rm (Or.inl (by omega))
            replace G := G.rng rm (Or.inl (by omega))
            replace W := W.low (WU.mono (by omega)) rm
            replace T := T.rng rm (Or.inr (by omega))
            replace U := U.high rm (by omega)
            replace K := K.high KO rm (by omega)
            replace KO := KO.high rm (by omega)
            clear rm Z Zlt R
            obtain ⟨E0, E1⟩ := id E
            have El := World.block_lt_of_cell? _ _ E0
            obtain ⟨G0, G1, G2, G3⟩ := id G
            have Gl := World.block_lt_of_cell? _ _ G0
            obtain ⟨T0, T1, T2, T3⟩ := id T
            have Tl := World.block_lt_of_cell? _ _ T0
            go_wp2_with fail
            clear E0 E1 El
            clear G0 G1 G2 G3 Gl
            clear T0 T1 T2 T3 Tl
            refine (markSat_from vR.heap.size w5.heap.size U1 U2 U3 npS nqS nS PS QS Ubs LS VS codeS _ _ (by first | exact U | exact U.drew | exact U.drew.drew) (unhide FS) u1 u2 (unhide HU) hzm (by omega)).mono ?_
            rintro e wn ⟨⟨zn, rfl, hzn2⟩, rn⟩
            replace BL := BL.trans (rn.below (by omega) BL.size)
            replace Dc := (unhide HDc).later BL
            replace DS := (unhide HDS).later BL
            replace E := E.rng rn (Or.inl (by omega))
            replace G := G.rng rn (Or.inl (by omega))
            replace W := W.low (WU.mono (by omega)) rn
            replace K := K.high KO rn (by omega)
            replace KO := KO.high rn (by omega)
            clear rn U T
            obtain ⟨E0, E1⟩ := id E
            have El := World.block_lt_of_cell? _ _ E0
            obtain ⟨G0, G1, G2, G3⟩ := id G
            have Gl := World.block_lt_of_cell? _ _ G0
            go_wp2_with fail
            clear E0 E1 El
            clear G0 G1 G2 G3 Gl
            refine (eqBoolS_same _ _ _ _ _ _ _ K W hl).mono ?_
            rintro e w8 ⟨rfl, b8⟩
            replace Dc := Dc.later b8
            replace DS := DS.later b8
            replace W := W.later b8
            replace K := K.later b8
            replace KO := KO.later b8
            replace E := E.later b8
            replace G := G.later b8
            replace BL := BL.trans (b8.mono BL.size)
            clear b8
            obtain ⟨E0, E1⟩ := id E
            have El := World.block_lt_of_cell? _ _ E0
            obtain ⟨G0, G1, G2, G3⟩ := id G
            have Gl := World.block_lt_of_cell? _ _ G0
            go_wp2_with fail
            clear E0 E1 El
            clear G0 G1 G2 G3 Gl
            refine (markBoolS_any _ _ _ vT.heap.size _ KO hl).mono ?_
            clear K KO
            rintro e wo ⟨rfl, K, KO, ro⟩
            replace BL := BL.trans (ro.below (by omega) BL.size)
            replace Dc := (unhide HDc).later BL
            replace DS := (unhide HDS).later BL
            replace E := E.rng ro (Or.inl (by omega))
            replace G := G.rng ro (Or.inl (by omega))
            replace W := W.low (WU.mono (by omega)) ro
            clear ro
            obtain ⟨E0, E1⟩ := id E
            have El := World.block_lt_of_cell? _ _ E0
            obtain ⟨G0, G1, G2, G3⟩ := id G
            have Gl := World.block_lt_of_cell? _ _ G0
            go_wp2_with fail
            clear E0 E1 El
            clear G0 G1 G2 G3 Gl
            refine (heldBoolS_any _ _ _ _ K hl).mono ?_
            rintro e w9 ⟨rfl, b9⟩
            replace Dc := Dc.later b9
            replace DS := DS.later b9
            replace W := W.later b9
            replace K := K.later b9
            replace KO := KO.later b9
            replace E := E.later b9
            replace G := G.later b9
            replace BL := BL.trans (b9.mono BL.size)
            clear b9
            obtain ⟨E0, E1⟩ := id E
            have El := World.block_lt_of_cell? _ _ E0
            obtain ⟨G0, G1, G2, G3⟩ := id G
            have Gl := World.block_lt_of_cell? _ _ G0
            go_wp2
            go_region_held3 (fun w' => w'.cell? ⟨w.heap.size, 0, none⟩ = some (.int .i64 mc) ∧ w'.cell? ⟨w.heap.size, 1, none⟩ = some (.slice c lenc capc) ∧ w'.cell? ⟨vE.heap.size, 0, none⟩ = some (.slice pS npS cpS) ∧ w'.cell? ⟨vE.heap.size, 1, none⟩ = some (.slice qS nqS cqS) ∧ w'.cell? ⟨vE.heap.size, 2, none⟩ = some (.slice aS nS capS) ∧ w'.cell? ⟨vE.heap.size, 3, none⟩ = some (.int .i64 codeS)) (first | go_keep | exact ⟨E0, E1, G0, G1, G2, G3⟩)
              (first | (go_at_call 12; refine (toCnf_any _ _ _ _ _ _ _ _ _ (by first | exact Dc | exact Dc.drew | exact Dc.drew.drew) (unhide Fc).1 (fun i hi => ((unhide Fc).2 i hi).1)).mono ?_; rintro e wq ⟨Bq, bsq, rfl, leq, ltq, Cq, bq⟩; have Dc := RwsAt.later (by first | exact Dc | exact Dc.drew | exact Dc.drew.drew) bq; have DS := SatIn.later (by first | exact DS | exact DS.drew | exact DS.drew.drew) bq; have W := BlsAt.later (by first | exact W | exact W.drew | exact W.drew.drew) bq; have K := BlsAt.later (by first | exact K | exact K.drew | exact K.drew.drew) bq; have KO := OwnB.later (by first | exact KO | exact KO.drew | exact KO.drew.drew) bq; have E := Box.later (by first | exact E | exact E.drew | exact E.drew.drew) bq; have G := SBox.later (by first | exact G | exact G.drew | exact G.drew.drew) bq; obtain ⟨E0, E1⟩ := id E; obtain ⟨G0, G1, G2, G3⟩ := id G; have BL := (by first | exact BL.trans (bq.mono BL.size) | exact BL.drew.trans (bq.mono BL.size) | exact BL.drew.drew.trans (bq.mono BL.size)); (try (have Cp := SCop.later (by first | exact Cp | exact Cp.drew | exact Cp.drew.drew) bq))) | (go_at_call 7; refine (toSat_any _ _ _ _ _ _ _ _ _ _ _ _ _ _ _ _ _ (by first | exact DS | exact DS.drew | exact DS.drew.drew) (unhide FS)).mono ?_; rintro e wp ⟨Bp1, Bp2, Bp3, bsp, rfl, Cp, bp⟩; have Dc := RwsAt.later (by first | exact Dc | exact Dc.drew | exact Dc.drew.drew) bp; have DS := SatIn.later (by first | exact DS | exact DS.drew | exact DS.drew.drew) bp; have W := BlsAt.later (by first | exact W | exact W.drew | exact W.drew.drew) bp; have K := BlsAt.later (by first | exact K | exact K.drew | exact K.drew.drew) bp; have KO := OwnB.later (by first | exact KO | exact KO.drew | exact KO.drew.drew) bp; have E := Box.later (by first | exact E | exact E.drew | exact E.drew.drew) bp; have G := SBox.later (by first | exact G | exact G.drew | exact G.drew.drew) bp; obtain ⟨E0, E1⟩ := id E; obtain ⟨G0, G1, G2, G3⟩ := id G; have BL := (by first | exact BL.trans (bp.mono BL.size) | exact BL.drew.trans (bp.mono BL.size) | exact BL.drew.drew.trans (bp.mono BL.size)); (try (have Cq := Cop.later (by first | exact Cq | exact Cq.drew | exact Cq.drew.drew) bp; have ltq := Nat.lt_of_lt_of_le (by exact ltq) bp.size))) | (go_at_call 13; refine (iSatVals_any _ _ _ _ _ _ _ _ _ _ _ _ _ _ _ _ _ _ _ _ _ _ _ _ _ ((Cop.rws (by first | exact Cq | exact Cq.drew | exact Cq.drew.drew)).at (by exact ltq)) (unhide Fc) (SCop.in (by first | exact Cp | exact Cp.drew | exact Cp.drew.drew)) (unhide FS)).mono ?_; rintro e ws ⟨⟨ah, ch, rfl, H1, _⟩, bs⟩; rw [← unhide HLN] at H1 ⊢; have Dc := RwsAt.later (by first | exact Dc | exact Dc.drew | exact Dc.drew.drew) bs; have DS := SatIn.later (by first | exact DS | exact DS.drew | exact DS.drew.drew) bs; have W := BlsAt.later (by first | exact W | exact W.drew | exact W.drew.drew) bs; have K := BlsAt.later (by first | exact K | exact K.drew | exact K.drew.drew) bs; have KO := OwnB.later (by first | exact KO | exact KO.drew | exact KO.drew.drew) bs; have E := Box.later (by first | exact E | exact E.drew | exact E.drew.drew) bs; have G := SBox.later (by first | exact G | exact G.drew | exact G.drew.drew) bs; obtain ⟨E0, E1⟩ := id E; obtain ⟨G0, G1, G2, G3⟩ := id G; have BL := (by first | exact BL.trans (bs.mono BL.size) | exact BL.drew.trans (bs.mono BL.size) | exact BL.drew.drew.trans (bs.mono BL.size))))
            all_goals
              (try clear E0 E1 El G0 G1 G2 G3 Gl)
              replace H1 := (by first | exact H1 | exact H1.drew : BlsAt _ ah ln (soB PS npS))
              obtain ⟨E0, E1⟩ := id E
              have El := World.block_lt_of_cell? _ _ E0
              obtain ⟨G0, G1, G2, G3⟩ := id G
              have Gl := World.block_lt_of_cell? _ _ G0
              go_wp2_with fail
              clear E0 E1 El
              clear G0 G1 G2 G3 Gl
              refine (eqBoolS_same _ _ _ _ _ _ _ H1 W hl).mono ?_
              rintro e w10 ⟨rfl, b10⟩
              replace Dc := Dc.later b10
              replace DS := DS.later b10
              replace W := W.later b10
              replace K := K.later b10
              replace KO := KO.later b10
              replace E := E.later b10
              replace G := G.later b10
              replace BL := BL.trans (b10.mono BL.size)
              clear b10
              obtain ⟨E0, E1⟩ := id E
              have El := World.block_lt_of_cell? _ _ E0
              obtain ⟨G0, G1, G2, G3⟩ := id G
              have Gl := World.block_lt_of_cell? _ _ G0
              go_wp2_with fail
              clear E0 E1 El
              clear G0 G1 G2 G3 Gl
              refine (heldBoolS_any _ _ _ _ K hl).mono ?_
              rintro e w11 ⟨rfl, b11⟩
              replace Dc := Dc.later b11
              replace DS := DS.later b11
              replace W := W.later b11
              replace K := K.later b11
              replace KO := KO.later b11
              replace E := E.later b11
              replace G := G.later b11
              replace BL := BL.trans (b11.mono BL.size)
              clear b11
              go_wp2
              go_ret
              exact ⟨rfl, BL⟩
    · go_wp2
      go_ret
      exact ⟨rfl, BL⟩
  · go_wp2
    go_ret
    exact ⟨rfl, BL⟩

set_option maxRecDepth 100000 in
theorem lifted (os : Os) (started : os.Started) (H : Type) (enc : TypeId × Value → H) :
    ReturnsInHanded {} Try.checked os 4 .any (Rows.fnExactSatValsSpec.pre6 enc Try.prog Try.f4 Rows.fnExactSatValsRow.domain false) (Rows.fnExactSatValsSpec.post enc Try.prog Try.f4 false true false false) := by
  refine returnsInHanded_of_change (C := Try.checked) own started (by kernel_rfl) Try.func4
    (ChangeSpec.witness6 (enc := enc) (C := Try.checked) false ⟨#[], #[.agg #[.int .i64 0, .slice none 0 0], .agg #[.slice none 0 0, .slice none 0 0, .slice none 0 0, .int .i64 0]], []⟩ 8 (by kernel_rfl) (by kernel_rfl) (by kernel_rfl) (by kernel_rfl)) ?_
  intro W base args ds gs before hval0 hW hcnd _
  have hval : ∀ (j : Nat) t v, Try.f4.params[j]? = some t → args[j]? = some v → Value.okWide Try.prog W .any base t v := hval0
  have hW' := hW
  obtain ⟨p, q, hA0, hV, rfl, hfz, hnd⟩ := hW
  have hA : DataW.TrodAll enc Try.prog W 0 (fun _ => true) true Try.f4.params.toList args.toList ds p := hA0
  rw [Try.params4] at hA hval
  obtain ⟨v0, vs0, d0, ds0, p0, q0, hargs, rfl, rfl, h0, r0⟩ := trodAll_cons hA
  obtain ⟨v1, vs1, d1, ds1, p1, q1, rfl, rfl, rfl, h1, r1⟩ := trodAll_cons r0
  obtain ⟨rfl, rfl, rfl⟩ := trodAll_nil r1
  obtain rfl : args = #[v0, v1] := by cases args; simp_all
  obtain ⟨rfl, rfl⟩ := trodVars_none hV
  have k0 := h0
  have lt0 : ∀ x ∈ p0, x.block < W.heap.size := by obtain ⟨m, hm⟩ := k0; exact DataW.trod_lt m _ _ _ hm
  obtain ⟨mc, c, lenc, capc, Ac, Lc, Cc, Vc, rfl, wmc, lcc, lnc, hdc, hwc⟩ := cnf_in (hval 0 32 v0 rfl rfl) h0
  have k1 := h1
  have lt1 : ∀ x ∈ p1, x.block < W.heap.size := by obtain ⟨m, hm⟩ := k1; exact DataW.trod_lt m _ _ _ hm
  obtain ⟨pS, npS, cpS, PS, qS, nqS, cqS, QS, aS, nS, capS, AS, LS, CS, VS, codeS, rfl, wcS, lpS, lqS, lnS, hdS, wpS, wqS, hwS⟩ := sat_in (hval 1 25 v1 rfl rfl) h1
  clear hA0 hval0
  refine (walk mc c lenc capc Ac Lc Cc Vc pS npS cpS PS qS nqS cqS QS aS nS capS AS LS CS VS codeS W wmc lcc lnc hdc hwc wcS lpS lqS lnS hdS wpS wqS hwS).mono fun e W' ⟨he, bel⟩ => ?_
  subst he
  exact ⟨_, rfl, _, _, _, [], _, [], hW', trodAll_mk1 (shut_bool Try.underlying4 _), (trodAll_cons_mk (Below.trod laidOut (by kernel_rfl) (of_decide_eq_true (by kernel_rfl)) k0 bel lt0) (trodAll_cons_mk (Below.trod laidOut (by kernel_rfl) (of_decide_eq_true (by kernel_rfl)) k1 bel lt1) trodAll_mk0)), rfl, bel.frame _, fun h => by cases h⟩

theorem over : Rows.fnExactSatValsRow.holds Try.pinned (OpenSpec.ofChange Rows.fnExactSatValsSpec) :=
  OpenClaim.holds_of_wide 4 Try.f4 rfl rfl rfl rfl rfl rfl rfl ⟨rfl, rfl, rfl, rfl, rfl⟩ rfl rfl rfl rfl rfl (by kernel_rfl) Try.func4 (by kernel_rfl)
    (of_decide_eq_true (by kernel_rfl)) (by unfold Func.isWrapper; first | (rw [if_pos (by decide +kernel)]; kernel_rfl) | (rw [if_neg (by decide +kernel)]; exact ⟨rfl, rfl⟩))
    (fun os started H enc _ => lifted os started H enc)
end exSvl

theorem exSvl_holds : Rows.FnExactSatValsSaid := exSvl.over
#print axioms exSvl_holds
end Go.Proofs.Ytndebifmimbeaab
