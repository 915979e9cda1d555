/- At every argument the program's SatSame answers as the model's: the law FnExactSatSame returns true for any two searches, right or not, and leaves them as they were. No condition (the law itself answers true where they take more than 1048576 numbers and lists). -/
import Derived.Test.YtndebifmimbeaabSatB
namespace Go.Proofs.Ytndebifmimbeaab
open Go.ChangeShapes Go.WideShapes Go.ChangeAt Go.RowKit Go.Joins
open Go.ChangeMaps (open_string shut_string)
set_option linter.unusedVariables false
theorem laidOut : laidOutB Try.prog = true := by kernel_rfl

namespace exSsm
set_option maxHeartbeats 2000000 in
theorem walk (pA : Option Addr) (npA cpA : Nat) (PA : Nat → Int) (qA : Option Addr) (nqA cqA : Nat) (QA : Nat → Int) (aA : Option Addr) (nA capA : Nat) (AA : Nat → Option Addr) (LA CA : Nat → Nat) (VA : Nat → Nat → Int) (codeA : Int) (pB : Option Addr) (npB cpB : Nat) (PB : Nat → Int) (qB : Option Addr) (nqB cqB : Nat) (QB : Nat → Int) (aB : Option Addr) (nB capB : Nat) (AB : Nat → Option Addr) (LB CB : Nat → Nat) (VB : Nat → Nat → Int) (codeB : Int) (w : World) (wcA : W64 codeA) (lpA : npA ≤ maxLen) (lqA : nqA ≤ maxLen) (lnA : nA ≤ maxLen) (hdA : SatIn w pA npA PA qA nqA QA aA nA AA LA CA VA) (wpA : ∀ i, i < npA → W64 (PA i)) (wqA : ∀ i, i < nqA → W64 (QA i)) (hwA : ∀ i, i < nA → LA i ≤ maxLen ∧ ∀ j, j < LA i → W64 (VA i j)) (wcB : W64 codeB) (lpB : npB ≤ maxLen) (lqB : nqB ≤ maxLen) (lnB : nB ≤ maxLen) (hdB : SatIn w pB npB PB qB nqB QB aB nB AB LB CB VB) (wpB : ∀ i, i < npB → W64 (PB i)) (wqB : ∀ i, i < nqB → W64 (QB i)) (hwB : ∀ i, i < nB → LB i ≤ maxLen ∧ ∀ j, j < LB i → W64 (VB i j)) :
    Calls Try.prog 3 #[.agg #[.slice pA npA cpA, .slice qA nqA cqA, .slice aA nA capA, .int .i64 codeA], .agg #[.slice pB npB cpB, .slice qB nqB cqB, .slice aB nB capB, .int .i64 codeB]] w fun e w' => e = .returned (.bool true) ∧ Below w.heap.size w w' := by
  have DA := hdA
  have DB := hdB
  have BL : Below w.heap.size w w := Below.refl _ _
  clear hdA hdB
  have kb : (ssameB codeA codeB npA npB PA PB nqA nqB QA QB nA nB LA LB VA VB != ssameB codeA codeB npA npB PA PB nqA nqB QA QB nA nB LA LB VA VB) = false := by simp
  go_enter Try.func3, Try.ntmps3
  go_wp2_with fail
  obtain ⟨vE, hvE⟩ : ∃ v, v = w.alloc (.cells #[.slice pA npA cpA, .slice qA nqA cqA, .slice aA nA capA, .int .i64 codeA] 25) := ⟨_, rfl⟩
  have bvE : Below w.heap.size w vE := by rw [hvE]; exact (Below.refl _ _).alloc (Nat.le_refl _) _
  have E : SBox vE w.heap.size pA npA cpA qA nqA cqA aA nA capA codeA := by rw [hvE]; exact SBox.new _ _ _ _ _ _ _ _ _ _ _ _
  have hszvE : w.heap.size + 1 = vE.heap.size := by rw [hvE]; simp
  try rw [hszvE]
  rw [← hvE]
  clear hvE hszvE
  replace DA := DA.later bvE
  replace DB := DB.later bvE
  replace BL := BL.trans (bvE.mono BL.size)
  clear bvE
  obtain ⟨vG, hvG⟩ : ∃ v, v = vE.alloc (.cells #[.slice pB npB cpB, .slice qB nqB cqB, .slice aB nB capB, .int .i64 codeB] 25) := ⟨_, rfl⟩
  have bvG : Below vE.heap.size vE vG := by rw [hvG]; exact (Below.refl _ _).alloc (Nat.le_refl _) _
  have G : SBox vG vE.heap.size pB npB cpB qB nqB cqB aB nB capB codeB := by rw [hvG]; exact SBox.new _ _ _ _ _ _ _ _ _ _ _ _
  rw [← hvG]
  clear hvG
  replace DA := DA.later bvG
  replace DB := DB.later bvG
  replace E := E.later bvG
  replace BL := BL.trans (bvG.mono BL.size)
  clear bvG
  refine (szSat_any _ _ _ _ _ _ _ _ _ _ _ _ _ _ _ _ 1048576 _ DA (by omega) (by omega) lpA lqA lnA (fun i hi => (hwA i hi).1)).mono ?_
  rintro e w2 ⟨⟨zA, rfl, hzA⟩, b2⟩
  replace DA := DA.later b2
  replace DB := DB.later b2
  replace E := E.later b2
  replace G := G.later b2
  replace BL := BL.trans (b2.mono BL.size)
  clear b2
  by_cases h0 : 0 ≤ zA
  · have hz0 : zA ≤ 1048576 := by rcases hzA with h | h <;> omega
    have FA : Hid (SFit npA PA nqA QA nA LA VA codeA) := by
      obtain ⟨_, hz1, hp, hq, hn, hs⟩ := hzA.resolve_left (by omega)
      exact ⟨by omega, by omega, wpA, wqA, ⟨by omega, fun i hi => ⟨by have := hs i hi; omega, (hwA i hi).2⟩⟩, wcA⟩
    clear hwA wpA wqA
    obtain ⟨E0, E1, E2, E3⟩ := id E
    have El := World.block_lt_of_cell? _ _ E0
    obtain ⟨G0, G1, G2, G3⟩ := id G
    have Gl := World.block_lt_of_cell? _ _ G0
    go_wp2_with fail
    clear E0 E1 E2 E3 El
    clear G0 G1 G2 G3 Gl
    refine (szSat_any _ _ _ _ _ _ _ _ _ _ _ _ _ _ _ _ zA _ DB h0 hz0 lpB lqB lnB (fun i hi => (hwB i hi).1)).mono ?_
    rintro e w3 ⟨⟨zB, rfl, hzB⟩, b3⟩
    replace DA := DA.later b3
    replace DB := DB.later b3
    replace E := E.later b3
    replace G := G.later b3
    replace BL := BL.trans (b3.mono BL.size)
    clear b3
    by_cases h1 : 0 ≤ zB
    · have FB : Hid (SFit npB PB nqB QB nB LB VB codeB) := by
        obtain ⟨_, hz1, hp, hq, hn, hs⟩ := hzB.resolve_left (by omega)
        exact ⟨by omega, by omega, wpB, wqB, ⟨by omega, fun i hi => ⟨by have := hs i hi; omega, (hwB i hi).2⟩⟩, wcB⟩
      clear hwB wpB wqB
      obtain ⟨E0, E1, E2, E3⟩ := id E
      have El := World.block_lt_of_cell? _ _ E0
      obtain ⟨G0, G1, G2, G3⟩ := id G
      have Gl := World.block_lt_of_cell? _ _ G0
      go_wp2
      go_region_held3 (fun w' => w'.cell? ⟨w.heap.size, 0, none⟩ = some (.slice pA npA cpA) ∧ w'.cell? ⟨w.heap.size, 1, none⟩ = some (.slice qA nqA cqA) ∧ w'.cell? ⟨w.heap.size, 2, none⟩ = some (.slice aA nA capA) ∧ w'.cell? ⟨w.heap.size, 3, none⟩ = some (.int .i64 codeA) ∧ w'.cell? ⟨vE.heap.size, 0, none⟩ = some (.slice pB npB cpB) ∧ w'.cell? ⟨vE.heap.size, 1, none⟩ = some (.slice qB nqB cqB) ∧ w'.cell? ⟨vE.heap.size, 2, none⟩ = some (.slice aB nB capB) ∧ w'.cell? ⟨vE.heap.size, 3, none⟩ = some (.int .i64 codeB)) (first | go_keep | exact ⟨E0, E1, E2, E3, G0, G1, G2, G3⟩)
        (first | (go_at_call_of 7 (Value.agg #[.slice pA npA cpA, .slice qA nqA cqA, .slice aA nA capA, .int .i64 codeA]); refine (toSat_any pA npA cpA _ qA nqA cqA _ aA nA capA _ _ _ _ codeA _ (by first | exact DA | exact DA.drew | exact DA.drew.drew) (unhide FA)).mono ?_; rintro e wq ⟨Bq1, Bq2, Bq3, bsq, rfl, Cq, bq⟩; have DA := SatIn.later (by first | exact DA | exact DA.drew | exact DA.drew.drew) bq; have DB := SatIn.later (by first | exact DB | exact DB.drew | exact DB.drew.drew) bq; have E := SBox.later (by first | exact E | exact E.drew | exact E.drew.drew) bq; have G := SBox.later (by first | exact G | exact G.drew | exact G.drew.drew) bq; obtain ⟨E0, E1, E2, E3⟩ := id E; obtain ⟨G0, G1, G2, G3⟩ := id G; have BL := (by first | exact BL.trans (bq.mono BL.size) | exact BL.drew.trans (bq.mono BL.size) | exact BL.drew.drew.trans (bq.mono BL.size)); (try (have Cp := SCop.later (by first | exact Cp | exact Cp.drew | exact Cp.drew.drew) bq))) | (go_at_call_of 7 (Value.agg #[.slice pB npB cpB, .slice qB nqB cqB, .slice aB nB capB, .int .i64 codeB]); refine (toSat_any pB npB cpB _ qB nqB cqB _ aB nB capB _ _ _ _ codeB _ (by first | exact DB | exact DB.drew | exact DB.drew.drew) (unhide FB)).mono ?_; rintro e wp ⟨Bp1, Bp2, Bp3, bsp, rfl, Cp, bp⟩; have DA := SatIn.later (by first | exact DA | exact DA.drew | exact DA.drew.drew) bp; have DB := SatIn.later (by first | exact DB | exact DB.drew | exact DB.drew.drew) bp; have E := SBox.later (by first | exact E | exact E.drew | exact E.drew.drew) bp; have G := SBox.later (by first | exact G | exact G.drew | exact G.drew.drew) bp; obtain ⟨E0, E1, E2, E3⟩ := id E; obtain ⟨G0, G1, G2, G3⟩ := id G; have BL := (by first | exact BL.trans (bp.mono BL.size) | exact BL.drew.trans (bp.mono BL.size) | exact BL.drew.drew.trans (bp.mono BL.size)); (try (have Cq := SCop.later (by first | exact Cq | exact Cq.drew | exact Cq.drew.drew) bp))) | (go_at_call 6; refine (sSatSame_any _ _ _ _ _ _ _ _ _ _ _ _ _ _ _ _ _ _ _ _ _ _ _ _ _ _ _ _ _ _ _ _ _ (SCop.in (by first | exact Cq | exact Cq.drew | exact Cq.drew.drew)) (unhide FA) (SCop.in (by first | exact Cp | exact Cp.drew | exact Cp.drew.drew)) (unhide FB)).mono ?_; rintro e ws ⟨rfl, bs⟩; have DA := SatIn.later (by first | exact DA | exact DA.drew | exact DA.drew.drew) bs; have DB := SatIn.later (by first | exact DB | exact DB.drew | exact DB.drew.drew) bs; have E := SBox.later (by first | exact E | exact E.drew | exact E.drew.drew) bs; have G := SBox.later (by first | exact G | exact G.drew | exact G.drew.drew) bs; obtain ⟨E0, E1, E2, E3⟩ := id E; obtain ⟨G0, G1, G2, G3⟩ := id G; have BL := (by first | exact BL.trans (bs.mono BL.size) | exact BL.drew.trans (bs.mono BL.size) | exact BL.drew.drew.trans (bs.mono BL.size))))
      all_goals
        (try clear E0 E1 E2 E3 El G0 G1 G2 G3 Gl)
        obtain ⟨E0, E1, E2, E3⟩ := id E
        have El := World.block_lt_of_cell? _ _ E0
        obtain ⟨G0, G1, G2, G3⟩ := id G
        have Gl := World.block_lt_of_cell? _ _ G0
        go_wp2_with fail
        clear E0 E1 E2 E3 El
        clear G0 G1 G2 G3 Gl
        refine (toSat_any _ _ _ _ _ _ _ _ _ _ _ _ _ _ _ _ _ DA (unhide FA)).mono ?_
        rintro e w4 ⟨Y1, Y2, Y3, Ybs, rfl, Y, b4⟩
        replace DA := DA.later b4
        replace DB := DB.later b4
        replace E := E.later b4
        replace G := G.later b4
        replace BL := BL.trans (b4.mono BL.size)
        clear b4
        obtain ⟨E0, E1, E2, E3⟩ := id E
        have El := World.block_lt_of_cell? _ _ E0
        obtain ⟨G0, G1, G2, G3⟩ := id G
        have Gl := World.block_lt_of_cell? _ _ G0
        go_wp2_with fail
        clear E0 E1 E2 E3 El
        clear G0 G1 G2 G3 Gl
        obtain ⟨vR, hvR⟩ : ∃ v, v = w4.alloc (.cells #[.slice (some ⟨Y1, 0, none⟩) npA npA, .slice (some ⟨Y2, 0, none⟩) nqA nqA, .slice (some ⟨Y3, 0, none⟩) nA nA, .int .i64 codeA] 28) := ⟨_, rfl⟩
        have bvR : Below w4.heap.size w4 vR := by rw [hvR]; exact (Below.refl _ _).alloc (Nat.le_refl _) _
        have R : SBox vR w4.heap.size (some ⟨Y1, 0, none⟩) npA npA (some ⟨Y2, 0, none⟩) nqA nqA (some ⟨Y3, 0, none⟩) nA nA codeA := by rw [hvR]; exact SBox.new _ _ _ _ _ _ _ _ _ _ _ _
        rw [← hvR]
        clear hvR
        replace DA := DA.later bvR
        replace DB := DB.later bvR
        replace Y := Y.later bvR
        replace E := E.later bvR
        replace G := G.later bvR
        replace BL := BL.trans (bvR.mono BL.size)
        clear bvR
        refine (toSat_any _ _ _ _ _ _ _ _ _ _ _ _ _ _ _ _ _ DB (unhide FB)).mono ?_
        rintro e w5 ⟨Z1, Z2, Z3, Zbs, rfl, Z, b5⟩
        replace DA := DA.later b5
        replace DB := DB.later b5
        replace Y := Y.later b5
        replace E := E.later b5
        replace G := G.later b5
        replace R := R.later b5
        replace BL := BL.trans (b5.mono BL.size)
        clear b5
        obtain ⟨E0, E1, E2, E3⟩ := id E
        have El := World.block_lt_of_cell? _ _ E0
        obtain ⟨G0, G1, G2, G3⟩ := id G
        have Gl := World.block_lt_of_cell? _ _ G0
        obtain ⟨R0, R1, R2, R3⟩ := id R
        have Rl := World.block_lt_of_cell? _ _ R0
        go_wp2_with fail
        clear E0 E1 E2 E3 El
        clear G0 G1 G2 G3 Gl
        clear R0 R1 R2 R3 Rl
        obtain ⟨vT, hvT⟩ : ∃ v, v = w5.alloc (.cells #[.slice (some ⟨Z1, 0, none⟩) npB npB, .slice (some ⟨Z2, 0, none⟩) nqB nqB, .slice (some ⟨Z3, 0, none⟩) nB nB, .int .i64 codeB] 28) := ⟨_, rfl⟩
        have bvT : Below w5.heap.size w5 vT := by rw [hvT]; exact (Below.refl _ _).alloc (Nat.le_refl _) _
        have T : SBox vT w5.heap.size (some ⟨Z1, 0, none⟩) npB npB (some ⟨Z2, 0, none⟩) nqB nqB (some ⟨Z3, 0, none⟩) nB nB codeB := by rw [hvT]; exact SBox.new _ _ _ _ _ _ _ _ _ _ _ _
        rw [← hvT]
        clear hvT
        replace DA := DA.later bvT
        replace DB := DB.later bvT
        replace Y := Y.later bvT
        replace Z := Z.later bvT
        replace E := E.later bvT
        replace G := G.later bvT
        replace R := R.later bvT
        replace BL := BL.trans (bvT.mono BL.size)
        clear bvT
        refine (iSatSame_any _ _ _ _ _ _ _ _ _ _ _ _ _ _ _ _ _ _ _ _ _ _ _ _ _ _ _ _ _ _ _ _ _ Y.in (unhide FA) Z.in (unhide FB)).mono ?_
        rintro e w6 ⟨rfl, b6⟩
        replace DA := DA.later b6
        replace DB := DB.later b6
        replace Y := Y.later b6
        replace Z := Z.later b6
        replace E := E.later b6
        replace G := G.later b6
        replace R := R.later b6
        replace T := T.later b6
        replace BL := BL.trans (b6.mono BL.size)
        clear b6
        obtain ⟨E0, E1, E2, E3⟩ := id E
        have El := World.block_lt_of_cell? _ _ E0
        obtain ⟨G0, G1, G2, G3⟩ := id G
        have Gl := World.block_lt_of_cell? _ _ G0
        obtain ⟨R0, R1, R2, R3⟩ := id R
        have Rl := World.block_lt_of_cell? _ _ R0
        obtain ⟨T0, T1, T2, T3⟩ := id T
        have Tl := World.block_lt_of_cell? _ _ T0
        go_wp2
        go_region_held3 (fun w' => w'.cell? ⟨w.heap.size, 0, none⟩ = some (.slice pA npA cpA) ∧ w'.cell? ⟨w.heap.size, 1, none⟩ = some (.slice qA nqA cqA) ∧ w'.cell? ⟨w.heap.size, 2, none⟩ = some (.slice aA nA capA) ∧ w'.cell? ⟨w.heap.size, 3, none⟩ = some (.int .i64 codeA) ∧ w'.cell? ⟨w4.heap.size, 0, none⟩ = some (.slice (some ⟨Y1, 0, none⟩) npA npA) ∧ w'.cell? ⟨w4.heap.size, 1, none⟩ = some (.slice (some ⟨Y2, 0, none⟩) nqA nqA) ∧ w'.cell? ⟨w4.heap.size, 2, none⟩ = some (.slice (some ⟨Y3, 0, none⟩) nA nA) ∧ w'.cell? ⟨w4.heap.size, 3, none⟩ = some (.int .i64 codeA)) (first | go_keep | exact ⟨E0, E1, E2, E3, R0, R1, R2, R3⟩)
          (first | (go_at_call 7; refine (toSat_any _ _ _ _ _ _ _ _ _ _ _ _ _ _ _ _ _ (by first | exact DA | exact DA.drew | exact DA.drew.drew) (unhide FA)).mono ?_; rintro e wq ⟨Bq1, Bq2, Bq3, bsq, rfl, Xq, bq⟩; have DA := SatIn.later (by first | exact DA | exact DA.drew | exact DA.drew.drew) bq; have DB := SatIn.later (by first | exact DB | exact DB.drew | exact DB.drew.drew) bq; have Y := SCop.later (by first | exact Y | exact Y.drew | exact Y.drew.drew) bq; have Z := SCop.later (by first | exact Z | exact Z.drew | exact Z.drew.drew) bq; have E := SBox.later (by first | exact E | exact E.drew | exact E.drew.drew) bq; have G := SBox.later (by first | exact G | exact G.drew | exact G.drew.drew) bq; have R := SBox.later (by first | exact R | exact R.drew | exact R.drew.drew) bq; have T := SBox.later (by first | exact T | exact T.drew | exact T.drew.drew) bq; obtain ⟨E0, E1, E2, E3⟩ := id E; obtain ⟨G0, G1, G2, G3⟩ := id G; obtain ⟨R0, R1, R2, R3⟩ := id R; obtain ⟨T0, T1, T2, T3⟩ := id T; have BL := (by first | exact BL.trans (bq.mono BL.size) | exact BL.drew.trans (bq.mono BL.size) | exact BL.drew.drew.trans (bq.mono BL.size))) | (go_at_call 9; refine (eqSat_same _ _ _ _ _ _ _ _ _ _ _ _ _ _ _ _ _ _ _ (by first | exact Y | exact Y.drew | exact Y.drew.drew) (by first | exact Xq | exact Xq.drew | exact Xq.drew.drew) (unhide FA)).mono ?_; rintro e wp ⟨rfl, bp⟩; have DA := SatIn.later (by first | exact DA | exact DA.drew | exact DA.drew.drew) bp; have DB := SatIn.later (by first | exact DB | exact DB.drew | exact DB.drew.drew) bp; have Y := SCop.later (by first | exact Y | exact Y.drew | exact Y.drew.drew) bp; have Z := SCop.later (by first | exact Z | exact Z.drew | exact Z.drew.drew) bp; have E := SBox.later (by first | exact E | exact E.drew | exact E.drew.drew) bp; have G := SBox.later (by first | exact G | exact G.drew | exact G.drew.drew) bp; have R := SBox.later (by first | exact R | exact R.drew | exact R.drew.drew) bp; have T := SBox.later (by first | exact T | exact T.drew | exact T.drew.drew) bp; obtain ⟨E0, E1, E2, E3⟩ := id E; obtain ⟨G0, G1, G2, G3⟩ := id G; obtain ⟨R0, R1, R2, R3⟩ := id R; obtain ⟨T0, T1, T2, T3⟩ := id T; have BL := (by first | exact BL.trans (bp.mono BL.size) | exact BL.drew.trans (bp.mono BL.size) | exact BL.drew.drew.trans (bp.mono BL.size))))
        all_goals
          (try clear E0 E1 E2 E3 El G0 G1 G2 G3 Gl R0 R1 R2 R3 Rl T0 T1 T2 T3 Tl)
          obtain ⟨E0, E1, E2, E3⟩ := id E
          have El := World.block_lt_of_cell? _ _ E0
          obtain ⟨G0, G1, G2, G3⟩ := id G
          have Gl := World.block_lt_of_cell? _ _ G0
          obtain ⟨R0, R1, R2, R3⟩ := id R
          have Rl := World.block_lt_of_cell? _ _ R0
          obtain ⟨T0, T1, T2, T3⟩ := id T
          have Tl := World.block_lt_of_cell? _ _ T0
          go_wp2
          go_region_held3 (fun w' => w'.cell? ⟨vE.heap.size, 0, none⟩ = some (.slice pB npB cpB) ∧ w'.cell? ⟨vE.heap.size, 1, none⟩ = some (.slice qB nqB cqB) ∧ w'.cell? ⟨vE.heap.size, 2, none⟩ = some (.slice aB nB capB) ∧ w'.cell? ⟨vE.heap.size, 3, none⟩ = some (.int .i64 codeB) ∧ w'.cell? ⟨w5.heap.size, 0, none⟩ = some (.slice (some ⟨Z1, 0, none⟩) npB npB) ∧ w'.cell? ⟨w5.heap.size, 1, none⟩ = some (.slice (some ⟨Z2, 0, none⟩) nqB nqB) ∧ w'.cell? ⟨w5.heap.size, 2, none⟩ = some (.slice (some ⟨Z3, 0, none⟩) nB nB) ∧ w'.cell? ⟨w5.heap.size, 3, none⟩ = some (.int .i64 codeB)) (first | go_keep | exact ⟨G0, G1, G2, G3, T0, T1, T2, T3⟩)
            (first | (go_at_call 7; refine (toSat_any _ _ _ _ _ _ _ _ _ _ _ _ _ _ _ _ _ (by first | exact DB | exact DB.drew | exact DB.drew.drew) (unhide FB)).mono ?_; rintro e wq ⟨Bq1, Bq2, Bq3, bsq, rfl, Xq, bq⟩; have DA := SatIn.later (by first | exact DA | exact DA.drew | exact DA.drew.drew) bq; have DB := SatIn.later (by first | exact DB | exact DB.drew | exact DB.drew.drew) bq; have Y := SCop.later (by first | exact Y | exact Y.drew | exact Y.drew.drew) bq; have Z := SCop.later (by first | exact Z | exact Z.drew | exact Z.drew.drew) bq; have E := SBox.later (by first | exact E | exact E.drew | exact E.drew.drew) bq; have G := SBox.later (by first | exact G | exact G.drew | exact G.drew.drew) bq; have R := SBox.later (by first | exact R | exact R.drew | exact R.drew.drew) bq; have T := SBox.later (by first | exact T | exact T.drew | exact T.drew.drew) bq; obtain ⟨E0, E1, E2, E3⟩ := id E; obtain ⟨G0, G1, G2, G3⟩ := id G; obtain ⟨R0, R1, R2, R3⟩ := id R; obtain ⟨T0, T1, T2, T3⟩ := id T; have BL := (by first | exact BL.trans (bq.mono BL.size) | exact BL.drew.trans (bq.mono BL.size) | exact BL.drew.drew.trans (bq.mono BL.size))) | (go_at_call 9; refine (eqSat_same _ _ _ _ _ _ _ _ _ _ _ _ _ _ _ _ _ _ _ (by first | exact Z | exact Z.drew | exact Z.drew.drew) (by first | exact Xq | exact Xq.drew | exact Xq.drew.drew) (unhide FB)).mono ?_; rintro e wp ⟨rfl, bp⟩; have DA := SatIn.later (by first | exact DA | exact DA.drew | exact DA.drew.drew) bp; have DB := SatIn.later (by first | exact DB | exact DB.drew | exact DB.drew.drew) bp; have Y := SCop.later (by first | exact Y | exact Y.drew | exact Y.drew.drew) bp; have Z := SCop.later (by first | exact Z | exact Z.drew | exact Z.drew.drew) bp; have E := SBox.later (by first | exact E | exact E.drew | exact E.drew.drew) bp; have G := SBox.later (by first | exact G | exact G.drew | exact G.drew.drew) bp; have R := SBox.later (by first | exact R | exact R.drew | exact R.drew.drew) bp; have T := SBox.later (by first | exact T | exact T.drew | exact T.drew.drew) bp; obtain ⟨E0, E1, E2, E3⟩ := id E; obtain ⟨G0, G1, G2, G3⟩ := id G; obtain ⟨R0, R1, R2, R3⟩ := id R; obtain ⟨T0, T1, T2, T3⟩ := id T; have BL := (by first | exact BL.trans (bp.mono BL.size) | exact BL.drew.trans (bp.mono BL.size) | exact BL.drew.drew.trans (bp.mono BL.size))))
          all_goals go_wp2
          all_goals go_ret
          all_goals exact ⟨rfl, (by first | exact BL | exact BL.drew)⟩
    · go_wp2
      go_ret
      exact ⟨rfl, BL⟩
  · go_wp2
    go_ret
    exact ⟨rfl, BL⟩

set_option maxRecDepth 100000 in
theorem lifted (os : Os) (started : os.Started) (H : Type) (enc : TypeId × Value → H) :
    ReturnsInHanded {} Try.checked os 3 .any (Rows.fnExactSatSameSpec.pre6 enc Try.prog Try.f3 Rows.fnExactSatSameRow.domain false) (Rows.fnExactSatSameSpec.post enc Try.prog Try.f3 false true false false) := by
  refine returnsInHanded_of_change (C := Try.checked) own started (by kernel_rfl) Try.func3
    (ChangeSpec.witness6 (enc := enc) (C := Try.checked) false ⟨#[], #[.agg #[.slice none 0 0, .slice none 0 0, .slice none 0 0, .int .i64 0], .agg #[.slice none 0 0, .slice none 0 0, .slice none 0 0, .int .i64 0]], []⟩ 8 (by kernel_rfl) (by kernel_rfl) (by kernel_rfl) (by kernel_rfl)) ?_
  intro W base args ds gs before hval0 hW hcnd _
  have hval : ∀ (j : Nat) t v, Try.f3.params[j]? = some t → args[j]? = some v → Value.okWide Try.prog W .any base t v := hval0
  have hW' := hW
  obtain ⟨p, q, hA0, hV, rfl, hfz, hnd⟩ := hW
  have hA : DataW.TrodAll enc Try.prog W 0 (fun _ => true) true Try.f3.params.toList args.toList ds p := hA0
  rw [Try.params3] at hA hval
  obtain ⟨v0, vs0, d0, ds0, p0, q0, hargs, rfl, rfl, h0, r0⟩ := trodAll_cons hA
  obtain ⟨v1, vs1, d1, ds1, p1, q1, rfl, rfl, rfl, h1, r1⟩ := trodAll_cons r0
  obtain ⟨rfl, rfl, rfl⟩ := trodAll_nil r1
  obtain rfl : args = #[v0, v1] := by cases args; simp_all
  obtain ⟨rfl, rfl⟩ := trodVars_none hV
  have k0 := h0
  have lt0 : ∀ x ∈ p0, x.block < W.heap.size := by obtain ⟨m, hm⟩ := k0; exact DataW.trod_lt m _ _ _ hm
  obtain ⟨pA, npA, cpA, PA, qA, nqA, cqA, QA, aA, nA, capA, AA, LA, CA, VA, codeA, rfl, wcA, lpA, lqA, lnA, hdA, wpA, wqA, hwA⟩ := sat_in (hval 0 25 v0 rfl rfl) h0
  have k1 := h1
  have lt1 : ∀ x ∈ p1, x.block < W.heap.size := by obtain ⟨m, hm⟩ := k1; exact DataW.trod_lt m _ _ _ hm
  obtain ⟨pB, npB, cpB, PB, qB, nqB, cqB, QB, aB, nB, capB, AB, LB, CB, VB, codeB, rfl, wcB, lpB, lqB, lnB, hdB, wpB, wqB, hwB⟩ := sat_in (hval 1 25 v1 rfl rfl) h1
  clear hA0 hval0
  refine (walk pA npA cpA PA qA nqA cqA QA aA nA capA AA LA CA VA codeA pB npB cpB PB qB nqB cqB QB aB nB capB AB LB CB VB codeB W wcA lpA lqA lnA hdA wpA wqA hwA wcB lpB lqB lnB hdB wpB wqB hwB).mono fun e W' ⟨he, bel⟩ => ?_
  subst he
  exact ⟨_, rfl, _, _, _, [], _, [], hW', trodAll_mk1 (shut_bool Try.underlying4 _), (trodAll_cons_mk (Below.trod laidOut (by kernel_rfl) (of_decide_eq_true (by kernel_rfl)) k0 bel lt0) (trodAll_cons_mk (Below.trod laidOut (by kernel_rfl) (of_decide_eq_true (by kernel_rfl)) k1 bel lt1) trodAll_mk0)), rfl, bel.frame _, fun h => by cases h⟩

theorem over : Rows.fnExactSatSameRow.holds Try.pinned (OpenSpec.ofChange Rows.fnExactSatSameSpec) :=
  OpenClaim.holds_of_wide 3 Try.f3 rfl rfl rfl rfl rfl rfl rfl ⟨rfl, rfl, rfl, rfl, rfl⟩ rfl rfl rfl rfl rfl (by kernel_rfl) Try.func3 (by kernel_rfl)
    (of_decide_eq_true (by kernel_rfl)) (by unfold Func.isWrapper; first | (rw [if_pos (by decide +kernel)]; kernel_rfl) | (rw [if_neg (by decide +kernel)]; exact ⟨rfl, rfl⟩))
    (fun os started H enc _ => lifted os started H enc)
end exSsm

theorem exSsm_holds : Rows.FnExactSatSameSaid := exSsm.over
#print axioms exSsm_holds
end Go.Proofs.Ytndebifmimbeaab
