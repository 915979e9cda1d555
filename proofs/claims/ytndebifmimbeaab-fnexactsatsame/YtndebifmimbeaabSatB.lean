/- Two searches that are one in all parts (SatSame), of the model and of the program. -/
import Derived.Test.YtndebifmimbeaabSatA
import Derived.Test.YtndebifmimbeaabCnfC
namespace Go.Proofs.Ytndebifmimbeaab
open Go.ChangeShapes Go.WideShapes Go.ChangeAt Go.RowKit Go.Joins
set_option linter.unusedVariables false

def SSameP (code code' : Int) (np np' : Nat) (P P' : Nat → Int) (nq nq' : Nat) (Q Q' : Nat → Int) (n n' : Nat) (L L' : Nat → Nat) (V V' : Nat → Nat → Int) : Prop := code = code' ∧ EqP np np' P P' ∧ EqP nq nq' Q Q' ∧ SameP 0 0 n n' L L' V V'
noncomputable def ssameB (code code' : Int) (np np' : Nat) (P P' : Nat → Int) (nq nq' : Nat) (Q Q' : Nat → Int) (n n' : Nat) (L L' : Nat → Nat) (V V' : Nat → Nat → Int) : Bool := @decide (SSameP code code' np np' P P' nq nq' Q Q' n n' L L' V V') (Classical.propDecidable _)
theorem ssameB_yes {code code' : Int} {np np' : Nat} {P P' : Nat → Int} {nq nq' : Nat} {Q Q' : Nat → Int} {n n' : Nat} {L L' : Nat → Nat} {V V' : Nat → Nat → Int} (h : SSameP code code' np np' P P' nq nq' Q Q' n n' L L' V V') : ssameB code code' np np' P P' nq nq' Q Q' n n' L L' V V' = true := by simpa [ssameB] using h
theorem ssameB_no {code code' : Int} {np np' : Nat} {P P' : Nat → Int} {nq nq' : Nat} {Q Q' : Nat → Int} {n n' : Nat} {L L' : Nat → Nat} {V V' : Nat → Nat → Int} (h : ¬ SSameP code code' np np' P P' nq nq' Q Q' n n' L L' V V') : ssameB code code' np np' P P' nq nq' Q Q' n n' L L' V V' = false := by simpa [ssameB] using h
set_option maxHeartbeats 1000000 in
theorem equalFunc_any (a c : Option Addr) (n n' cap cap' : Nat) (A A' : Nat → Option Addr) (L L' C C' : Nat → Nat) (V V' : Nat → Nat → Int) (w : World) (hd : RwsAt w a n A L C V) (hf : Fits n L V) (hd' : RwsAt w c n' A' L' C' V') (hf' : Fits n' L' V') :
    Calls Try.prog 27 #[.slice a n cap, .slice c n' cap', .func (.func 26) #[] #[]] w fun e w' => e = .returned (.bool (sameB 0 0 n n' L L' V V')) ∧ Below w.heap.size w w' := by
  have HD := hide hd
  have HE := hide hd'
  have HF := hide hf
  have HF' := hide hf'
  have hn := hf.1
  have hn' := hf'.1
  clear hd hd' hf hf'
  by_cases hnn : n = n'
  · subst hnn
    have kb1 : ((n : Int) != (n : Int)) = false := by simp
    go_enter Try.func27, Try.ntmps27
    go_wp2
    go_loopw [17] (fun i wr => ∃ k : Nat, k ≤ n ∧ i = .int .i64 k ∧ (∀ j, j < k → EqP (L j) (L' j) (V j) (V' j)) ∧ Below w.heap.size w wr) (fun i _ => n - (intOf i).toNat)
    case atStart => exact ⟨0, by omega, rfl, fun j hj => by omega, (by repeat (first | exact Below.refl _ _ | assumption | refine below_drewN ?_ _ | refine Below.drew ?_ | refine Below.alloc ?_ (by first | exact Nat.le_refl _ | exact Below.size (by assumption) | (simp; done) | (simp; omega)) _ | refine Below.setCell ?_ (by first | exact Nat.le_refl _ | exact Below.size (by assumption) | (simp; done) | (simp; omega)) _ | refine Below.trans ?_ (by assumption)))⟩
    case round =>
      obtain ⟨k, hk, rfl, hok, hbel⟩ := hrel
      have HK := hide hok
      clear hok
      by_cases hlt : k < n
      · obtain ⟨b, off, rfl, hb, hd⟩ := (unhide HD).ok hlt
        obtain ⟨c, off', rfl, hc, hd'⟩ := (unhide HE).ok hlt
        have d0 := (hbel.cell (p := ⟨b, off + k, none⟩) hb).trans (hd k hlt).1
        have g0 := (hbel.cell (p := ⟨c, off' + k, none⟩) hc).trans (hd' k hlt).1
        have I1 := hide ((hd k hlt).2.later hbel)
        have I2 := hide ((hd' k hlt).2.later hbel)
        clear hd hd'
        have fl := ((unhide HF).2 k hlt).1
        have fl' := ((unhide HF').2 k hlt).1
        go_wp2_with fail
        refine (equal_any _ _ _ _ _ _ _ _ _ (unhide I1) (unhide I2) fl fl').mono ?_
        rintro e wq ⟨rfl, bq⟩
        have BL := hbel.trans (bq.mono hbel.size)
        clear bq d0 g0
        cases hv : eqB (L k) (L' k) (V k) (V' k)
        · have HN := hide (sameB_no (m := 0) (m' := 0) (n := n) (n' := n) (L := L) (L' := L') (V := V) (V' := V') (fun h => by have := eqB_yes (h.2.2 k hlt); rw [hv] at this; cases this))
          go_wp2
          rw [unhide HN]
          go_ret
          exact ⟨rfl, BL⟩
        · have HK1 : Hid (∀ j, j < k + 1 → EqP (L j) (L' j) (V j) (V' j)) := fun j hj => by
            by_cases e : j = k
            · subst e; exact eqB_iff.1 hv
            · exact unhide HK j (by omega)
          go_wp2
          go_roundw
          case rel => exact ⟨k + 1, by omega, by go_num, unhide HK1, BL⟩
          case measure => simp [intOf]; omega
      · have e : k = n := by omega
        subst e
        have HN := hide (sameB_yes (m := 0) (m' := 0) (n := k) (n' := k) (L := L) (L' := L') (V := V) (V' := V') ⟨rfl, rfl, unhide HK⟩)
        go_wp2
        rw [unhide HN]
        go_ret
        exact ⟨rfl, hbel⟩
  · have HN := hide (sameB_no (m := 0) (m' := 0) (n := n) (n' := n') (L := L) (L' := L') (V := V) (V' := V') (fun h => hnn h.2.1))
    have kb : ((n : Int) != (n' : Int)) = true := by simp; omega
    go_enter Try.func27, Try.ntmps27
    go_wp2
    rw [unhide HN]
    go_ret
    exact ⟨rfl, (by repeat (first | exact Below.refl _ _ | assumption | refine below_drewN ?_ _ | refine Below.drew ?_ | refine Below.alloc ?_ (by first | exact Nat.le_refl _ | exact Below.size (by assumption) | (simp; done) | (simp; omega)) _ | refine Below.setCell ?_ (by first | exact Nat.le_refl _ | exact Below.size (by assumption) | (simp; done) | (simp; omega)) _ | refine Below.trans ?_ (by assumption)))⟩
set_option maxHeartbeats 2000000 in
theorem sSatSame_any (pA : Option Addr) (npA cpA : Nat) (PA : Nat → Int) (qA : Option Addr) (nqA cqA : Nat) (QA : Nat → Int) (aA : Option Addr) (nA capA : Nat) (AA : Nat → Option Addr) (LA CA : Nat → Nat) (VA : Nat → Nat → Int) (codeA : Int) (pB : Option Addr) (npB cpB : Nat) (PB : Nat → Int) (qB : Option Addr) (nqB cqB : Nat) (QB : Nat → Int) (aB : Option Addr) (nB capB : Nat) (AB : Nat → Option Addr) (LB CB : Nat → Nat) (VB : Nat → Nat → Int) (codeB : Int) (w : World) (hdA : SatIn w pA npA PA qA nqA QA aA nA AA LA CA VA) (hfA : SFit npA PA nqA QA nA LA VA codeA) (hdB : SatIn w pB npB PB qB nqB QB aB nB AB LB CB VB) (hfB : SFit npB PB nqB QB nB LB VB codeB) :
    Calls Try.prog 6 #[.agg #[.slice pA npA cpA, .slice qA nqA cqA, .slice aA nA capA, .int .i64 codeA], .agg #[.slice pB npB cpB, .slice qB nqB cqB, .slice aB nB capB, .int .i64 codeB]] w fun e w' => e = .returned (.bool (ssameB codeA codeB npA npB PA PB nqA nqB QA QB nA nB LA LB VA VB)) ∧ Below w.heap.size w w' := by
  have HD := hide hdA
  have HE := hide hdB
  have HF := hide hfA
  have HG := hide hfB
  clear hdA hdB hfA hfB
  obtain ⟨w0, hw0⟩ : ∃ v, v = (((w.alloc (.cells #[.slice pA npA cpA, .slice qA nqA cqA, .slice aA nA capA, .int .i64 codeA] 28)).alloc (.cells #[.slice pB npB cpB, .slice qB nqB cqB, .slice aB nB capB, .int .i64 codeB] 28)).alloc (.cells #[.int .i64 0, .slice aA nA capA] 36)).alloc (.cells #[.int .i64 0, .slice aB nB capB] 36) := ⟨_, rfl⟩
  have BL : Below w.heap.size w w0 := by rw [hw0]; exact ((((Below.refl w.heap.size w).alloc (by simp <;> omega) _).alloc (by simp <;> omega) _).alloc (by simp <;> omega) _).alloc (by simp <;> omega) _
  have S : SBox w0 w.heap.size pA npA cpA qA nqA cqA aA nA capA codeA := by rw [hw0]; exact ⟨by simp [go_sem], by simp [go_sem], by simp [go_sem], by simp [go_sem]⟩
  have T : SBox w0 (w.heap.size + 1) pB npB cpB qB nqB cqB aB nB capB codeB := by rw [hw0]; exact ⟨by simp [go_sem], by simp [go_sem], by simp [go_sem], by simp [go_sem]⟩
  have X : Box w0 (w.heap.size + 2) 0 aA nA capA := by rw [hw0]; exact ⟨by simp [go_sem], by simp [go_sem]⟩
  have Y : Box w0 (w.heap.size + 3) 0 aB nB capB := by rw [hw0]; exact ⟨by simp [go_sem], by simp [go_sem]⟩
  by_cases hc : codeA = codeB
  · have kb : (codeA == codeB) = true := by simp [hc]
    replace hc := hide hc
    go_enter Try.func6, Try.ntmps6
    go_wp2_with fail
    (first | rw [← hw0] | (rw [hw0]; skip))
    clear hw0
    replace HD := hide ((unhide HD).later BL)
    replace HE := hide ((unhide HE).later BL)
    refine (l4Ints_any _ _ _ _ _ _ _ _ _ (unhide HD).1 (unhide HE).1 (unhide HF).1 (unhide HG).1).mono ?_
    rintro e w1 ⟨rfl, b1⟩
    replace HD := hide ((unhide HD).later b1)
    replace HE := hide ((unhide HE).later b1)
    replace S := S.later b1
    replace T := T.later b1
    replace X := X.later b1
    replace Y := Y.later b1
    replace BL := BL.trans (b1.mono BL.size)
    clear b1
    cases h1 : eqB npA npB PA PB
    · have HN := hide (ssameB_no (code := codeA) (code' := codeB) (np := npA) (np' := npB) (P := PA) (P' := PB) (nq := nqA) (nq' := nqB) (Q := QA) (Q' := QB) (n := nA) (n' := nB) (L := LA) (L' := LB) (V := VA) (V' := VB) (fun h => by have := eqB_yes h.2.1; rw [h1] at this; cases this))
      obtain ⟨s0, s1, s2, s3⟩ := id S
      obtain ⟨t0, t1, t2, t3⟩ := id T
      obtain ⟨x0, x1⟩ := id X
      obtain ⟨y0, y1⟩ := id Y
      go_wp2
      rw [unhide HN]
      go_ret
      exact ⟨rfl, BL⟩
    · have H1 := hide (eqB_iff.1 h1)
      obtain ⟨s0, s1, s2, s3⟩ := id S
      obtain ⟨t0, t1, t2, t3⟩ := id T
      obtain ⟨x0, x1⟩ := id X
      obtain ⟨y0, y1⟩ := id Y
      go_wp2_with fail
      clear s0 s1 s2 s3 t0 t1 t2 t3 x0 x1 y0 y1
      refine (l4Ints_any _ _ _ _ _ _ _ _ _ (unhide HD).2.1 (unhide HE).2.1 (unhide HF).2.1 (unhide HG).2.1).mono ?_
      rintro e w2 ⟨rfl, b1⟩
      replace HD := hide ((unhide HD).later b1)
      replace HE := hide ((unhide HE).later b1)
      replace S := S.later b1
      replace T := T.later b1
      replace X := X.later b1
      replace Y := Y.later b1
      replace BL := BL.trans (b1.mono BL.size)
      clear b1
      cases h2 : eqB nqA nqB QA QB
      · have HN := hide (ssameB_no (code := codeA) (code' := codeB) (np := npA) (np' := npB) (P := PA) (P' := PB) (nq := nqA) (nq' := nqB) (Q := QA) (Q' := QB) (n := nA) (n' := nB) (L := LA) (L' := LB) (V := VA) (V' := VB) (fun h => by have := eqB_yes h.2.2.1; rw [h2] at this; cases this))
        obtain ⟨s0, s1, s2, s3⟩ := id S
        obtain ⟨t0, t1, t2, t3⟩ := id T
        obtain ⟨x0, x1⟩ := id X
        obtain ⟨y0, y1⟩ := id Y
        go_wp2
        rw [unhide HN]
        go_ret
        exact ⟨rfl, BL⟩
      · have H2 := hide (eqB_iff.1 h2)
        obtain ⟨s0, s1, s2, s3⟩ := id S
        obtain ⟨t0, t1, t2, t3⟩ := id T
        obtain ⟨x0, x1⟩ := id X
        obtain ⟨y0, y1⟩ := id Y
        go_wp2_with fail
        clear s0 s1 s2 s3 t0 t1 t2 t3 x0 x1 y0 y1
        refine (sCnfSame_any 0 0 _ _ _ _ _ _ _ _ _ _ _ _ _ _ _ (unhide HD).2.2 (unhide HF).2.2.2.2.1 (unhide HE).2.2 (unhide HG).2.2.2.2.1).mono ?_
        rintro e w3 ⟨rfl, b1⟩
        replace HD := hide ((unhide HD).later b1)
        replace HE := hide ((unhide HE).later b1)
        replace S := S.later b1
        replace T := T.later b1
        replace X := X.later b1
        replace Y := Y.later b1
        replace BL := BL.trans (b1.mono BL.size)
        clear b1
        cases h3 : sameB 0 0 nA nB LA LB VA VB
        · have HN := hide (ssameB_no (code := codeA) (code' := codeB) (np := npA) (np' := npB) (P := PA) (P' := PB) (nq := nqA) (nq' := nqB) (Q := QA) (Q' := QB) (n := nA) (n' := nB) (L := LA) (L' := LB) (V := VA) (V' := VB) (fun h => by have := sameB_yes h.2.2.2; rw [h3] at this; cases this))
          go_wp2
          rw [unhide HN]
          go_ret
          exact ⟨rfl, BL⟩
        · have HY := hide (ssameB_yes (code := codeA) (code' := codeB) (np := npA) (np' := npB) (P := PA) (P' := PB) (nq := nqA) (nq' := nqB) (Q := QA) (Q' := QB) (n := nA) (n' := nB) (L := LA) (L' := LB) (V := VA) (V' := VB) ⟨unhide hc, unhide H1, unhide H2, sameB_iff.1 h3⟩)
          go_wp2
          rw [unhide HY]
          go_ret
          exact ⟨rfl, BL⟩
  · have kb : (codeA == codeB) = false := by simp [hc]
    have HN := hide (ssameB_no (code := codeA) (code' := codeB) (np := npA) (np' := npB) (P := PA) (P' := PB) (nq := nqA) (nq' := nqB) (Q := QA) (Q' := QB) (n := nA) (n' := nB) (L := LA) (L' := LB) (V := VA) (V' := VB) (fun h => hc h.1))
    go_enter Try.func6, Try.ntmps6
    go_wp2
    rw [unhide HN]
    go_ret
    exact ⟨rfl, (by repeat (first | exact Below.refl _ _ | assumption | refine below_drewN ?_ _ | refine Below.drew ?_ | refine Below.alloc ?_ (by first | exact Nat.le_refl _ | exact Below.size (by assumption) | (simp; done) | (simp; omega)) _ | refine Below.setCell ?_ (by first | exact Nat.le_refl _ | exact Below.size (by assumption) | (simp; done) | (simp; omega)) _ | refine Below.trans ?_ (by assumption)))⟩
set_option maxHeartbeats 2000000 in
theorem iSatSame_any (pA : Option Addr) (npA cpA : Nat) (PA : Nat → Int) (qA : Option Addr) (nqA cqA : Nat) (QA : Nat → Int) (aA : Option Addr) (nA capA : Nat) (AA : Nat → Option Addr) (LA CA : Nat → Nat) (VA : Nat → Nat → Int) (codeA : Int) (pB : Option Addr) (npB cpB : Nat) (PB : Nat → Int) (qB : Option Addr) (nqB cqB : Nat) (QB : Nat → Int) (aB : Option Addr) (nB capB : Nat) (AB : Nat → Option Addr) (LB CB : Nat → Nat) (VB : Nat → Nat → Int) (codeB : Int) (w : World) (hdA : SatIn w pA npA PA qA nqA QA aA nA AA LA CA VA) (hfA : SFit npA PA nqA QA nA LA VA codeA) (hdB : SatIn w pB npB PB qB nqB QB aB nB AB LB CB VB) (hfB : SFit npB PB nqB QB nB LB VB codeB) :
    Calls Try.prog 8 #[.agg #[.slice pA npA cpA, .slice qA nqA cqA, .slice aA nA capA, .int .i64 codeA], .agg #[.slice pB npB cpB, .slice qB nqB cqB, .slice aB nB capB, .int .i64 codeB]] w fun e w' => e = .returned (.bool (ssameB codeA codeB npA npB PA PB nqA nqB QA QB nA nB LA LB VA VB)) ∧ Below w.heap.size w w' := by
  have HD := hide hdA
  have HE := hide hdB
  have HF := hide hfA
  have HG := hide hfB
  clear hdA hdB hfA hfB
  obtain ⟨w0, hw0⟩ : ∃ v, v = (w.alloc (.cells #[.slice pA npA cpA, .slice qA nqA cqA, .slice aA nA capA, .int .i64 codeA] 28)).alloc (.cells #[.slice pB npB cpB, .slice qB nqB cqB, .slice aB nB capB, .int .i64 codeB] 28) := ⟨_, rfl⟩
  have BL : Below w.heap.size w w0 := by rw [hw0]; exact ((Below.refl w.heap.size w).alloc (by simp <;> omega) _).alloc (by simp <;> omega) _
  have S : SBox w0 w.heap.size pA npA cpA qA nqA cqA aA nA capA codeA := by rw [hw0]; exact ⟨by simp [go_sem], by simp [go_sem], by simp [go_sem], by simp [go_sem]⟩
  have T : SBox w0 (w.heap.size + 1) pB npB cpB qB nqB cqB aB nB capB codeB := by rw [hw0]; exact ⟨by simp [go_sem], by simp [go_sem], by simp [go_sem], by simp [go_sem]⟩
  by_cases hc : codeA = codeB
  · have kb : (codeA == codeB) = true := by simp [hc]
    replace hc := hide hc
    go_enter Try.func8, Try.ntmps8
    go_wp2_with fail
    (first | rw [← hw0] | (rw [hw0]; skip))
    clear hw0
    replace HD := hide ((unhide HD).later BL)
    replace HE := hide ((unhide HE).later BL)
    refine (equal_any _ _ _ _ _ _ _ _ _ (unhide HD).1 (unhide HE).1 (unhide HF).1 (unhide HG).1).mono ?_
    rintro e w1 ⟨rfl, b1⟩
    replace HD := hide ((unhide HD).later b1)
    replace HE := hide ((unhide HE).later b1)
    replace S := S.later b1
    replace T := T.later b1
    replace BL := BL.trans (b1.mono BL.size)
    clear b1
    cases h1 : eqB npA npB PA PB
    · have HN := hide (ssameB_no (code := codeA) (code' := codeB) (np := npA) (np' := npB) (P := PA) (P' := PB) (nq := nqA) (nq' := nqB) (Q := QA) (Q' := QB) (n := nA) (n' := nB) (L := LA) (L' := LB) (V := VA) (V' := VB) (fun h => by have := eqB_yes h.2.1; rw [h1] at this; cases this))
      obtain ⟨s0, s1, s2, s3⟩ := id S
      obtain ⟨t0, t1, t2, t3⟩ := id T
      go_wp2
      rw [unhide HN]
      go_ret
      exact ⟨rfl, BL⟩
    · have H1 := hide (eqB_iff.1 h1)
      obtain ⟨s0, s1, s2, s3⟩ := id S
      obtain ⟨t0, t1, t2, t3⟩ := id T
      go_wp2_with fail
      clear s0 s1 s2 s3 t0 t1 t2 t3
      refine (equal_any _ _ _ _ _ _ _ _ _ (unhide HD).2.1 (unhide HE).2.1 (unhide HF).2.1 (unhide HG).2.1).mono ?_
      rintro e w2 ⟨rfl, b1⟩
      replace HD := hide ((unhide HD).later b1)
      replace HE := hide ((unhide HE).later b1)
      replace S := S.later b1
      replace T := T.later b1
      replace BL := BL.trans (b1.mono BL.size)
      clear b1
      cases h2 : eqB nqA nqB QA QB
      · have HN := hide (ssameB_no (code := codeA) (code' := codeB) (np := npA) (np' := npB) (P := PA) (P' := PB) (nq := nqA) (nq' := nqB) (Q := QA) (Q' := QB) (n := nA) (n' := nB) (L := LA) (L' := LB) (V := VA) (V' := VB) (fun h => by have := eqB_yes h.2.2.1; rw [h2] at this; cases this))
        obtain ⟨s0, s1, s2, s3⟩ := id S
        obtain ⟨t0, t1, t2, t3⟩ := id T
        go_wp2
        rw [unhide HN]
        go_ret
        exact ⟨rfl, BL⟩
      · have H2 := hide (eqB_iff.1 h2)
        obtain ⟨s0, s1, s2, s3⟩ := id S
        obtain ⟨t0, t1, t2, t3⟩ := id T
        go_wp2_with fail
        clear s0 s1 s2 s3 t0 t1 t2 t3
        refine (equalFunc_any _ _ _ _ _ _ _ _ _ _ _ _ _ _ _ (unhide HD).2.2 (unhide HF).2.2.2.2.1 (unhide HE).2.2 (unhide HG).2.2.2.2.1).mono ?_
        rintro e w3 ⟨rfl, b1⟩
        replace HD := hide ((unhide HD).later b1)
        replace HE := hide ((unhide HE).later b1)
        replace S := S.later b1
        replace T := T.later b1
        replace BL := BL.trans (b1.mono BL.size)
        clear b1
        cases h3 : sameB 0 0 nA nB LA LB VA VB
        · have HN := hide (ssameB_no (code := codeA) (code' := codeB) (np := npA) (np' := npB) (P := PA) (P' := PB) (nq := nqA) (nq' := nqB) (Q := QA) (Q' := QB) (n := nA) (n' := nB) (L := LA) (L' := LB) (V := VA) (V' := VB) (fun h => by have := sameB_yes h.2.2.2; rw [h3] at this; cases this))
          go_wp2
          rw [unhide HN]
          go_ret
          exact ⟨rfl, BL⟩
        · have HY := hide (ssameB_yes (code := codeA) (code' := codeB) (np := npA) (np' := npB) (P := PA) (P' := PB) (nq := nqA) (nq' := nqB) (Q := QA) (Q' := QB) (n := nA) (n' := nB) (L := LA) (L' := LB) (V := VA) (V' := VB) ⟨unhide hc, unhide H1, unhide H2, sameB_iff.1 h3⟩)
          go_wp2
          rw [unhide HY]
          go_ret
          exact ⟨rfl, BL⟩
  · have kb : (codeA == codeB) = false := by simp [hc]
    have HN := hide (ssameB_no (code := codeA) (code' := codeB) (np := npA) (np' := npB) (P := PA) (P' := PB) (nq := nqA) (nq' := nqB) (Q := QA) (Q' := QB) (n := nA) (n' := nB) (L := LA) (L' := LB) (V := VA) (V' := VB) (fun h => hc h.1))
    go_enter Try.func8, Try.ntmps8
    go_wp2
    rw [unhide HN]
    go_ret
    exact ⟨rfl, (by repeat (first | exact Below.refl _ _ | assumption | refine below_drewN ?_ _ | refine Below.drew ?_ | refine Below.alloc ?_ (by first | exact Nat.le_refl _ | exact Below.size (by assumption) | (simp; done) | (simp; omega)) _ | refine Below.setCell ?_ (by first | exact Nat.le_refl _ | exact Below.size (by assumption) | (simp; done) | (simp; omega)) _ | refine Below.trans ?_ (by assumption)))⟩
end Go.Proofs.Ytndebifmimbeaab
