/- Whether a search can be there (SatOk), of the model and of the program. -/
import Derived.Test.YtndebifmimbeaabWhyD
namespace Go.Proofs.Ytndebifmimbeaab
open Go.ChangeShapes Go.WideShapes Go.ChangeAt Go.RowKit Go.Joins
set_option linter.unusedVariables false

/-- A search can be there. -/
def SokP (m : Int) (n : Nat) (L : Nat → Nat) (V : Nat → Nat → Int) (np : Nat) (P : Nat → Int) (nq : Nat) (Q : Nat → Int) (n' : Nat) (L' : Nat → Nat) (V' : Nat → Nat → Int) (code : Int) : Prop :=
  CnfP m n L V ∧ n' ≤ 300 ∧ LstP n' L' V' m.toNat ∧ (0 ≤ code ∧ code ≤ 3) ∧ np = nq ∧ MarkP np P m.toNat ∧ WhysP np n n' L L' V V' P Q
noncomputable def sokB (m : Int) (n : Nat) (L : Nat → Nat) (V : Nat → Nat → Int) (np : Nat) (P : Nat → Int) (nq : Nat) (Q : Nat → Int) (n' : Nat) (L' : Nat → Nat) (V' : Nat → Nat → Int) (code : Int) : Bool := @decide (SokP m n L V np P nq Q n' L' V' code) (Classical.propDecidable _)
theorem sokB_iff {m : Int} {n : Nat} {L : Nat → Nat} {V : Nat → Nat → Int} {np : Nat} {P : Nat → Int} {nq : Nat} {Q : Nat → Int} {n' : Nat} {L' : Nat → Nat} {V' : Nat → Nat → Int} {code : Int} : sokB m n L V np P nq Q n' L' V' code = true ↔ SokP m n L V np P nq Q n' L' V' code := by simp [sokB]
theorem sokB_yes {m : Int} {n : Nat} {L : Nat → Nat} {V : Nat → Nat → Int} {np : Nat} {P : Nat → Int} {nq : Nat} {Q : Nat → Int} {n' : Nat} {L' : Nat → Nat} {V' : Nat → Nat → Int} {code : Int} (h : SokP m n L V np P nq Q n' L' V' code) : sokB m n L V np P nq Q n' L' V' code = true := sokB_iff.2 h
theorem sokB_no {m : Int} {n : Nat} {L : Nat → Nat} {V : Nat → Nat → Int} {np : Nat} {P : Nat → Int} {nq : Nat} {Q : Nat → Int} {n' : Nat} {L' : Nat → Nat} {V' : Nat → Nat → Int} {code : Int} (h : ¬ SokP m n L V np P nq Q n' L' V' code) : sokB m n L V np P nq Q n' L' V' code = false := by simpa [sokB] using h
set_option maxHeartbeats 4000000 in
theorem sSatOk_any (m : Int) (a : Option Addr) (n cap : Nat) (A : Nat → Option Addr) (L C : Nat → Nat) (V : Nat → Nat → Int) (p : Option Addr) (np cp : Nat) (P : Nat → Int) (q : Option Addr) (nq cq : Nat) (Q : Nat → Int) (a' : Option Addr) (n' cap' : Nat) (A' : Nat → Option Addr) (L' C' : Nat → Nat) (V' : Nat → Nat → Int) (code : Int) (w : World) (hd : RwsAt w a n A L C V) (hf : Fits n L V) (hd' : SatIn w p np P q nq Q a' n' A' L' C' V') (hf' : SFit np P nq Q n' L' V' code) :
    Calls Try.prog 30 #[.agg #[.int .i64 m, .slice a n cap], .agg #[.slice p np cp, .slice q nq cq, .slice a' n' cap', .int .i64 code]] w fun e w' => e = .returned (.bool (sokB m n L V np P nq Q n' L' V' code)) ∧ Below w.heap.size w w' := by
  have HD := hide hd
  have HE := hide hd'
  have HF := hide hf
  have HG := hide hf'
  have hn' := hf'.2.2.2.2.1.1
  have hnp := hf'.1
  have hnq := hf'.2.1
  clear hd hd' hf hf'
  obtain ⟨w0, hw0⟩ : ∃ v, v = (w.alloc (.cells #[.int .i64 m, .slice a n cap] 36)).alloc (.cells #[.slice p np cp, .slice q nq cq, .slice a' n' cap', .int .i64 code] 28) := ⟨_, rfl⟩
  have X : Box w0 w.heap.size m a n cap := by rw [hw0]; exact ⟨by simp [go_sem], by simp [go_sem]⟩
  have Y : SBox w0 (w.heap.size + 1) p np cp q nq cq a' n' cap' code := by rw [hw0]; exact ⟨by simp [go_sem], by simp [go_sem], by simp [go_sem], by simp [go_sem]⟩
  have BL : Below w.heap.size w w0 := by rw [hw0]; exact ((Below.refl w.heap.size w).alloc (by simp <;> omega) _).alloc (by simp <;> omega) _
  go_enter Try.func30, Try.ntmps30
  go_wp2_with fail
  rw [← hw0]
  clear hw0
  refine (sCnfOk_any _ _ _ _ _ _ _ _ _ ((unhide HD).later BL) (unhide HF)).mono ?_
  rintro e w1 ⟨rfl, b1⟩
  replace X := X.later b1
  replace Y := Y.later b1
  replace BL := BL.trans (b1.mono BL.size)
  clear b1
  cases h1 : cnfB m n L V
  · have HN := hide (sokB_no (m := m) (n := n) (L := L) (V := V) (np := np) (P := P) (nq := nq) (Q := Q) (n' := n') (L' := L') (V' := V') (code := code) (fun h => by have := cnfB_yes h.1; rw [h1] at this; cases this))
    obtain ⟨x0, x1⟩ := id X
    obtain ⟨y0, y1, y2, y3⟩ := id Y
    go_wp2
    rw [unhide HN]
    go_ret
    exact ⟨rfl, BL⟩
  · have H1 := hide (cnfB_iff.1 h1)
    obtain ⟨m0, m7, n2, _⟩ := unhide H1
    obtain ⟨N, rfl⟩ := Int.eq_ofNat_of_zero_le m0
    by_cases h2 : n' ≤ 300
    · by_cases h3 : 0 ≤ code
      · by_cases h4 : code ≤ 3
        · by_cases h5 : np = nq
          · subst h5
            have kb : ((np : Int) != (np : Int)) = false := by simp
            obtain ⟨x0, x1⟩ := id X
            obtain ⟨y0, y1, y2, y3⟩ := id Y
            go_wp2_with fail
            clear x0 x1 y0 y1 y2 y3
            refine (l5Marks_any _ _ _ _ _ _ _ N _ ((unhide HE).later BL).1 hnp (unhide HG).2.2.1 (by omega)).mono ?_
            rintro e w2 ⟨rfl, b1⟩
            replace X := X.later b1
            replace Y := Y.later b1
            replace BL := BL.trans (b1.mono BL.size)
            clear b1
            cases h6 : markB np P N
            · have HN := hide (sokB_no (m := N) (n := n) (L := L) (V := V) (np := np) (P := P) (nq := np) (Q := Q) (n' := n') (L' := L') (V' := V') (code := code) (fun h => by have := markB_yes h.2.2.2.2.2.1; rw [Int.toNat_natCast, h6] at this; cases this))
              obtain ⟨x0, x1⟩ := id X
              obtain ⟨y0, y1, y2, y3⟩ := id Y
              go_wp2
              rw [unhide HN]
              go_ret
              exact ⟨rfl, BL⟩
            · have H6 := hide (markB_iff.1 h6)
              obtain ⟨x0, x1⟩ := id X
              obtain ⟨y0, y1, y2, y3⟩ := id Y
              go_wp2
              clear x0 x1 y0 y1 y2 y3
              go_loopw [5] (fun i wr => ∃ k : Nat, k ≤ n' ∧ i = .int .i64 k ∧ (∀ j, j < k → ClP (L' j) (V' j) N) ∧ Box wr w.heap.size N a n cap ∧ SBox wr (w.heap.size + 1) p np cp q np cq a' n' cap' code ∧ Below w.heap.size w wr) (fun i _ => n' - (intOf i).toNat)
              case atStart => exact ⟨0, by omega, rfl, fun j hj => by omega, X, Y, BL⟩
              case round =>
                clear X Y BL
                obtain ⟨k, hk, rfl, hok, X, Y, BL⟩ := hrel
                have HK := hide hok
                clear hok
                obtain ⟨x0, x1⟩ := id X
                obtain ⟨y0, y1, y2, y3⟩ := id Y
                by_cases hlt : k < n'
                · obtain ⟨b, off, rfl, hb, hd⟩ := (unhide HE).2.2.ok hlt
                  have d0 := (BL.cell (p := ⟨b, off + k, none⟩) hb).trans (hd k hlt).1
                  have I1 := hide ((hd k hlt).2.later BL)
                  clear hd
                  obtain ⟨fl, fw⟩ := (unhide HG).2.2.2.2.1.2 k hlt
                  have FW := hide fw
                  clear fw
                  cases hv : clB (L' k) (V' k) N
                  · have HN := hide (sokB_no (m := N) (n := n) (L := L) (V := V) (np := np) (P := P) (nq := np) (Q := Q) (n' := n') (L' := L') (V' := V') (code := code) (fun h => by have := clB_yes (h.2.2.1 k hlt); rw [Int.toNat_natCast, hv] at this; cases this))
                    go_wp2
                    go_quiet ((go_at_call 38; exact Calls.quiet_of_same (l4Clause_any _ _ _ _ _ _ (by exact unhide I1) fl (unhide FW) (by omega))))
                    rw [hv]
                    go_wp2
                    rw [unhide HN]
                    go_ret
                    exact ⟨rfl, below_drewN BL _⟩
                  · have HK1 : Hid (∀ j, j < k + 1 → ClP (L' j) (V' j) N) := fun j hj => by
                      by_cases e : j = k
                      · subst e; exact clB_iff.1 hv
                      · exact unhide HK j (by omega)
                    go_wp2
                    go_quiet ((go_at_call 38; exact Calls.quiet_of_same (l4Clause_any _ _ _ _ _ _ (by exact unhide I1) fl (unhide FW) (by omega))))
                    rw [hv]
                    go_wp2
                    go_roundw
                    case rel => exact ⟨k + 1, by omega, by go_num, unhide HK1, X, Y, below_drewN BL _⟩
                    case measure => simp [intOf]; omega
                · have e : k = n' := by omega
                  have HL : Hid (LstP n' L' V' N) := by subst e; exact unhide HK
                  have HLL : Hid (LstP n L V N) := by have := (unhide H1).2.2.2; rw [Int.toNat_natCast] at this; exact this
                  subst e
                  go_wp2_with fail
                  clear x0 x1 y0 y1 y2 y3
                  refine (l5Whys_any N _ _ _ A L C V _ _ _ P _ _ Q _ _ _ A' L' C' V' _ _ ((unhide HD).later BL) (unhide HF) ((unhide HE).later BL) (unhide HG) (unhide HLL) (unhide HL) (unhide H6) (by omega)).mono ?_
                  rintro e w3 ⟨rfl, b1⟩
                  have HB : Hid (sokB N n L V np P np Q k L' V' code = whysB np n k L L' V V' P Q) := by
                    show _ = _
                    rw [Bool.eq_iff_iff, sokB_iff, whysB_iff]
                    exact ⟨fun h => h.2.2.2.2.2.2, fun h => ⟨unhide H1, h2, by rw [Int.toNat_natCast]; exact unhide HL, ⟨h3, h4⟩, rfl, by rw [Int.toNat_natCast]; exact unhide H6, h⟩⟩
                  replace X := X.later b1
                  replace Y := Y.later b1
                  replace BL := BL.trans (b1.mono BL.size)
                  clear b1
                  go_wp2
                  rw [unhide HB]
                  go_ret
                  exact ⟨rfl, BL⟩
          · have kb : ((np : Int) != (nq : Int)) = true := by simp; omega
            have HN := hide (sokB_no (m := N) (n := n) (L := L) (V := V) (np := np) (P := P) (nq := nq) (Q := Q) (n' := n') (L' := L') (V' := V') (code := code) (fun h => h5 h.2.2.2.2.1))
            obtain ⟨x0, x1⟩ := id X
            obtain ⟨y0, y1, y2, y3⟩ := id Y
            go_wp2
            rw [unhide HN]
            go_ret
            exact ⟨rfl, BL⟩
        · have HN := hide (sokB_no (m := N) (n := n) (L := L) (V := V) (np := np) (P := P) (nq := nq) (Q := Q) (n' := n') (L' := L') (V' := V') (code := code) (fun h => h4 h.2.2.2.1.2))
          obtain ⟨x0, x1⟩ := id X
          obtain ⟨y0, y1, y2, y3⟩ := id Y
          go_wp2
          rw [unhide HN]
          go_ret
          exact ⟨rfl, BL⟩
      · have HN := hide (sokB_no (m := N) (n := n) (L := L) (V := V) (np := np) (P := P) (nq := nq) (Q := Q) (n' := n') (L' := L') (V' := V') (code := code) (fun h => h3 h.2.2.2.1.1))
        obtain ⟨x0, x1⟩ := id X
        obtain ⟨y0, y1, y2, y3⟩ := id Y
        go_wp2
        rw [unhide HN]
        go_ret
        exact ⟨rfl, BL⟩
    · have HN := hide (sokB_no (m := N) (n := n) (L := L) (V := V) (np := np) (P := P) (nq := nq) (Q := Q) (n' := n') (L' := L') (V' := V') (code := code) (fun h => h2 h.2.1))
      obtain ⟨x0, x1⟩ := id X
      obtain ⟨y0, y1, y2, y3⟩ := id Y
      go_wp2
      rw [unhide HN]
      go_ret
      exact ⟨rfl, BL⟩
set_option maxRecDepth 20000 in
set_option maxHeartbeats 4000000 in
theorem iSatOk_any (m : Int) (a : Option Addr) (n cap : Nat) (A : Nat → Option Addr) (L C : Nat → Nat) (V : Nat → Nat → Int) (p : Option Addr) (np cp : Nat) (P : Nat → Int) (q : Option Addr) (nq cq : Nat) (Q : Nat → Int) (a' : Option Addr) (n' cap' : Nat) (A' : Nat → Option Addr) (L' C' : Nat → Nat) (V' : Nat → Nat → Int) (code : Int) (w : World) (hd : RwsAt w a n A L C V) (hf : Fits n L V) (hd' : SatIn w p np P q nq Q a' n' A' L' C' V') (hf' : SFit np P nq Q n' L' V' code) :
    Calls Try.prog 32 #[.agg #[.int .i64 m, .slice a n cap], .agg #[.slice p np cp, .slice q nq cq, .slice a' n' cap', .int .i64 code]] w fun e w' => e = .returned (.bool (sokB m n L V np P nq Q n' L' V' code)) ∧ Below w.heap.size w w' := by
  have HD := hide hd
  have HE := hide hd'
  have HF := hide hf
  have HG := hide hf'
  have hn' := hf'.2.2.2.2.1.1
  have hnp := hf'.1
  have hnq := hf'.2.1
  clear hd hd' hf hf'
  obtain ⟨w0, hw0⟩ : ∃ v, v = (w.alloc (.cells #[.int .i64 m, .slice a n cap] 36)).alloc (.cells #[.slice p np cp, .slice q nq cq, .slice a' n' cap', .int .i64 code] 28) := ⟨_, rfl⟩
  have X : Box w0 w.heap.size m a n cap := by rw [hw0]; exact ⟨by simp [go_sem], by simp [go_sem]⟩
  have Y : SBox w0 (w.heap.size + 1) p np cp q nq cq a' n' cap' code := by rw [hw0]; exact ⟨by simp [go_sem], by simp [go_sem], by simp [go_sem], by simp [go_sem]⟩
  have BL : Below w.heap.size w w0 := by rw [hw0]; exact ((Below.refl w.heap.size w).alloc (by simp <;> omega) _).alloc (by simp <;> omega) _
  go_enter Try.func32, Try.ntmps32
  go_wp2_with fail
  rw [← hw0]
  clear hw0
  refine (iCnfOk_any _ _ _ _ _ _ _ _ _ ((unhide HD).later BL) (unhide HF)).mono ?_
  rintro e w1 ⟨rfl, b1⟩
  replace X := X.later b1
  replace Y := Y.later b1
  replace BL := BL.trans (b1.mono BL.size)
  clear b1
  cases h1 : cnfB m n L V
  · have HN := hide (sokB_no (m := m) (n := n) (L := L) (V := V) (np := np) (P := P) (nq := nq) (Q := Q) (n' := n') (L' := L') (V' := V') (code := code) (fun h => by have := cnfB_yes h.1; rw [h1] at this; cases this))
    obtain ⟨x0, x1⟩ := id X
    obtain ⟨y0, y1, y2, y3⟩ := id Y
    go_wp2
    rw [unhide HN]
    go_ret
    exact ⟨rfl, BL⟩
  · have H1 := hide (cnfB_iff.1 h1)
    obtain ⟨m0, m7, n2, _⟩ := unhide H1
    obtain ⟨N, rfl⟩ := Int.eq_ofNat_of_zero_le m0
    have HLL : Hid (LstP n L V N) := by have := (unhide H1).2.2.2; rw [Int.toNat_natCast] at this; exact this
    by_cases h2 : n' ≤ 300
    · obtain ⟨x0, x1⟩ := id X
      obtain ⟨y0, y1, y2, y3⟩ := id Y
      go_wp2_with fail
      clear x0 x1 y0 y1 y2 y3
      refine (listRight_any _ _ _ _ _ _ _ _ _ ((unhide HE).later BL).2.2 (unhide HG).2.2.2.2.1 (by omega)).mono ?_
      rintro e w1 ⟨rfl, rfl⟩
      cases hl : lstB n' L' V' N
      · have HN := hide (sokB_no (m := N) (n := n) (L := L) (V := V) (np := np) (P := P) (nq := nq) (Q := Q) (n' := n') (L' := L') (V' := V') (code := code) (fun h => by have := lstB_yes h.2.2.1; rw [Int.toNat_natCast, hl] at this; cases this))
        obtain ⟨x0, x1⟩ := id X
        obtain ⟨y0, y1, y2, y3⟩ := id Y
        go_wp2
        rw [unhide HN]
        go_ret
        exact ⟨rfl, BL⟩
      · have HL := hide (lstB_iff.1 hl)
        by_cases h3 : 0 ≤ code
        · by_cases h4 : code ≤ 3
          · by_cases h5 : np = nq
            · subst h5
              have kb : ((np : Int) == (np : Int)) = true := by simp
              obtain ⟨x0, x1⟩ := id X
              obtain ⟨y0, y1, y2, y3⟩ := id Y
              go_wp2_with fail
              clear x0 x1 y0 y1 y2 y3
              refine (putRight_any _ _ _ _ N _ ((unhide HE).later BL).1 hnp (unhide HG).2.2.1 (by omega)).mono ?_
              rintro e w2 ⟨rfl, b1⟩
              replace X := X.later b1
              replace Y := Y.later b1
              replace BL := BL.trans (b1.mono BL.size)
              clear b1
              cases h6 : markB np P N
              · have HN := hide (sokB_no (m := N) (n := n) (L := L) (V := V) (np := np) (P := P) (nq := np) (Q := Q) (n' := n') (L' := L') (V' := V') (code := code) (fun h => by have := markB_yes h.2.2.2.2.2.1; rw [Int.toNat_natCast, h6] at this; cases this))
                obtain ⟨x0, x1⟩ := id X
                obtain ⟨y0, y1, y2, y3⟩ := id Y
                go_wp2
                rw [unhide HN]
                go_ret
                exact ⟨rfl, BL⟩
              · have H6 := hide (markB_iff.1 h6)
                obtain ⟨x0, x1⟩ := id X
                obtain ⟨y0, y1, y2, y3⟩ := id Y
                go_wp2_with fail
                clear x0 x1 y0 y1 y2 y3
                refine (whyRight_any N _ _ _ A L C V _ _ _ P _ _ Q _ _ _ A' L' C' V' _ _ ((unhide HD).later BL) (unhide HF) ((unhide HE).later BL) (unhide HG) (unhide HLL) (unhide HL) (unhide H6) (by omega) n2 h2).mono ?_
                rintro e w3 ⟨rfl, b1⟩
                have HB : Hid (sokB N n L V np P np Q n' L' V' code = whysB np n n' L L' V V' P Q) := by
                  show _ = _
                  rw [Bool.eq_iff_iff, sokB_iff, whysB_iff]
                  exact ⟨fun h => h.2.2.2.2.2.2, fun h => ⟨unhide H1, h2, by rw [Int.toNat_natCast]; exact unhide HL, ⟨h3, h4⟩, rfl, by rw [Int.toNat_natCast]; exact unhide H6, h⟩⟩
                replace X := X.later b1
                replace Y := Y.later b1
                replace BL := BL.trans (b1.mono BL.size)
                clear b1
                go_wp2
                rw [unhide HB]
                go_ret
                exact ⟨rfl, BL⟩
            · have kb : ((nq : Int) == (np : Int)) = false := by simp; omega
              have HN := hide (sokB_no (m := N) (n := n) (L := L) (V := V) (np := np) (P := P) (nq := nq) (Q := Q) (n' := n') (L' := L') (V' := V') (code := code) (fun h => h5 h.2.2.2.2.1))
              obtain ⟨x0, x1⟩ := id X
              obtain ⟨y0, y1, y2, y3⟩ := id Y
              go_wp2
              rw [unhide HN]
              go_ret
              exact ⟨rfl, BL⟩
          · have HN := hide (sokB_no (m := N) (n := n) (L := L) (V := V) (np := np) (P := P) (nq := nq) (Q := Q) (n' := n') (L' := L') (V' := V') (code := code) (fun h => h4 h.2.2.2.1.2))
            obtain ⟨x0, x1⟩ := id X
            obtain ⟨y0, y1, y2, y3⟩ := id Y
            go_wp2
            rw [unhide HN]
            go_ret
            exact ⟨rfl, BL⟩
        · have HN := hide (sokB_no (m := N) (n := n) (L := L) (V := V) (np := np) (P := P) (nq := nq) (Q := Q) (n' := n') (L' := L') (V' := V') (code := code) (fun h => h3 h.2.2.2.1.1))
          obtain ⟨x0, x1⟩ := id X
          obtain ⟨y0, y1, y2, y3⟩ := id Y
          go_wp2
          rw [unhide HN]
          go_ret
          exact ⟨rfl, BL⟩
    · have HN := hide (sokB_no (m := N) (n := n) (L := L) (V := V) (np := np) (P := P) (nq := nq) (Q := Q) (n' := n') (L' := L') (V' := V') (code := code) (fun h => h2 h.2.1))
      obtain ⟨x0, x1⟩ := id X
      obtain ⟨y0, y1, y2, y3⟩ := id Y
      go_wp2
      rw [unhide HN]
      go_ret
      exact ⟨rfl, BL⟩
end Go.Proofs.Ytndebifmimbeaab
