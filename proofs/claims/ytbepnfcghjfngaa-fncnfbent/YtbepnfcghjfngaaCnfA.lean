/- Which clauses are right, of the model and of the program. -/
import Derived.Test.YtbepnfcghjfngaaLstA
import Derived.Test.YtbepnfcghjfngaaAbsA
namespace Go.Proofs.Ytbepnfcghjfngaa
open Go.ChangeShapes Go.WideShapes Go.ChangeAt Go.RowKit Go.Joins
set_option linter.unusedVariables false

/-- The number ahead of a place, without its sign. -/
def lastI (V : Nat → Int) : Nat → Int
  | 0 => 0
  | k + 1 => absI (V k)
def OneP (V : Nat → Int) (N : Nat) (k : Nat) : Prop := -(N : Int) ≤ V k ∧ V k ≤ N ∧ lastI V k < absI (V k)
/-- A clause is right among N marks. -/
def ClP (l : Nat) (V : Nat → Int) (N : Nat) : Prop := ∀ k, k < l → OneP V N k
noncomputable def clB (l : Nat) (V : Nat → Int) (N : Nat) : Bool := @decide (ClP l V N) (Classical.propDecidable _)
theorem clB_iff {l : Nat} {V : Nat → Int} {N : Nat} : clB l V N = true ↔ ClP l V N := by simp [clB]
theorem clB_yes {l : Nat} {V : Nat → Int} {N : Nat} (h : ClP l V N) : clB l V N = true := clB_iff.2 h
theorem clB_no {l : Nat} {V : Nat → Int} {N : Nat} (h : ¬ ClP l V N) : clB l V N = false := by simpa [clB] using h
theorem lastI_bd {V : Nat → Int} {N k : Nat} (h : ∀ j, j < k → OneP V N j) : 0 ≤ lastI V k ∧ lastI V k ≤ N := by
  cases k with
  | zero => simp [lastI]
  | succ k => exact absI_bd _ _ (h k (by omega)).1 (h k (by omega)).2.1
theorem lastI_nn (V : Nat → Int) (k : Nat) : 0 ≤ lastI V k := by
  cases k with
  | zero => simp [lastI]
  | succ k => simp only [lastI, absI]; split <;> omega
set_option maxHeartbeats 1000000 in
theorem l4Clause_any (a : Option Addr) (l cap : Nat) (V : Nat → Int) (N : Nat) (w : World) (hd : IntsAt w a l V) (hl : l ≤ 1048576) (hW : ∀ i, i < l → W64 (V i)) (hN : N ≤ 700) :
    Calls Try.prog 15 #[.slice a l cap, .int .i64 N] w fun e w' => e = .returned (.bool (clB l V N)) ∧ w' = w := by
  have HD := hide hd
  have HW := hide hW
  clear hd hW
  go_enter Try.func15, Try.ntmps15
  go_wp2
  go_loopw [6, 5] (fun i s wr => ∃ k : Nat, k ≤ l ∧ i = .int .i64 k ∧ s = .int .i64 (lastI V k) ∧ (∀ j, j < k → OneP V N j) ∧ wr = w) (fun i _ _ => l - (intOf i).toNat)
  case atStart => exact ⟨0, by omega, rfl, rfl, fun j hj => by omega, rfl⟩
  case round =>
    obtain ⟨k, hk, rfl, rfl, hno, rfl⟩ := hrel
    have HN := hide hno
    obtain ⟨la, lb⟩ := lastI_bd hno
    clear hno
    by_cases hlt : k < l
    · obtain ⟨b, off, rfl, hb, hd⟩ := (unhide HD).ok hlt
      have d0 := hd k hlt
      have hw := unhide HW k hlt
      unfold W64 at hw
      clear hd
      have HL : Hid (lastI V (k + 1) = absI (V k)) := rfl
      by_cases h1 : -(N : Int) ≤ V k
      · by_cases h2 : V k ≤ N
        · by_cases h3 : lastI V k < absI (V k)
          · have HN1 : Hid (∀ j, j < k + 1 → OneP V N j) := fun j hj => by
              by_cases e : j = k
              · subst e; exact ⟨h1, h2, h3⟩
              · exact unhide HN j (by omega)
            go_wp2_with fail
            refine (l4Abs_any _ _ (by omega) (by omega)).mono ?_
            rintro e w1 ⟨rfl, rfl⟩
            go_wp2_with fail
            refine (l4Abs_any _ _ (by omega) (by omega)).mono ?_
            rintro e w1 ⟨rfl, rfl⟩
            go_wp2
            go_roundw
            case rel => exact ⟨k + 1, by omega, by go_num, by rw [unhide HL], unhide HN1, trivial⟩
            case measure => simp [intOf]; omega
          · have HY := hide (clB_no (l := l) (V := V) (N := N) (fun h => h3 (h k hlt).2.2))
            go_wp2_with fail
            refine (l4Abs_any _ _ (by omega) (by omega)).mono ?_
            rintro e w1 ⟨rfl, rfl⟩
            go_wp2
            rw [unhide HY]
            go_ret
            exact ⟨rfl, rfl⟩
        · have HY := hide (clB_no (l := l) (V := V) (N := N) (fun h => h2 (h k hlt).2.1))
          go_wp2
          rw [unhide HY]
          go_ret
          exact ⟨rfl, rfl⟩
      · have HY := hide (clB_no (l := l) (V := V) (N := N) (fun h => h1 (h k hlt).1))
        go_wp2
        rw [unhide HY]
        go_ret
        exact ⟨rfl, rfl⟩
    · have e : k = l := by omega
      subst e
      have HY := hide (clB_yes (unhide HN))
      go_wp2
      rw [unhide HY]
      go_ret
      exact ⟨rfl, rfl⟩
set_option maxHeartbeats 1000000 in
theorem clauseRight_any (a : Option Addr) (l cap : Nat) (V : Nat → Int) (N : Nat) (w : World) (hd : IntsAt w a l V) (hl : l ≤ 1048576) (hW : ∀ i, i < l → W64 (V i)) (hN : N ≤ 700) :
    Calls Try.prog 19 #[.slice a l cap, .int .i64 N] w fun e w' => e = .returned (.bool (clB l V N)) ∧ w' = w := by
  have HD := hide hd
  have HW := hide hW
  clear hd hW
  go_enter Try.func19, Try.ntmps19
  go_wp2
  go_loopw [11, 5] (fun i s wr => ∃ k : Nat, k ≤ l ∧ i = .int .i64 k ∧ s = .int .i64 (lastI V k) ∧ (∀ j, j < k → OneP V N j) ∧ wr = w) (fun i _ _ => l - (intOf i).toNat)
  case atStart => exact ⟨0, by omega, rfl, rfl, fun j hj => by omega, rfl⟩
  case round =>
    obtain ⟨k, hk, rfl, rfl, hno, rfl⟩ := hrel
    have HN := hide hno
    obtain ⟨la, lb⟩ := lastI_bd hno
    clear hno
    by_cases hlt : k < l
    · obtain ⟨b, off, rfl, hb, hd⟩ := (unhide HD).ok hlt
      have d0 := hd k hlt
      have hw := unhide HW k hlt
      clear hd
      have HL : Hid (lastI V (k + 1) = absI (V k)) := rfl
      cases hA : amongB (V k) N
      · have HY := hide (clB_no (l := l) (V := V) (N := N) (fun h => by
          obtain ⟨h1, h2, h3⟩ := h k hlt
          have hz := (among_iff hw (by omega)).2 ⟨h1, h2, fun e => by rw [e, absI_pos (by omega)] at h3; omega⟩
          rw [hA] at hz; cases hz))
        go_wp2_with fail
        refine (among_any _ _ _ hw).mono ?_
        rintro e w1 ⟨rfl, rfl⟩
        rw [hA]
        go_wp2
        rw [unhide HY]
        go_ret
        exact ⟨rfl, rfl⟩
      · obtain ⟨h1, h2, h0⟩ := (among_iff hw (by omega)).1 hA
        have hba := bare_abs h1 h2 (by omega)
        obtain ⟨a1, a2⟩ := absI_bd _ _ h1 h2
        by_cases h3 : lastI V k < absI (V k)
        · have HN1 : Hid (∀ j, j < k + 1 → OneP V N j) := fun j hj => by
            by_cases e : j = k
            · subst e; exact ⟨h1, h2, h3⟩
            · exact unhide HN j (by omega)
          go_wp2_with fail
          refine (among_any _ _ _ hw).mono ?_
          rintro e w1 ⟨rfl, rfl⟩
          rw [hA]
          go_wp2_with fail
          refine (bare_any _ _ hw).mono ?_
          rintro e w1 ⟨rfl, rfl⟩
          rw [hba]
          go_wp2_with fail
          refine (bare_any _ _ hw).mono ?_
          rintro e w1 ⟨rfl, rfl⟩
          rw [hba]
          go_wp2
          go_roundw
          case rel => exact ⟨k + 1, by omega, by go_num, by rw [unhide HL], unhide HN1, trivial⟩
          case measure => simp [intOf]; omega
        · have HY := hide (clB_no (l := l) (V := V) (N := N) (fun h => h3 (h k hlt).2.2))
          go_wp2_with fail
          refine (among_any _ _ _ hw).mono ?_
          rintro e w1 ⟨rfl, rfl⟩
          rw [hA]
          go_wp2_with fail
          refine (bare_any _ _ hw).mono ?_
          rintro e w1 ⟨rfl, rfl⟩
          rw [hba]
          go_wp2
          rw [unhide HY]
          go_ret
          exact ⟨rfl, rfl⟩
    · have e : k = l := by omega
      subst e
      have HY := hide (clB_yes (unhide HN))
      go_wp2
      rw [unhide HY]
      go_ret
      exact ⟨rfl, rfl⟩
/-- Clauses are right. -/
def CnfP (m : Int) (n : Nat) (L : Nat → Nat) (V : Nat → Nat → Int) : Prop := 0 ≤ m ∧ m ≤ 700 ∧ n ≤ 2500 ∧ ∀ i, i < n → ClP (L i) (V i) m.toNat
noncomputable def cnfB (m : Int) (n : Nat) (L : Nat → Nat) (V : Nat → Nat → Int) : Bool := @decide (CnfP m n L V) (Classical.propDecidable _)
theorem cnfB_iff {m : Int} {n : Nat} {L : Nat → Nat} {V : Nat → Nat → Int} : cnfB m n L V = true ↔ CnfP m n L V := by simp [cnfB]
theorem cnfB_yes {m : Int} {n : Nat} {L : Nat → Nat} {V : Nat → Nat → Int} (h : CnfP m n L V) : cnfB m n L V = true := cnfB_iff.2 h
theorem cnfB_no {m : Int} {n : Nat} {L : Nat → Nat} {V : Nat → Nat → Int} (h : ¬ CnfP m n L V) : cnfB m n L V = false := by simpa [cnfB] using h
/-- Lists of 64 bits' numbers, none too long. -/
def Fits (n : Nat) (L : Nat → Nat) (V : Nat → Nat → Int) : Prop := n ≤ 1048576 ∧ ∀ i, i < n → L i ≤ 1048576 ∧ ∀ j, j < L i → W64 (V i j)
end Go.Proofs.Ytbepnfcghjfngaa
