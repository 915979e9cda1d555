/- Which clauses are right, of the model and of the program. -/
import Derived.Test.YtoglplpchjcpoaaLstA
import Derived.Test.YtoglplpchjcpoaaAbsA
namespace Go.Proofs.Ytoglplpchjcpoaa
open Go.ChangeShapes Go.WideShapes Go.ChangeAt Go.RowKit Go.Joins
set_option linter.unusedVariables false

set_option maxHeartbeats 1000000 in
theorem eqCnf_same (m : Int) (b c n cap cap' : Nat) (A A' : Nat → Option Addr) (L C C' : Nat → Nat) (V : Nat → Nat → Int) (w : World) (hb : b < w.heap.size) (hc : c < w.heap.size) (hd : Rws w b 0 n A L C V) (hd' : Rws w c 0 n A' L C' V) (hn : n ≤ 1048576) (hL : ∀ i, i < n → L i ≤ 1048576) :
    Calls Try.prog 8 #[.agg #[.int .i64 m, .slice (some ⟨b, 0, none⟩) n cap], .agg #[.int .i64 m, .slice (some ⟨c, 0, none⟩) n cap']] w fun e w' => e = .returned (.bool true) ∧ Below w.heap.size w w' := by
  have HD := hide hd
  have HE := hide hd'
  have HL := hide hL
  clear hd hd' hL
  have kb : (m != m) = false := by simp
  go_enter Try.func8, Try.ntmps8
  go_wp2_with fail
  obtain ⟨wz, hwz⟩ : ∃ wz, wz = (w.alloc (.cells #[.int .i64 m, .slice (some ⟨b, 0, none⟩) n cap] 28)).alloc (.cells #[.int .i64 m, .slice (some ⟨c, 0, none⟩) n cap'] 28) := ⟨_, rfl⟩
  have BZ : Below w.heap.size w wz := by rw [hwz]; exact ((Below.refl _ _).alloc (Nat.le_refl _) _).alloc (by simp) _
  rw [← hwz]
  refine (eqIntSS_same _ _ _ _ _ _ _ _ _ _ _ _ _ wz (Nat.lt_of_lt_of_le hb BZ.size) (Nat.lt_of_lt_of_le hc BZ.size) ((unhide HD).later BZ) ((unhide HE).later BZ) hn (unhide HL)).mono ?_
  rintro e wq ⟨rfl, bq⟩
  go_wp2
  go_ret
  exact ⟨rfl, BZ.trans (bq.mono BZ.size)⟩
/-- The number ahead of a place, without its sign. -/
def lastI (V : Nat → Int) : Nat → Int
  | 0 => 0
  | k + 1 => absI (V k)
def OneP (V : Nat → Int) (N : Nat) (k : Nat) : Prop := -(N : Int) ≤ V k ∧ V k ≤ N ∧ lastI V k < absI (V k)
/-- A clause is right among N marks. -/
def ClP (l : Nat) (V : Nat → Int) (N : Nat) : Prop := ∀ k, k < l → OneP V N k
noncomputable def clB (l : Nat) (V : Nat → Int) (N : Nat) : Bool := @decide (ClP l V N) (Classical.propDecidable _)
theorem clB_iff {l : Nat} {V : Nat → Int} {N : Nat} : clB l V N = true ↔ ClP l V N := by simp [clB]
theorem clB_yes {l : Nat} {V : Nat → Int} {N : Nat} (h : ClP l V N) : clB l V N = true := clB_iff.2 h
theorem clB_no {l : Nat} {V : Nat → Int} {N : Nat} (h : ¬ ClP l V N) : clB l V N = false := by simpa [clB] using h
theorem lastI_bd {V : Nat → Int} {N k : Nat} (h : ∀ j, j < k → OneP V N j) : 0 ≤ lastI V k ∧ lastI V k ≤ N := by
  cases k with
  | zero => simp [lastI]
  | succ k => exact absI_bd _ _ (h k (by omega)).1 (h k (by omega)).2.1
theorem lastI_nn (V : Nat → Int) (k : Nat) : 0 ≤ lastI V k := by
  cases k with
  | zero => simp [lastI]
  | succ k => simp only [lastI, absI]; split <;> omega
/-- Clauses are right. -/
def CnfP (m : Int) (n : Nat) (L : Nat → Nat) (V : Nat → Nat → Int) : Prop := 0 ≤ m ∧ m ≤ 700 ∧ n ≤ 2500 ∧ ∀ i, i < n → ClP (L i) (V i) m.toNat
noncomputable def cnfB (m : Int) (n : Nat) (L : Nat → Nat) (V : Nat → Nat → Int) : Bool := @decide (CnfP m n L V) (Classical.propDecidable _)
theorem cnfB_iff {m : Int} {n : Nat} {L : Nat → Nat} {V : Nat → Nat → Int} : cnfB m n L V = true ↔ CnfP m n L V := by simp [cnfB]
theorem cnfB_yes {m : Int} {n : Nat} {L : Nat → Nat} {V : Nat → Nat → Int} (h : CnfP m n L V) : cnfB m n L V = true := cnfB_iff.2 h
theorem cnfB_no {m : Int} {n : Nat} {L : Nat → Nat} {V : Nat → Nat → Int} (h : ¬ CnfP m n L V) : cnfB m n L V = false := by simpa [cnfB] using h
/-- Lists of 64 bits' numbers, none too long. -/
def Fits (n : Nat) (L : Nat → Nat) (V : Nat → Nat → Int) : Prop := n ≤ 1048576 ∧ ∀ i, i < n → L i ≤ 1048576 ∧ ∀ j, j < L i → W64 (V i j)
end Go.Proofs.Ytoglplpchjcpoaa
