/- Why a mark was put: what both sides say of it. -/
import Derived.Test.YtndebifmimbeaabPutA
namespace Go.Proofs.Ytndebifmimbeaab
set_option linter.unusedVariables false

/-- Each mark with the sign with which the first k numbers have it, or 0. -/
def asI (P : Nat → Int) : Nat → Nat → Int
  | 0, _ => 0
  | k + 1, m => if absI (P k) = (m : Int) then P k else asI P k m
/-- 1, -1 or 0, as a mark is so, not so or free. -/
def sgI (P : Nat → Int) : Nat → Nat → Int
  | 0, _ => 0
  | k + 1, m => if absI (P k) = (m : Int) then (if P k < 0 then -1 else 1) else sgI P k m
theorem absI_eq {x : Int} : absI x = if x < 0 then -x else x := rfl
theorem asI_abs (P : Nat → Int) (k m : Nat) : asI P k m = 0 ∨ absI (asI P k m) = m := by
  induction k with
  | zero => left; rfl
  | succ k ih =>
    rw [asI]
    split
    · rename_i h; right; exact h
    · exact ih
theorem sgI_as (P : Nat → Int) (k m : Nat) (h : ∀ j, j < k → P j ≠ 0) : sgI P k m = if asI P k m < 0 then -1 else if asI P k m = 0 then 0 else 1 := by
  induction k with
  | zero => rfl
  | succ k ih =>
    rw [sgI, asI]
    split
    · have := h k (by omega)
      rw [if_neg this]
    · exact ih (fun j hj => h j (by omega))
/-- A number is turned by the first k. -/
def TrnP (P : Nat → Int) (k : Nat) (x : Int) : Prop := asI P k (absI x).toNat = -x
instance (P : Nat → Int) (k : Nat) (x : Int) : Decidable (TrnP P k x) := inferInstanceAs (Decidable (_ = _))
/-- What the model's l5Sign tells. -/
def signI (P : Nat → Int) (k : Nat) (x : Int) : Int := if 0 < x then sgI P k x.toNat else - sgI P k (-x).toNat
theorem signI_neg (P : Nat → Int) (k : Nat) (x : Int) (h : ∀ j, j < k → P j ≠ 0) (hx : x ≠ 0) : signI P k x < 0 ↔ TrnP P k x := by
  unfold signI TrnP
  by_cases h0 : 0 < x
  · have e : (absI x).toNat = x.toNat := by unfold absI; rw [if_neg (by omega)]
    rw [if_pos h0, e, sgI_as P k _ h]
    rcases asI_abs P k x.toNat with h1 | h1
    · rw [h1]; simp; omega
    · rw [absI_eq] at h1
      split at h1
      · rename_i hn; rw [if_pos hn]; constructor <;> intro <;> omega
      · rename_i hn
        rw [if_neg hn]
        constructor
        · intro h; split at h <;> omega
        · intro h; omega
  · have e : (absI x).toNat = (-x).toNat := by unfold absI; rw [if_pos (by omega)]
    rw [if_neg h0, e, sgI_as P k _ h]
    rcases asI_abs P k (-x).toNat with h1 | h1
    · rw [h1]; simp; omega
    · rw [absI_eq] at h1
      split at h1
      · rename_i hn; rw [if_pos hn]; constructor <;> intro <;> omega
      · rename_i hn
        rw [if_neg hn]
        constructor
        · intro h; omega
        · intro h; rw [if_neg (by omega)]; omega
/-- A number stands among the first k. -/
def hsB (V : Nat → Int) (x : Int) : Nat → Bool
  | 0 => false
  | k + 1 => hsB V x k || decide (V k = x)
theorem hsB_iff (V : Nat → Int) (x : Int) (k : Nat) : hsB V x k = true ↔ ∃ j, j < k ∧ V j = x := by
  induction k with
  | zero => simp [hsB]
  | succ k ih =>
    rw [hsB, Bool.or_eq_true, ih]
    constructor
    · rintro (⟨j, hj, e⟩ | h)
      · exact ⟨j, by omega, e⟩
      · exact ⟨k, by omega, by simpa using h⟩
    · rintro ⟨j, hj, e⟩
      by_cases ej : j = k
      · subst ej; right; simpa using e
      · left; exact ⟨j, by omega, e⟩
/-- A number is in a clause, and all others there are turned. -/
def BecP (l : Nat) (V : Nat → Int) (x : Int) (P : Nat → Int) (k : Nat) : Prop := (∃ j, j < l ∧ V j = x) ∧ ∀ j, j < l → V j ≠ x → TrnP P k (V j)
noncomputable def becB (l : Nat) (V : Nat → Int) (x : Int) (P : Nat → Int) (k : Nat) : Bool := @decide (BecP l V x P k) (Classical.propDecidable _)
theorem becB_iff {l : Nat} {V : Nat → Int} {x : Int} {P : Nat → Int} {k : Nat} : becB l V x P k = true ↔ BecP l V x P k := by simp [becB]
theorem becB_no {l : Nat} {V : Nat → Int} {x : Int} {P : Nat → Int} {k : Nat} (h : ¬ BecP l V x P k) : becB l V x P k = false := by simpa [becB] using h
theorem becB_has {l : Nat} {V : Nat → Int} {x : Int} {P : Nat → Int} {k : Nat} (h : ∀ j, j < l → V j ≠ x → TrnP P k (V j)) : becB l V x P k = hsB V x l := by
  rw [Bool.eq_iff_iff, becB_iff, hsB_iff]
  exact ⟨fun h' => h'.1, fun h' => ⟨h', h⟩⟩
/-- Two rows, one behind the other. -/
def jn {α : Type} (n : Nat) (f g : Nat → α) : Nat → α := fun i => if i < n then f i else g (i - n)
theorem jn_lt {α : Type} {n i : Nat} {f g : Nat → α} (h : i < n) : jn n f g i = f i := if_pos h
theorem jn_ge {α : Type} {n i : Nat} {f g : Nat → α} (h : n ≤ i) : jn n f g i = g (i - n) := if_neg (by omega)
/-- The reason of the mark at a place is right. -/
def WhyP (n n' : Nat) (L L' : Nat → Nat) (V V' : Nat → Nat → Int) (P Q : Nat → Int) (i : Nat) : Prop :=
  Q i = -1 ∨ 0 ≤ Q i ∧ Q i < n + n' ∧ BecP (jn n L L' (Q i).toNat) (jn n V V' (Q i).toNat) (P i) P i
def WhysP (np n n' : Nat) (L L' : Nat → Nat) (V V' : Nat → Nat → Int) (P Q : Nat → Int) : Prop := ∀ i, i < np → WhyP n n' L L' V V' P Q i
noncomputable def whysB (np n n' : Nat) (L L' : Nat → Nat) (V V' : Nat → Nat → Int) (P Q : Nat → Int) : Bool := @decide (WhysP np n n' L L' V V' P Q) (Classical.propDecidable _)
theorem whysB_iff {np n n' : Nat} {L L' : Nat → Nat} {V V' : Nat → Nat → Int} {P Q : Nat → Int} : whysB np n n' L L' V V' P Q = true ↔ WhysP np n n' L L' V V' P Q := by simp [whysB]
theorem whysB_yes {np n n' : Nat} {L L' : Nat → Nat} {V V' : Nat → Nat → Int} {P Q : Nat → Int} (h : WhysP np n n' L L' V V' P Q) : whysB np n n' L L' V V' P Q = true := whysB_iff.2 h
theorem whysB_no {np n n' : Nat} {L L' : Nat → Nat} {V V' : Nat → Nat → Int} {P Q : Nat → Int} (h : ¬ WhysP np n n' L L' V V' P Q) : whysB np n n' L L' V V' P Q = false := by simpa [whysB] using h
theorem MarkP.ne {np : Nat} {P : Nat → Int} {N : Nat} (h : MarkP np P N) {k : Nat} (hk : k ≤ np) : ∀ j, j < k → P j ≠ 0 := fun j hj => (h j (by omega)).1.2.2
theorem cl_bd {l : Nat} {V : Nat → Int} {N : Nat} (h : ClP l V N) {j : Nat} (hj : j < l) : -(N : Int) ≤ V j ∧ V j ≤ N ∧ V j ≠ 0 := by
  obtain ⟨h1, h2, h3⟩ := h j hj
  refine ⟨h1, h2, fun e => ?_⟩
  have := lastI_nn V j
  rw [e] at h3
  simp [absI] at h3
  omega
end Go.Proofs.Ytndebifmimbeaab
