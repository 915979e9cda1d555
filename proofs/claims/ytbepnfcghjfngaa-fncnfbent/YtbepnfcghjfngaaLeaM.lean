/- Lists of what is so, in their order: the bits of a number, and the next number's; the first number of which something is so. -/
import Derived.Test.YtbepnfcghjfngaaVecA
namespace Go.Proofs.Ytbepnfcghjfngaa
set_option linter.unusedVariables false

/-- The list that comes behind k others: its last place is the lowest bit of k. -/
def vls (N k i : Nat) : Bool := k.testBit (N - 1 - i)
theorem odd_bit (k r : Nat) : k.testBit r = decide (k / 2 ^ r % 2 = 1) := by rw [Nat.testBit_eq_decide_div_mod_eq]
theorem half_pow (k r : Nat) : k / 2 ^ r / 2 = k / 2 ^ (r + 1) := by rw [Nat.div_div_eq_div_mul, Nat.pow_succ]
/-- The lowest r bits are all so. -/
def Ones (k r : Nat) : Prop := ∃ q, k = 2 ^ r * q + (2 ^ r - 1)
theorem ones_zero (k : Nat) : Ones k 0 := ⟨k, by simp⟩
theorem ones_bit {k r q t : Nat} (h : k = 2 ^ r * q + (2 ^ r - 1)) (ht : r ≤ t) : k.testBit t = q.testBit (t - r) := by
  rw [h, Nat.testBit_two_pow_mul_add _ (by have := Nat.two_pow_pos r; omega), if_neg (by omega)]
theorem ones_inc {k r q t : Nat} (h : k = 2 ^ r * q + (2 ^ r - 1)) : (k + 1).testBit t = (decide (t ≥ r) && (q + 1).testBit (t - r)) := by
  have e : k + 1 = 2 ^ r * (q + 1) := by
    have := Nat.two_pow_pos r
    rw [h, Nat.mul_succ]; omega
  rw [e, Nat.testBit_two_pow_mul]
theorem bit0_inc (q : Nat) : (q + 1).testBit 0 = !q.testBit 0 := by
  rw [Nat.testBit_zero, Nat.testBit_zero]
  by_cases h : q % 2 = 1
  · simp [h]; omega
  · simp [h]; omega
theorem bits_inc {q s : Nat} (h : q.testBit 0 = false) (hs : 0 < s) : (q + 1).testBit s = q.testBit s := by
  obtain ⟨s, rfl⟩ : ∃ s', s = s' + 1 := ⟨s - 1, by omega⟩
  rw [Nat.testBit_zero] at h
  rw [Nat.testBit_succ, Nat.testBit_succ]
  have : (q + 1) / 2 = q / 2 := by simp at h; omega
  rw [this]
theorem ones_next {k r : Nat} (h : Ones k r) (hb : k.testBit r = true) : Ones k (r + 1) := by
  obtain ⟨q, hq⟩ := h
  have hb' := ones_bit hq (Nat.le_refl r)
  rw [hb, Nat.sub_self, Nat.testBit_zero] at hb'
  have : q % 2 = 1 := by simpa using hb'.symm
  refine ⟨q / 2, ?_⟩
  have e : q = 2 * (q / 2) + 1 := by omega
  have hp := Nat.two_pow_pos r
  rw [Nat.pow_succ]
  generalize 2 ^ r = x at *
  generalize q / 2 = y at *
  subst e
  rw [hq, Nat.mul_add, Nat.mul_one, Nat.mul_assoc x 2 y]
  omega
/-- The next list: lower places are not so again, the one that was not so is so, the others stay. -/
theorem next_low {k r t : Nat} (h : Ones k r) (ht : t < r) : (k + 1).testBit t = false := by
  obtain ⟨q, hq⟩ := h
  rw [ones_inc hq]
  simp; omega
theorem next_at {k r : Nat} (h : Ones k r) (hb : k.testBit r = false) : (k + 1).testBit r = true := by
  obtain ⟨q, hq⟩ := h
  have hb' := ones_bit hq (Nat.le_refl r)
  rw [hb, Nat.sub_self] at hb'
  rw [ones_inc hq, Nat.sub_self, bit0_inc, ← hb']
  simp
theorem next_high {k r t : Nat} (h : Ones k r) (hb : k.testBit r = false) (ht : r < t) : (k + 1).testBit t = k.testBit t := by
  obtain ⟨q, hq⟩ := h
  have hb' := ones_bit hq (Nat.le_refl r)
  rw [hb, Nat.sub_self] at hb'
  rw [ones_inc hq, ones_bit hq (by omega), bits_inc hb'.symm (by omega)]
  have : decide (t ≥ r) = true := by simp; omega
  rw [this]; simp
/-- The first number below n of which p is so. -/
def firstO (p : Nat → Bool) : Nat → Option Nat
  | 0 => none
  | n + 1 => match firstO p n with | some k => some k | none => if p n then some n else none
theorem firstO_none {p : Nat → Bool} {n : Nat} (h : ∀ j, j < n → p j = false) : firstO p n = none := by
  induction n with
  | zero => rfl
  | succ n ih => simp [firstO, ih (fun j hj => h j (by omega)), h n (by omega)]
theorem firstO_at {p : Nat → Bool} {k : Nat} (h : ∀ j, j < k → p j = false) (hk : p k = true) (n : Nat) (hn : k < n) : firstO p n = some k := by
  induction n with
  | zero => omega
  | succ n ih =>
    by_cases e : n = k
    · subst e; simp [firstO, firstO_none h, hk]
    · simp [firstO, ih (by omega)]
theorem firstO_ways (p : Nat → Bool) (n : Nat) : (firstO p n = none ∧ ∀ j, j < n → p j = false) ∨ ∃ k, k < n ∧ firstO p n = some k ∧ p k = true ∧ ∀ j, j < k → p j = false := by
  induction n with
  | zero => exact Or.inl ⟨rfl, fun j hj => by omega⟩
  | succ n ih =>
    rcases ih with ⟨h1, h2⟩ | ⟨k, h1, h2, h3, h4⟩
    · cases e : p n
      · refine Or.inl ⟨by simp [firstO, h1, e], fun j hj => ?_⟩
        by_cases ej : j = n
        · subst ej; exact e
        · exact h2 j (by omega)
      · exact Or.inr ⟨n, by omega, by simp [firstO, h1, e], e, h2⟩
    · exact Or.inr ⟨k, by omega, by simp [firstO, h2], h3, h4⟩
end Go.Proofs.Ytbepnfcghjfngaa
