/- The bits of names, name by name, the highest first: pure. -/
import Derived.Test.YtnojpdfkhhjcfaaEnvA
import Derived.Test.YtnojpdfkhhjcfaaBapA
import Derived.Test.YtnojpdfkhhjcfaaIapA
namespace Go.Proofs.Ytnojpdfkhhjcfaa
open Go.RowKit
set_option linter.unusedVariables false

/-- A bit of a number. -/
def bitB (x : Int) (j : Nat) : Bool := x / two (j : Int) % 2 == 1
/-- The first k bits of name i, which has v, by name and place. -/
def rowP (i v : Nat) : Nat → List (Nat × Nat)
  | 0 => []
  | k + 1 => rowP i v k ++ [(i, v - 1 - k)]
theorem rowP_len (i v : Nat) : ∀ k, (rowP i v k).length = k
  | 0 => rfl
  | k + 1 => by simp [rowP, rowP_len i v k]
/-- All bits of the first i names. -/
def prL (V : Nat → Int) : Nat → List (Nat × Nat)
  | 0 => []
  | i + 1 => prL V i ++ rowP i (V i).toNat (V i).toNat
def prP (V : Nat → Int) (i k : Nat) : List (Nat × Nat) := prL V i ++ rowP i (V i).toNat k
theorem prP_zero (V : Nat → Int) (i : Nat) : prP V i 0 = prL V i := by simp [prP, rowP]
theorem prP_next (V : Nat → Int) (i k : Nat) : prP V i (k + 1) = prP V i k ++ [(i, (V i).toNat - 1 - k)] := by simp [prP, rowP]
theorem prP_full (V : Nat → Int) (i : Nat) : prP V i (V i).toNat = prL V (i + 1) := rfl
theorem prP_len (V : Nat → Int) (i k : Nat) : (prP V i k).length = (prL V i).length + k := by simp [prP, rowP_len]
theorem prL_len {V : Nat → Int} : ∀ n, (∀ i, i < n → 0 ≤ V i) → (((prL V n).length : Nat) : Int) = sumV V n
  | 0, _ => rfl
  | n + 1, h => by
    have h1 := prL_len n (fun i hi => h i (by omega))
    have h2 := h n (by omega)
    have e : (prL V (n + 1)).length = (prL V n).length + (V n).toNat := by simp [prL, rowP_len]
    rw [e]
    show _ = sumV V n + V n
    omega
theorem rowP_mem {i v : Nat} : ∀ {k : Nat} {p : Nat × Nat}, p ∈ rowP i v k → p.1 = i ∧ p.2 < v ∨ v = 0
  | 0, _, h => by simp [rowP] at h
  | k + 1, p, h => by
    simp [rowP] at h
    rcases h with h | rfl
    · exact rowP_mem h
    · by_cases hv : v = 0
      · exact Or.inr hv
      · exact Or.inl ⟨rfl, by simp only; omega⟩
theorem prL_mem {V : Nat → Int} : ∀ {n : Nat} {p : Nat × Nat}, (∀ i, i < n → 1 ≤ V i) → p ∈ prL V n → p.1 < n ∧ (p.2 : Int) < V p.1
  | 0, _, _, h => by simp [prL] at h
  | n + 1, p, hv, h => by
    simp [prL] at h
    rcases h with h | h
    · have := prL_mem (fun i hi => hv i (by omega)) h
      exact ⟨by omega, this.2⟩
    · have h1 := hv n (by omega)
      rcases rowP_mem h with ⟨e, h2⟩ | h2
      · rw [e]; exact ⟨by omega, by omega⟩
      · omega
/-- A pair by its place. -/
def pAt (L : List (Nat × Nat)) (i : Nat) : Nat × Nat := L.getD i (0, 0)
theorem pAt_mem {L : List (Nat × Nat)} {i : Nat} (h : i < L.length) : pAt L i ∈ L := by
  unfold pAt
  rw [List.getD_eq_getElem?_getD, List.getElem?_eq_getElem h]
  exact List.getElem_mem _
/-- What comes in for numbers of names: bit by bit. -/
def insL (V E : Nat → Int) (i k : Nat) : List Bool := (prP V i k).map fun p => bitB (E p.1) p.2
theorem insL_next (V E : Nat → Int) (i k : Nat) : insL V E i (k + 1) = insL V E i k ++ [bitB (E i) ((V i).toNat - 1 - k)] := by simp [insL, prP_next]
theorem insL_full (V E : Nat → Int) (i : Nat) : insL V E i (V i).toNat = insL V E (i + 1) 0 := by simp [insL, prP_full, prP_zero]
theorem insL_len (V E : Nat → Int) (i k : Nat) : (insL V E i k).length = (prL V i).length + k := by simp [insL, prP_len]
theorem insL_at {V E : Nat → Int} {n i : Nat} (h : i < (prL V n).length) : atB (insL V E n 0) i = bitB (E (pAt (prL V n) i).1) (pAt (prL V n) i).2 := by
  unfold atB insL pAt
  rw [prP_zero]
  simp [List.getD_eq_getElem?_getD, h]
/-- What BlastIns hands back. -/
noncomputable def binL (n m : Nat) (S : Nat → ByteArray) (V E : Nat → Int) : List Bool := @ite _ (EnvP n m S V E) (Classical.propDecidable _) (insL V E n 0) []
theorem binL_yes {n m : Nat} {S : Nat → ByteArray} {V E : Nat → Int} (h : EnvP n m S V E) : binL n m S V E = insL V E n 0 := if_pos h
theorem binL_no {n m : Nat} {S : Nat → ByteArray} {V E : Nat → Int} (h : ¬ EnvP n m S V E) : binL n m S V E = [] := if_neg h
theorem prL_le {n : Nat} {S : Nat → ByteArray} {V : Nat → Int} (h : DeclP n S V) : (prL V n).length ≤ 8 := by
  have := prL_len (V := V) n (fun i hi => by have := (h.2.1 i hi).2.1; omega)
  have := h.2.2
  omega
theorem binL_le {n m : Nat} {S : Nat → ByteArray} {V E : Nat → Int} : (binL n m S V E).length ≤ 8 := by
  by_cases h : EnvP n m S V E
  · rw [binL_yes h, insL_len]; exact prL_le h.1
  · rw [binL_no h]; simp
/-- The number of name j that the first k bits say, of those that come in by I. -/
def sayP (L : List (Nat × Nat)) (I : Nat → Bool) (j : Nat) : Nat → Int
  | 0 => 0
  | k + 1 => sayP L I j k + (if (pAt L k).1 = j ∧ I k = true then two (((pAt L k).2 : Nat) : Int) else 0)
/-- The same of one name alone, whose bits begin at a: as the model reckons it. -/
def sayM (I : Nat → Bool) (a : Nat) : Nat → Int
  | 0 => 0
  | k + 1 => sayM I a k * 2 + (if I (a + k) = true then 1 else 0)
theorem two_nat (k : Nat) : two (k : Int) = ((2 ^ k : Nat) : Int) := by simp [two]
theorem two_succ (k : Nat) : two ((k + 1 : Nat) : Int) = 2 * two (k : Int) := by rw [two_nat, two_nat, Nat.pow_succ]; push_cast; omega
theorem sayM_bd (I : Nat → Bool) (a : Nat) : ∀ k, 0 ≤ sayM I a k ∧ sayM I a k < two (k : Int)
  | 0 => by simp [sayM, two]
  | k + 1 => by
    have h := sayM_bd I a k
    rw [two_succ]
    simp only [sayM]
    split <;> omega
theorem pAt_left {L M : List (Nat × Nat)} {i : Nat} (h : i < L.length) : pAt (L ++ M) i = pAt L i := by simp [pAt, List.getD_eq_getElem?_getD, List.getElem?_append_left h]
theorem pAt_right {L M : List (Nat × Nat)} {i : Nat} : pAt (L ++ M) (L.length + i) = pAt M i := by simp [pAt, List.getD_eq_getElem?_getD, List.getElem?_append_right]
theorem rowP_at (i v : Nat) : ∀ {k j : Nat}, j < k → pAt (rowP i v k) j = (i, v - 1 - j)
  | 0, _, h => by omega
  | k + 1, j, h => by
    by_cases e : j < k
    · rw [rowP, pAt_left (by rw [rowP_len]; exact e), rowP_at i v e]
    · have e' : j = k := by omega
      subst e'
      have := pAt_right (L := rowP i v j) (M := [(i, v - 1 - j)]) (i := 0)
      rw [rowP_len, Nat.add_zero] at this
      rw [rowP, this]; rfl
theorem sayP_left {L M : List (Nat × Nat)} (I : Nat → Bool) (j : Nat) : ∀ k, k ≤ L.length → sayP (L ++ M) I j k = sayP L I j k
  | 0, _ => rfl
  | k + 1, h => by rw [sayP, sayP, sayP_left I j k (by omega), pAt_left (by omega)]
/-- Bits of a name say only its number. -/
theorem sayP_row {V : Nat → Int} {n : Nat} (I : Nat → Bool) (j : Nat) : ∀ k, k ≤ (V n).toNat → sayP (prL V (n + 1)) I j ((prL V n).length + k) = if j = n then sayP (prL V n) I j (prL V n).length + sayM I (prL V n).length k * two (((V n).toNat - k : Nat) : Int) else sayP (prL V n) I j (prL V n).length
  | 0, _ => by
    show sayP (prL V n ++ _) I j (prL V n).length = _
    rw [sayP_left I j _ (Nat.le_refl _)]
    simp [sayM]
  | k + 1, h => by
    have ih := sayP_row (V := V) (n := n) I j k (by omega)
    rw [← Nat.add_assoc, sayP, ih]
    have e : pAt (prL V (n + 1)) ((prL V n).length + k) = (n, (V n).toNat - 1 - k) := by rw [prL, pAt_right, rowP_at _ _ (by omega)]
    rw [e]
    obtain ⟨q, hq⟩ : ∃ q, (V n).toNat = q + k + 1 := ⟨(V n).toNat - k - 1, by omega⟩
    have e1 : (V n).toNat - k = q + 1 := by omega
    have e2 : (V n).toNat - (k + 1) = q := by omega
    have e3 : (V n).toNat - 1 - k = q := by omega
    rw [e1, e2, e3, two_succ]
    simp only [sayM]
    generalize two (q : Int) = t
    generalize sayM I (prL V n).length k = m
    by_cases hj : j = n
    · subst hj
      simp only [if_true]
      by_cases hI : I ((prL V j).length + k) = true
      · simp [hI, Int.add_mul, Int.mul_assoc, Int.add_assoc]
      · simp [hI, Int.mul_assoc]
    · have : ¬ n = j := fun e => hj e.symm
      simp [hj, this]
theorem sayP_out {V : Nat → Int} (hv : ∀ i, 1 ≤ V i → True) (I : Nat → Bool) (j : Nat) : ∀ n, n ≤ j → sayP (prL V n) I j (prL V n).length = 0
  | 0, _ => rfl
  | n + 1, h => by
    have e : (prL V (n + 1)).length = (prL V n).length + (V n).toNat := by simp [prL, rowP_len]
    rw [e, sayP_row I j _ (Nat.le_refl _), if_neg (by omega)]
    exact sayP_out hv I j n (by omega)
theorem sayP_all {V : Nat → Int} (I : Nat → Bool) (j : Nat) : ∀ n, j < n → sayP (prL V n) I j (prL V n).length = sayM I (prL V j).length (V j).toNat
  | 0, h => by omega
  | n + 1, h => by
    have e : (prL V (n + 1)).length = (prL V n).length + (V n).toNat := by simp [prL, rowP_len]
    rw [e, sayP_row I j _ (Nat.le_refl _)]
    by_cases hj : j = n
    · subst hj
      rw [if_pos rfl, sayP_out (fun _ _ => trivial) I j j (Nat.le_refl _)]
      simp [two]
    · rw [if_neg hj]
      exact sayP_all I j n (by omega)
/-- What BlastEnv hands back. -/
def envL (V : Nat → Int) (I : Nat → Bool) : Nat → List Int
  | 0 => []
  | i + 1 => envL V I i ++ [sayM I (prL V i).length (V i).toNat]
theorem envL_len (V : Nat → Int) (I : Nat → Bool) : ∀ n, (envL V I n).length = n
  | 0 => rfl
  | n + 1 => by simp [envL, envL_len V I n]
theorem envL_at (V : Nat → Int) (I : Nat → Bool) : ∀ {n j : Nat}, j < n → at0 (envL V I n) j = sayM I (prL V j).length (V j).toNat
  | 0, _, h => by omega
  | n + 1, j, h => by
    unfold at0
    by_cases e : j < n
    · have := envL_at V I e
      unfold at0 at this
      rw [envL, ← this, List.getD_eq_getElem?_getD, List.getD_eq_getElem?_getD, List.getElem?_append_left (by rw [envL_len]; exact e)]
    · have e' : j = n := by omega
      subst e'
      rw [envL, List.getD_eq_getElem?_getD, List.getElem?_append_right (by rw [envL_len]; exact Nat.le_refl _), envL_len]
      simp
/-- What BlastEnv is given is right. -/
def BevP (n l : Nat) (S : Nat → ByteArray) (V : Nat → Int) : Prop := DeclP n S V ∧ (l : Int) = sumV V n
noncomputable def bevL (n l : Nat) (S : Nat → ByteArray) (V : Nat → Int) (I : Nat → Bool) : List Int := @ite _ (BevP n l S V) (Classical.propDecidable _) (envL V I n) []
theorem bevL_yes {n l : Nat} {S : Nat → ByteArray} {V : Nat → Int} {I : Nat → Bool} (h : BevP n l S V) : bevL n l S V I = envL V I n := if_pos h
theorem bevL_no {n l : Nat} {S : Nat → ByteArray} {V : Nat → Int} {I : Nat → Bool} (h : ¬ BevP n l S V) : bevL n l S V I = [] := if_neg h
theorem bevL_le {n l : Nat} {S : Nat → ByteArray} {V : Nat → Int} {I : Nat → Bool} : (bevL n l S V I).length ≤ 4 := by
  by_cases h : BevP n l S V
  · rw [bevL_yes h, envL_len]; exact h.1.1
  · rw [bevL_no h]; simp
end Go.Proofs.Ytnojpdfkhhjcfaa
