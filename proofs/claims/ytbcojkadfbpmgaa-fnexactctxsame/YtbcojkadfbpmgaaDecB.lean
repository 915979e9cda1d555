/- Names: which are right, of the model and of the program. -/
import Derived.Test.YtbcojkadfbpmgaaDecA
import Derived.Lib.OthersKept
import Derived.Lib.ConvBytes
namespace Go.Proofs.Ytbcojkadfbpmgaa
open Go.ChangeShapes Go.WideShapes Go.ChangeAt Go.RowKit Go.Joins
set_option linter.unusedVariables false

/-- A byte of a text. -/
def bt (s : ByteArray) (i : Nat) : Nat := (s.get! i).toNat
theorem bt_eq (s : ByteArray) (i : Nat) (h : i < s.size) : (s[i]'h).toNat = bt s i := by
  have := get_at s i h
  simp only [Nat.add_zero] at this
  rw [bt, this]
theorem bt_lt (s : ByteArray) (i : Nat) : bt s i < 256 := UInt8.toNat_lt _
/-- A text that may be a name. -/
def NameP (s : ByteArray) : Prop := 1 ≤ s.size ∧ s.size ≤ 4 ∧ (∀ i, i < s.size → 97 ≤ bt s i ∧ bt s i ≤ 122) ∧ s.toList ≠ [116, 114, 117, 101]
noncomputable def nameB (s : ByteArray) : Bool := @decide (NameP s) (Classical.propDecidable _)
theorem nameB_iff (s : ByteArray) : nameB s = true ↔ NameP s := by simp [nameB]
theorem nameB_yes {s : ByteArray} (h : NameP s) : nameB s = true := (nameB_iff s).2 h
theorem nameB_no {s : ByteArray} (h : ¬ NameP s) : nameB s = false := by simpa [nameB] using h

/-- The bytes of a text in a row of their own. -/
theorem bytes_of (src dst e : TypeId) (w : World) (s : ByteArray) (hs : Try.prog.underlying src = some .string) (hd : Try.prog.underlying dst = some (.slice e)) (he : Try.prog.underlying e = some (.int .u8)) :
    ∃ w1 cap, (convert src dst (.string s)).run Try.prog w = .ok (.slice (some ⟨w.heap.size, 0, none⟩) s.size cap) w1 ∧ (∀ j, j < s.size → w1.cell? ⟨w.heap.size, j, none⟩ = some (.int .u8 (bt s j))) ∧ Below w.heap.size w w1 ∧ w1.heap.size = w.heap.size + 1 := by
  refine ⟨_, _, Lib.run_convert_string_bytes w src dst e s hs hd he, fun j hj => ?_, ⟨rfl, rfl, rfl, by rw [Lib.bytesWorld_size]; omega, fun k hk => Lib.bytesWorld_at_old w e s k hk⟩, Lib.bytesWorld_size w e s⟩
  rw [Lib.bytesWorld_cell w e s j hj, ← bt_eq s j hj]
  simp [List.getD, hj]
  rfl
/-- Where a name stands first among n, or -1. -/
noncomputable def findI (S : Nat → ByteArray) (s : ByteArray) : Nat → Int
  | 0 => -1
  | n + 1 => @ite _ (0 ≤ findI S s n) (Classical.propDecidable _) (findI S s n) (@ite _ ((S n).toList = s.toList) (Classical.propDecidable _) (n : Int) (-1))
theorem findI_none {S : Nat → ByteArray} {s : ByteArray} {n : Nat} (h : ∀ j, j < n → (S j).toList ≠ s.toList) : findI S s n = -1 := by
  induction n with
  | zero => rfl
  | succ n ih =>
    have := ih (fun j hj => h j (by omega))
    simp [findI, this, h n (by omega)]
theorem findI_at {S : Nat → ByteArray} {s : ByteArray} {k : Nat} (h : ∀ j, j < k → (S j).toList ≠ s.toList) (hk : (S k).toList = s.toList) (n : Nat) (hn : k < n) : findI S s n = k := by
  induction n with
  | zero => omega
  | succ n ih =>
    by_cases e : n = k
    · subst e
      simp [findI, findI_none h, hk]
    · have := ih (by omega)
      simp [findI, this]
theorem findI_cases (S : Nat → ByteArray) (s : ByteArray) (n : Nat) : (findI S s n = -1 ∧ ∀ j, j < n → (S j).toList ≠ s.toList) ∨ ∃ k, k < n ∧ findI S s n = k ∧ (S k).toList = s.toList ∧ ∀ j, j < k → (S j).toList ≠ s.toList := by
  induction n with
  | zero => exact Or.inl ⟨rfl, fun j hj => by omega⟩
  | succ n ih =>
    rcases ih with ⟨h1, h2⟩ | ⟨k, h1, h2, h3, h4⟩
    · by_cases e : (S n).toList = s.toList
      · exact Or.inr ⟨n, by omega, by simp [findI, h1, e], e, h2⟩
      · refine Or.inl ⟨by simp [findI, h1, e], fun j hj => ?_⟩
        by_cases ej : j = n
        · subst ej; exact e
        · exact h2 j (by omega)
    · exact Or.inr ⟨k, by omega, by simp [findI, h2], h3, h4⟩
/-- The bits of the first n names together. -/
def sumV (V : Nat → Int) : Nat → Int
  | 0 => 0
  | n + 1 => sumV V n + V n
/-- The name at i is right, and none of those ahead. -/
def AtP (S : Nat → ByteArray) (V : Nat → Int) (i : Nat) : Prop := NameP (S i) ∧ 1 ≤ V i ∧ V i ≤ 4 ∧ ∀ j, j < i → (S j).toList ≠ (S i).toList
def DeclP (n : Nat) (S : Nat → ByteArray) (V : Nat → Int) : Prop := n ≤ 4 ∧ (∀ i, i < n → AtP S V i) ∧ sumV V n ≤ 8
noncomputable def declB (n : Nat) (S : Nat → ByteArray) (V : Nat → Int) : Bool := @decide (DeclP n S V) (Classical.propDecidable _)
theorem declB_iff (n : Nat) (S : Nat → ByteArray) (V : Nat → Int) : declB n S V = true ↔ DeclP n S V := by simp [declB]
theorem declB_yes {n : Nat} {S : Nat → ByteArray} {V : Nat → Int} (h : DeclP n S V) : declB n S V = true := (declB_iff n S V).2 h
theorem declB_no {n : Nat} {S : Nat → ByteArray} {V : Nat → Int} (h : ¬ DeclP n S V) : declB n S V = false := by simpa [declB] using h
theorem sumV_bd {V : Nat → Int} {k : Nat} (h : ∀ i, i < k → 1 ≤ V i ∧ V i ≤ 4) : 0 ≤ sumV V k ∧ sumV V k ≤ 4 * k := by
  induction k with
  | zero => simp [sumV]
  | succ k ih =>
    have := ih (fun i hi => h i (by omega))
    have := h k (by omega)
    simp only [sumV]
    omega
theorem declB_end {n : Nat} {S : Nat → ByteArray} {V : Nat → Int} (hn : n ≤ 4) (h : ∀ i, i < n → AtP S V i) : declB n S V = decide (sumV V n ≤ 8) := by
  by_cases e : sumV V n ≤ 8
  · rw [declB_yes ⟨hn, h, e⟩]; simp [e]
  · rw [declB_no (fun k => e k.2.2)]; simp [e]
end Go.Proofs.Ytbcojkadfbpmgaa
