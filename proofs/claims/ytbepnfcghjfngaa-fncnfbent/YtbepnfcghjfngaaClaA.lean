/- Whether one of a clause's marks is as it wants it, of the model and of the program. -/
import Derived.Test.YtbepnfcghjfngaaBolA
namespace Go.Proofs.Ytbepnfcghjfngaa
open Go.ChangeShapes Go.WideShapes Go.ChangeAt Go.RowKit Go.Joins
set_option linter.unusedVariables false

/-- A number of 64 bits. -/
def W64 (v : Int) : Prop := -9223372036854775808 ≤ v ∧ v ≤ 9223372036854775807
theorem W64.of {v : Int} (h : (Lit.int .i64 v).wf = true) : W64 v := by
  simp [Lit.wf, IntKind.min, IntKind.max, IntKind.signed, IntKind.bits] at h
  exact h
theorem ints_in64 {H : Type} {enc : TypeId × Value → H} {w : World} {a : Option Addr} {len cap : Nat} {d : DataW H} {p : List MemPlace} {sp : Nat → Bool} {held : Bool}
    (h : DataW.Trod enc Try.prog w 0 sp held 30 (.slice a len cap) d p) : len ≤ cap ∧ len ≤ maxLen ∧ ∃ V, IntsAt w a len V ∧ ∀ i, i < len → W64 (V i) := by
  obtain ⟨fuel, hf⟩ := h
  rcases open_ints Try.underlying30 Try.underlying3 (by kernel_rfl) hf with ⟨hcs, _⟩ | ⟨x, l, c, zs, hcs, _, hl, hm, hz, _, hcell, hwz⟩
  · simp [Value.cells] at hcs
    obtain ⟨rfl, rfl, rfl⟩ := hcs
    exact ⟨Nat.le_refl _, by unfold maxLen; omega, fun _ => 0, Or.inl rfl, fun i hi => by omega⟩
  · simp [Value.cells] at hcs
    obtain ⟨rfl, rfl, rfl⟩ := hcs
    have hlz : len ≤ zs.length := by rw [hz]; split <;> omega
    refine ⟨hl, by omega, fun i => zs.getD i 0, ?_, fun i hi => ?_⟩
    · by_cases h0 : len = 0
      · exact Or.inl h0
      · obtain ⟨b, off, rfl, hc⟩ := ints_at hcell (by omega)
        exact Or.inr ⟨b, off, rfl, World.block_lt_of_cell? _ _ (hc 0 (by omega)), fun i hi => hc i (by omega)⟩
    · apply W64.of
      apply hwz
      show zs.getD i 0 ∈ zs
      rw [List.getD_eq_getElem?_getD, List.getElem?_eq_getElem (by omega)]
      exact List.getElem_mem _

/-- A mark is as a clause's number wants it. -/
def metB (m : Int) (n : Nat) (B : Nat → Bool) : Bool := if 0 < m then decide (m ≤ n) && B (m - 1).toNat else if m < 0 then decide (-(n : Int) ≤ m) && !B (-m - 1).toNat else false
theorem met_pos {n : Nat} {B : Nat → Bool} {j : Nat} (h : j < n) : metB ((j : Int) + 1) n B = B j := by
  unfold metB
  rw [if_pos (by omega)]
  have : ((j : Int) + 1 - 1).toNat = j := by omega
  rw [this]
  have : decide ((j : Int) + 1 ≤ n) = true := by simp; omega
  rw [this]; simp
theorem met_neg {n : Nat} {B : Nat → Bool} {j : Nat} (h : j < n) : metB (-((j : Int) + 1)) n B = !B j := by
  unfold metB
  rw [if_neg (by omega), if_pos (by omega)]
  have : (-(-((j : Int) + 1)) - 1).toNat = j := by omega
  rw [this]
  have : decide (-(n : Int) ≤ -((j : Int) + 1)) = true := by simp; omega
  rw [this]; simp
theorem met_out {n : Nat} {B : Nat → Bool} {m : Int} (h : m = 0 ∨ (n : Int) < m ∨ m < -(n : Int)) : metB m n B = false := by
  unfold metB
  rcases h with rfl | h | h
  · simp
  · rw [if_pos (by omega)]; simp; omega
  · rw [if_neg (by omega), if_pos (by omega)]; simp; omega
theorem met_ways (n : Nat) (m : Int) : (∃ j : Nat, j < n ∧ m = (j : Int) + 1) ∨ (∃ j : Nat, j < n ∧ m = -((j : Int) + 1)) ∨ (m = 0 ∨ (n : Int) < m ∨ m < -(n : Int)) := by
  by_cases h0 : 0 < m
  · by_cases h1 : m ≤ n
    · exact Or.inl ⟨(m - 1).toNat, by omega, by omega⟩
    · exact Or.inr (Or.inr (Or.inr (Or.inl (by omega))))
  · by_cases h2 : m = 0
    · exact Or.inr (Or.inr (Or.inl h2))
    · by_cases h1 : -(n : Int) ≤ m
      · exact Or.inr (Or.inl ⟨(-m - 1).toNat, by omega, by omega⟩)
      · exact Or.inr (Or.inr (Or.inr (Or.inr (by omega))))
/-- One of the first so many is met. -/
def HasP (l : Nat) (V : Nat → Int) (n : Nat) (B : Nat → Bool) : Prop := ∃ k, k < l ∧ metB (V k) n B = true
noncomputable def hasB (l : Nat) (V : Nat → Int) (n : Nat) (B : Nat → Bool) : Bool := @decide (HasP l V n B) (Classical.propDecidable _)
theorem hasB_iff {l : Nat} {V : Nat → Int} {n : Nat} {B : Nat → Bool} : hasB l V n B = true ↔ HasP l V n B := by simp [hasB]
theorem hasB_yes {l : Nat} {V : Nat → Int} {n : Nat} {B : Nat → Bool} (h : HasP l V n B) : hasB l V n B = true := hasB_iff.2 h
theorem hasB_no {l : Nat} {V : Nat → Int} {n : Nat} {B : Nat → Bool} (h : ∀ k, k < l → metB (V k) n B = false) : hasB l V n B = false := by
  have : ¬ HasP l V n B := fun ⟨k, hk, hm⟩ => by rw [h k hk] at hm; cases hm
  simpa [hasB] using this
/-- A mark without its sign; the least number there is stays as it is. -/
def bareI (m : Int) : Int := if m < 0 then (if m = -9223372036854775808 then m else -m) else m
theorem bareI_pos {m : Int} (h : 0 ≤ m) : bareI m = m := by unfold bareI; rw [if_neg (by omega)]
theorem bareI_neg {m : Int} (h : m < 0) (h' : m ≠ -9223372036854775808) : bareI m = -m := by unfold bareI; rw [if_pos h, if_neg h']
theorem bareI_least : bareI (-9223372036854775808) = -9223372036854775808 := by decide
def amongB (m : Int) (n : Nat) : Bool := decide (1 ≤ bareI m) && decide (bareI m ≤ n)
set_option maxHeartbeats 400000 in
theorem bare_any (m : Int) (w : World) (hm : W64 m) :
    Calls Try.prog 22 #[.int .i64 m] w fun e w' => e = .returned (.int .i64 (bareI m)) ∧ w' = w := by
  unfold W64 at hm
  by_cases h : m < 0
  · by_cases h' : m = -9223372036854775808
    · subst h'
      rw [bareI_least]
      go_enter Try.func22, Try.ntmps22
      go_wp2
      go_ret
      exact ⟨ret_int (by kernel_rfl), rfl⟩
    · rw [bareI_neg h h']
      go_enter Try.func22, Try.ntmps22
      go_wp2
      go_ret
      exact ⟨rfl, rfl⟩
  · rw [bareI_pos (by omega)]
    go_enter Try.func22, Try.ntmps22
    go_wp2
    go_ret
    exact ⟨rfl, rfl⟩
set_option maxHeartbeats 400000 in
theorem among_any (m : Int) (n : Nat) (w : World) (hm : W64 m) :
    Calls Try.prog 21 #[.int .i64 m, .int .i64 n] w fun e w' => e = .returned (.bool (amongB m n)) ∧ w' = w := by
  unfold amongB
  by_cases h1 : 1 ≤ bareI m
  · go_enter Try.func21, Try.ntmps21
    go_wp2_with fail
    refine (bare_any _ _ hm).mono ?_
    rintro e w1 ⟨rfl, rfl⟩
    go_wp2_with fail
    refine (bare_any _ _ hm).mono ?_
    rintro e w1 ⟨rfl, rfl⟩
    go_wp2
    go_ret
    exact ⟨ret_bool (by simp [h1]), rfl⟩
  · have hd : decide (1 ≤ bareI m) = false := by simpa using h1
    go_enter Try.func21, Try.ntmps21
    go_wp2_with fail
    refine (bare_any _ _ hm).mono ?_
    rintro e w1 ⟨rfl, rfl⟩
    go_wp2
    go_ret
    exact ⟨ret_bool (by rw [hd]; simp), rfl⟩
end Go.Proofs.Ytbepnfcghjfngaa
