/- Contracts of the small helpers of numbers of a few bits: bits, remainders, signs. -/
import Derived.Test.YtfopmobopmdahaaGreatVecA
import Derived.Deep.RegionHeld3
import Derived.Deep.DrawnRows
namespace Go.Proofs.YtfopmobopmdahaaGreat
open Go.ChangeShapes Go.WideShapes Go.ChangeAt Go.RowKit Go.Joins
set_option linter.unusedVariables false

theorem two_vals (i : Int) (h0 : 0 ≤ i) (h1 : i ≤ 4) : (i = 0 ∧ two i = 1) ∨ (i = 1 ∧ two i = 2) ∨ (i = 2 ∧ two i = 4) ∨ (i = 3 ∧ two i = 8) ∨ (i = 4 ∧ two i = 16) := by
  have : i = 0 ∨ i = 1 ∨ i = 2 ∨ i = 3 ∨ i = 4 := by omega
  rcases this with rfl | rfl | rfl | rfl | rfl <;> simp [two]
theorem tmod_neg_form (n t : Int) (hn : n < 0) : n.tmod t = -((-n) % t) := by
  have e : n = -(-n) := by omega
  conv => lhs; rw [e]
  rw [Int.neg_tmod, Int.tmod_eq_emod_of_nonneg (by omega)]
theorem tmod_lt (n t : Int) (ht : t = 1 ∨ t = 2 ∨ t = 4 ∨ t = 8 ∨ t = 16) (h : n.tmod t < 0) : n.tmod t + t = n % t := by
  by_cases hn : n < 0
  · rw [tmod_neg_form n t hn] at h ⊢
    rcases ht with rfl | rfl | rfl | rfl | rfl <;> omega
  · rw [Int.tmod_eq_emod_of_nonneg (by omega)] at h
    rcases ht with rfl | rfl | rfl | rfl | rfl <;> omega
theorem mod_wrap (n t : Int) (ht : t = 1 ∨ t = 2 ∨ t = 4 ∨ t = 8 ∨ t = 16) (h : n.tmod t < 0) : wrap64 (n.tmod t + t) = n % t := by
  rw [tmod_lt n t ht h]
  apply Go.IntWalk.wrap64_in
  rcases ht with rfl | rfl | rfl | rfl | rfl <;> omega
theorem tmod_ge (n t : Int) (ht : t = 1 ∨ t = 2 ∨ t = 4 ∨ t = 8 ∨ t = 16) (h : 0 ≤ n.tmod t) : n.tmod t = n % t := by
  by_cases hn : n < 0
  · rw [tmod_neg_form n t hn] at h ⊢
    rcases ht with rfl | rfl | rfl | rfl | rfl <;> omega
  · rw [Int.tmod_eq_emod_of_nonneg (by omega)]
theorem wbit_tab : ∀ m, m < 16 → ∀ k, k < 4 → bits .and .u32 ((m : Nat) / 2 ^ ((k : Nat) : Int).toNat) 1 = ((m : Nat) : Int) / two ((k : Nat) : Int) % 2 := by decide +kernel

theorem wbit_any (x i : Int) (w : World) (h0 : 0 ≤ x) (h1 : x < 16) (i0 : 0 ≤ i) (i1 : i ≤ 3) :
    Calls Tryz.prog 111 #[.int .u32 x, .int .i64 i] w fun e w' => e = .returned (.int .u32 (x / two i % 2)) ∧ w' = w := by
  obtain ⟨m, rfl⟩ := Int.eq_ofNat_of_zero_le h0
  obtain ⟨k, rfl⟩ := Int.eq_ofNat_of_zero_le i0
  go_enter Tryz.func111, Tryz.ntmps111
  go_wp2
  go_ret
  exact ⟨ret_int (wbit_tab m (by omega) k (by omega)), rfl⟩

/-- What a right number stands for, if its highest bit counts below 0. -/
def sgn (a n : Int) : Int := if n / two (a - 1) % 2 = 1 then n - two a else n
def sgnV (a n : Int) : Int := if okB a n = true then sgn a n else 0
theorem ok_of {a n : Int} (h : okB a n = true) : 1 ≤ a ∧ a ≤ 4 ∧ 0 ≤ n ∧ n < two a ∧ n < 16 := by
  simp [okB] at h
  have := two_vals a (by omega) (by omega)
  omega
end Go.Proofs.YtfopmobopmdahaaGreat
