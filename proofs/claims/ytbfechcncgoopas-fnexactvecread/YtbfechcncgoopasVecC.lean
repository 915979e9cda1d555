/- Contracts of the program's own VecSigned, vecPair, word.cut and word.vec. -/
import Derived.Test.YtbfechcncgoopasVecB
namespace Go.Proofs.Ytbfechcncgoopas
open Go.ChangeShapes Go.WideShapes Go.ChangeAt Go.RowKit Go.Joins
set_option linter.unusedVariables false

theorem cut_eq (x a : Int) (h0 : 0 ≤ x) (h1 : x ≤ 4294967295) (i0 : 1 ≤ a) (i1 : a ≤ 4) : bits .and .u32 x (two a - 1) = x % two a := by
  obtain ⟨m, rfl⟩ := Int.eq_ofNat_of_zero_le h0
  have h := two_vals a (by omega) i1
  rcases h with ⟨rfl, e⟩ | ⟨rfl, e⟩ | ⟨rfl, e⟩ | ⟨rfl, e⟩ | ⟨rfl, e⟩
  · omega
  · rw [e]; refine (u32_and_nat m 1 (by omega) (by omega)).trans ?_; rw [Nat.and_two_pow_sub_one_eq_mod m 1]; simp
  · rw [e]; refine (u32_and_nat m 3 (by omega) (by omega)).trans ?_; rw [Nat.and_two_pow_sub_one_eq_mod m 2]; simp
  · rw [e]; refine (u32_and_nat m 7 (by omega) (by omega)).trans ?_; rw [Nat.and_two_pow_sub_one_eq_mod m 3]; simp
  · rw [e]; refine (u32_and_nat m 15 (by omega) (by omega)).trans ?_; rw [Nat.and_two_pow_sub_one_eq_mod m 4]; simp

set_option maxHeartbeats 400000 in
theorem cut_any (x a : Int) (w : World) (h0 : 0 ≤ x) (h1 : x ≤ 4294967295) (i0 : 1 ≤ a) (i1 : a ≤ 4) :
    Calls Try.prog 17 #[.int .u32 x, .int .i64 a] w fun e w' => e = .returned (.int .u32 (x % two a)) ∧ w' = w := by
  go_enter Try.func17, Try.ntmps17
  go_wp2_with (go_at_call 18; refine (full_any _ _ (by omega) (by omega)).mono ?_; rintro e w' ⟨rfl, rfl⟩)
  go_ret
  exact ⟨ret_int (cut_eq x a h0 h1 i0 i1), rfl⟩
/-- What a function of the program's rows returns: a word that, cut to size, is R. -/
def Gives (a R : Int) (e : Ending) : Prop := ∃ v, e = .returned (.int .u32 v) ∧ 0 ≤ v ∧ v ≤ 4294967295 ∧ Hid (v % two a = R)
theorem gives {a R v : Int} (h : 0 ≤ v ∧ v ≤ 4294967295 ∧ v % two a = R) : Gives a R (.returned (.int .u32 v)) := ⟨v, rfl, h.1, h.2.1, h.2.2⟩

set_option maxHeartbeats 400000 in
theorem vec_any (x a : Int) (w : World) (h0 : 0 ≤ x) (h1 : x ≤ 4294967295) (i0 : 1 ≤ a) (i1 : a ≤ 4) :
    Calls Try.prog 13 #[.int .u32 x, .int .i64 a] w fun e w' => e = .returned (.agg #[.int .i64 a, .int .i64 (x % two a)]) ∧ w' = w.alloc (.cells #[.int .i64 a, .int .i64 (x % two a)] 23) := by
  have ht := two_vals a (by omega) i1
  have g0 : 0 ≤ x % two a := Int.emod_nonneg _ (by omega)
  have g1 : x % two a < two a := Int.emod_lt_of_pos _ (by omega)
  have g2 : x % two a < 16 := by omega
  clear ht
  go_enter Try.func13, Try.ntmps13
  go_wp2_with (go_at_call 17; refine (cut_any _ _ _ (by omega) (by omega) (by omega) (by omega)).mono ?_; rintro e w' ⟨rfl, rfl⟩)
  exact bodyPost_ret (v := .agg #[.int .i64 a, .int .i64 (x % two a)]) (by simp [results, Try.results13, go_sem]) rfl ⟨rfl, rfl⟩
end Go.Proofs.Ytbfechcncgoopas
