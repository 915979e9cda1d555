/- What wpLow of the laws returns, and how sums and products of numbers of a few bits go together. -/
import Derived.Test.YtbfechcncgoopaaVecW
import Derived.Test.YtbfechcncgoopaaVecT
namespace Go.Proofs.Ytbfechcncgoopaa
open Go.ChangeShapes Go.WideShapes Go.ChangeAt Go.RowKit Go.Joins
set_option linter.unusedVariables false

set_option maxHeartbeats 1000000 in
theorem wpLow_any (n a : Int) (w : World) (h0 : 0 ≤ n) (h1 : n < 16) (a1 : 1 ≤ a) (a2 : a ≤ 4) :
    Calls Try.prog 25 #[.int .i64 n, .int .i64 a] w fun e w' => e = .returned (.int .i64 (n % two a)) ∧ w' = w := by
  obtain ⟨m, rfl⟩ := Int.eq_ofNat_of_zero_le (show 0 ≤ a by omega)
  unfold two
  rw [Int.toNat_natCast]
  go_enter Try.func25, Try.ntmps25
  go_wp2
  go_loop [5, 6] (fun t i => ∃ k : Nat, k ≤ m ∧ i = .int .i64 k ∧ t = .int .i64 ((2 ^ k : Nat) : Int)) (fun _ i => m - (intOf i).toNat)
  case atStart => exact ⟨0, Nat.zero_le _, rfl, rfl⟩
  case round =>
    obtain ⟨k, hk, rfl, rfl⟩ := hrel
    have hp := pow_le20 k (by omega)
    have hs : 2 ^ (k + 1) = 2 ^ k * 2 := Nat.pow_succ 2 k
    have hpos : 0 < 2 ^ k := Nat.pow_pos (by omega)
    generalize hq : 2 ^ k = q at *
    generalize hq1 : 2 ^ (k + 1) = q1 at *
    by_cases hlt : k < m
    · have H1 := hide hq1
      have HS := hide hs
      have H0 := hide hq
      clear hq1 hs hq
      go_wp2
      go_round
      case rel => exact ⟨k + 1, by omega, by go_num, by rw [unhide H1, unhide HS]; go_num⟩
      case measure => simp [intOf]; omega
    · have e : k = m := by omega
      subst e
      have nz : ¬ (q : Int) = 0 := by omega
      have et : n.tmod (q : Int) = n % (q : Int) := Int.tmod_eq_emod_of_nonneg h0
      have r0 : 0 ≤ n % (q : Int) := Int.emod_nonneg _ nz
      have r1 : n % (q : Int) < q := Int.emod_lt_of_pos _ (by omega)
      have H0 := hide hq
      clear hs hq
      go_wp2
      go_ret
      exact ⟨ret_int (by rw [← unhide H0]; simp), rfl⟩
theorem ring_facts {a x y z : Int} (hx : okB a x = true) (hy : okB a y = true) (hz : okB a z = true) :
    binN 6 a x y = binN 6 a y x ∧ binN 8 a x y = binN 8 a y x ∧ binN 7 a (binN 6 a x y) y = x ∧ binN 6 a (binN 6 a x y) z = binN 6 a x (binN 6 a y z) ∧ binN 8 a (binN 8 a x y) z = binN 8 a x (binN 8 a y z) ∧ binN 8 a (binN 6 a x y) z = binN 6 a (binN 8 a x z) (binN 8 a y z) := by
  obtain ⟨h1, h2, x3, x4, x5⟩ := ok_of hx
  have e6 : ∀ x y, binN 6 a x y = (x + y) % two a := fun x y => by simp [binN]
  have e7 : ∀ x y, binN 7 a x y = (x - y) % two a := fun x y => by simp [binN]
  have e8 : ∀ x y, binN 8 a x y = x * y % two a := fun x y => by simp [binN]
  simp only [e6, e7, e8]
  generalize two a = T at *
  have ml : ∀ u v : Int, u % T * v % T = u * v % T := fun u v => by rw [Int.mul_emod, Int.emod_emod, ← Int.mul_emod]
  have mr : ∀ u v : Int, u * (v % T) % T = u * v % T := fun u v => by rw [Int.mul_emod, Int.emod_emod, ← Int.mul_emod]
  refine ⟨by rw [Int.add_comm], by rw [Int.mul_comm], ?_, ?_, ?_, ?_⟩
  · rw [Int.sub_emod, Int.emod_emod, ← Int.sub_emod, Int.add_sub_cancel]; exact Int.emod_eq_of_lt x3 x4
  · rw [Int.emod_add_emod, Int.add_emod_emod, Int.add_assoc]
  · rw [ml, mr, Int.mul_assoc]
  · rw [ml, Int.emod_add_emod, Int.add_emod_emod, Int.add_mul]
end Go.Proofs.Ytbfechcncgoopaa
