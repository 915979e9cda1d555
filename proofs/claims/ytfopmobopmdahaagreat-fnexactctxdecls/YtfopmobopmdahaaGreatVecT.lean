/- More tables of the arithmetic of numbers of a few bits: what is right stays right, and how the operations go together. No program is read here. -/
import Derived.Test.YtfopmobopmdahaaGreatVecB
namespace Go.Proofs.YtfopmobopmdahaaGreat
open Go.RowKit

theorem okB_of {a n : Int} (h1 : 1 ≤ a) (h2 : a ≤ 4) (h3 : 0 ≤ n) (h4 : n < two a) : okB a n = true := by simp [okB, h1, h2, h3, h4]
theorem un_tab : tab (fun a x _ => !decide (1 ≤ a ∧ x < two a) || decide ((0 ≤ unN 1 a x ∧ unN 1 a x < two a) ∧ (0 ≤ unN 2 a x ∧ unN 2 a x < two a) ∧ unN 1 a (unN 1 a x) = x ∧ unN 2 a (unN 2 a x) = x ∧ unN 2 a x = binN 6 a (unN 1 a x) 1)) = true := by decide +kernel
theorem un_facts {a x : Int} (hx : okB a x = true) : okB a (unN 1 a x) = true ∧ okB a (unN 2 a x) = true ∧ unN 1 a (unN 1 a x) = x ∧ unN 2 a (unN 2 a x) = x ∧ unN 2 a x = binN 6 a (unN 1 a x) 1 := by
  obtain ⟨h1, h2, h3, h4, h5⟩ := ok_of hx
  have h := tab_at un_tab a x 0 (by omega) h2 h3 h5 (by omega) (by omega)
  rw [Bool.or_eq_true, Bool.not_eq_true', decide_eq_false_iff_not, decide_eq_true_eq] at h
  obtain ⟨p, q, r, s, t⟩ := h.resolve_left (fun k => k ⟨h1, h4⟩)
  exact ⟨okB_of h1 h2 p.1 p.2, okB_of h1 h2 q.1 q.2, r, s, t⟩
theorem ok_one {a x : Int} (hx : okB a x = true) : okB a 1 = true := by
  obtain ⟨h1, h2, _, _, _⟩ := ok_of hx
  have := two_bd a h1 h2
  exact okB_of h1 h2 (by omega) (by omega)
def allOps (c : Int → Bool) : Bool := [3, 4, 5, 6, 7, 8, 9, 10, 11, 12, 13].all c
theorem bin_tab : tab (fun a x y => !decide (1 ≤ a ∧ x < two a ∧ y < two a) || allOps (fun op => decide (0 ≤ binN op a x y ∧ binN op a x y < two a))) = true := by decide +kernel
theorem bin_ok {a x y op : Int} (hx : okB a x = true) (hy : okB a y = true) (h3 : 3 ≤ op) (h13 : op ≤ 13) : okB a (binN op a x y) = true := by
  obtain ⟨h1, h2, x3, x4, x5⟩ := ok_of hx
  obtain ⟨_, _, y3, y4, y5⟩ := ok_of hy
  have h := tab_at bin_tab a x y (by omega) h2 x3 x5 y3 y5
  rw [Bool.or_eq_true, Bool.not_eq_true', decide_eq_false_iff_not] at h
  have k := h.resolve_left (fun k => k ⟨h1, x4, y4⟩)
  simp only [allOps, List.all_eq_true, decide_eq_true_eq] at k
  have m : op ∈ ([3, 4, 5, 6, 7, 8, 9, 10, 11, 12, 13] : List Int) := by
    have : op = 3 ∨ op = 4 ∨ op = 5 ∨ op = 6 ∨ op = 7 ∨ op = 8 ∨ op = 9 ∨ op = 10 ∨ op = 11 ∨ op = 12 ∨ op = 13 := by omega
    rcases this with rfl | rfl | rfl | rfl | rfl | rfl | rfl | rfl | rfl | rfl | rfl <;> simp
  have := k op m
  exact okB_of h1 h2 this.1 this.2
theorem bits_tab : tab (fun a x y => !decide (1 ≤ a ∧ x < two a ∧ y < two a) || decide (unN 1 a (binN 3 a x y) = binN 4 a (unN 1 a x) (unN 1 a y) ∧ binN 5 a x y = binN 7 a (binN 4 a x y) (binN 3 a x y) ∧ binN 6 a (binN 3 a x y) (binN 4 a x y) = binN 6 a x y ∧ binN 5 a (binN 5 a x y) y = x ∧ binN 3 a x (binN 4 a x y) = x ∧ binN 4 a x (binN 3 a x y) = x)) = true := by decide +kernel
theorem bits_facts {a x y : Int} (hx : okB a x = true) (hy : okB a y = true) : unN 1 a (binN 3 a x y) = binN 4 a (unN 1 a x) (unN 1 a y) ∧ binN 5 a x y = binN 7 a (binN 4 a x y) (binN 3 a x y) ∧ binN 6 a (binN 3 a x y) (binN 4 a x y) = binN 6 a x y ∧ binN 5 a (binN 5 a x y) y = x ∧ binN 3 a x (binN 4 a x y) = x ∧ binN 4 a x (binN 3 a x y) = x := by
  obtain ⟨h1, h2, x3, x4, x5⟩ := ok_of hx
  obtain ⟨_, _, y3, y4, y5⟩ := ok_of hy
  have h := tab_at bits_tab a x y (by omega) h2 x3 x5 y3 y5
  rw [Bool.or_eq_true, Bool.not_eq_true', decide_eq_false_iff_not, decide_eq_true_eq] at h
  exact h.resolve_left (fun k => k ⟨h1, x4, y4⟩)
end Go.Proofs.YtfopmobopmdahaaGreat
