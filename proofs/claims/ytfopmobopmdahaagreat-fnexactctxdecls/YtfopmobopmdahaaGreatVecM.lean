/- The arithmetic of numbers of a few bits, in plain integers: what each operation is, and tables that the program's way of reckoning it comes to the same. No program is read here. -/
import Derived.WalkKit
namespace Go.Proofs.YtfopmobopmdahaaGreat
open Go.RowKit

def two (n : Int) : Int := ((2 ^ n.toNat : Nat) : Int)
def bz (op x y : Int) : Int := if op = 4 then x + y - x * y else if op = 5 then (x + y) % 2 else x * y
def bitsN (op x y : Int) : Int := ((bz op (x / 8 % 2) (y / 8 % 2) * 2 + bz op (x / 4 % 2) (y / 4 % 2)) * 2 + bz op (x / 2 % 2) (y / 2 % 2)) * 2 + bz op (x / 1 % 2) (y / 1 % 2)
def shN (op a x y : Int) : Int :=
  if op = 11 then x * two (min y a) % two a else if op = 12 then x / two (min y a)
  else if x / two (a - 1) % 2 = 0 then x / two (min y a) else (two a - 1) - (two a - 1 - x) / two (min y a)
def binN (op a x y : Int) : Int :=
  if op = 3 ∨ op = 4 ∨ op = 5 then bitsN op x y else if op = 6 then (x + y) % two a else if op = 7 then (x - y) % two a else if op = 8 then x * y % two a
  else if op = 9 then (if y = 0 then two a - 1 else x / y) else if op = 10 then (if y = 0 then x else x % y) else shN op a x y
def unN (op a x : Int) : Int := if op = 1 then two a - 1 - x else (-x) % two a

/-- A table over all small numbers. -/
def tab (c : Int → Int → Int → Bool) : Bool := (List.range 5).all fun a => (List.range 16).all fun x => (List.range 16).all fun y => c (a : Int) (x : Int) (y : Int)
theorem tab_at {c : Int → Int → Int → Bool} (h : tab c = true) (a x y : Int) (a0 : 0 ≤ a) (a1 : a ≤ 4) (x0 : 0 ≤ x) (x1 : x < 16) (y0 : 0 ≤ y) (y1 : y < 16) : c a x y = true := by
  obtain ⟨a, rfl⟩ := Int.eq_ofNat_of_zero_le a0
  obtain ⟨x, rfl⟩ := Int.eq_ofNat_of_zero_le x0
  obtain ⟨y, rfl⟩ := Int.eq_ofNat_of_zero_le y0
  simp only [tab, List.all_eq_true, List.mem_range] at h
  exact h a (by omega) x (by omega) y (by omega)

theorem un1_tab : tab (fun a x y => !decide (1 ≤ a ∧ x < two a ∧ y < two a) || decide (0 ≤ bits .xor .u32 IntKind.u32.max x ∧ bits .xor .u32 IntKind.u32.max x ≤ 4294967295 ∧ (bits .xor .u32 IntKind.u32.max x) % two a = unN 1 a x)) = true := by decide +kernel
theorem un1_eq (x y a : Int) (i0 : 1 ≤ a) (i1 : a ≤ 4) (x0 : 0 ≤ x) (x1 : x < 16) (x2 : x < two a) (y0 : 0 ≤ y) (y1 : y < 16) (y2 : y < two a) : 0 ≤ bits .xor .u32 IntKind.u32.max x ∧ bits .xor .u32 IntKind.u32.max x ≤ 4294967295 ∧ (bits .xor .u32 IntKind.u32.max x) % two a = unN 1 a x := by
  have h := tab_at un1_tab a x y (by omega) i1 x0 x1 y0 y1
  rw [Bool.or_eq_true, Bool.not_eq_true', decide_eq_false_iff_not, decide_eq_true_eq] at h
  exact h.resolve_left (fun k => k ⟨i0, x2, y2⟩)
theorem un2_tab : tab (fun a x y => !decide (1 ≤ a ∧ x < two a ∧ y < two a) || decide (0 ≤ -x % 4294967296 ∧ -x % 4294967296 ≤ 4294967295 ∧ (-x % 4294967296) % two a = unN 2 a x)) = true := by decide +kernel
theorem un2_eq (x y a : Int) (i0 : 1 ≤ a) (i1 : a ≤ 4) (x0 : 0 ≤ x) (x1 : x < 16) (x2 : x < two a) (y0 : 0 ≤ y) (y1 : y < 16) (y2 : y < two a) : 0 ≤ -x % 4294967296 ∧ -x % 4294967296 ≤ 4294967295 ∧ (-x % 4294967296) % two a = unN 2 a x := by
  have h := tab_at un2_tab a x y (by omega) i1 x0 x1 y0 y1
  rw [Bool.or_eq_true, Bool.not_eq_true', decide_eq_false_iff_not, decide_eq_true_eq] at h
  exact h.resolve_left (fun k => k ⟨i0, x2, y2⟩)
theorem b1_tab : tab (fun a x y => !decide (1 ≤ a ∧ x < two a ∧ y < two a) || decide (0 ≤ bits .and .u32 x y ∧ bits .and .u32 x y ≤ 4294967295 ∧ (bits .and .u32 x y) % two a = binN 3 a x y)) = true := by decide +kernel
theorem b1_eq (x y a : Int) (i0 : 1 ≤ a) (i1 : a ≤ 4) (x0 : 0 ≤ x) (x1 : x < 16) (x2 : x < two a) (y0 : 0 ≤ y) (y1 : y < 16) (y2 : y < two a) : 0 ≤ bits .and .u32 x y ∧ bits .and .u32 x y ≤ 4294967295 ∧ (bits .and .u32 x y) % two a = binN 3 a x y := by
  have h := tab_at b1_tab a x y (by omega) i1 x0 x1 y0 y1
  rw [Bool.or_eq_true, Bool.not_eq_true', decide_eq_false_iff_not, decide_eq_true_eq] at h
  exact h.resolve_left (fun k => k ⟨i0, x2, y2⟩)
theorem b2_tab : tab (fun a x y => !decide (1 ≤ a ∧ x < two a ∧ y < two a) || decide (0 ≤ bits .or .u32 x y ∧ bits .or .u32 x y ≤ 4294967295 ∧ (bits .or .u32 x y) % two a = binN 4 a x y)) = true := by decide +kernel
theorem b2_eq (x y a : Int) (i0 : 1 ≤ a) (i1 : a ≤ 4) (x0 : 0 ≤ x) (x1 : x < 16) (x2 : x < two a) (y0 : 0 ≤ y) (y1 : y < 16) (y2 : y < two a) : 0 ≤ bits .or .u32 x y ∧ bits .or .u32 x y ≤ 4294967295 ∧ (bits .or .u32 x y) % two a = binN 4 a x y := by
  have h := tab_at b2_tab a x y (by omega) i1 x0 x1 y0 y1
  rw [Bool.or_eq_true, Bool.not_eq_true', decide_eq_false_iff_not, decide_eq_true_eq] at h
  exact h.resolve_left (fun k => k ⟨i0, x2, y2⟩)
theorem b3_tab : tab (fun a x y => !decide (1 ≤ a ∧ x < two a ∧ y < two a) || decide (0 ≤ bits .xor .u32 x y ∧ bits .xor .u32 x y ≤ 4294967295 ∧ (bits .xor .u32 x y) % two a = binN 5 a x y)) = true := by decide +kernel
theorem b3_eq (x y a : Int) (i0 : 1 ≤ a) (i1 : a ≤ 4) (x0 : 0 ≤ x) (x1 : x < 16) (x2 : x < two a) (y0 : 0 ≤ y) (y1 : y < 16) (y2 : y < two a) : 0 ≤ bits .xor .u32 x y ∧ bits .xor .u32 x y ≤ 4294967295 ∧ (bits .xor .u32 x y) % two a = binN 5 a x y := by
  have h := tab_at b3_tab a x y (by omega) i1 x0 x1 y0 y1
  rw [Bool.or_eq_true, Bool.not_eq_true', decide_eq_false_iff_not, decide_eq_true_eq] at h
  exact h.resolve_left (fun k => k ⟨i0, x2, y2⟩)
theorem b4_tab : tab (fun a x y => !decide (1 ≤ a ∧ x < two a ∧ y < two a) || decide (0 ≤ (x + y) ∧ (x + y) ≤ 4294967295 ∧ ((x + y)) % two a = binN 6 a x y)) = true := by decide +kernel
theorem b4_eq (x y a : Int) (i0 : 1 ≤ a) (i1 : a ≤ 4) (x0 : 0 ≤ x) (x1 : x < 16) (x2 : x < two a) (y0 : 0 ≤ y) (y1 : y < 16) (y2 : y < two a) : 0 ≤ (x + y) ∧ (x + y) ≤ 4294967295 ∧ ((x + y)) % two a = binN 6 a x y := by
  have h := tab_at b4_tab a x y (by omega) i1 x0 x1 y0 y1
  rw [Bool.or_eq_true, Bool.not_eq_true', decide_eq_false_iff_not, decide_eq_true_eq] at h
  exact h.resolve_left (fun k => k ⟨i0, x2, y2⟩)
theorem b5_tab : tab (fun a x y => !decide (1 ≤ a ∧ x < two a ∧ y < two a) || decide (0 ≤ (x - y) % 4294967296 ∧ (x - y) % 4294967296 ≤ 4294967295 ∧ ((x - y) % 4294967296) % two a = binN 7 a x y)) = true := by decide +kernel
theorem b5_eq (x y a : Int) (i0 : 1 ≤ a) (i1 : a ≤ 4) (x0 : 0 ≤ x) (x1 : x < 16) (x2 : x < two a) (y0 : 0 ≤ y) (y1 : y < 16) (y2 : y < two a) : 0 ≤ (x - y) % 4294967296 ∧ (x - y) % 4294967296 ≤ 4294967295 ∧ ((x - y) % 4294967296) % two a = binN 7 a x y := by
  have h := tab_at b5_tab a x y (by omega) i1 x0 x1 y0 y1
  rw [Bool.or_eq_true, Bool.not_eq_true', decide_eq_false_iff_not, decide_eq_true_eq] at h
  exact h.resolve_left (fun k => k ⟨i0, x2, y2⟩)
theorem b6_tab : tab (fun a x y => !decide (1 ≤ a ∧ x < two a ∧ y < two a) || decide (0 ≤ x * y % 4294967296 ∧ x * y % 4294967296 ≤ 4294967295 ∧ (x * y % 4294967296) % two a = binN 8 a x y)) = true := by decide +kernel
theorem b6_eq (x y a : Int) (i0 : 1 ≤ a) (i1 : a ≤ 4) (x0 : 0 ≤ x) (x1 : x < 16) (x2 : x < two a) (y0 : 0 ≤ y) (y1 : y < 16) (y2 : y < two a) : 0 ≤ x * y % 4294967296 ∧ x * y % 4294967296 ≤ 4294967295 ∧ (x * y % 4294967296) % two a = binN 8 a x y := by
  have h := tab_at b6_tab a x y (by omega) i1 x0 x1 y0 y1
  rw [Bool.or_eq_true, Bool.not_eq_true', decide_eq_false_iff_not, decide_eq_true_eq] at h
  exact h.resolve_left (fun k => k ⟨i0, x2, y2⟩)
theorem bdiv0_tab : tab (fun a x y => !decide (1 ≤ a ∧ x < two a ∧ y < two a ∧ y = 0) || decide (0 ≤ (two a - 1) ∧ (two a - 1) ≤ 4294967295 ∧ ((two a - 1)) % two a = binN 9 a x y)) = true := by decide +kernel
theorem bdiv0_eq (x y a : Int) (i0 : 1 ≤ a) (i1 : a ≤ 4) (x0 : 0 ≤ x) (x1 : x < 16) (x2 : x < two a) (y0 : 0 ≤ y) (y1 : y < 16) (y2 : y < two a) (hc : y = 0) : 0 ≤ (two a - 1) ∧ (two a - 1) ≤ 4294967295 ∧ ((two a - 1)) % two a = binN 9 a x y := by
  have h := tab_at bdiv0_tab a x y (by omega) i1 x0 x1 y0 y1
  rw [Bool.or_eq_true, Bool.not_eq_true', decide_eq_false_iff_not, decide_eq_true_eq] at h
  exact h.resolve_left (fun k => k ⟨i0, x2, y2, hc⟩)
theorem bdiv1_tab : tab (fun a x y => !decide (1 ≤ a ∧ x < two a ∧ y < two a ∧ y ≠ 0) || decide (0 ≤ x / y ∧ x / y ≤ 4294967295 ∧ (x / y) % two a = binN 9 a x y)) = true := by decide +kernel
theorem bdiv1_eq (x y a : Int) (i0 : 1 ≤ a) (i1 : a ≤ 4) (x0 : 0 ≤ x) (x1 : x < 16) (x2 : x < two a) (y0 : 0 ≤ y) (y1 : y < 16) (y2 : y < two a) (hc : y ≠ 0) : 0 ≤ x / y ∧ x / y ≤ 4294967295 ∧ (x / y) % two a = binN 9 a x y := by
  have h := tab_at bdiv1_tab a x y (by omega) i1 x0 x1 y0 y1
  rw [Bool.or_eq_true, Bool.not_eq_true', decide_eq_false_iff_not, decide_eq_true_eq] at h
  exact h.resolve_left (fun k => k ⟨i0, x2, y2, hc⟩)
theorem brem0_tab : tab (fun a x y => !decide (1 ≤ a ∧ x < two a ∧ y < two a ∧ y = 0) || decide (0 ≤ x ∧ x ≤ 4294967295 ∧ (x) % two a = binN 10 a x y)) = true := by decide +kernel
theorem brem0_eq (x y a : Int) (i0 : 1 ≤ a) (i1 : a ≤ 4) (x0 : 0 ≤ x) (x1 : x < 16) (x2 : x < two a) (y0 : 0 ≤ y) (y1 : y < 16) (y2 : y < two a) (hc : y = 0) : 0 ≤ x ∧ x ≤ 4294967295 ∧ (x) % two a = binN 10 a x y := by
  have h := tab_at brem0_tab a x y (by omega) i1 x0 x1 y0 y1
  rw [Bool.or_eq_true, Bool.not_eq_true', decide_eq_false_iff_not, decide_eq_true_eq] at h
  exact h.resolve_left (fun k => k ⟨i0, x2, y2, hc⟩)
theorem brem1_tab : tab (fun a x y => !decide (1 ≤ a ∧ x < two a ∧ y < two a ∧ y ≠ 0) || decide (0 ≤ x % y ∧ x % y ≤ 4294967295 ∧ (x % y) % two a = binN 10 a x y)) = true := by decide +kernel
theorem brem1_eq (x y a : Int) (i0 : 1 ≤ a) (i1 : a ≤ 4) (x0 : 0 ≤ x) (x1 : x < 16) (x2 : x < two a) (y0 : 0 ≤ y) (y1 : y < 16) (y2 : y < two a) (hc : y ≠ 0) : 0 ≤ x % y ∧ x % y ≤ 4294967295 ∧ (x % y) % two a = binN 10 a x y := by
  have h := tab_at brem1_tab a x y (by omega) i1 x0 x1 y0 y1
  rw [Bool.or_eq_true, Bool.not_eq_true', decide_eq_false_iff_not, decide_eq_true_eq] at h
  exact h.resolve_left (fun k => k ⟨i0, x2, y2, hc⟩)
theorem b7_tab : tab (fun a x y => !decide (1 ≤ a ∧ x < two a ∧ y < two a) || decide (0 ≤ x * 2 ^ y.toNat % 4294967296 ∧ x * 2 ^ y.toNat % 4294967296 ≤ 4294967295 ∧ (x * 2 ^ y.toNat % 4294967296) % two a = binN 11 a x y)) = true := by decide +kernel
theorem b7_eq (x y a : Int) (i0 : 1 ≤ a) (i1 : a ≤ 4) (x0 : 0 ≤ x) (x1 : x < 16) (x2 : x < two a) (y0 : 0 ≤ y) (y1 : y < 16) (y2 : y < two a) : 0 ≤ x * 2 ^ y.toNat % 4294967296 ∧ x * 2 ^ y.toNat % 4294967296 ≤ 4294967295 ∧ (x * 2 ^ y.toNat % 4294967296) % two a = binN 11 a x y := by
  have h := tab_at b7_tab a x y (by omega) i1 x0 x1 y0 y1
  rw [Bool.or_eq_true, Bool.not_eq_true', decide_eq_false_iff_not, decide_eq_true_eq] at h
  exact h.resolve_left (fun k => k ⟨i0, x2, y2⟩)
theorem b8_tab : tab (fun a x y => !decide (1 ≤ a ∧ x < two a ∧ y < two a) || decide (0 ≤ x / 2 ^ y.toNat ∧ x / 2 ^ y.toNat ≤ 4294967295 ∧ (x / 2 ^ y.toNat) % two a = binN 12 a x y)) = true := by decide +kernel
theorem b8_eq (x y a : Int) (i0 : 1 ≤ a) (i1 : a ≤ 4) (x0 : 0 ≤ x) (x1 : x < 16) (x2 : x < two a) (y0 : 0 ≤ y) (y1 : y < 16) (y2 : y < two a) : 0 ≤ x / 2 ^ y.toNat ∧ x / 2 ^ y.toNat ≤ 4294967295 ∧ (x / 2 ^ y.toNat) % two a = binN 12 a x y := by
  have h := tab_at b8_tab a x y (by omega) i1 x0 x1 y0 y1
  rw [Bool.or_eq_true, Bool.not_eq_true', decide_eq_false_iff_not, decide_eq_true_eq] at h
  exact h.resolve_left (fun k => k ⟨i0, x2, y2⟩)
theorem bsar0_tab : tab (fun a x y => !decide (1 ≤ a ∧ x < two a ∧ y < two a ∧ x / two (a - 1) % 2 = 0) || decide (0 ≤ x / 2 ^ y.toNat ∧ x / 2 ^ y.toNat ≤ 4294967295 ∧ (x / 2 ^ y.toNat) % two a = binN 13 a x y)) = true := by decide +kernel
theorem bsar0_eq (x y a : Int) (i0 : 1 ≤ a) (i1 : a ≤ 4) (x0 : 0 ≤ x) (x1 : x < 16) (x2 : x < two a) (y0 : 0 ≤ y) (y1 : y < 16) (y2 : y < two a) (hc : x / two (a - 1) % 2 = 0) : 0 ≤ x / 2 ^ y.toNat ∧ x / 2 ^ y.toNat ≤ 4294967295 ∧ (x / 2 ^ y.toNat) % two a = binN 13 a x y := by
  have h := tab_at bsar0_tab a x y (by omega) i1 x0 x1 y0 y1
  rw [Bool.or_eq_true, Bool.not_eq_true', decide_eq_false_iff_not, decide_eq_true_eq] at h
  exact h.resolve_left (fun k => k ⟨i0, x2, y2, hc⟩)
theorem bsar1_tab : tab (fun a x y => !decide (1 ≤ a ∧ x < two a ∧ y < two a ∧ x / two (a - 1) % 2 ≠ 0) || decide (0 ≤ bits .xor .u32 IntKind.u32.max ((bits .xor .u32 IntKind.u32.max x) % two a / 2 ^ y.toNat) ∧ bits .xor .u32 IntKind.u32.max ((bits .xor .u32 IntKind.u32.max x) % two a / 2 ^ y.toNat) ≤ 4294967295 ∧ (bits .xor .u32 IntKind.u32.max ((bits .xor .u32 IntKind.u32.max x) % two a / 2 ^ y.toNat)) % two a = binN 13 a x y)) = true := by decide +kernel
theorem bsar1_eq (x y a : Int) (i0 : 1 ≤ a) (i1 : a ≤ 4) (x0 : 0 ≤ x) (x1 : x < 16) (x2 : x < two a) (y0 : 0 ≤ y) (y1 : y < 16) (y2 : y < two a) (hc : x / two (a - 1) % 2 ≠ 0) : 0 ≤ bits .xor .u32 IntKind.u32.max ((bits .xor .u32 IntKind.u32.max x) % two a / 2 ^ y.toNat) ∧ bits .xor .u32 IntKind.u32.max ((bits .xor .u32 IntKind.u32.max x) % two a / 2 ^ y.toNat) ≤ 4294967295 ∧ (bits .xor .u32 IntKind.u32.max ((bits .xor .u32 IntKind.u32.max x) % two a / 2 ^ y.toNat)) % two a = binN 13 a x y := by
  have h := tab_at bsar1_tab a x y (by omega) i1 x0 x1 y0 y1
  rw [Bool.or_eq_true, Bool.not_eq_true', decide_eq_false_iff_not, decide_eq_true_eq] at h
  exact h.resolve_left (fun k => k ⟨i0, x2, y2, hc⟩)
end Go.Proofs.YtfopmobopmdahaaGreat
