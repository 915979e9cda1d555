/- Terms that came in; how many parts and levels a term has, of the model and of the program. -/
import Derived.Test.YtaikhigeoebkjaaTrmA
import Derived.Test.YtaikhigeoebkjaaDecD
namespace Go.Proofs.Ytaikhigeoebkjaa
open Go.ChangeShapes Go.WideShapes Go.ChangeAt Go.RowKit Go.Joins
set_option linter.unusedVariables false

instance : Inhabited TT := ⟨.nil⟩
/-- How many parts the first k Kids have together, and how deep they are at most. -/
def TT.N : TT → Nat
  | .nil => 0
  | .node _ _ _ _ n kid => 1 + ((List.range n).map (fun i => (kid i).N)).sum
def TT.D : TT → Nat
  | .nil => 0
  | .node _ _ _ _ n kid => 1 + ((List.range n).map (fun i => (kid i).D)).foldl max 0
def sumN (f : Nat → Nat) : Nat → Nat
  | 0 => 0
  | k + 1 => sumN f k + f k
def maxN (f : Nat → Nat) : Nat → Nat
  | 0 => 0
  | k + 1 => max (maxN f k) (f k)
theorem sum_range (f : Nat → Nat) (n : Nat) : ((List.range n).map f).sum = sumN f n := by
  induction n with
  | zero => rfl
  | succ n ih => rw [List.range_succ, List.map_append, List.sum_append, ih]; simp [sumN]
theorem max_range (f : Nat → Nat) (n : Nat) : ((List.range n).map f).foldl max 0 = maxN f n := by
  induction n with
  | zero => rfl
  | succ n ih => rw [List.range_succ, List.map_append, List.foldl_append, ih]; simp [maxN]
theorem TT.N_node (op a b : Int) (s : ByteArray) (n : Nat) (kid : Nat → TT) : (TT.node op a b s n kid).N = 1 + sumN (fun i => (kid i).N) n := by rw [TT.N, sum_range]
theorem TT.D_node (op a b : Int) (s : ByteArray) (n : Nat) (kid : Nat → TT) : (TT.node op a b s n kid).D = 1 + maxN (fun i => (kid i).D) n := by rw [TT.D, max_range]
theorem sumN_mono (f : Nat → Nat) {k n : Nat} (h : k ≤ n) : sumN f k ≤ sumN f n := by
  induction n with
  | zero => have : k = 0 := by omega
            subst this; exact Nat.le_refl _
  | succ n ih =>
    by_cases e : k = n + 1
    · subst e; exact Nat.le_refl _
    · have := ih (by omega)
      simp only [sumN]; omega
theorem maxN_mono (f : Nat → Nat) {k n : Nat} (h : k ≤ n) : maxN f k ≤ maxN f n := by
  induction n with
  | zero => have : k = 0 := by omega
            subst this; exact Nat.le_refl _
  | succ n ih =>
    by_cases e : k = n + 1
    · subst e; exact Nat.le_refl _
    · have := ih (by omega)
      simp only [maxN]; omega
theorem TT.D_pos {w : World} {lo hi : Nat} {t : TT} {ad : Option Addr} (h : t.In w lo hi ad) : 1 ≤ t.D ∧ 1 ≤ t.N := by
  cases t with
  | nil => exact h.elim
  | node => rw [TT.D_node, TT.N_node]; omega
/-- What TermMany answers. -/
def manyV (N D : Nat) : Value := if N ≤ 20 ∧ D ≤ 7 then .tuple #[.int .i64 N, .int .i64 D] else .tuple #[.int .i64 21, .int .i64 8]
theorem manyV_yes {N D : Nat} (h : N ≤ 20 ∧ D ≤ 7) : manyV N D = .tuple #[.int .i64 N, .int .i64 D] := if_pos h
theorem manyV_no {N D : Nat} (h : ¬ (N ≤ 20 ∧ D ≤ 7)) : manyV N D = .tuple #[.int .i64 21, .int .i64 8] := if_neg h
theorem l1Max_any (a b : Int) (w : World) : Calls Try.prog 23 #[.int .i64 a, .int .i64 b] w fun e w' => e = .returned (.int .i64 (max a b)) ∧ w' = w := by
  by_cases h : b < a
  · go_enter Try.func23, Try.ntmps23
    go_wp2
    go_ret
    exact ⟨ret_int (by omega), rfl⟩
  · go_enter Try.func23, Try.ntmps23
    go_wp2
    go_ret
    exact ⟨ret_int (by omega), rfl⟩
theorem fz_later {w w' : World} {p : Addr} {v : Value} (hb : Below w.heap.size w w') (h : w.cell? p = some v) (hf : w.frozen? p = false) : w'.frozen? p = false := by rw [hb.frozen (World.block_lt_of_cell? _ _ h)]; exact hf
theorem pair_set {w : World} {B : Nat} {u0 u1 : Value} (x y : Value) (o : Obj) (q0 : w.cell? ⟨B, 0, none⟩ = some u0) (q1 : w.cell? ⟨B, 1, none⟩ = some u1) (f0 : w.frozen? ⟨B, 0, none⟩ = false) (f1 : w.frozen? ⟨B, 1, none⟩ = false) :
    (((w.setCell ⟨B, 0, none⟩ x).setCell ⟨B, 1, none⟩ y).alloc o).cell? ⟨B, 0, none⟩ = some x ∧ (((w.setCell ⟨B, 0, none⟩ x).setCell ⟨B, 1, none⟩ y).alloc o).cell? ⟨B, 1, none⟩ = some y ∧ (((w.setCell ⟨B, 0, none⟩ x).setCell ⟨B, 1, none⟩ y).alloc o).frozen? ⟨B, 0, none⟩ = false ∧ (((w.setCell ⟨B, 0, none⟩ x).setCell ⟨B, 1, none⟩ y).alloc o).frozen? ⟨B, 1, none⟩ = false := by
  have a0 := World.cell?_setCell_same w ⟨B, 0, none⟩ x q0
  have a1 : (w.setCell ⟨B, 0, none⟩ x).cell? ⟨B, 1, none⟩ = some u1 := by rw [World.cell?_setCell_other _ _ _ _ (by simp)]; exact q1
  have b0 : ((w.setCell ⟨B, 0, none⟩ x).setCell ⟨B, 1, none⟩ y).cell? ⟨B, 0, none⟩ = some x := by rw [World.cell?_setCell_other _ _ _ _ (by simp)]; exact a0
  have b1 := World.cell?_setCell_same _ ⟨B, 1, none⟩ y a1
  have g0 : ((w.setCell ⟨B, 0, none⟩ x).setCell ⟨B, 1, none⟩ y).frozen? ⟨B, 0, none⟩ = false := by simp [go_sem, f0]
  have g1 : ((w.setCell ⟨B, 0, none⟩ x).setCell ⟨B, 1, none⟩ y).frozen? ⟨B, 1, none⟩ = false := by simp [go_sem, f1]
  have hb := (Below.refl _ ((w.setCell ⟨B, 0, none⟩ x).setCell ⟨B, 1, none⟩ y)).alloc (Nat.le_refl _) o
  exact ⟨cell_later hb b0, cell_later hb b1, fz_later hb b0 g0, fz_later hb b1 g1⟩
end Go.Proofs.Ytaikhigeoebkjaa
