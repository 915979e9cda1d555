/- Terms that came in; how many parts and levels a term has, of the model and of the program. -/
import Derived.Test.YtbcojkadfbpmgaaTrmA
import Derived.Test.YtbcojkadfbpmgaaDecD
namespace Go.Proofs.Ytbcojkadfbpmgaa
open Go.ChangeShapes Go.WideShapes Go.ChangeAt Go.RowKit Go.Joins
set_option linter.unusedVariables false

instance : Inhabited TT := ⟨.nil⟩
theorem cellsT : Try.prog.cellsOf 64 = 5 := by kernel_rfl
theorem size_getD {H : Type} (xs : List (DataW H)) (i : Nat) (hi : i < xs.length) (d : DataW H) : SizeOf.sizeOf (xs.getD i d) < SizeOf.sizeOf xs := by
  have : xs.getD i d ∈ xs := by simp [List.getD, hi]
  exact List.sizeOf_lt_of_mem this
set_option maxRecDepth 100000 in
theorem term_cells {H : Type} {enc : TypeId × Value → H} {w : World} {sp : Nat → Bool} {held : Bool} : ∀ (m fuel : Nat) (cs : List Value) (x : DataW H × List MemPlace), SizeOf.sizeOf x.1 < m → DataW.trod enc Try.prog w 0 sp held fuel 64 cs = some x →
    ∃ (t : TT) (ad : Option Addr) (cp : Nat), cs = [.int .i64 t.op, .int .i64 t.a, .int .i64 t.b, .string t.s, .slice ad t.n cp] ∧ t.n ≤ cp ∧ t.In w 0 w.heap.size ad ∧ t.Fit maxLen := by
  intro m
  induction m with
  | zero => intro fuel cs x hm; omega
  | succ m ih =>
    intro fuel cs x hm hx
    obtain ⟨xs, n, _, hxy, hcl, hxl, hf⟩ := DataW.trod_struct Try.underlying64 hx
    rw [cellsT] at hcl
    match xs, hxl, cs, hcl with
    | [y0, y1, y2, y3, y4], _, [v0, v1, v2, v3, v4], _ =>
      have g0 := hf 0 _ rfl
      have g1 := hf 1 _ rfl
      have g2 := hf 2 _ rfl
      have g3 := hf 3 _ rfl
      have g4 := hf 4 _ rfl
      have k0 : Try.prog.cellsOf 3 = 1 := by kernel_rfl
      have k1 : Try.prog.cellsOf 9 = 1 := by kernel_rfl
      have k2 : Try.prog.cellsOf 40 = 1 := by kernel_rfl
      simp [k0, k1, k2] at g0 g1 g2 g3 g4
      obtain ⟨op, e0, _, w0⟩ := DataW.trod_int Try.underlying3 g0
      obtain ⟨a, e1, _, w1⟩ := DataW.trod_int Try.underlying3 g1
      obtain ⟨b, e2, _, w2⟩ := DataW.trod_int Try.underlying3 g2
      obtain ⟨s, e3, _, w3⟩ := DataW.trod_string Try.underlying9 g3
      simp at e0 e1 e2 e3
      subst e0 e1 e2 e3
      have hd4 : SizeOf.sizeOf y4.1 < m := by
        have : x.1 = .agg [y0.1, y1.1, y2.1, y3.1, y4.1] := by rw [hxy]; rfl
        rw [this] at hm
        simp at hm
        omega
      rcases Go.Deep.open_slice Try.underlying40 g4 with ⟨hcs, _⟩ | ⟨ad, len, cap, mm, nn, D, Pl, hcs, _, hl, hmx, hmm, hy4, hel⟩
      · simp at hcs
        subst hcs
        exact ⟨.node op a b s 0 (fun _ => .nil), none, 0, rfl, Nat.le_refl _, Or.inl rfl, by unfold maxLen; omega, w3, fun i hi => by omega⟩
      · simp at hcs
        subst hcs
        have hlm : len ≤ mm := by rw [hmm]; split <;> omega
        have each : ∀ i, i < len → ∃ q : TT × Option Addr × Nat, w.cells? 0 (ad.add (i * 5)) 5 = some [.int .i64 q.1.op, .int .i64 q.1.a, .int .i64 q.1.b, .string q.1.s, .slice q.2.1 q.1.n q.2.2] ∧ q.1.n ≤ q.2.2 ∧ q.1.In w 0 w.heap.size q.2.1 ∧ q.1.Fit maxLen := by
          intro i hi
          obtain ⟨cs', h1, h2⟩ := hel i (by omega)
          rw [cellsT] at h1
          obtain ⟨t, x, c, rfl, h3, h4, h5⟩ := ih _ _ _ (by
            have : SizeOf.sizeOf (D i) < SizeOf.sizeOf y4.1 := by
              rw [hy4]
              have h1 : D i ∈ (List.range len).map D := List.mem_map.2 ⟨i, List.mem_range.2 hi, rfl⟩
              have h2 := List.sizeOf_lt_of_mem h1
              simp only [DataW.slice.sizeOf_spec]
              omega
            show SizeOf.sizeOf (D i) < m
            omega) h2
          exact ⟨(t, x, c), h1, h3, h4, h5⟩
        obtain ⟨q, hq⟩ := Go.Deep.choose_lt each
        refine ⟨.node op a b s len (fun i => (q i).1), some ad, cap, rfl, hl, ?_, by omega, w3, fun i hi => (hq i hi).2.2.2⟩
        by_cases h0 : len = 0
        · exact Or.inl h0
        · have cell : ∀ i, i < len → ∀ j, j < 5 → w.cell? ((ad.add (i * 5)).add j) = [Value.int .i64 (q i).1.op, .int .i64 (q i).1.a, .int .i64 (q i).1.b, .string (q i).1.s, .slice (q i).2.1 (q i).1.n (q i).2.2][j]? := by
            intro i hi j hj
            obtain ⟨_, _, hc⟩ := World.cells?_some (hq i hi).1
            exact hc j hj
          obtain ⟨bl, off, spot⟩ := ad
          have hspot : spot = none := by
            have := cell 0 (by omega) 0 (by omega)
            simpa [Addr.add] using World.cell?_spot this
          subst hspot
          simp only [Go.WideShapes.add_plain] at cell
          refine Or.inr ⟨bl, off, rfl, Nat.zero_le _, World.block_lt_of_cell? _ _ (cell 0 (by omega) 0 (by omega)), fun i => (q i).2.1, fun i => (q i).2.2, fun i hi => ⟨?_, (hq i hi).2.1, (hq i hi).2.2.1⟩⟩
          exact ⟨cell i hi 0 (by omega), cell i hi 1 (by omega), cell i hi 2 (by omega), cell i hi 3 (by omega), cell i hi 4 (by omega)⟩
set_option maxRecDepth 100000 in
theorem term_in {H : Type} {enc : TypeId × Value → H} {w : World} {r : Reach} {b0 : Nat} {v : Value} {d : DataW H} {p : List MemPlace} {sp : Nat → Bool} {held : Bool} (hv : Value.okWide Try.prog w r b0 64 v)
    (h : DataW.Trod enc Try.prog w 0 sp held 64 v d p) : ∃ (t : TT) (ad : Option Addr) (cp : Nat), v = .agg #[.int .i64 t.op, .int .i64 t.a, .int .i64 t.b, .string t.s, .slice ad t.n cp] ∧ t.n ≤ cp ∧ t.In w 0 w.heap.size ad ∧ t.Fit maxLen := by
  obtain ⟨cs, rfl, hsz⟩ := okWide_struct Try.underlying64 hv
  obtain ⟨fuel, hf⟩ := h
  obtain ⟨t, ad, cp, hcs, h1, h2, h3⟩ := term_cells _ _ _ _ (Nat.lt_succ_self _) hf
  refine ⟨t, ad, cp, ?_, h1, h2, h3⟩
  congr 1
  apply Array.ext'
  simpa [Value.cells] using hcs
/-- How many parts the first k Kids have together, and how deep they are at most. -/
def TT.N : TT → Nat
  | .nil => 0
  | .node _ _ _ _ n kid => 1 + ((List.range n).map (fun i => (kid i).N)).sum
def TT.D : TT → Nat
  | .nil => 0
  | .node _ _ _ _ n kid => 1 + ((List.range n).map (fun i => (kid i).D)).foldl max 0
def sumN (f : Nat → Nat) : Nat → Nat
  | 0 => 0
  | k + 1 => sumN f k + f k
def maxN (f : Nat → Nat) : Nat → Nat
  | 0 => 0
  | k + 1 => max (maxN f k) (f k)
theorem sum_range (f : Nat → Nat) (n : Nat) : ((List.range n).map f).sum = sumN f n := by
  induction n with
  | zero => rfl
  | succ n ih => rw [List.range_succ, List.map_append, List.sum_append, ih]; simp [sumN]
theorem max_range (f : Nat → Nat) (n : Nat) : ((List.range n).map f).foldl max 0 = maxN f n := by
  induction n with
  | zero => rfl
  | succ n ih => rw [List.range_succ, List.map_append, List.foldl_append, ih]; simp [maxN]
theorem TT.N_node (op a b : Int) (s : ByteArray) (n : Nat) (kid : Nat → TT) : (TT.node op a b s n kid).N = 1 + sumN (fun i => (kid i).N) n := by rw [TT.N, sum_range]
theorem TT.D_node (op a b : Int) (s : ByteArray) (n : Nat) (kid : Nat → TT) : (TT.node op a b s n kid).D = 1 + maxN (fun i => (kid i).D) n := by rw [TT.D, max_range]
theorem sumN_mono (f : Nat → Nat) {k n : Nat} (h : k ≤ n) : sumN f k ≤ sumN f n := by
  induction n with
  | zero => have : k = 0 := by omega
            subst this; exact Nat.le_refl _
  | succ n ih =>
    by_cases e : k = n + 1
    · subst e; exact Nat.le_refl _
    · have := ih (by omega)
      simp only [sumN]; omega
theorem maxN_mono (f : Nat → Nat) {k n : Nat} (h : k ≤ n) : maxN f k ≤ maxN f n := by
  induction n with
  | zero => have : k = 0 := by omega
            subst this; exact Nat.le_refl _
  | succ n ih =>
    by_cases e : k = n + 1
    · subst e; exact Nat.le_refl _
    · have := ih (by omega)
      simp only [maxN]; omega
theorem TT.D_pos {w : World} {lo hi : Nat} {t : TT} {ad : Option Addr} (h : t.In w lo hi ad) : 1 ≤ t.D ∧ 1 ≤ t.N := by
  cases t with
  | nil => exact h.elim
  | node => rw [TT.D_node, TT.N_node]; omega
/-- What TermMany answers. -/
def manyV (N D : Nat) : Value := if N ≤ 20 ∧ D ≤ 7 then .tuple #[.int .i64 N, .int .i64 D] else .tuple #[.int .i64 21, .int .i64 8]
theorem manyV_yes {N D : Nat} (h : N ≤ 20 ∧ D ≤ 7) : manyV N D = .tuple #[.int .i64 N, .int .i64 D] := if_pos h
theorem manyV_no {N D : Nat} (h : ¬ (N ≤ 20 ∧ D ≤ 7)) : manyV N D = .tuple #[.int .i64 21, .int .i64 8] := if_neg h
theorem fz_later {w w' : World} {p : Addr} {v : Value} (hb : Below w.heap.size w w') (h : w.cell? p = some v) (hf : w.frozen? p = false) : w'.frozen? p = false := by rw [hb.frozen (World.block_lt_of_cell? _ _ h)]; exact hf
theorem pair_set {w : World} {B : Nat} {u0 u1 : Value} (x y : Value) (o : Obj) (q0 : w.cell? ⟨B, 0, none⟩ = some u0) (q1 : w.cell? ⟨B, 1, none⟩ = some u1) (f0 : w.frozen? ⟨B, 0, none⟩ = false) (f1 : w.frozen? ⟨B, 1, none⟩ = false) :
    (((w.setCell ⟨B, 0, none⟩ x).setCell ⟨B, 1, none⟩ y).alloc o).cell? ⟨B, 0, none⟩ = some x ∧ (((w.setCell ⟨B, 0, none⟩ x).setCell ⟨B, 1, none⟩ y).alloc o).cell? ⟨B, 1, none⟩ = some y ∧ (((w.setCell ⟨B, 0, none⟩ x).setCell ⟨B, 1, none⟩ y).alloc o).frozen? ⟨B, 0, none⟩ = false ∧ (((w.setCell ⟨B, 0, none⟩ x).setCell ⟨B, 1, none⟩ y).alloc o).frozen? ⟨B, 1, none⟩ = false := by
  have a0 := World.cell?_setCell_same w ⟨B, 0, none⟩ x q0
  have a1 : (w.setCell ⟨B, 0, none⟩ x).cell? ⟨B, 1, none⟩ = some u1 := by rw [World.cell?_setCell_other _ _ _ _ (by simp)]; exact q1
  have b0 : ((w.setCell ⟨B, 0, none⟩ x).setCell ⟨B, 1, none⟩ y).cell? ⟨B, 0, none⟩ = some x := by rw [World.cell?_setCell_other _ _ _ _ (by simp)]; exact a0
  have b1 := World.cell?_setCell_same _ ⟨B, 1, none⟩ y a1
  have g0 : ((w.setCell ⟨B, 0, none⟩ x).setCell ⟨B, 1, none⟩ y).frozen? ⟨B, 0, none⟩ = false := by simp [go_sem, f0]
  have g1 : ((w.setCell ⟨B, 0, none⟩ x).setCell ⟨B, 1, none⟩ y).frozen? ⟨B, 1, none⟩ = false := by simp [go_sem, f1]
  have hb := (Below.refl _ ((w.setCell ⟨B, 0, none⟩ x).setCell ⟨B, 1, none⟩ y)).alloc (Nat.le_refl _) o
  exact ⟨cell_later hb b0, cell_later hb b1, fz_later hb b0 g0, fz_later hb b1 g1⟩
end Go.Proofs.Ytbcojkadfbpmgaa
