/- Terms that came in; how many parts and levels a term has, of the model and of the program. -/
import Derived.Test.YtfopmobopmdahaaGreatTrmA
import Derived.Test.YtfopmobopmdahaaGreatDecD
namespace Go.Proofs.YtfopmobopmdahaaGreat
open Go.ChangeShapes Go.WideShapes Go.ChangeAt Go.RowKit Go.Joins
set_option linter.unusedVariables false

instance : Inhabited TT := ⟨.nil⟩
theorem cellsT : Tryz.prog.cellsOf 45 = 5 := by kernel_rfl
theorem size_getD {H : Type} (xs : List (DataW H)) (i : Nat) (hi : i < xs.length) (d : DataW H) : SizeOf.sizeOf (xs.getD i d) < SizeOf.sizeOf xs := by
  have : xs.getD i d ∈ xs := by simp [List.getD, hi]
  exact List.sizeOf_lt_of_mem this
set_option maxRecDepth 100000 in
theorem term_cells {H : Type} {enc : TypeId × Value → H} {w : World} {sp : Nat → Bool} {held : Bool} : ∀ (m fuel : Nat) (cs : List Value) (x : DataW H × List MemPlace), SizeOf.sizeOf x.1 < m → DataW.trod enc Tryz.prog w 0 sp held fuel 45 cs = some x →
    ∃ (t : TT) (ad : Option Addr) (cp : Nat), cs = [.int .i64 t.op, .int .i64 t.a, .int .i64 t.b, .string t.s, .slice ad t.n cp] ∧ t.n ≤ cp ∧ t.In w 0 w.heap.size ad ∧ t.Fit maxLen := by
  intro m
  induction m with
  | zero => intro fuel cs x hm; omega
  | succ m ih =>
    intro fuel cs x hm hx
    obtain ⟨xs, n, _, hxy, hcl, hxl, hf⟩ := DataW.trod_struct Tryz.underlying45 hx
    rw [cellsT] at hcl
    match xs, hxl, cs, hcl with
    | [y0, y1, y2, y3, y4], _, [v0, v1, v2, v3, v4], _ =>
      have g0 := hf 0 _ rfl
      have g1 := hf 1 _ rfl
      have g2 := hf 2 _ rfl
      have g3 := hf 3 _ rfl
      have g4 := hf 4 _ rfl
      have k0 : Tryz.prog.cellsOf 3 = 1 := by kernel_rfl
      have k1 : Tryz.prog.cellsOf 9 = 1 := by kernel_rfl
      have k2 : Tryz.prog.cellsOf 43 = 1 := by kernel_rfl
      simp [k0, k1, k2] at g0 g1 g2 g3 g4
      obtain ⟨op, e0, _, w0⟩ := DataW.trod_int Tryz.underlying3 g0
      obtain ⟨a, e1, _, w1⟩ := DataW.trod_int Tryz.underlying3 g1
      obtain ⟨b, e2, _, w2⟩ := DataW.trod_int Tryz.underlying3 g2
      obtain ⟨s, e3, _, w3⟩ := DataW.trod_string Tryz.underlying9 g3
      simp at e0 e1 e2 e3
      subst e0 e1 e2 e3
      have hd4 : SizeOf.sizeOf y4.1 < m := by
        have : x.1 = .agg [y0.1, y1.1, y2.1, y3.1, y4.1] := by rw [hxy]; rfl
        rw [this] at hm
        simp at hm
        omega
      rcases Go.Deep.open_slice Tryz.underlying43 g4 with ⟨hcs, _⟩ | ⟨ad, len, cap, mm, nn, D, Pl, hcs, _, hl, hmx, hmm, hy4, hel⟩
      · simp at hcs
        subst hcs
        exact ⟨.node op a b s 0 (fun _ => .nil), none, 0, rfl, Nat.le_refl _, Or.inl rfl, by unfold maxLen; omega, w3, fun i hi => by omega⟩
      · simp at hcs
        subst hcs
        have hlm : len ≤ mm := by rw [hmm]; split <;> omega
        have each : ∀ i, i < len → ∃ q : TT × Option Addr × Nat, w.cells? 0 (ad.add (i * 5)) 5 = some [.int .i64 q.1.op, .int .i64 q.1.a, .int .i64 q.1.b, .string q.1.s, .slice q.2.1 q.1.n q.2.2] ∧ q.1.n ≤ q.2.2 ∧ q.1.In w 0 w.heap.size q.2.1 ∧ q.1.Fit maxLen := by
          intro i hi
          obtain ⟨cs', h1, h2⟩ := hel i (by omega)
          rw [cellsT] at h1
          obtain ⟨t, x, c, rfl, h3, h4, h5⟩ := ih _ _ _ (by
            have : SizeOf.sizeOf (D i) < SizeOf.sizeOf y4.1 := by
              rw [hy4]
              have h1 : D i ∈ (List.range len).map D := List.mem_map.2 ⟨i, List.mem_range.2 hi, rfl⟩
              have h2 := List.sizeOf_lt_of_mem h1
              simp only [DataW.slice.sizeOf_spec]
              omega
            show SizeOf.sizeOf (D i) < m
            omega) h2
          exact ⟨(t, x, c), h1, h3, h4, h5⟩
        obtain ⟨q, hq⟩ := Go.Deep.choose_lt each
        refine ⟨.node op a b s len (fun i => (q i).1), some ad, cap, rfl, hl, ?_, by omega, w3, fun i hi => (hq i hi).2.2.2⟩
        by_cases h0 : len = 0
        · exact Or.inl h0
        · have cell : ∀ i, i < len → ∀ j, j < 5 → w.cell? ((ad.add (i * 5)).add j) = [Value.int .i64 (q i).1.op, .int .i64 (q i).1.a, .int .i64 (q i).1.b, .string (q i).1.s, .slice (q i).2.1 (q i).1.n (q i).2.2][j]? := by
            intro i hi j hj
            obtain ⟨_, _, hc⟩ := World.cells?_some (hq i hi).1
            exact hc j hj
          obtain ⟨bl, off, spot⟩ := ad
          have hspot : spot = none := by
            have := cell 0 (by omega) 0 (by omega)
            simpa [Addr.add] using World.cell?_spot this
          subst hspot
          simp only [Go.WideShapes.add_plain] at cell
          refine Or.inr ⟨bl, off, rfl, Nat.zero_le _, World.block_lt_of_cell? _ _ (cell 0 (by omega) 0 (by omega)), fun i => (q i).2.1, fun i => (q i).2.2, fun i hi => ⟨?_, (hq i hi).2.1, (hq i hi).2.2.1⟩⟩
          exact ⟨cell i hi 0 (by omega), cell i hi 1 (by omega), cell i hi 2 (by omega), cell i hi 3 (by omega), cell i hi 4 (by omega)⟩
set_option maxRecDepth 100000 in
theorem term_in {H : Type} {enc : TypeId × Value → H} {w : World} {r : Reach} {b0 : Nat} {v : Value} {d : DataW H} {p : List MemPlace} {sp : Nat → Bool} {held : Bool} (hv : Value.okWide Tryz.prog w r b0 45 v)
    (h : DataW.Trod enc Tryz.prog w 0 sp held 45 v d p) : ∃ (t : TT) (ad : Option Addr) (cp : Nat), v = .agg #[.int .i64 t.op, .int .i64 t.a, .int .i64 t.b, .string t.s, .slice ad t.n cp] ∧ t.n ≤ cp ∧ t.In w 0 w.heap.size ad ∧ t.Fit maxLen := by
  obtain ⟨cs, rfl, hsz⟩ := okWide_struct Tryz.underlying45 hv
  obtain ⟨fuel, hf⟩ := h
  obtain ⟨t, ad, cp, hcs, h1, h2, h3⟩ := term_cells _ _ _ _ (Nat.lt_succ_self _) hf
  refine ⟨t, ad, cp, ?_, h1, h2, h3⟩
  congr 1
  apply Array.ext'
  simpa [Value.cells] using hcs
/-- How many parts the first k Kids have together, and how deep they are at most. -/
def TT.N : TT → Nat
  | .nil => 0
  | .node _ _ _ _ n kid => 1 + ((List.range n).map (fun i => (kid i).N)).sum
def TT.D : TT → Nat
  | .nil => 0
  | .node _ _ _ _ n kid => 1 + ((List.range n).map (fun i => (kid i).D)).foldl max 0
def sumN (f : Nat → Nat) : Nat → Nat
  | 0 => 0
  | k + 1 => sumN f k + f k
def maxN (f : Nat → Nat) : Nat → Nat
  | 0 => 0
  | k + 1 => max (maxN f k) (f k)
theorem sum_range (f : Nat → Nat) (n : Nat) : ((List.range n).map f).sum = sumN f n := by
  induction n with
  | zero => rfl
  | succ n ih => rw [List.range_succ, List.map_append, List.sum_append, ih]; simp [sumN]
theorem max_range (f : Nat → Nat) (n : Nat) : ((List.range n).map f).foldl max 0 = maxN f n := by
  induction n with
  | zero => rfl
  | succ n ih => rw [List.range_succ, List.map_append, List.foldl_append, ih]; simp [maxN]
theorem TT.N_node (op a b : Int) (s : ByteArray) (n : Nat) (kid : Nat → TT) : (TT.node op a b s n kid).N = 1 + sumN (fun i => (kid i).N) n := by rw [TT.N, sum_range]
theorem TT.D_node (op a b : Int) (s : ByteArray) (n : Nat) (kid : Nat → TT) : (TT.node op a b s n kid).D = 1 + maxN (fun i => (kid i).D) n := by rw [TT.D, max_range]
theorem sumN_mono (f : Nat → Nat) {k n : Nat} (h : k ≤ n) : sumN f k ≤ sumN f n := by
  induction n with
  | zero => have : k = 0 := by omega
            subst this; exact Nat.le_refl _
  | succ n ih =>
    by_cases e : k = n + 1
    · subst e; exact Nat.le_refl _
    · have := ih (by omega)
      simp only [sumN]; omega
theorem maxN_mono (f : Nat → Nat) {k n : Nat} (h : k ≤ n) : maxN f k ≤ maxN f n := by
  induction n with
  | zero => have : k = 0 := by omega
            subst this; exact Nat.le_refl _
  | succ n ih =>
    by_cases e : k = n + 1
    · subst e; exact Nat.le_refl _
    · have := ih (by omega)
      simp only [maxN]; omega
theorem TT.D_pos {w : World} {lo hi : Nat} {t : TT} {ad : Option Addr} (h : t.In w lo hi ad) : 1 ≤ t.D ∧ 1 ≤ t.N := by
  cases t with
  | nil => exact h.elim
  | node => rw [TT.D_node, TT.N_node]; omega
/-- What TermMany answers. -/
def manyV (N D : Nat) : Value := if N ≤ 20 ∧ D ≤ 7 then .tuple #[.int .i64 N, .int .i64 D] else .tuple #[.int .i64 21, .int .i64 8]
theorem manyV_yes {N D : Nat} (h : N ≤ 20 ∧ D ≤ 7) : manyV N D = .tuple #[.int .i64 N, .int .i64 D] := if_pos h
theorem manyV_no {N D : Nat} (h : ¬ (N ≤ 20 ∧ D ≤ 7)) : manyV N D = .tuple #[.int .i64 21, .int .i64 8] := if_neg h
theorem l1Max_any (a b : Int) (w : World) : Calls Tryz.prog 73 #[.int .i64 a, .int .i64 b] w fun e w' => e = .returned (.int .i64 (max a b)) ∧ w' = w := by
  by_cases h : b < a
  · go_enter Tryz.func73, Tryz.ntmps73
    go_wp2
    go_ret
    exact ⟨ret_int (by omega), rfl⟩
  · go_enter Tryz.func73, Tryz.ntmps73
    go_wp2
    go_ret
    exact ⟨ret_int (by omega), rfl⟩
set_option maxRecDepth 100000 in
set_option maxHeartbeats 4000000 in
theorem sMany_any (hi : Nat) (t : TT) : ∀ (ad : Option Addr) (cp : Nat) (w : World), t.In w 0 hi ad → t.Fit 1048576 → hi ≤ w.heap.size →
    Calls Tryz.prog 64 #[.agg #[.int .i64 t.op, .int .i64 t.a, .int .i64 t.b, .string t.s, .slice ad t.n cp]] w fun e w' => e = .returned (manyV t.N t.D) ∧ Below w.heap.size w w' := by
  induction t with
  | nil => intro ad cp w hin; exact hin.elim
  | node op a b s n kid ih =>
    intro ad cp w hin hft hhi
    rw [TT.N_node, TT.D_node]
    show Calls Tryz.prog 64 #[.agg #[.int .i64 op, .int .i64 a, .int .i64 b, .string s, .slice ad n cp]] w _
    obtain ⟨fn, fs, fk⟩ := hft
    have IH := hide ih
    have FK := hide fk
    clear ih fk
    rcases hin with rfl | ⟨bl, off, rfl, hlo, hbl, AD, CP, hd⟩
    · go_enter Tryz.func64, Tryz.ntmps64
      go_wp2
      go_loopw [4, 5, 6] (fun c d i wr => i = .int .i64 0 ∧ c = .int .i64 1 ∧ d = .int .i64 0 ∧ wr.cell? ⟨w.heap.size, 4, none⟩ = some (.slice ad 0 cp) ∧ Below w.heap.size w wr) (fun _ _ _ _ => 0)
      case atStart => exact ⟨rfl, rfl, rfl, by simp [go_sem], (by repeat (first | exact Below.refl _ _ | assumption | refine below_drewN ?_ _ | refine Below.drew ?_ | refine Below.alloc ?_ (by first | exact Nat.le_refl _ | exact Below.size (by assumption) | (simp; done) | (simp; omega)) _ | refine Below.setCell ?_ (by first | exact Nat.le_refl _ | exact Below.size (by assumption) | (simp; done) | (simp; omega)) _ | refine Below.trans ?_ (by assumption)))⟩
      case round =>
        obtain ⟨rfl, rfl, rfl, c4, hbel⟩ := hrel
        go_wp2
        exact bodyPost_ret (v := manyV (1 + 0) (1 + 0)) (by simp [results, Tryz.results64, go_sem, manyV]) rfl ⟨rfl, hbel⟩
    · have HD := hide hd
      clear hd
      go_enter Tryz.func64, Tryz.ntmps64
      go_wp2
      go_loopw [4, 5, 6] (fun c d i wr => ∃ (k x y : Nat), k ≤ n ∧ x ≤ 45 ∧ y ≤ 8 ∧ i = .int .i64 k ∧ c = .int .i64 x ∧ d = .int .i64 y ∧ ((x = 1 + sumN (fun i => (kid i).N) k ∧ y = maxN (fun i => (kid i).D) k) ∨ (21 ≤ x ∧ ¬ (1 + sumN (fun i => (kid i).N) n ≤ 20 ∧ 1 + maxN (fun i => (kid i).D) n ≤ 7))) ∧ wr.cell? ⟨w.heap.size, 4, none⟩ = some (.slice (some ⟨bl, off, none⟩) n cp) ∧ w.heap.size < wr.heap.size ∧ Below w.heap.size w wr) (fun _ _ i _ => n - (intOf i).toNat)
      case atStart => exact ⟨0, 1, 0, by omega, by omega, by omega, rfl, rfl, rfl, Or.inl ⟨rfl, rfl⟩, by simp [go_sem], by simp, (by repeat (first | exact Below.refl _ _ | assumption | refine below_drewN ?_ _ | refine Below.drew ?_ | refine Below.alloc ?_ (by first | exact Nat.le_refl _ | exact Below.size (by assumption) | (simp; done) | (simp; omega)) _ | refine Below.setCell ?_ (by first | exact Nat.le_refl _ | exact Below.size (by assumption) | (simp; done) | (simp; omega)) _ | refine Below.trans ?_ (by assumption)))⟩
      case round =>
        obtain ⟨k, x, y, hk, hx, hy, rfl, rfl, rfl, hst, c4, hws, hbel⟩ := hrel
        by_cases hx20 : x ≤ 20
        · obtain ⟨ex, ey⟩ := hst.resolve_right (by omega)
          clear hst
          by_cases hlt : k < n
          · obtain ⟨h5, hcp, hin⟩ := unhide HD k hlt
            obtain ⟨c0, c1, c2, c3, c5⟩ := h5.keep (w' := wr) (fun o => hbel.cell (p := ⟨bl, o, none⟩) (Nat.lt_of_lt_of_le hbl hhi))
            have hin' := hin.later (hbel.mono hhi)
            have HM := hide (sumN_mono (fun i => (kid i).N) (show k + 1 ≤ n from hlt))
            have HX := hide (maxN_mono (fun i => (kid i).D) (show k + 1 ≤ n from hlt))
            have HE := hide ex
            have HY := hide ey
            clear ex ey
            go_wp2_with fail
            refine (unhide IH k _ _ _ hin' (unhide FK k hlt) (Nat.le_trans hhi hbel.size)).mono ?_
            rintro e w1 ⟨rfl, b1⟩
            have d4 := cell_later b1 c4
            have b2 := hbel.trans (b1.mono hbel.size)
            have l2 := Nat.lt_of_lt_of_le hws b1.size
            clear b1 c0 c1 c2 c3 c4 c5 hin' hin h5
            by_cases hsm : (kid k).N ≤ 20 ∧ (kid k).D ≤ 7
            · rw [manyV_yes hsm]
              obtain ⟨s1, s2⟩ := hsm
              go_wp2_with fail
              refine (l1Max_any _ _ _).mono ?_
              rintro e w2 ⟨rfl, rfl⟩
              go_wp2
              go_roundw
              case rel =>
                refine ⟨k + 1, x + (kid k).N, max y (kid k).D, by omega, by omega, by omega, by go_num, by go_num, by rw [show ((max y (kid k).D : Nat) : Int) = max (y : Int) ((kid k).D : Int) from by omega], Or.inl ⟨?_, ?_⟩, d4, l2, b2⟩
                · rw [unhide HE]; simp only [sumN]; omega
                · rw [unhide HY]; rfl
              case measure => simp [intOf]; omega
            · rw [manyV_no hsm]
              have HS := hide hsm
              clear hsm
              go_wp2_with fail
              refine (l1Max_any _ _ _).mono ?_
              rintro e w2 ⟨rfl, rfl⟩
              go_wp2
              go_roundw
              case rel =>
                refine ⟨k + 1, x + 21, 8, by omega, by omega, by omega, by go_num, by go_num, by rw [show max (y : Int) 8 = 8 from by omega]; rfl, Or.inr ⟨by omega, ?_⟩, d4, l2, b2⟩
                intro hh
                have h1 := unhide HM
                have h2 := unhide HX
                simp only [sumN, maxN] at h1 h2
                exact unhide HS ⟨by omega, by omega⟩
              case measure => simp [intOf]; omega
          · have e : k = n := by omega
            subst e
            have HE := hide ex
            have HY := hide ey
            clear ex ey
            by_cases hy6 : y ≤ 6
            · have HV : Hid (manyV (1 + sumN (fun i => (kid i).N) k) (1 + maxN (fun i => (kid i).D) k) = .tuple #[.int .i64 x, .int .i64 ((y : Int) + 1)]) := by
                rw [← unhide HE, ← unhide HY]
                show manyV x (1 + y) = _
                rw [manyV_yes ⟨hx20, by omega⟩, show ((1 + y : Nat) : Int) = (y : Int) + 1 from by omega]
              go_wp2
              exact bodyPost_ret (v := .tuple #[.int .i64 x, .int .i64 ((y : Int) + 1)]) (by simp [results, Tryz.results64, go_sem]) rfl ⟨by rw [unhide HV], hbel⟩
            · have HV : Hid (manyV (1 + sumN (fun i => (kid i).N) k) (1 + maxN (fun i => (kid i).D) k) = .tuple #[.int .i64 21, .int .i64 8]) := by
                rw [← unhide HE, ← unhide HY]
                exact manyV_no (by omega)
              go_wp2
              exact bodyPost_ret (v := .tuple #[.int .i64 21, .int .i64 8]) (by simp [results, Tryz.results64, go_sem]) rfl ⟨by rw [unhide HV], hbel⟩
        · have HV : Hid (manyV (1 + sumN (fun i => (kid i).N) n) (1 + maxN (fun i => (kid i).D) n) = .tuple #[.int .i64 21, .int .i64 8]) := by
            rcases hst with ⟨ex, ey⟩ | ⟨_, hh⟩
            · have := sumN_mono (fun i => (kid i).N) hk
              exact manyV_no (by omega)
            · exact manyV_no hh
          clear hst
          by_cases hlt : k < n
          · go_wp2
            exact bodyPost_ret (v := .tuple #[.int .i64 21, .int .i64 8]) (by simp [results, Tryz.results64, go_sem]) rfl ⟨by rw [unhide HV], hbel⟩
          · go_wp2
            exact bodyPost_ret (v := .tuple #[.int .i64 21, .int .i64 8]) (by simp [results, Tryz.results64, go_sem]) rfl ⟨by rw [unhide HV], hbel⟩
theorem fz_later {w w' : World} {p : Addr} {v : Value} (hb : Below w.heap.size w w') (h : w.cell? p = some v) (hf : w.frozen? p = false) : w'.frozen? p = false := by rw [hb.frozen (World.block_lt_of_cell? _ _ h)]; exact hf
theorem pair_set {w : World} {B : Nat} {u0 u1 : Value} (x y : Value) (o : Obj) (q0 : w.cell? ⟨B, 0, none⟩ = some u0) (q1 : w.cell? ⟨B, 1, none⟩ = some u1) (f0 : w.frozen? ⟨B, 0, none⟩ = false) (f1 : w.frozen? ⟨B, 1, none⟩ = false) :
    (((w.setCell ⟨B, 0, none⟩ x).setCell ⟨B, 1, none⟩ y).alloc o).cell? ⟨B, 0, none⟩ = some x ∧ (((w.setCell ⟨B, 0, none⟩ x).setCell ⟨B, 1, none⟩ y).alloc o).cell? ⟨B, 1, none⟩ = some y ∧ (((w.setCell ⟨B, 0, none⟩ x).setCell ⟨B, 1, none⟩ y).alloc o).frozen? ⟨B, 0, none⟩ = false ∧ (((w.setCell ⟨B, 0, none⟩ x).setCell ⟨B, 1, none⟩ y).alloc o).frozen? ⟨B, 1, none⟩ = false := by
  have a0 := World.cell?_setCell_same w ⟨B, 0, none⟩ x q0
  have a1 : (w.setCell ⟨B, 0, none⟩ x).cell? ⟨B, 1, none⟩ = some u1 := by rw [World.cell?_setCell_other _ _ _ _ (by simp)]; exact q1
  have b0 : ((w.setCell ⟨B, 0, none⟩ x).setCell ⟨B, 1, none⟩ y).cell? ⟨B, 0, none⟩ = some x := by rw [World.cell?_setCell_other _ _ _ _ (by simp)]; exact a0
  have b1 := World.cell?_setCell_same _ ⟨B, 1, none⟩ y a1
  have g0 : ((w.setCell ⟨B, 0, none⟩ x).setCell ⟨B, 1, none⟩ y).frozen? ⟨B, 0, none⟩ = false := by simp [go_sem, f0]
  have g1 : ((w.setCell ⟨B, 0, none⟩ x).setCell ⟨B, 1, none⟩ y).frozen? ⟨B, 1, none⟩ = false := by simp [go_sem, f1]
  have hb := (Below.refl _ ((w.setCell ⟨B, 0, none⟩ x).setCell ⟨B, 1, none⟩ y)).alloc (Nat.le_refl _) o
  exact ⟨cell_later hb b0, cell_later hb b1, fz_later hb b0 g0, fz_later hb b1 g1⟩
set_option maxRecDepth 100000 in
set_option maxHeartbeats 4000000 in
theorem add_any (hi : Nat) (t : TT) : ∀ (ad : Option Addr) (cp B p l lv : Nat) (w : World), t.In w 0 hi ad → t.Fit 1048576 → hi ≤ B → B < w.heap.size → p ≤ 20 → l ≤ 7 → 1 ≤ lv → lv ≤ 8 →
    w.cell? ⟨B, 0, none⟩ = some (.int .i64 p) → w.cell? ⟨B, 1, none⟩ = some (.int .i64 l) → w.frozen? ⟨B, 0, none⟩ = false → w.frozen? ⟨B, 1, none⟩ = false →
    Calls Tryz.prog 91 #[.pointer (some ⟨B, 0, none⟩), .agg #[.int .i64 t.op, .int .i64 t.a, .int .i64 t.b, .string t.s, .slice ad t.n cp], .int .i64 lv] w fun e w' =>
      ((p + t.N ≤ 20 ∧ lv + t.D ≤ 8 ∧ e = .returned (.bool true) ∧ w'.cell? ⟨B, 0, none⟩ = some (.int .i64 ((p + t.N : Nat) : Int)) ∧ w'.cell? ⟨B, 1, none⟩ = some (.int .i64 ((max l (lv + t.D - 1) : Nat) : Int)) ∧ w'.frozen? ⟨B, 0, none⟩ = false ∧ w'.frozen? ⟨B, 1, none⟩ = false) ∨ (¬ (p + t.N ≤ 20 ∧ lv + t.D ≤ 8) ∧ e = .returned (.bool false))) ∧ w.heap.size ≤ w'.heap.size ∧ Below B w w' := by
  induction t with
  | nil => intro ad cp B p l lv w hin; exact hin.elim
  | node op a b s n kid ih =>
    intro ad cp B p l lv w hin hft hhi hB hp hl hlv hlv8 q0 q1 f0 f1
    rw [TT.N_node, TT.D_node]
    show Calls Tryz.prog 91 #[.pointer (some ⟨B, 0, none⟩), .agg #[.int .i64 op, .int .i64 a, .int .i64 b, .string s, .slice ad n cp], .int .i64 lv] w _
    obtain ⟨fn, fs, fk⟩ := hft
    have IH := hide ih
    have FK := hide fk
    clear ih fk
    by_cases hp20 : p = 20
    · subst hp20
      clear hin
      go_enter Tryz.func91, Tryz.ntmps91
      go_wp2
      all_goals
        go_ret
        exact ⟨Or.inr ⟨by omega, rfl⟩, by simp, (by repeat (first | exact Below.refl _ _ | assumption | refine below_drewN ?_ _ | refine Below.drew ?_ | refine Below.alloc ?_ (by first | exact Nat.le_refl _ | exact Below.size (by assumption) | (simp; done) | (simp; omega)) _ | refine Below.setCell ?_ (by first | exact Nat.le_refl _ | exact Below.size (by assumption) | (simp; done) | (simp; omega)) _ | refine Below.trans ?_ (by assumption)))⟩
    · by_cases h8 : lv = 8
      · subst h8
        clear hin
        have hll : l < 8 := by omega
        go_enter Tryz.func91, Tryz.ntmps91
        go_wp2
        all_goals
          go_ret
          exact ⟨Or.inr ⟨by omega, rfl⟩, by simp, (by repeat (first | exact Below.refl _ _ | assumption | refine below_drewN ?_ _ | refine Below.drew ?_ | refine Below.alloc ?_ (by first | exact Nat.le_refl _ | exact Below.size (by assumption) | (simp; done) | (simp; omega)) _ | refine Below.setCell ?_ (by first | exact Nat.le_refl _ | exact Below.size (by assumption) | (simp; done) | (simp; omega)) _ | refine Below.trans ?_ (by assumption)))⟩
      · by_cases hll : l < lv
        · have p19 : p + 1 ≤ 20 := by omega
          rcases hin with rfl | ⟨bl, off, rfl, hlo, hbl, AD, CP, hd⟩
          · go_enter Tryz.func91, Tryz.ntmps91
            go_wp2
            go_loopw [40] (fun i wr => i = .int .i64 0 ∧ wr.cell? ⟨B, 0, none⟩ = some (.int .i64 ((p : Int) + 1)) ∧ wr.cell? ⟨B, 1, none⟩ = some (.int .i64 (lv : Int)) ∧ wr.frozen? ⟨B, 0, none⟩ = false ∧ wr.frozen? ⟨B, 1, none⟩ = false ∧ w.heap.size ≤ wr.heap.size ∧ Below B w wr) (fun _ _ => 0)
            case atStart => exact ⟨rfl, (pair_set _ _ _ q0 q1 f0 f1).1, (pair_set _ _ _ q0 q1 f0 f1).2.1, (pair_set _ _ _ q0 q1 f0 f1).2.2.1, (pair_set _ _ _ q0 q1 f0 f1).2.2.2, by simp, (by repeat (first | exact Below.refl _ _ | assumption | refine below_drewN ?_ _ | refine Below.drew ?_ | refine Below.alloc ?_ (by first | exact Nat.le_refl _ | exact Below.size (by assumption) | (simp; done) | (simp; omega)) _ | refine Below.setCell ?_ (by first | exact Nat.le_refl _ | exact Below.size (by assumption) | (simp; done) | (simp; omega)) _ | refine Below.trans ?_ (by assumption)))⟩
            case round =>
              obtain ⟨rfl, c0, c1, g0, g1, hsz, hbel⟩ := hrel
              go_wp2
              go_ret
              refine ⟨Or.inl ⟨by simp [sumN]; omega, by simp [maxN]; omega, rfl, ?_, ?_, g0, g1⟩, hsz, hbel⟩
              · rw [c0, show (((p + (1 + sumN (fun i => (kid i).N) 0) : Nat)) : Int) = (p : Int) + 1 from by simp [sumN]]
              · rw [c1, show (((max l (lv + (1 + maxN (fun i => (kid i).D) 0) - 1) : Nat)) : Int) = (lv : Int) from by simp [maxN]; omega]
          · have HD := hide hd
            clear hd
            go_enter Tryz.func91, Tryz.ntmps91
            go_wp2
            go_loopw [40] (fun i wr => ∃ k : Nat, k ≤ n ∧ i = .int .i64 k ∧ p + 1 + sumN (fun i => (kid i).N) k ≤ 20 ∧ lv + maxN (fun i => (kid i).D) k ≤ 7 ∧ wr.cell? ⟨B, 0, none⟩ = some (.int .i64 ((p + 1 + sumN (fun i => (kid i).N) k : Nat) : Int)) ∧ wr.cell? ⟨B, 1, none⟩ = some (.int .i64 ((max l (lv + maxN (fun i => (kid i).D) k) : Nat) : Int)) ∧ wr.frozen? ⟨B, 0, none⟩ = false ∧ wr.frozen? ⟨B, 1, none⟩ = false ∧ w.heap.size ≤ wr.heap.size ∧ Below B w wr) (fun i _ => n - (intOf i).toNat)
            case atStart => exact ⟨0, by omega, rfl, by simp [sumN]; omega, by simp [maxN]; omega, (by rw [(pair_set _ _ _ q0 q1 f0 f1).1]; simp [sumN]), (by rw [(pair_set _ _ _ q0 q1 f0 f1).2.1]; simp [maxN]; omega), (pair_set _ _ _ q0 q1 f0 f1).2.2.1, (pair_set _ _ _ q0 q1 f0 f1).2.2.2, by simp, (by repeat (first | exact Below.refl _ _ | assumption | refine below_drewN ?_ _ | refine Below.drew ?_ | refine Below.alloc ?_ (by first | exact Nat.le_refl _ | exact Below.size (by assumption) | (simp; done) | (simp; omega)) _ | refine Below.setCell ?_ (by first | exact Nat.le_refl _ | exact Below.size (by assumption) | (simp; done) | (simp; omega)) _ | refine Below.trans ?_ (by assumption)))⟩
            case round =>
              obtain ⟨k, hk, rfl, hP, hL, c0, c1, g0, g1, hsz, hbel⟩ := hrel
              have lB : B < wr.heap.size := by omega
              by_cases hlt : k < n
              · obtain ⟨h5, hcp, hin⟩ := unhide HD k hlt
                obtain ⟨e0, e1, e2, e3, e4⟩ := h5.keep (w' := wr) (fun o => hbel.cell (p := ⟨bl, o, none⟩) (Nat.lt_of_lt_of_le hbl hhi))
                have hin' := hin.later (hbel.mono hhi)
                have HM := hide (sumN_mono (fun i => (kid i).N) (show k + 1 ≤ n from hlt))
                have HX := hide (maxN_mono (fun i => (kid i).D) (show k + 1 ≤ n from hlt))
                have HS1 := hide (show sumN (fun i => (kid i).N) (k + 1) = sumN (fun i => (kid i).N) k + (kid k).N from rfl)
                have HS2 := hide (show maxN (fun i => (kid i).D) (k + 1) = max (maxN (fun i => (kid i).D) k) (kid k).D from rfl)
                have HC0 := hide c0
                have HC1 := hide c1
                have HI := hide hin'
                clear hin hin' h5 c0 c1
                go_wp2_with fail
                refine (unhide IH k _ _ B _ _ (lv + 1) _ (by first | exact TT.In.later (unhide HI) ((Below.refl _ _).alloc (by omega) _)) (unhide FK k hlt) hhi (by simp; omega) hP (show max l (lv + maxN (fun i => (kid i).D) k) ≤ 7 by omega) (by omega) (by omega)
                  (cell_later ((Below.refl _ _).alloc (Nat.le_refl _) _) (unhide HC0)) (cell_later ((Below.refl _ _).alloc (Nat.le_refl _) _) (unhide HC1)) (fz_later ((Below.refl _ _).alloc (Nat.le_refl _) _) (unhide HC0) g0) (fz_later ((Below.refl _ _).alloc (Nat.le_refl _) _) (unhide HC1) g1)).mono ?_
                rintro e w1 ⟨⟨r1, r2, rfl, d0, d1, x0, x1⟩ | ⟨hno, rfl⟩, s1, b1⟩
                · have BL := (hbel.alloc (by omega) (.cells #[.int .i64 (kid k).op, .int .i64 (kid k).a, .int .i64 (kid k).b, .string (kid k).s, .slice (AD k) (kid k).n (CP k)] 50)).trans b1
                  simp only [World.size_alloc] at s1
                  go_wp2
                  go_roundw
                  case rel =>
                    refine ⟨k + 1, by omega, by go_num, by rw [unhide HS1]; omega, by rw [unhide HS2]; omega, ?_, ?_, x0, x1, by omega, BL⟩
                    · rw [d0, unhide HS1]; simp only [Nat.add_assoc]
                    · rw [d1, unhide HS2, show max (max l (lv + maxN (fun i => (kid i).D) k)) (lv + 1 + (kid k).D - 1) = max l (lv + max (maxN (fun i => (kid i).D) k) (kid k).D) from by omega]
                  case measure => simp [intOf]; omega
                · have BL := (hbel.alloc (by omega) (.cells #[.int .i64 (kid k).op, .int .i64 (kid k).a, .int .i64 (kid k).b, .string (kid k).s, .slice (AD k) (kid k).n (CP k)] 50)).trans b1
                  simp only [World.size_alloc] at s1
                  have HNO := hide hno
                  clear hno
                  go_wp2
                  go_ret
                  refine ⟨Or.inr ⟨?_, rfl⟩, by omega, BL⟩
                  have h1 := unhide HM
                  have h2 := unhide HX
                  rw [unhide HS1] at h1
                  rw [unhide HS2] at h2
                  intro hh
                  exact unhide HNO ⟨by omega, by omega⟩
              · have e : k = n := by omega
                subst e
                go_wp2
                go_ret
                refine ⟨Or.inl ⟨by omega, by omega, rfl, ?_, ?_, g0, g1⟩, hsz, hbel⟩
                · rw [c0, show p + 1 + sumN (fun i => (kid i).N) k = p + (1 + sumN (fun i => (kid i).N) k) from by omega]
                · rw [c1, show lv + maxN (fun i => (kid i).D) k = lv + (1 + maxN (fun i => (kid i).D) k) - 1 from by omega]
        · have p19 : p + 1 ≤ 20 := by omega
          rcases hin with rfl | ⟨bl, off, rfl, hlo, hbl, AD, CP, hd⟩
          · go_enter Tryz.func91, Tryz.ntmps91
            go_wp2
            go_loopw [40] (fun i wr => i = .int .i64 0 ∧ wr.cell? ⟨B, 0, none⟩ = some (.int .i64 ((p : Int) + 1)) ∧ wr.cell? ⟨B, 1, none⟩ = some (.int .i64 (l : Int)) ∧ wr.frozen? ⟨B, 0, none⟩ = false ∧ wr.frozen? ⟨B, 1, none⟩ = false ∧ w.heap.size ≤ wr.heap.size ∧ Below B w wr) (fun _ _ => 0)
            case atStart => exact ⟨rfl, (pair_set _ _ _ q0 q1 f0 f1).1, (pair_set _ _ _ q0 q1 f0 f1).2.1, (pair_set _ _ _ q0 q1 f0 f1).2.2.1, (pair_set _ _ _ q0 q1 f0 f1).2.2.2, by simp, (by repeat (first | exact Below.refl _ _ | assumption | refine below_drewN ?_ _ | refine Below.drew ?_ | refine Below.alloc ?_ (by first | exact Nat.le_refl _ | exact Below.size (by assumption) | (simp; done) | (simp; omega)) _ | refine Below.setCell ?_ (by first | exact Nat.le_refl _ | exact Below.size (by assumption) | (simp; done) | (simp; omega)) _ | refine Below.trans ?_ (by assumption)))⟩
            case round =>
              obtain ⟨rfl, c0, c1, g0, g1, hsz, hbel⟩ := hrel
              go_wp2
              go_ret
              refine ⟨Or.inl ⟨by simp [sumN]; omega, by simp [maxN]; omega, rfl, ?_, ?_, g0, g1⟩, hsz, hbel⟩
              · rw [c0, show (((p + (1 + sumN (fun i => (kid i).N) 0) : Nat)) : Int) = (p : Int) + 1 from by simp [sumN]]
              · rw [c1, show (((max l (lv + (1 + maxN (fun i => (kid i).D) 0) - 1) : Nat)) : Int) = (l : Int) from by simp [maxN]; omega]
          · have HD := hide hd
            clear hd
            go_enter Tryz.func91, Tryz.ntmps91
            go_wp2
            go_loopw [40] (fun i wr => ∃ k : Nat, k ≤ n ∧ i = .int .i64 k ∧ p + 1 + sumN (fun i => (kid i).N) k ≤ 20 ∧ lv + maxN (fun i => (kid i).D) k ≤ 7 ∧ wr.cell? ⟨B, 0, none⟩ = some (.int .i64 ((p + 1 + sumN (fun i => (kid i).N) k : Nat) : Int)) ∧ wr.cell? ⟨B, 1, none⟩ = some (.int .i64 ((max l (lv + maxN (fun i => (kid i).D) k) : Nat) : Int)) ∧ wr.frozen? ⟨B, 0, none⟩ = false ∧ wr.frozen? ⟨B, 1, none⟩ = false ∧ w.heap.size ≤ wr.heap.size ∧ Below B w wr) (fun i _ => n - (intOf i).toNat)
            case atStart => exact ⟨0, by omega, rfl, by simp [sumN]; omega, by simp [maxN]; omega, (by rw [(pair_set _ _ _ q0 q1 f0 f1).1]; simp [sumN]), (by rw [(pair_set _ _ _ q0 q1 f0 f1).2.1]; simp [maxN]; omega), (pair_set _ _ _ q0 q1 f0 f1).2.2.1, (pair_set _ _ _ q0 q1 f0 f1).2.2.2, by simp, (by repeat (first | exact Below.refl _ _ | assumption | refine below_drewN ?_ _ | refine Below.drew ?_ | refine Below.alloc ?_ (by first | exact Nat.le_refl _ | exact Below.size (by assumption) | (simp; done) | (simp; omega)) _ | refine Below.setCell ?_ (by first | exact Nat.le_refl _ | exact Below.size (by assumption) | (simp; done) | (simp; omega)) _ | refine Below.trans ?_ (by assumption)))⟩
            case round =>
              obtain ⟨k, hk, rfl, hP, hL, c0, c1, g0, g1, hsz, hbel⟩ := hrel
              have lB : B < wr.heap.size := by omega
              by_cases hlt : k < n
              · obtain ⟨h5, hcp, hin⟩ := unhide HD k hlt
                obtain ⟨e0, e1, e2, e3, e4⟩ := h5.keep (w' := wr) (fun o => hbel.cell (p := ⟨bl, o, none⟩) (Nat.lt_of_lt_of_le hbl hhi))
                have hin' := hin.later (hbel.mono hhi)
                have HM := hide (sumN_mono (fun i => (kid i).N) (show k + 1 ≤ n from hlt))
                have HX := hide (maxN_mono (fun i => (kid i).D) (show k + 1 ≤ n from hlt))
                have HS1 := hide (show sumN (fun i => (kid i).N) (k + 1) = sumN (fun i => (kid i).N) k + (kid k).N from rfl)
                have HS2 := hide (show maxN (fun i => (kid i).D) (k + 1) = max (maxN (fun i => (kid i).D) k) (kid k).D from rfl)
                have HC0 := hide c0
                have HC1 := hide c1
                have HI := hide hin'
                clear hin hin' h5 c0 c1
                go_wp2_with fail
                refine (unhide IH k _ _ B _ _ (lv + 1) _ (by first | exact TT.In.later (unhide HI) ((Below.refl _ _).alloc (by omega) _)) (unhide FK k hlt) hhi (by simp; omega) hP (show max l (lv + maxN (fun i => (kid i).D) k) ≤ 7 by omega) (by omega) (by omega)
                  (cell_later ((Below.refl _ _).alloc (Nat.le_refl _) _) (unhide HC0)) (cell_later ((Below.refl _ _).alloc (Nat.le_refl _) _) (unhide HC1)) (fz_later ((Below.refl _ _).alloc (Nat.le_refl _) _) (unhide HC0) g0) (fz_later ((Below.refl _ _).alloc (Nat.le_refl _) _) (unhide HC1) g1)).mono ?_
                rintro e w1 ⟨⟨r1, r2, rfl, d0, d1, x0, x1⟩ | ⟨hno, rfl⟩, s1, b1⟩
                · have BL := (hbel.alloc (by omega) (.cells #[.int .i64 (kid k).op, .int .i64 (kid k).a, .int .i64 (kid k).b, .string (kid k).s, .slice (AD k) (kid k).n (CP k)] 50)).trans b1
                  simp only [World.size_alloc] at s1
                  go_wp2
                  go_roundw
                  case rel =>
                    refine ⟨k + 1, by omega, by go_num, by rw [unhide HS1]; omega, by rw [unhide HS2]; omega, ?_, ?_, x0, x1, by omega, BL⟩
                    · rw [d0, unhide HS1]; simp only [Nat.add_assoc]
                    · rw [d1, unhide HS2, show max (max l (lv + maxN (fun i => (kid i).D) k)) (lv + 1 + (kid k).D - 1) = max l (lv + max (maxN (fun i => (kid i).D) k) (kid k).D) from by omega]
                  case measure => simp [intOf]; omega
                · have BL := (hbel.alloc (by omega) (.cells #[.int .i64 (kid k).op, .int .i64 (kid k).a, .int .i64 (kid k).b, .string (kid k).s, .slice (AD k) (kid k).n (CP k)] 50)).trans b1
                  simp only [World.size_alloc] at s1
                  have HNO := hide hno
                  clear hno
                  go_wp2
                  go_ret
                  refine ⟨Or.inr ⟨?_, rfl⟩, by omega, BL⟩
                  have h1 := unhide HM
                  have h2 := unhide HX
                  rw [unhide HS1] at h1
                  rw [unhide HS2] at h2
                  intro hh
                  exact unhide HNO ⟨by omega, by omega⟩
              · have e : k = n := by omega
                subst e
                go_wp2
                go_ret
                refine ⟨Or.inl ⟨by omega, by omega, rfl, ?_, ?_, g0, g1⟩, hsz, hbel⟩
                · rw [c0, show p + 1 + sumN (fun i => (kid i).N) k = p + (1 + sumN (fun i => (kid i).N) k) from by omega]
                · rw [c1, show lv + maxN (fun i => (kid i).D) k = lv + (1 + maxN (fun i => (kid i).D) k) - 1 from by omega]
end Go.Proofs.YtfopmobopmdahaaGreat
