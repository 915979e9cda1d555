/- Clauses of a net: what they are, and how a list of clauses of one's own lies in memory. -/
import Derived.Test.YtoglplpchjcpoaaNokA
import Derived.Test.YtoglplpchjcpoaaIapA
import Derived.Test.YtoglplpchjcpoaaLstA
namespace Go.Proofs.Ytoglplpchjcpoaa
open Go.ChangeShapes Go.WideShapes Go.ChangeAt Go.RowKit Go.Joins
set_option linter.unusedVariables false
set_option linter.unusedSimpArgs false

/-- The clauses of a gate whose mark is k. -/
def gateL (g : Gt) (k : Int) : List (List Int) :=
  if g.x then [[g.a, g.b, -k], [-g.a, -g.b, -k], [-g.a, g.b, k], [g.a, -g.b, k]] else [[g.a, -k], [g.b, -k], [-g.a, -g.b, k]]
/-- The clauses of the first gates of a net. -/
def netL (m : Int) (G : Nat → Gt) : Nat → List (List Int)
  | 0 => [[1]]
  | i + 1 => netL m G i ++ gateL (G i) (2 + m + i)
theorem gateL_len (g : Gt) (k : Int) : (gateL g k).length ≤ 4 := by unfold gateL; split <;> simp
theorem netL_len (m : Int) (G : Nat → Gt) : ∀ i, (netL m G i).length ≤ 1 + 4 * i
  | 0 => by simp [netL]
  | i + 1 => by
    have h1 := netL_len m G i
    have h2 := gateL_len (G i) (2 + m + i)
    simp only [netL, List.length_append]
    omega
theorem gateL_short (g : Gt) (k : Int) : ∀ c, c ∈ gateL g k → c.length ≤ 3 := by
  intro c hc
  unfold gateL at hc
  split at hc <;> simp at hc <;> rcases hc with rfl | rfl | rfl | rfl <;> simp
theorem netL_short (m : Int) (G : Nat → Gt) : ∀ i c, c ∈ netL m G i → c.length ≤ 3
  | 0, c, h => by simp [netL] at h; subst h; simp
  | i + 1, c, h => by
    simp only [netL, List.mem_append] at h
    rcases h with h | h
    · exact netL_short m G i c h
    · exact gateL_short _ _ c h
/-- A clause: its block, its numbers. -/
abbrev Qc := Nat × List Int
def qval (q : Qc) : Value := .slice (some ⟨q.1, 0, none⟩) q.2.length q.2.length
def qcells (Q : List Qc) : List Value := Q.map qval
theorem qcells_app (Q P : List Qc) : qcells (Q ++ P) = qcells Q ++ qcells P := by simp [qcells]
def qat (Q : List Qc) (i : Nat) : Qc := Q.getD i (0, [])
theorem qat_left {Q P : List Qc} {i : Nat} (h : i < Q.length) : qat (Q ++ P) i = qat Q i := by
  unfold qat; rw [List.getD_eq_getElem?_getD, List.getD_eq_getElem?_getD, List.getElem?_append_left h]
theorem qat_right {Q P : List Qc} {i : Nat} (h : Q.length ≤ i) : qat (Q ++ P) i = qat P (i - Q.length) := by
  unfold qat; rw [List.getD_eq_getElem?_getD, List.getD_eq_getElem?_getD, List.getElem?_append_right h]
theorem qat_mem {Q : List Qc} {i : Nat} (h : i < Q.length) : qat Q i ∈ Q := by
  unfold qat; rw [List.getD_eq_getElem?_getD, List.getElem?_eq_getElem h]; exact List.getElem_mem _
def QOk (w : World) (base : Nat) (q : Qc) : Prop := base ≤ q.1 ∧ Made w q.1 q.2.length ∧ Ints w q.1 0 q.2.length (at0 q.2)
theorem QOk.later {w w' : World} {base : Nat} {q : Qc} (h : QOk w base q) (hb : Below w.heap.size w w') : QOk w' base q := by
  refine ⟨h.1, h.2.1.later hb, fun i hi => cell_later hb (h.2.2 i hi)⟩
theorem QOk.mov {w w' : World} {base R : Nat} {q : Qc} (h : QOk w base q) (hm : Mov R w w') (hR : q.1 ≠ R) : QOk w' base q :=
  ⟨h.1, h.2.1.mov hm hR, fun i hi => hm.cell (h.2.2 i hi) hR⟩
theorem QOk.mono {w : World} {base base' : Nat} {q : Qc} (h : QOk w base q) (hb : base' ≤ base) : QOk w base' q := ⟨Nat.le_trans hb h.1, h.2⟩
/-- A list of clauses of one's own: each lies in a block of its own, and none where the list lies. -/
structure Cr (w : World) (base g n cap : Nat) (Q : List Qc) : Prop where
  o : w.ownsRow base 43 1 (.slice (some ⟨g, 0, none⟩) n cap) n (qcells Q)
  c : ∀ i, i < n → QOk w base (qat Q i) ∧ (qat Q i).1 ≠ g
  d : ∀ i j, i < j → j < n → (qat Q i).1 ≠ (qat Q j).1
theorem Cr.len {w : World} {base g n cap : Nat} {Q : List Qc} (h : Cr w base g n cap Q) : Q.length = n := by have := h.o.1; simpa [qcells] using this
theorem Cr.later {w w' : World} {base g n cap : Nat} {Q : List Qc} (h : Cr w base g n cap Q) (hb : Below w.heap.size w w') : Cr w' base g n cap Q :=
  ⟨World.ownsRow.kept (w' := w') h.o (grown_below hb) (by simp [Value.ownBlock]), fun i hi => ⟨(h.c i hi).1.later hb, (h.c i hi).2⟩, h.d⟩
theorem Cr.drew {w : World} {base g n cap : Nat} {Q : List Qc} (h : Cr w base g n cap Q) : Cr w.drew base g n cap Q := h.later (Below.refl _ _).drew
theorem Cr.mov {w w' : World} {base g n cap R : Nat} {Q : List Qc} (h : Cr w base g n cap Q) (hm : Mov R w w') (hR : R < base) : Cr w' base g n cap Q := by
  have hg := own_base h.o
  refine ⟨World.ownsRow.kept (w' := w') h.o (grown_mov hm) (Or.inr (by simp [Value.ownBlock]; omega)), fun i hi => ⟨(h.c i hi).1.mov hm (by have := (h.c i hi).1.1; omega), (h.c i hi).2⟩, h.d⟩
theorem Cr.mono {w : World} {base base' g n cap : Nat} {Q : List Qc} (h : Cr w base g n cap Q) (hb : base' ≤ base) : Cr w base' g n cap Q := ⟨own_mono h.o hb, fun i hi => ⟨(h.c i hi).1.mono hb, (h.c i hi).2⟩, h.d⟩
/-- Clauses that have just been laid down behind the world w0. -/
structure Fr (w0 w : World) (T m : Nat) (P : List Qc) : Prop where
  l : P.length = m
  v : ∀ j, j < m → w.cell? ⟨T, j, none⟩ = some (qval (qat P j))
  c : ∀ j, j < m → QOk w w0.heap.size (qat P j)
  d : ∀ i j, i < j → j < m → (qat P i).1 ≠ (qat P j).1
  t : w0.heap.size ≤ T
  b : Below w0.heap.size w0 w
theorem infoRow : (Try.prog.info? 43).map (fun i => (i.zero, i.size, i.bytes)) = some (some (.slice none 0 0), 1, 24) := by kernel_rfl
theorem Cr.app {w0 w : World} {base g n cap T m : Nat} {Q P : List Qc} (h : Cr w0 base g n cap Q) (k : Fr w0 w T m P) (hbase : base ≤ w0.heap.size) (h63 : n + m ≤ 100000) (ty : TypeId) (cx : Nat) :
    ∃ g' cap' w', (Builtin.append_ #[26, 26] ty #[.slice (some ⟨g, 0, none⟩) n cap, .slice (some ⟨T, 0, none⟩) m cx]).run Try.prog w = .ok (.slice (some ⟨g', 0, none⟩) (n + m) cap') w' ∧ Cr w' base g' (n + m) cap' (Q ++ P) ∧ w.grownBy w' (some g) ∧ (g' = g ∨ g' = w.heap.size) ∧ g < w0.heap.size := by
  have hw := h.later k.b
  obtain ⟨i0, hi0, hzz⟩ := Option.map_eq_some_iff.1 infoRow
  simp only [Prod.mk.injEq] at hzz
  obtain ⟨hz0, hz1, hz2⟩ := hzz
  have hQ := h.len
  have hgl := (own_cap h.o).2
  obtain ⟨g', cap', w', h1, h2, h3, h4⟩ := append_where (P := Try.prog) w base 26 ty 43 i0 _ 1 24 Try.underlying26 hi0 hz0 hz1 hz2 rfl (by omega) g n cap (qcells Q) hw.o ⟨T, 0, none⟩ m cx (qcells P) (by simp [qcells, k.l]) (by
      intro j u hj
      have hj' : j < P.length := by
        have := (List.getElem?_eq_some_iff.1 hj).1
        simpa [qcells] using this
      rw [Go.WideShapes.add_plain, Nat.zero_add, k.v j (by rw [← k.l]; exact hj')]
      simp [qcells, hj'] at hj
      rw [← hj]
      simp [qat, List.getD, hj']) (by
      intro u hu
      simp [qcells] at hu
      obtain ⟨a, b, _, rfl⟩ := hu
      rfl) (by unfold maxLen; omega) (by omega) (Nat.le_trans hbase k.b.size)
  rw [← qcells_app] at h2
  have gr := mov_of_grown h3
  have gne : ∀ i, i < n + m → (qat (Q ++ P) i).1 ≠ g ∧ (qat (Q ++ P) i).1 < w.heap.size ∧ QOk w base (qat (Q ++ P) i) := by
    intro i hi
    by_cases hin : i < n
    · rw [qat_left (by omega)]
      exact ⟨(hw.c i hin).2, (hw.c i hin).1.2.1.1, (hw.c i hin).1⟩
    · rw [qat_right (by omega), hQ]
      have q := k.c (i - n) (by omega)
      exact ⟨by have := q.1; omega, q.2.1.1, q.mono hbase⟩
  refine ⟨g', cap', w', h1, ⟨h2, fun i hi => ⟨(gne i hi).2.2.mov gr (gne i hi).1, ?_⟩, fun i j hij hj => ?_⟩, h3, h4, hgl⟩
  · rcases h4 with e | e
    · rw [e]; exact (gne i hi).1
    · have := (gne i hi).2.1; omega
  · by_cases hin : j < n
    · rw [qat_left (by omega), qat_left (by omega)]
      exact h.d i j hij hin
    · by_cases hi2 : i < n
      · rw [qat_left (by omega), qat_right (by omega), hQ]
        have q1 := k.c (j - n) (by omega)
        have q2 := (h.c i hi2).1.2.1.1
        have := q1.1
        omega
      · rw [qat_right (by omega), qat_right (by omega), hQ]
        exact k.d (i - n) (j - n) (by omega) (by omega)
/-- Numbers that have been laid down. -/
theorem lit_ok (w : World) (cs : Array Value) (c : List Int) (h : cs.toList = icells c) : QOk (w.alloc (.cells cs 3)) w.heap.size (w.heap.size, c) := by
  have cell : ∀ j, j < c.length → (w.alloc (.cells cs 3)).cell? ⟨w.heap.size, j, none⟩ = some (.int .i64 (at0 c j)) := fun j hj => by
    rw [World.cell?_alloc_new, ← Array.getElem?_toList, h]
    simp [icells, at0, List.getD, hj]
  exact ⟨Nat.le_refl _, ⟨by simp, fun j hj => ⟨⟨_, cell j hj⟩, by simp [go_sem]⟩⟩, fun i hi => by rw [Nat.zero_add]; exact cell i hi⟩
theorem lit_next {w w' : World} (cs : Array Value) (c : List Int) (h : cs.toList = icells c) (hb : Below w.heap.size w w') (n : Nat) (hn : w'.heap.size = n) : QOk (w'.alloc (.cells cs 3)) w.heap.size (n, c) := by
  subst hn
  exact (lit_ok w' cs c h).mono hb.size
theorem alloc_bel {w w' : World} (h : Below w.heap.size w w') (o : Obj) : Below w.heap.size w (w'.alloc o) := h.alloc h.size o
theorem alloc_up (w : World) (o : Obj) : Below w.heap.size w (w.alloc o) := (Below.refl _ _).alloc (Nat.le_refl _) o
abbrev l1w (w : World) (c1 : Array Value) : World := w.alloc (.cells c1 3)
abbrev l3w (w : World) (c1 c2 c3 : Array Value) : World := ((w.alloc (.cells c1 3)).alloc (.cells c2 3)).alloc (.cells c3 3)
theorem fr_and (w : World) (a b k : Int) : Fr w ((l3w w #[.int .i64 a, .int .i64 (-k)] #[.int .i64 b, .int .i64 (-k)] #[.int .i64 (-a), .int .i64 (-b), .int .i64 k]).alloc (.cells #[.slice (some ⟨w.heap.size, 0, none⟩) 2 2, .slice (some ⟨w.heap.size + 1, 0, none⟩) 2 2, .slice (some ⟨w.heap.size + 2, 0, none⟩) 3 3] 43)) (w.heap.size + 3) 3 [(w.heap.size, [a, -k]), (w.heap.size + 1, [b, -k]), (w.heap.size + 2, [-a, -b, k])] := by
  have q1 := lit_ok w #[.int .i64 a, .int .i64 (-k)] [a, -k] rfl
  have q2 := lit_next (w := w) #[.int .i64 b, .int .i64 (-k)] [b, -k] rfl (alloc_up w (.cells #[.int .i64 a, .int .i64 (-k)] 3)) (w.heap.size + 1) (by simp)
  have q3 := lit_next (w := w) #[.int .i64 (-a), .int .i64 (-b), .int .i64 k] [-a, -b, k] rfl (alloc_bel (alloc_up w (.cells #[.int .i64 a, .int .i64 (-k)] 3)) (.cells #[.int .i64 b, .int .i64 (-k)] 3)) (w.heap.size + 2) (by simp)
  have p1 := ((q1.later (alloc_up _ (.cells #[.int .i64 b, .int .i64 (-k)] 3))).later (alloc_up _ (.cells #[.int .i64 (-a), .int .i64 (-b), .int .i64 k] 3))).later (alloc_up _ (.cells #[.slice (some ⟨w.heap.size, 0, none⟩) 2 2, .slice (some ⟨w.heap.size + 1, 0, none⟩) 2 2, .slice (some ⟨w.heap.size + 2, 0, none⟩) 3 3] 43))
  have p2 := (q2.later (alloc_up _ (.cells #[.int .i64 (-a), .int .i64 (-b), .int .i64 k] 3))).later (alloc_up _ (.cells #[.slice (some ⟨w.heap.size, 0, none⟩) 2 2, .slice (some ⟨w.heap.size + 1, 0, none⟩) 2 2, .slice (some ⟨w.heap.size + 2, 0, none⟩) 3 3] 43))
  have p3 := q3.later (alloc_up _ (.cells #[.slice (some ⟨w.heap.size, 0, none⟩) 2 2, .slice (some ⟨w.heap.size + 1, 0, none⟩) 2 2, .slice (some ⟨w.heap.size + 2, 0, none⟩) 3 3] 43))
  refine ⟨rfl, fun j hj => ?_, fun j hj => ?_, fun i j hij hj => ?_, by omega, alloc_bel (alloc_bel (alloc_bel (alloc_up _ _) _) _) _⟩
  · rcases (show j = 0 ∨ j = 1 ∨ j = 2 by omega) with rfl | rfl | rfl <;> simp [go_sem, qat, qval]
  · rcases (show j = 0 ∨ j = 1 ∨ j = 2 by omega) with rfl | rfl | rfl
    · exact p1
    · exact p2
    · exact p3
  · rcases (show (i = 0 ∧ j = 1) ∨ (i = 0 ∧ j = 2) ∨ (i = 1 ∧ j = 2) by omega) with ⟨rfl, rfl⟩ | ⟨rfl, rfl⟩ | ⟨rfl, rfl⟩ <;> simp [qat]
theorem fr_xor (w : World) (a b k : Int) : Fr w (((l3w w #[.int .i64 a, .int .i64 b, .int .i64 (-k)] #[.int .i64 (-a), .int .i64 (-b), .int .i64 (-k)] #[.int .i64 (-a), .int .i64 b, .int .i64 k]).alloc (.cells #[.int .i64 a, .int .i64 (-b), .int .i64 k] 3)).alloc (.cells #[.slice (some ⟨w.heap.size, 0, none⟩) 3 3, .slice (some ⟨w.heap.size + 1, 0, none⟩) 3 3, .slice (some ⟨w.heap.size + 2, 0, none⟩) 3 3, .slice (some ⟨w.heap.size + 3, 0, none⟩) 3 3] 43)) (w.heap.size + 4) 4 [(w.heap.size, [a, b, -k]), (w.heap.size + 1, [-a, -b, -k]), (w.heap.size + 2, [-a, b, k]), (w.heap.size + 3, [a, -b, k])] := by
  have b1 := alloc_up w (.cells #[.int .i64 a, .int .i64 b, .int .i64 (-k)] 3)
  have b2 := alloc_bel b1 (.cells #[.int .i64 (-a), .int .i64 (-b), .int .i64 (-k)] 3)
  have b3 := alloc_bel b2 (.cells #[.int .i64 (-a), .int .i64 b, .int .i64 k] 3)
  have q1 := lit_ok w #[.int .i64 a, .int .i64 b, .int .i64 (-k)] [a, b, -k] rfl
  have q2 := lit_next (w := w) #[.int .i64 (-a), .int .i64 (-b), .int .i64 (-k)] [-a, -b, -k] rfl b1 (w.heap.size + 1) (by simp)
  have q3 := lit_next (w := w) #[.int .i64 (-a), .int .i64 b, .int .i64 k] [-a, b, k] rfl b2 (w.heap.size + 2) (by simp)
  have q4 := lit_next (w := w) #[.int .i64 a, .int .i64 (-b), .int .i64 k] [a, -b, k] rfl b3 (w.heap.size + 3) (by simp)
  refine ⟨rfl, fun j hj => ?_, fun j hj => ?_, fun i j hij hj => ?_, by omega, alloc_bel (alloc_bel b3 _) _⟩
  · rcases (show j = 0 ∨ j = 1 ∨ j = 2 ∨ j = 3 by omega) with rfl | rfl | rfl | rfl <;> simp [go_sem, qat, qval]
  · rcases (show j = 0 ∨ j = 1 ∨ j = 2 ∨ j = 3 by omega) with rfl | rfl | rfl | rfl
    · exact (((q1.later (alloc_up _ _)).later (alloc_up _ _)).later (alloc_up _ _)).later (alloc_up _ _)
    · exact ((q2.later (alloc_up _ _)).later (alloc_up _ _)).later (alloc_up _ _)
    · exact (q3.later (alloc_up _ _)).later (alloc_up _ _)
    · exact q4.later (alloc_up _ _)
  · rcases (show (i = 0 ∧ j = 1) ∨ (i = 0 ∧ j = 2) ∨ (i = 1 ∧ j = 2) ∨ (i = 0 ∧ j = 3) ∨ (i = 1 ∧ j = 3) ∨ (i = 2 ∧ j = 3) by omega) with ⟨rfl, rfl⟩ | ⟨rfl, rfl⟩ | ⟨rfl, rfl⟩ | ⟨rfl, rfl⟩ | ⟨rfl, rfl⟩ | ⟨rfl, rfl⟩ <;> simp [qat]
/-- The first clause of a net, in a list of its own. -/
theorem Cr.one (w : World) : Cr ((w.alloc (.cells #[.int .i64 1] 3)).alloc (.cells #[.slice (some ⟨w.heap.size, 0, none⟩) 1 1] 43)) w.heap.size (w.heap.size + 1) 1 1 [(w.heap.size, [1])] := by
  have q1 := (lit_ok w #[.int .i64 1] [1] rfl).later (alloc_up _ (.cells #[.slice (some ⟨w.heap.size, 0, none⟩) 1 1] 43))
  have ow := World.ownsRow_lit (e := 43) (size := 1) (base := w.heap.size) (w.alloc (.cells #[.int .i64 1] 3)) #[.slice (some ⟨w.heap.size, 0, none⟩) 1 1] 1 (by simp) (by unfold maxLen; omega) rfl
  simp only [World.size_alloc] at ow
  refine ⟨ow, fun i hi => ?_, fun i j h1 h2 => by omega⟩
  obtain rfl : i = 0 := by omega
  exact ⟨q1, by simp [qat]⟩
/-- The list beside a box X that is no part of it. -/
def CrX (w : World) (base X g n cap : Nat) (Q : List Qc) : Prop := Cr w base g n cap Q ∧ X ≠ g ∧ (∀ i, i < n → (qat Q i).1 ≠ X)
theorem CrX.later {w w' : World} {base X g n cap : Nat} {Q : List Qc} (h : CrX w base X g n cap Q) (hb : Below w.heap.size w w') : CrX w' base X g n cap Q := ⟨h.1.later hb, h.2⟩
theorem CrX.mov {w w' : World} {base X g n cap : Nat} {Q : List Qc} (h : CrX w base X g n cap Q) (hm : Mov X w w') : CrX w' base X g n cap Q := by
  refine ⟨⟨World.ownsRow.kept (w' := w') h.1.o (grown_mov hm) (Or.inr (by simp [Value.ownBlock]; exact fun e => h.2.1 e.symm)), fun i hi => ⟨(h.1.c i hi).1.mov hm (h.2.2 i hi), (h.1.c i hi).2⟩, h.1.d⟩, h.2⟩
theorem CrX.app {w0 w : World} {base X g n cap T m : Nat} {Q P : List Qc} (h : CrX w0 base X g n cap Q) (hX : X < w0.heap.size) (k : Fr w0 w T m P) (hbase : base ≤ w0.heap.size) (h63 : n + m ≤ 100000) (ty : TypeId) (cx : Nat) :
    ∃ g' cap' w', (Builtin.append_ #[26, 26] ty #[.slice (some ⟨g, 0, none⟩) n cap, .slice (some ⟨T, 0, none⟩) m cx]).run Try.prog w = .ok (.slice (some ⟨g', 0, none⟩) (n + m) cap') w' ∧ CrX w' base X g' (n + m) cap' (Q ++ P) ∧ Mov g w w' ∧ base ≤ g ∧ w0.heap.size ≤ w'.heap.size := by
  obtain ⟨g', cap', w', h1, h2, h3, h4, h5⟩ := h.1.app k hbase h63 ty cx
  have hQ := h.1.len
  refine ⟨g', cap', w', h1, ⟨h2, ?_, fun i hi => ?_⟩, mov_of_grown h3, own_base h.1.o, Nat.le_trans k.b.size h3.size⟩
  · rcases h4 with e | e
    · rw [e]; exact h.2.1
    · have := k.b.size; omega
  · by_cases hin : i < n
    · rw [qat_left (by omega)]; exact h.2.2 i hin
    · rw [qat_right (by omega), hQ]
      have := (k.c (i - n) (by omega)).1
      omega
end Go.Proofs.Ytoglplpchjcpoaa
