/- Nets with a gate too many: how they are made, and that they are not right. -/
import Derived.Test.YtbfijmijhfbkdaaGapA
import Derived.Test.YtbfijmijhfbkdaaNsA
import Derived.Test.YtbfijmijhfbkdaaNokC
import Derived.Test.YtbfijmijhfbkdaaDnA
namespace Go.Proofs.Ytbfijmijhfbkdaa
open Go.ChangeShapes Go.WideShapes Go.ChangeAt Go.RowKit Go.Joins
set_option linter.unusedVariables false
set_option linter.unusedSimpArgs false

theorem nsB_comm (m m' : Int) (n n' : Nat) (G G' : Nat → Gt) : nsB m m' n n' G G' = nsB m' m n' n G' G := by
  have e : geB n n' G G' = geB n' n G' G := by
    rw [Bool.eq_iff_iff, geB_iff, geB_iff]
    exact ⟨fun ⟨h1, h2⟩ => ⟨h1.symm, fun i hi => (h2 i (by omega)).symm⟩, fun ⟨h1, h2⟩ => ⟨h1.symm, fun i hi => (h2 i (by omega)).symm⟩⟩
  unfold nsB
  rw [e, Bool.beq_comm]
theorem nsB_self (m : Int) (n : Nat) (G : Nat → Gt) : nsB m m n n G G = true := by
  unfold nsB
  rw [geB_yes ⟨rfl, fun _ _ => rfl⟩]
  simp
theorem nsB_more (m : Int) (n : Nat) (G G' : Nat → Gt) : nsB m m n (n + 1) G G' = false := by
  unfold nsB
  rw [geB_no (fun h => by have := h.1; omega)]
  simp
theorem bad_gate {m : Int} {n : Nat} {G : Nat → Gt} {g : Gt} (h : ¬ GmP (2 + m + n) g) : netB m (n + 1) (snocG G n g) = false := netB_no (fun hp => h (by
  have := (hp.2.2.2 n (by omega)).1
  rw [snocG_at] at this
  exact this))
/-- All gates twice. -/
def dblG (G : Nat → Gt) (n : Nat) (i : Nat) : Gt := if i < n then G i else G (i - n)
theorem bad_dbl {m : Int} {n : Nat} {G : Nat → Gt} (h : 0 < n) : netB m (n + n) (dblG G n) = false := netB_no (fun hp => by
  have := (hp.2.2.2 n (by omega)).2 0 h
  apply this
  unfold dblG
  rw [if_pos h, if_neg (by omega), Nat.sub_self])
theorem gcells_dbl (G : Nat → Gt) (n : Nat) : ∀ k, gcells G n ++ gcells G k = gcells (dblG G n) (n + k)
  | 0 => by
    simp only [gcells, List.append_nil, Nat.add_zero]
    exact gcells_cong (fun i hi => by unfold dblG; rw [if_pos hi])
  | k + 1 => by
    have h := gcells_dbl G n k
    have e : gcells (dblG G n) (n + (k + 1)) = gcells (dblG G n) (n + k) ++ [.bool (dblG G n (n + k)).x, .int .i64 (dblG G n (n + k)).a, .int .i64 (dblG G n (n + k)).b] := rfl
    have e2 : dblG G n (n + k) = G k := by unfold dblG; rw [if_neg (by omega), Nat.add_sub_cancel_left]
    rw [e, ← h, e2]
    simp [gcells]
/-- A copy of gates that stand elsewhere, in a row of its own. -/
theorem gat_copy (w : World) (ad : Option Addr) (n cap : Nat) (G : Nat → Gt) (hd : GtsAt w ad n G) (hnn : ad = none → n = 0 ∧ cap = 0) (hspot : ∀ p, ad = some p → p.spot = none) (hn : n ≤ 1000) :
    ∃ g c w', (Builtin.append_ #[23, 23] 23 #[.slice (some ⟨w.heap.size, 0, none⟩) 0 0, .slice ad n cap]).run Try.prog (w.alloc (.cells #[] 34)) = .ok (.slice (some ⟨g, 0, none⟩) n c) w' ∧ w'.ownsRow w.heap.size 34 3 (.slice (some ⟨g, 0, none⟩) n c) n (gcells G n) ∧ Below w.heap.size w w' := by
  obtain ⟨i0, hi0, hzz⟩ := Option.map_eq_some_iff.1 infoGat
  simp only [Prod.mk.injEq] at hzz
  obtain ⟨hz0, hz1, hz2⟩ := hzz
  have ba : Below w.heap.size w (w.alloc (.cells #[] 34)) := (Below.refl _ _).alloc (Nat.le_refl _) _
  have o4 := own_new w 34 3
  cases ad with
  | none =>
    obtain ⟨rfl, rfl⟩ := hnn rfl
    exact ⟨_, _, _, run_append_owned_none _ w.heap.size 23 _ 34 i0 3 Try.underlying23 hi0 _ 0 [] o4, o4, ba⟩
  | some p =>
    obtain ⟨b, off, spot⟩ := p
    have hsp := hspot _ rfl
    simp only at hsp
    subst hsp
    have hi : Gts (w.alloc (.cells #[] 34)) b off n G := by
      rcases hd.later ba with rfl | ⟨b', off', e, _, hd⟩
      · exact fun i hi => by omega
      · simp only [Option.some.injEq, Addr.mk.injEq, and_true] at e
        obtain ⟨rfl, rfl⟩ := e
        exact hd
    obtain ⟨g', cap', w', h1, h2, h3, h4⟩ := gat_app (w.alloc (.cells #[] 34)) w.heap.size w.heap.size 0 0 23 [] b off n cap G o4 hi (by omega) (by simp)
    simp only [Nat.zero_add, List.nil_append] at h1 h2
    exact ⟨g', cap', w', h1, h2, ba.trans ((mov_of_grown h3).below (Nat.le_refl _) ba.size)⟩
/-- A net in a box, its gates copied and one put behind them. -/
theorem gat_grow (wb : World) (m : Int) (ad : Option Addr) (n cap : Nat) (G : Nat → Gt) (q : Gt) (hd : GtsAt wb ad n G) (hnn : ad = none → n = 0 ∧ cap = 0) (hspot : ∀ p, ad = some p → p.spot = none) (hn : n ≤ 1000) :
    ∃ g1 c1 w2 g2 c2 w3, (Builtin.append_ #[23, 23] 23 #[.slice (some ⟨wb.heap.size + 1, 0, none⟩) 0 0, .slice ad n cap]).run Try.prog ((wb.alloc (.cells #[.int .i64 m, .slice ad n cap] 25)).alloc (.cells #[] 34)) = .ok (.slice (some ⟨g1, 0, none⟩) n c1) w2 ∧
      (Builtin.append_ #[23, 23] 23 #[.slice (some ⟨g1, 0, none⟩) n c1, .slice (some ⟨w2.heap.size, 0, none⟩) 1 1]).run Try.prog (w2.alloc (.cells #[.bool q.x, .int .i64 q.a, .int .i64 q.b] 34)) = .ok (.slice (some ⟨g2, 0, none⟩) (n + 1) c2) w3 ∧
      NBox w3 wb.heap.size m ad n cap ∧ (∀ o, w3.frozen? ⟨wb.heap.size, o, none⟩ = false) ∧ Below wb.heap.size wb w3 ∧
      NBox (w3.setCell ⟨wb.heap.size, 1, none⟩ (.slice (some ⟨g2, 0, none⟩) (n + 1) c2)) wb.heap.size m (some ⟨g2, 0, none⟩) (n + 1) c2 ∧ GtsAt (w3.setCell ⟨wb.heap.size, 1, none⟩ (.slice (some ⟨g2, 0, none⟩) (n + 1) c2)) (some ⟨g2, 0, none⟩) (n + 1) (snocG G n q) ∧ Below wb.heap.size wb (w3.setCell ⟨wb.heap.size, 1, none⟩ (.slice (some ⟨g2, 0, none⟩) (n + 1) c2)) := by
  obtain ⟨w1, hw1⟩ : ∃ w1, w1 = wb.alloc (.cells #[.int .i64 m, .slice ad n cap] 25) := ⟨_, rfl⟩
  have b1 : Below wb.heap.size wb w1 := by rw [hw1]; exact (Below.refl _ _).alloc (Nat.le_refl _) _
  have z1 : w1.heap.size = wb.heap.size + 1 := by rw [hw1]; simp
  have p0 : w1.cell? ⟨wb.heap.size, 0, none⟩ = some (.int .i64 m) := by rw [hw1]; simp [go_sem]
  have p1 : w1.cell? ⟨wb.heap.size, 1, none⟩ = some (.slice ad n cap) := by rw [hw1]; simp [go_sem]
  have pf : ∀ o, w1.frozen? ⟨wb.heap.size, o, none⟩ = false := fun o => by rw [hw1]; simp [go_sem]
  obtain ⟨g1, c1, w2, r1, o2, b2⟩ := gat_copy w1 ad n cap G (hd.later b1) hnn hspot hn
  obtain ⟨wt, hwt⟩ : ∃ wt, wt = w2.alloc (.cells #[.bool q.x, .int .i64 q.a, .int .i64 q.b] 34) := ⟨_, rfl⟩
  have bt : Below w2.heap.size w2 wt := by rw [hwt]; exact (Below.refl _ _).alloc (Nat.le_refl _) _
  have qT : Gts wt w2.heap.size 0 1 (fun _ => q) := by refine Gts.lone ?_ ?_ ?_ <;> (rw [hwt]; simp [go_sem])
  have o3 := World.ownsRow.kept o2 (grown_below bt) (Classical.em _)
  obtain ⟨g2, c2, w3, r2, o4, gr, at4⟩ := gat_app wt w1.heap.size g1 n c1 23 (gcells G n) w2.heap.size 0 1 1 (fun _ => q) o3 qT (by omega) (by have := b2.size; have := bt.size; omega)
  have e : gcells G n ++ gcells (fun _ => q) 1 = gcells (snocG G n q) (n + 1) := by rw [← gcells_snoc]; rfl
  rw [e] at o4
  have g1b := own_base o2
  have g2b := own_base o4
  have s2 := b2.size
  have s3 := bt.size
  have b13 : Below w1.heap.size w1 w3 := (b2.trans (bt.mono s2)).trans ((mov_of_grown gr).below g1b (by omega))
  have x0 := b13.cell (p := ⟨wb.heap.size, 0, none⟩) (by simp only; omega)
  have x1 := b13.cell (p := ⟨wb.heap.size, 1, none⟩) (by simp only; omega)
  rw [p0] at x0
  rw [p1] at x1
  have hv : Mov wb.heap.size w3 (w3.setCell ⟨wb.heap.size, 1, none⟩ (.slice (some ⟨g2, 0, none⟩) (n + 1) c2)) := Mov.set _ _ _
  have b3 : Below wb.heap.size wb w3 := b1.trans (b13.mono (by omega))
  rw [z1, hw1] at r1
  rw [hwt] at r2
  refine ⟨g1, c1, w2, g2, c2, w3, r1, r2, ⟨x0, x1⟩, fun o => (b13.frozen (p := ⟨wb.heap.size, o, none⟩) (by simp only; omega)).trans (pf o), b3, ⟨by rw [World.cell?_setCell_other _ _ _ _ (by simp)]; exact x0, World.cell?_setCell_same _ _ _ x1⟩, (own_gtsAt o4).apart (Or.inr (fun b off e => by cases e; omega)) hv, b3.trans (hv.below (Nat.le_refl _) b3.size)⟩
/-- A copy of gates, and all of them once more behind it. -/
theorem gat_dbl (w : World) (ad : Option Addr) (n cap : Nat) (G : Nat → Gt) (hd : GtsAt w ad n G) (hnn : ad = none → n = 0 ∧ cap = 0) (hspot : ∀ p, ad = some p → p.spot = none) (hn : n ≤ 1000) :
    ∃ g1 c1 w2 g2 c2 w3, (Builtin.append_ #[23, 23] 23 #[.slice (some ⟨w.heap.size, 0, none⟩) 0 0, .slice ad n cap]).run Try.prog (w.alloc (.cells #[] 34)) = .ok (.slice (some ⟨g1, 0, none⟩) n c1) w2 ∧
      (Builtin.append_ #[23, 23] 23 #[.slice (some ⟨g1, 0, none⟩) n c1, .slice ad n cap]).run Try.prog w2 = .ok (.slice (some ⟨g2, 0, none⟩) (n + n) c2) w3 ∧ Below w.heap.size w w2 ∧
      GtsAt w3 (some ⟨g2, 0, none⟩) (n + n) (dblG G n) ∧ w.heap.size ≤ g2 ∧ Below w.heap.size w w3 := by
  obtain ⟨i0, hi0, hzz⟩ := Option.map_eq_some_iff.1 infoGat
  simp only [Prod.mk.injEq] at hzz
  obtain ⟨hz0, hz1, hz2⟩ := hzz
  obtain ⟨g1, c1, w2, r1, o2, b2⟩ := gat_copy w ad n cap G hd hnn hspot hn
  have g1b := own_base o2
  cases ad with
  | none =>
    obtain ⟨rfl, rfl⟩ := hnn rfl
    refine ⟨g1, c1, w2, g1, c1, w2, r1, run_append_owned_none _ w.heap.size 23 _ 34 i0 3 Try.underlying23 hi0 _ 0 _ o2, b2, Or.inl rfl, g1b, b2⟩
  | some p =>
    obtain ⟨b, off, spot⟩ := p
    have hsp := hspot _ rfl
    simp only at hsp
    subst hsp
    have hi : Gts w2 b off n G := by
      rcases hd.later b2 with rfl | ⟨b', off', e, _, hd⟩
      · exact fun i hi => by omega
      · simp only [Option.some.injEq, Addr.mk.injEq, and_true] at e
        obtain ⟨rfl, rfl⟩ := e
        exact hd
    obtain ⟨g2, c2, w3, h1, h2, h3, h4⟩ := gat_app w2 w.heap.size g1 n c1 23 (gcells G n) b off n cap G o2 hi (by omega) b2.size
    rw [gcells_dbl] at h2
    exact ⟨g1, c1, w2, g2, c2, w3, r1, h1, b2, own_gtsAt h2, own_base h2, b2.trans ((mov_of_grown h3).below g1b b2.size)⟩
end Go.Proofs.Ytbfijmijhfbkdaa
