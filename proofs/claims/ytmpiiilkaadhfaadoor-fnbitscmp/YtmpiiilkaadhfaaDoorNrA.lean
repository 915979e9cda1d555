/- Gates found again or made, of the model. -/
import Derived.Test.YtmpiiilkaadhfaaDoorNokA
import Derived.Test.YtmpiiilkaadhfaaDoorGapA
import Derived.Test.YtmpiiilkaadhfaaDoorLeaM
namespace Go.Proofs.YtmpiiilkaadhfaaDoor
open Go.ChangeShapes Go.WideShapes Go.ChangeAt Go.RowKit Go.Joins
set_option linter.unusedVariables false
set_option maxRecDepth 100000
set_option linter.unusedSimpArgs false

/-- A net, and a mark. -/
structure NR where
  m : Int
  n : Nat
  G : Nat → Gt
  k : Int
/-- The gate of two, found again or made. -/
def putR (m : Int) (n : Nat) (G : Nat → Gt) (g : Gt) : NR :=
  match firstO (fun i => geq (G i) g) n with
  | some i => ⟨m, n, G, 2 + m + i⟩
  | none => if 600 ≤ n then ⟨0, 0, G, 0⟩ else ⟨m, n + 1, snocG G n g, 2 + m + n⟩
theorem putR_at {m : Int} {n : Nat} {G : Nat → Gt} {g : Gt} {i : Nat} (hi : i < n) (hg : G i = g) (h : ∀ j, j < i → G j ≠ g) : putR m n G g = ⟨m, n, G, 2 + m + i⟩ := by
  unfold putR
  rw [firstO_at (fun j hj => geq_no.2 (h j hj)) (geq_iff.2 hg) n hi]
theorem putR_full {m : Int} {n : Nat} {G : Nat → Gt} {g : Gt} (h : ∀ j, j < n → G j ≠ g) (hn : 600 ≤ n) : putR m n G g = ⟨0, 0, G, 0⟩ := by
  unfold putR
  rw [firstO_none (fun j hj => geq_no.2 (h j hj))]
  simp [hn]
theorem putR_new {m : Int} {n : Nat} {G : Nat → Gt} {g : Gt} (h : ∀ j, j < n → G j ≠ g) (hn : n < 600) : putR m n G g = ⟨m, n + 1, snocG G n g, 2 + m + n⟩ := by
  unfold putR
  rw [firstO_none (fun j hj => geq_no.2 (h j hj))]
  simp [Nat.not_le.2 hn]
/-- A net and a mark, as they are handed back. -/
def NPost (r : NR) (ad : Option Addr) (base : Nat) (e : Ending) (w' : World) : Prop := ∃ a cap, e = .returned (.tuple #[.agg #[.int .i64 r.m, .slice a r.n cap], .int .i64 r.k]) ∧ GtsAt w' a r.n r.G ∧ (a = none → r.n = 0 ∧ cap = 0) ∧ (∀ p, a = some p → p.spot = none) ∧ (a = none ∨ a = ad ∨ ∃ b, a = some ⟨b, 0, none⟩ ∧ base ≤ b ∧ b < w'.heap.size)
theorem setBox {w : World} {b : Nat} {m m' : Int} {v v' : Value} (h0 : w.cell? ⟨b, 0, none⟩ = some (.int .i64 m)) (h1 : w.cell? ⟨b, 1, none⟩ = some v) :
    ((w.setCell ⟨b, 0, none⟩ (.int .i64 m')).setCell ⟨b, 1, none⟩ v').cell? ⟨b, 0, none⟩ = some (.int .i64 m') ∧ ((w.setCell ⟨b, 0, none⟩ (.int .i64 m')).setCell ⟨b, 1, none⟩ v').cell? ⟨b, 1, none⟩ = some v' := by
  have e1 : (w.setCell ⟨b, 0, none⟩ (.int .i64 m')).cell? ⟨b, 1, none⟩ = some v := by rw [World.cell?_setCell_other _ _ _ _ (by simp)]; exact h1
  exact ⟨by rw [World.cell?_setCell_other _ _ _ _ (by simp)]; exact World.cell?_setCell_same _ _ _ h0, World.cell?_setCell_same _ _ _ e1⟩
theorem alloc_at {w : World} {o : Obj} {k : Nat} (h : k = w.heap.size) : (w.alloc o).heap[k]? = some o := by subst h; exact heap_alloc_new w o
theorem alloc_past {w : World} {o x : Obj} {k : Nat} (h2 : w.heap[k]? = some x) : (w.alloc o).heap[k]? = some x := by
  have hk := (Array.getElem?_eq_some_iff.1 h2).1
  rw [← h2]
  exact heap_alloc_old w o hk
theorem Gts.grown {w w' : World} {b off n X : Nat} {G : Nat → Gt} (h : Gts w b off n G) (hg : w.grownBy w' (some X)) (hX : b ≠ X) : Gts w' b off n G :=
  fun i hi => ⟨grown_cell hg (h i hi).1 (by simp; omega), grown_cell hg (h i hi).2.1 (by simp; omega), grown_cell hg (h i hi).2.2 (by simp; omega)⟩
theorem GtsAt.mov2 {w w' : World} {b off n B : Nat} {G : Nat → Gt} (h : GtsAt w (some ⟨b, off, none⟩) n G) (hB : b ≠ B) (hm : Mov B w w') : GtsAt w' (some ⟨b, off, none⟩) n G := by
  rcases h with h | ⟨b', off', e, h2, h3⟩
  · exact Or.inl h
  · cases e
    exact Or.inr ⟨b, off, rfl, Nat.lt_of_lt_of_le h2 hm.size, fun i hi => ⟨hm.cell (h3 i hi).1 (by simp only; omega), hm.cell (h3 i hi).2.1 (by simp only; omega), hm.cell (h3 i hi).2.2 (by simp only; omega)⟩⟩
theorem GtsAt.apart {w w' : World} {a : Option Addr} {n B : Nat} {G : Nat → Gt} (h : GtsAt w a n G) (hB : n = 0 ∨ ∀ b off, a = some ⟨b, off, none⟩ → b ≠ B) (hm : Mov B w w') : GtsAt w' a n G := by
  rcases h with h | ⟨b, off, rfl, h2, h3⟩
  · exact Or.inl h
  · rcases hB with hB | hB
    · exact Or.inl hB
    · exact GtsAt.mov2 (Or.inr ⟨b, off, rfl, h2, h3⟩) (hB b off rfl) hm
set_option maxRecDepth 100000 in
set_option maxHeartbeats 400000 in
theorem l6Many_any (m : Int) (a : Option Addr) (n cap : Nat) (w : World) (hm0 : 0 ≤ m) (hm1 : m ≤ 8) (hn : n ≤ 1048576) :
    Calls Tryd.prog 82 #[.agg #[.int .i64 m, .slice a n cap]] w fun e w' => e = .returned (.int .i64 (1 + m + n)) ∧ Below w.heap.size w w' := by
  go_enter Tryd.func82, Tryd.ntmps82
  go_wp2
  go_ret
  exact ⟨rfl, (by repeat (first | exact Below.refl _ _ | assumption | refine below_drewN ?_ _ | refine Below.drew ?_ | refine Below.alloc ?_ (by first | exact Nat.le_refl _ | exact Below.size (by assumption) | (simp; done) | (simp; omega)) _ | refine Below.setCell ?_ (by first | exact Nat.le_refl _ | exact Below.size (by assumption) | (simp; done) | (simp; omega)) _ | refine Below.trans ?_ (by assumption)))⟩
/-- A net has a mark, turned or not. -/
def mkP (m : Int) (n : Nat) (k : Int) : Bool := decide (k ≠ 0) && (decide (-(1 + m + n) ≤ k) && decide (k ≤ 1 + m + n))
set_option maxRecDepth 100000 in
set_option maxHeartbeats 1000000 in
theorem l6Mark_any (m : Int) (a : Option Addr) (n cap : Nat) (k : Int) (w : World) (hm0 : 0 ≤ m) (hm1 : m ≤ 8) (hn : n ≤ 1048576) :
    Calls Tryd.prog 54 #[.agg #[.int .i64 m, .slice a n cap], .int .i64 k] w fun e w' => e = .returned (.bool (mkP m n k)) ∧ Below w.heap.size w w' := by
  unfold mkP
  have BZ : Below w.heap.size w (w.alloc (.cells #[.int .i64 m, .slice a n cap] 25)) := (Below.refl _ _).alloc (Nat.le_refl _) _
  by_cases h0 : k = 0
  · subst h0
    go_enter Tryd.func54, Tryd.ntmps54
    go_wp2_with fail
    refine (l6Many_any _ _ _ _ _ hm0 hm1 hn).mono ?_
    rintro e w1 ⟨rfl, b1⟩
    have BL := BZ.trans (b1.mono BZ.size)
    clear b1 BZ
    go_wp2
    go_ret
    exact ⟨rfl, BL⟩
  · have kb : (k != 0) = true := by simp [h0]
    by_cases h1 : -(1 + m + (n : Int)) ≤ k
    · by_cases h2 : k ≤ 1 + m + (n : Int)
      all_goals
        go_enter Tryd.func54, Tryd.ntmps54
        go_wp2_with fail
        refine (l6Many_any _ _ _ _ _ hm0 hm1 hn).mono ?_
        rintro e w1 ⟨rfl, b1⟩
        have BL := BZ.trans (b1.mono BZ.size)
        clear b1 BZ
        go_wp2
        go_ret
        exact ⟨ret_bool (by simp [h0]; omega), BL⟩
    · go_enter Tryd.func54, Tryd.ntmps54
      go_wp2_with fail
      refine (l6Many_any _ _ _ _ _ hm0 hm1 hn).mono ?_
      rintro e w1 ⟨rfl, b1⟩
      have BL := BZ.trans (b1.mono BZ.size)
      clear b1 BZ
      go_wp2
      go_ret
      exact ⟨ret_bool (by simp [h0]; omega), BL⟩
set_option maxRecDepth 100000 in
set_option maxHeartbeats 4000000 in
theorem l6Put_any (m : Int) (a : Option Addr) (n cap : Nat) (G : Nat → Gt) (g : Gt) (w : World) (hd : GtsAt w a n G) (hnn : a = none → n = 0 ∧ cap = 0) (hspot : ∀ p, a = some p → p.spot = none) (hm0 : 0 ≤ m) (hm1 : m ≤ 8) (hn : n ≤ 600) :
    Calls Tryd.prog 102 #[.agg #[.int .i64 m, .slice a n cap], .agg #[.bool g.x, .int .i64 g.a, .int .i64 g.b]] w fun e w' => NPost (putR m n G g) a w.heap.size e w' ∧ Below w.heap.size w w' := by
  have HD := hide hd
  have HQ : Hid (∀ (h : Gt) (w : World), (binOp .eql 76 (.agg #[.bool h.x, .int .i64 h.a, .int .i64 h.b]) (.agg #[.bool g.x, .int .i64 g.a, .int .i64 g.b])).run Tryd.prog w = .ok (.bool (geq h g)) w) := fun h w => eqGate_eql h g w
  clear hd
  go_enter Tryd.func102, Tryd.ntmps102
  go_wp2
  go_loopw [6] (fun i wr => ∃ j : Nat, j ≤ n ∧ i = .int .i64 j ∧ (∀ i, i < j → G i ≠ g) ∧ NBox wr w.heap.size m a n cap ∧ wr.cell? ⟨w.heap.size + 1, 0, none⟩ = some (.bool g.x) ∧ wr.cell? ⟨w.heap.size + 1, 1, none⟩ = some (.int .i64 g.a) ∧ wr.cell? ⟨w.heap.size + 1, 2, none⟩ = some (.int .i64 g.b) ∧ wr.cell? ⟨w.heap.size + 2, 0, none⟩ = some (.int .i64 0) ∧ wr.cell? ⟨w.heap.size + 2, 1, none⟩ = some (.slice none 0 0) ∧ (∀ b o, w.heap.size ≤ b → b ≤ w.heap.size + 2 → wr.frozen? ⟨b, o, none⟩ = false) ∧ Below w.heap.size w wr) (fun i _ => n - (intOf i).toNat)
  case atStart =>
    refine ⟨0, by omega, rfl, fun i hi => by omega, ⟨by simp [go_sem], by simp [go_sem]⟩, by simp [go_sem], by simp [go_sem], by simp [go_sem], by simp [go_sem], by simp [go_sem], ?_, (by repeat (first | exact Below.refl _ _ | assumption | refine below_drewN ?_ _ | refine Below.drew ?_ | refine Below.alloc ?_ (by first | exact Nat.le_refl _ | exact Below.size (by assumption) | (simp; done) | (simp; omega)) _ | refine Below.setCell ?_ (by first | exact Nat.le_refl _ | exact Below.size (by assumption) | (simp; done) | (simp; omega)) _ | refine Below.trans ?_ (by assumption)))⟩
    intro b o h1 h2
    have : b = w.heap.size ∨ b = w.heap.size + 1 ∨ b = w.heap.size + 2 := by omega
    rcases this with rfl | rfl | rfl <;> simp [go_sem]
  case round =>
    obtain ⟨j, hj, rfl, hok, ⟨p0, p1⟩, r0, r1, r2, s0, s1, hfz, hbel⟩ := hrel
    have HK := hide hok
    have HF := hide hfz
    have l2 := World.block_lt_of_cell? _ _ s0
    simp only at l2
    clear hok hfz
    by_cases hlt : j < n
    · obtain ⟨b, off, rfl, hb, hd⟩ := (unhide HD).ok hlt
      obtain ⟨c0, c1, c2⟩ := hd j hlt
      have g0 := (hbel.cell (p := ⟨b, off + j * 3, none⟩) hb).trans c0
      have g1 := (hbel.cell (p := ⟨b, off + j * 3 + 1, none⟩) hb).trans c1
      have g2 := (hbel.cell (p := ⟨b, off + j * 3 + 2, none⟩) hb).trans c2
      have hqq := unhide HQ (G j)
      clear c0 c1 c2 hd
      by_cases he : G j = g
      · have HR := hide (putR_at (m := m) hlt he (unhide HK))
        have HD1 := hide ((unhide HD).later hbel)
        rw [geq_iff.2 he] at hqq
        clear he
        have fz0 := unhide HF (w.heap.size + 2) 0 (by omega) (by omega)
        have fz1 := unhide HF (w.heap.size + 2) 1 (by omega) (by omega)
        have n0 : w.heap.size ≠ w.heap.size + 2 := by omega
        have n1 : w.heap.size + 2 ≠ w.heap.size := by omega
        have e1 : IntKind.i64.wrap (2 + m) = 2 + m := by rw [IntKind.wrap_i64]; omega
        have e2 : IntKind.i64.wrap (2 + m + j) = 2 + m + j := by rw [IntKind.wrap_i64]; omega
        go_wp2
        go_region
        all_goals go_wp2
        all_goals (try go_region)
        all_goals (try go_wp2)
        all_goals refine bodyPost_ret (v := .tuple #[.agg #[.int .i64 m, .slice (some ⟨b, off, none⟩) n cap], .int .i64 (2 + m + j)]) (by simp [results, Tryd.results102, go_sem, s0, s1]) rfl ?_
        all_goals rw [unhide HR]
        all_goals exact ⟨⟨_, _, rfl, (unhide HD).later (by repeat (first | exact Below.refl _ _ | assumption | refine below_drewN ?_ _ | refine Below.drew ?_ | refine Below.alloc ?_ (by first | exact Nat.le_refl _ | exact Below.size (by assumption) | (simp; done) | (simp; omega)) _ | refine Below.setCell ?_ (by first | exact Nat.le_refl _ | exact Below.size (by assumption) | (simp; done) | (simp; omega)) _ | refine Below.trans ?_ (by assumption))), hnn, hspot, Or.inr (Or.inl rfl)⟩, (by repeat (first | exact Below.refl _ _ | assumption | refine below_drewN ?_ _ | refine Below.drew ?_ | refine Below.alloc ?_ (by first | exact Nat.le_refl _ | exact Below.size (by assumption) | (simp; done) | (simp; omega)) _ | refine Below.setCell ?_ (by first | exact Nat.le_refl _ | exact Below.size (by assumption) | (simp; done) | (simp; omega)) _ | refine Below.trans ?_ (by assumption)))⟩
      · have HK1 : Hid (∀ i, i < j + 1 → G i ≠ g) := fun i hi => by
          by_cases e : i = j
          · subst e; exact he
          · exact unhide HK i (by omega)
        rw [geq_no.2 he] at hqq
        clear he
        go_wp2
        go_region
        all_goals go_wp2
        all_goals go_roundw
        all_goals first | exact ⟨j + 1, by omega, by go_num, unhide HK1, ⟨p0, p1⟩, r0, r1, r2, s0, s1, unhide HF, (by first | exact hbel | exact hbel.drew)⟩ | (simp [intOf]; omega)
    · have e : j = n := by omega
      subst e
      by_cases h6 : 600 ≤ j
      · have HR := hide (putR_full (m := m) (unhide HK) h6)
        have fz0 := unhide HF (w.heap.size + 2) 0 (by omega) (by omega)
        have fz1 := unhide HF (w.heap.size + 2) 1 (by omega) (by omega)
        go_wp2
        refine bodyPost_ret (v := .tuple #[.agg #[.int .i64 0, .slice none 0 0], .int .i64 0]) (by simp [results, Tryd.results102, go_sem, s0, s1]) rfl ?_
        rw [unhide HR]
        exact ⟨⟨_, _, rfl, Or.inl rfl, fun _ => ⟨rfl, rfl⟩, (fun p h => by cases h), Or.inl rfl⟩, (by repeat (first | exact Below.refl _ _ | assumption | refine below_drewN ?_ _ | refine Below.drew ?_ | refine Below.alloc ?_ (by first | exact Nat.le_refl _ | exact Below.size (by assumption) | (simp; done) | (simp; omega)) _ | refine Below.setCell ?_ (by first | exact Nat.le_refl _ | exact Below.size (by assumption) | (simp; done) | (simp; omega)) _ | refine Below.trans ?_ (by assumption)))⟩
      · have HR := hide (putR_new (m := m) (unhide HK) (by omega))
        have HDr := hide ((unhide HD).later hbel)
        have lw : w.heap.size < wr.heap.size := by omega
        have lw1 : w.heap.size + 1 < wr.heap.size := by omega
        have lw2 : w.heap.size + 2 < wr.heap.size := by omega
        have Pw0 := p0
        have Pw1 := p1
        have Rw0 := r0
        have Rw1 := r1
        have Rw2 := r2
        have Sw0 := hide s0
        have Sw1 := hide s1
        have h6' : ¬ (600 : Int) ≤ (j : Int) := by omega
        go_wp2
        -- orders
        refine wp_region_held_drew (S := fun w' => w'.cell? ⟨w.heap.size + 1, 0, none⟩ = some (.bool g.x) ∧ w'.cell? ⟨w.heap.size + 1, 1, none⟩ = some (.int .i64 g.a) ∧ w'.cell? ⟨w.heap.size + 1, 2, none⟩ = some (.int .i64 g.b)) (by kernel_rfl) ?_ (fun hHeld => ?_)
        · exact ⟨r0, r1, r2⟩
        refine wpAnyH_take (i := 1) (v := ?_) rfl (by kernel_rfl) (by kernel_rfl) (by kernel_rfl) (fun _ _ _ h => h) (Or.inl ⟨by rfl, ?_⟩) (by assumption) ?_
        rotate_left
        · (intro w hSw; (try dsimp only at hSw); first | (go_simp; done) | (go_simp; with_reducible rfl))
        try simp only [List.getElem_toArray, List.getElem_cons_succ, List.getElem_cons_zero, Act.put, List.setIfInBounds_toArray, List.set_cons_zero, List.set_cons_succ]
        refine wpAnyH_take (i := 4) (v := ?_) rfl (by kernel_rfl) (by kernel_rfl) (by kernel_rfl) (fun _ _ _ h => h) (Or.inl ⟨by rfl, ?_⟩) (by assumption) ?_
        rotate_left
        · (intro w hSw; (try dsimp only at hSw); first | (go_simp; done) | (go_simp; with_reducible rfl))
        try simp only [List.getElem_toArray, List.getElem_cons_succ, List.getElem_cons_zero, Act.put, List.setIfInBounds_toArray, List.set_cons_zero, List.set_cons_succ]
        refine wpAnyH_ready (rs := [0, 2, 5]) (by kernel_rfl) (by simp) ?_
        refine AllReadyH.cons rfl (fun K hK => ?_) (AllReadyH.cons rfl (fun K hK => ?_) (AllReadyH.cons rfl (fun K hK => ?_) AllReadyH.nil))
        · go_simp
          refine hK.out _ _ ?_ (fun hHeld => ?_)
          · exact ⟨((show Below wr.heap.size wr _ from (by repeat (first | exact Below.refl _ _ | assumption | refine below_drewN ?_ _ | refine Below.drew ?_ | refine Below.alloc ?_ (by first | exact Nat.le_refl _ | exact Below.size (by assumption) | (simp; done) | (simp; omega)) _ | refine Below.setCell ?_ (by first | exact Nat.le_refl _ | exact Below.size (by assumption) | (simp; done) | (simp; omega)) _ | refine Below.trans ?_ (by assumption)))).cell (p := ⟨w.heap.size + 1, 0, none⟩) lw1).trans Rw0, ((show Below wr.heap.size wr _ from (by repeat (first | exact Below.refl _ _ | assumption | refine below_drewN ?_ _ | refine Below.drew ?_ | refine Below.alloc ?_ (by first | exact Nat.le_refl _ | exact Below.size (by assumption) | (simp; done) | (simp; omega)) _ | refine Below.setCell ?_ (by first | exact Nat.le_refl _ | exact Below.size (by assumption) | (simp; done) | (simp; omega)) _ | refine Below.trans ?_ (by assumption)))).cell (p := ⟨w.heap.size + 1, 1, none⟩) lw1).trans Rw1, ((show Below wr.heap.size wr _ from (by repeat (first | exact Below.refl _ _ | assumption | refine below_drewN ?_ _ | refine Below.drew ?_ | refine Below.alloc ?_ (by first | exact Nat.le_refl _ | exact Below.size (by assumption) | (simp; done) | (simp; omega)) _ | refine Below.setCell ?_ (by first | exact Nat.le_refl _ | exact Below.size (by assumption) | (simp; done) | (simp; omega)) _ | refine Below.trans ?_ (by assumption)))).cell (p := ⟨w.heap.size + 1, 2, none⟩) lw1).trans Rw2⟩
          clear hK K
          try simp only [List.getElem_toArray, List.getElem_cons_succ, List.getElem_cons_zero, Act.put, List.setIfInBounds_toArray, List.set_cons_zero, List.set_cons_succ]
          refine wpAnyH_ready (rs := [2, 5]) (by kernel_rfl) (by simp) ?_
          refine AllReadyH.cons rfl (fun K hK => ?_) (AllReadyH.cons rfl (fun K hK => ?_) AllReadyH.nil)
          · go_simp
            refine hK.out _ _ ?_ (fun hHeld => ?_)
            · exact ⟨((show Below wr.heap.size wr _ from (by repeat (first | exact Below.refl _ _ | assumption | refine below_drewN ?_ _ | refine Below.drew ?_ | refine Below.alloc ?_ (by first | exact Nat.le_refl _ | exact Below.size (by assumption) | (simp; done) | (simp; omega)) _ | refine Below.setCell ?_ (by first | exact Nat.le_refl _ | exact Below.size (by assumption) | (simp; done) | (simp; omega)) _ | refine Below.trans ?_ (by assumption)))).cell (p := ⟨w.heap.size + 1, 0, none⟩) lw1).trans Rw0, ((show Below wr.heap.size wr _ from (by repeat (first | exact Below.refl _ _ | assumption | refine below_drewN ?_ _ | refine Below.drew ?_ | refine Below.alloc ?_ (by first | exact Nat.le_refl _ | exact Below.size (by assumption) | (simp; done) | (simp; omega)) _ | refine Below.setCell ?_ (by first | exact Nat.le_refl _ | exact Below.size (by assumption) | (simp; done) | (simp; omega)) _ | refine Below.trans ?_ (by assumption)))).cell (p := ⟨w.heap.size + 1, 1, none⟩) lw1).trans Rw1, ((show Below wr.heap.size wr _ from (by repeat (first | exact Below.refl _ _ | assumption | refine below_drewN ?_ _ | refine Below.drew ?_ | refine Below.alloc ?_ (by first | exact Nat.le_refl _ | exact Below.size (by assumption) | (simp; done) | (simp; omega)) _ | refine Below.setCell ?_ (by first | exact Nat.le_refl _ | exact Below.size (by assumption) | (simp; done) | (simp; omega)) _ | refine Below.trans ?_ (by assumption)))).cell (p := ⟨w.heap.size + 1, 2, none⟩) lw1).trans Rw2⟩
            clear hK K
            try simp only [List.getElem_toArray, List.getElem_cons_succ, List.getElem_cons_zero, Act.put, List.setIfInBounds_toArray, List.set_cons_zero, List.set_cons_succ]
            refine wpAnyH_ready (rs := [3, 5]) (by kernel_rfl) (by simp) ?_
            refine AllReadyH.cons rfl (fun K hK => ?_) (AllReadyH.cons rfl (fun K hK => ?_) AllReadyH.nil)
            · apply step_gat_copy (s := .tmp 32) (x := .tmp 34) (G := G) (base := wr.heap.size)
              case hgd => rfl
              case ho => rfl
              case hs => rfl
              case hx => rfl
              case hX => first | exact alloc_at (by simp) | exact alloc_past (alloc_at (by simp))
              case hbX => first | omega | (simp; done) | (simp; omega)
              case hbase => first | omega | (simp; done) | (simp; omega)
              case hc => exact (unhide HDr).later (by repeat (first | exact Below.refl _ _ | assumption | refine below_drewN ?_ _ | refine Below.drew ?_ | refine Below.alloc ?_ (by first | exact Nat.le_refl _ | exact Below.size (by assumption) | (simp; done) | (simp; omega)) _ | refine Below.setCell ?_ (by first | exact Nat.le_refl _ | exact Below.size (by assumption) | (simp; done) | (simp; omega)) _ | refine Below.trans ?_ (by assumption)))
              case hnn => exact hnn
              case hspot => exact hspot
              case hl => omega
              case h =>
                intro g1 c1 wa o1 gr1 at1 lt1
                have ba := (show Below wr.heap.size wr _ from (by repeat (first | exact Below.refl _ _ | assumption | refine below_drewN ?_ _ | refine Below.drew ?_ | refine Below.alloc ?_ (by first | exact Nat.le_refl _ | exact Below.size (by assumption) | (simp; done) | (simp; omega)) _ | refine Below.setCell ?_ (by first | exact Nat.le_refl _ | exact Below.size (by assumption) | (simp; done) | (simp; omega)) _ | refine Below.trans ?_ (by assumption)))).trans ((mov_of_grown gr1).below (by first | omega | (simp; done) | (simp; omega)) (by first | omega | (simp; done) | (simp; omega)))
                have sa := gr1.size
                have p0 := (ba.cell (p := ⟨w.heap.size, 0, none⟩) lw).trans Pw0
                have p1 := (ba.cell (p := ⟨w.heap.size, 1, none⟩) lw).trans Pw1
                have r0 := (ba.cell (p := ⟨w.heap.size + 1, 0, none⟩) lw1).trans Rw0
                have r1 := (ba.cell (p := ⟨w.heap.size + 1, 1, none⟩) lw1).trans Rw1
                have r2 := (ba.cell (p := ⟨w.heap.size + 1, 2, none⟩) lw1).trans Rw2
                (try simp [go_sem] at sa)
                refine hK.out _ _ ?_ (fun hHeld => ?_)
                · exact ⟨((show Below wr.heap.size wr _ from (by repeat (first | exact Below.refl _ _ | assumption | refine below_drewN ?_ _ | refine Below.drew ?_ | refine Below.alloc ?_ (by first | exact Nat.le_refl _ | exact Below.size (by assumption) | (simp; done) | (simp; omega)) _ | refine Below.setCell ?_ (by first | exact Nat.le_refl _ | exact Below.size (by assumption) | (simp; done) | (simp; omega)) _ | refine Below.trans ?_ (by assumption)))).cell (p := ⟨w.heap.size + 1, 0, none⟩) lw1).trans Rw0, ((show Below wr.heap.size wr _ from (by repeat (first | exact Below.refl _ _ | assumption | refine below_drewN ?_ _ | refine Below.drew ?_ | refine Below.alloc ?_ (by first | exact Nat.le_refl _ | exact Below.size (by assumption) | (simp; done) | (simp; omega)) _ | refine Below.setCell ?_ (by first | exact Nat.le_refl _ | exact Below.size (by assumption) | (simp; done) | (simp; omega)) _ | refine Below.trans ?_ (by assumption)))).cell (p := ⟨w.heap.size + 1, 1, none⟩) lw1).trans Rw1, ((show Below wr.heap.size wr _ from (by repeat (first | exact Below.refl _ _ | assumption | refine below_drewN ?_ _ | refine Below.drew ?_ | refine Below.alloc ?_ (by first | exact Nat.le_refl _ | exact Below.size (by assumption) | (simp; done) | (simp; omega)) _ | refine Below.setCell ?_ (by first | exact Nat.le_refl _ | exact Below.size (by assumption) | (simp; done) | (simp; omega)) _ | refine Below.trans ?_ (by assumption)))).cell (p := ⟨w.heap.size + 1, 2, none⟩) lw1).trans Rw2⟩
                clear hK K
                try simp only [List.getElem_toArray, List.getElem_cons_succ, List.getElem_cons_zero, Act.put, List.setIfInBounds_toArray, List.set_cons_zero, List.set_cons_succ]
                refine wpAnyH_ready (rs := [5]) (by kernel_rfl) (by simp) ?_
                refine AllReadyH.cons rfl (fun K hK => ?_) AllReadyH.nil
                · go_simp
                  refine hK.out _ _ ?_ (fun hHeld => ?_)
                  · exact ⟨((show Below wr.heap.size wr _ from (by repeat (first | exact Below.refl _ _ | assumption | refine below_drewN ?_ _ | refine Below.drew ?_ | refine Below.alloc ?_ (by first | exact Nat.le_refl _ | exact Below.size (by assumption) | (simp; done) | (simp; omega)) _ | refine Below.setCell ?_ (by first | exact Nat.le_refl _ | exact Below.size (by assumption) | (simp; done) | (simp; omega)) _ | refine Below.trans ?_ (by assumption)))).cell (p := ⟨w.heap.size + 1, 0, none⟩) lw1).trans Rw0, ((show Below wr.heap.size wr _ from (by repeat (first | exact Below.refl _ _ | assumption | refine below_drewN ?_ _ | refine Below.drew ?_ | refine Below.alloc ?_ (by first | exact Nat.le_refl _ | exact Below.size (by assumption) | (simp; done) | (simp; omega)) _ | refine Below.setCell ?_ (by first | exact Nat.le_refl _ | exact Below.size (by assumption) | (simp; done) | (simp; omega)) _ | refine Below.trans ?_ (by assumption)))).cell (p := ⟨w.heap.size + 1, 1, none⟩) lw1).trans Rw1, ((show Below wr.heap.size wr _ from (by repeat (first | exact Below.refl _ _ | assumption | refine below_drewN ?_ _ | refine Below.drew ?_ | refine Below.alloc ?_ (by first | exact Nat.le_refl _ | exact Below.size (by assumption) | (simp; done) | (simp; omega)) _ | refine Below.setCell ?_ (by first | exact Nat.le_refl _ | exact Below.size (by assumption) | (simp; done) | (simp; omega)) _ | refine Below.trans ?_ (by assumption)))).cell (p := ⟨w.heap.size + 1, 2, none⟩) lw1).trans Rw2⟩
                  clear hK K
                  try simp only [List.getElem_toArray, List.getElem_cons_succ, List.getElem_cons_zero, Act.put, List.setIfInBounds_toArray, List.set_cons_zero, List.set_cons_succ]
                  refine wpAnyH_ready (rs := [6]) (by kernel_rfl) (by simp) ?_
                  refine AllReadyH.cons rfl (fun K hK => ?_) AllReadyH.nil
                  · apply step_gat_one (s := .tmp 35) (x := .tmp 37) (G := G) (q := g) (base := wr.heap.size) (g := g1) (cap := c1)
                    case hgd => rfl
                    case ho => rfl
                    case hs => rfl
                    case hx => rfl
                    case hown => exact o1.kept (grown_below (by repeat (first | exact Below.refl _ _ | assumption | refine below_drewN ?_ _ | refine Below.drew ?_ | refine Below.alloc ?_ (by first | exact Nat.le_refl _ | exact Below.size (by assumption) | (simp; done) | (simp; omega)) _ | refine Below.setCell ?_ (by first | exact Nat.le_refl _ | exact Below.size (by assumption) | (simp; done) | (simp; omega)) _ | refine Below.trans ?_ (by assumption)))) (Or.inr (by simp [Value.ownBlock]))
                    case hbase => first | omega | (simp; done) | (simp; omega)
                    case hT => refine Gts.lone ?_ ?_ ?_ <;> simp [go_sem]
                    case hl => omega
                    case h =>
                      intro g2 c2 wb o2 gr2 at2 lt2
                      have bb := (show Below wr.heap.size wr _ from (by repeat (first | exact Below.refl _ _ | assumption | refine below_drewN ?_ _ | refine Below.drew ?_ | refine Below.alloc ?_ (by first | exact Nat.le_refl _ | exact Below.size (by assumption) | (simp; done) | (simp; omega)) _ | refine Below.setCell ?_ (by first | exact Nat.le_refl _ | exact Below.size (by assumption) | (simp; done) | (simp; omega)) _ | refine Below.trans ?_ (by assumption)))).trans ((mov_of_grown gr2).below (own_base o1) (by first | omega | (simp; done) | (simp; omega)))
                      have p0 := (bb.cell (p := ⟨w.heap.size, 0, none⟩) lw).trans Pw0
                      have p1 := (bb.cell (p := ⟨w.heap.size, 1, none⟩) lw).trans Pw1
                      have r0 := (bb.cell (p := ⟨w.heap.size + 1, 0, none⟩) lw1).trans Rw0
                      have r1 := (bb.cell (p := ⟨w.heap.size + 1, 1, none⟩) lw1).trans Rw1
                      have r2 := (bb.cell (p := ⟨w.heap.size + 1, 2, none⟩) lw1).trans Rw2
                      have f1 := (bb.frozen (p := ⟨w.heap.size, 1, none⟩) lw).trans (unhide HF w.heap.size 1 (by omega) (by omega))
                      refine hK.out _ _ ?_ (fun hHeld => ?_)
                      · exact ⟨((show Below wr.heap.size wr _ from (by repeat (first | exact Below.refl _ _ | assumption | refine below_drewN ?_ _ | refine Below.drew ?_ | refine Below.alloc ?_ (by first | exact Nat.le_refl _ | exact Below.size (by assumption) | (simp; done) | (simp; omega)) _ | refine Below.setCell ?_ (by first | exact Nat.le_refl _ | exact Below.size (by assumption) | (simp; done) | (simp; omega)) _ | refine Below.trans ?_ (by assumption)))).cell (p := ⟨w.heap.size + 1, 0, none⟩) lw1).trans Rw0, ((show Below wr.heap.size wr _ from (by repeat (first | exact Below.refl _ _ | assumption | refine below_drewN ?_ _ | refine Below.drew ?_ | refine Below.alloc ?_ (by first | exact Nat.le_refl _ | exact Below.size (by assumption) | (simp; done) | (simp; omega)) _ | refine Below.setCell ?_ (by first | exact Nat.le_refl _ | exact Below.size (by assumption) | (simp; done) | (simp; omega)) _ | refine Below.trans ?_ (by assumption)))).cell (p := ⟨w.heap.size + 1, 1, none⟩) lw1).trans Rw1, ((show Below wr.heap.size wr _ from (by repeat (first | exact Below.refl _ _ | assumption | refine below_drewN ?_ _ | refine Below.drew ?_ | refine Below.alloc ?_ (by first | exact Nat.le_refl _ | exact Below.size (by assumption) | (simp; done) | (simp; omega)) _ | refine Below.setCell ?_ (by first | exact Nat.le_refl _ | exact Below.size (by assumption) | (simp; done) | (simp; omega)) _ | refine Below.trans ?_ (by assumption)))).cell (p := ⟨w.heap.size + 1, 2, none⟩) lw1).trans Rw2⟩
                      clear hK K
                      try simp only [List.getElem_toArray, List.getElem_cons_succ, List.getElem_cons_zero, Act.put, List.setIfInBounds_toArray, List.set_cons_zero, List.set_cons_succ]
                      refine wpAnyH_take (i := 7) (v := ?_) rfl (by kernel_rfl) (by kernel_rfl) (by kernel_rfl) (fun _ _ _ h => h) (Or.inl ⟨by rfl, ?_⟩) (by assumption) ?_
                      rotate_left
                      · (intro w hSw; (try dsimp only at hSw); first | (go_simp; done) | (go_simp; with_reducible rfl))
                      try simp only [List.getElem_toArray, List.getElem_cons_succ, List.getElem_cons_zero, Act.put, List.setIfInBounds_toArray, List.set_cons_zero, List.set_cons_succ]
                      refine wpAnyH_ready (rs := [8]) (by kernel_rfl) (by simp) ?_
                      refine AllReadyH.cons rfl (fun K hK => ?_) AllReadyH.nil
                      · go_simp
                        refine hK.out _ _ ?_ (fun hHeld => ?_)
                        · exact ⟨by rw [World.cell?_setCell_other _ _ _ _ (by simp)]; exact r0, by rw [World.cell?_setCell_other _ _ _ _ (by simp)]; exact r1, by rw [World.cell?_setCell_other _ _ _ _ (by simp)]; exact r2⟩
                        clear hK K
                        try simp only [List.getElem_toArray, List.getElem_cons_succ, List.getElem_cons_zero, Act.put, List.setIfInBounds_toArray, List.set_cons_zero, List.set_cons_succ]
                        refine wpAnyH_done (by kernel_rfl) ?_ _
                        obtain ⟨wc, hwc⟩ : ∃ wc, wc = wb.setCell ⟨w.heap.size, 1, none⟩ (.slice (some ⟨g2, 0, none⟩) (j + 1) c2) := ⟨_, rfl⟩
                        have P0 : wc.cell? ⟨w.heap.size, 0, none⟩ = some (.int .i64 m) := by rw [hwc, World.cell?_setCell_other _ _ _ _ (by simp)]; exact p0
                        have P1 : wc.cell? ⟨w.heap.size, 1, none⟩ = some (.slice (some ⟨g2, 0, none⟩) (j + 1) c2) := by rw [hwc]; exact World.cell?_setCell_same _ _ _ p1
                        have MC : Mov w.heap.size wb wc := by rw [hwc]; exact Mov.set _ _ _
                        have s0 := MC.cell ((bb.cell (p := ⟨w.heap.size + 2, 0, none⟩) lw2).trans (unhide Sw0)) (by simp)
                        have s1 := MC.cell ((bb.cell (p := ⟨w.heap.size + 2, 1, none⟩) lw2).trans (unhide Sw1)) (by simp)
                        have fz0 : wc.frozen? ⟨w.heap.size + 2, 0, none⟩ = false := by rw [hwc]; simp [go_sem]; exact (bb.frozen (p := ⟨w.heap.size + 2, 0, none⟩) lw2).trans (unhide HF (w.heap.size + 2) 0 (by omega) (by omega))
                        have fz1 : wc.frozen? ⟨w.heap.size + 2, 1, none⟩ = false := by rw [hwc]; simp [go_sem]; exact (bb.frozen (p := ⟨w.heap.size + 2, 1, none⟩) lw2).trans (unhide HF (w.heap.size + 2) 1 (by omega) (by omega))
                        have gb := own_base o2
                        have HG : Hid (GtsAt wc (some ⟨g2, 0, none⟩) (j + 1) (snocG G j g)) := by
                          refine Or.inr ⟨g2, 0, rfl, Nat.lt_of_lt_of_le lt2 MC.size, fun i hi => ?_⟩
                          have h := own_gts o2 i hi
                          exact ⟨MC.cell h.1 (by simp only; omega), MC.cell h.2.1 (by simp only; omega), MC.cell h.2.2 (by simp only; omega)⟩
                        have BC : Below w.heap.size w wc := by rw [hwc]; exact (hbel.trans (bb.mono hbel.size)).setCell (Nat.le_refl _) _
                        have g2l := Nat.lt_of_lt_of_le lt2 MC.size
                        rw [← hwc]
                        clear hwc MC bb p0 p1 r0 r1 r2 f1 o2
                        have n0 : w.heap.size ≠ w.heap.size + 2 := by omega
                        have n1 : w.heap.size + 2 ≠ w.heap.size := by omega
                        go_wp2
                        go_region
                        all_goals go_wp2
                        all_goals refine bodyPost_ret (v := .tuple #[.agg #[.int .i64 m, .slice (some ⟨g2, 0, none⟩) (j + 1) c2], .int .i64 (2 + m + j)]) (by simp [results, Tryd.results102, go_sem, s0, s1]; try omega) rfl ?_
                        all_goals rw [unhide HR]
                        all_goals exact ⟨⟨some ⟨g2, 0, none⟩, c2, rfl, (by refine GtsAt.mov2 (unhide HG) (B := w.heap.size + 2) (by omega) ?_; first | exact (Mov.set _ _ _).trans (Mov.set _ _ _) | exact ((Mov.set _ _ _).trans (Mov.set _ _ _)).drew | exact ((Mov.refl _ _).drew.trans (Mov.set _ _ _)).trans (Mov.set _ _ _)), (fun h => by cases h), (fun p h => by cases h; rfl), Or.inr (Or.inr ⟨g2, rfl, by omega, by simp; omega⟩)⟩, (by repeat (first | exact Below.refl _ _ | assumption | refine below_drewN ?_ _ | refine Below.drew ?_ | refine Below.alloc ?_ (by first | exact Nat.le_refl _ | exact Below.size (by assumption) | (simp; done) | (simp; omega)) _ | refine Below.setCell ?_ (by first | exact Nat.le_refl _ | exact Below.size (by assumption) | (simp; done) | (simp; omega)) _ | refine Below.trans ?_ (by assumption)))⟩
            · go_simp
              refine hK.out _ _ ?_ (fun hHeld => ?_)
              · exact ⟨((show Below wr.heap.size wr _ from (by repeat (first | exact Below.refl _ _ | assumption | refine below_drewN ?_ _ | refine Below.drew ?_ | refine Below.alloc ?_ (by first | exact Nat.le_refl _ | exact Below.size (by assumption) | (simp; done) | (simp; omega)) _ | refine Below.setCell ?_ (by first | exact Nat.le_refl _ | exact Below.size (by assumption) | (simp; done) | (simp; omega)) _ | refine Below.trans ?_ (by assumption)))).cell (p := ⟨w.heap.size + 1, 0, none⟩) lw1).trans Rw0, ((show Below wr.heap.size wr _ from (by repeat (first | exact Below.refl _ _ | assumption | refine below_drewN ?_ _ | refine Below.drew ?_ | refine Below.alloc ?_ (by first | exact Nat.le_refl _ | exact Below.size (by assumption) | (simp; done) | (simp; omega)) _ | refine Below.setCell ?_ (by first | exact Nat.le_refl _ | exact Below.size (by assumption) | (simp; done) | (simp; omega)) _ | refine Below.trans ?_ (by assumption)))).cell (p := ⟨w.heap.size + 1, 1, none⟩) lw1).trans Rw1, ((show Below wr.heap.size wr _ from (by repeat (first | exact Below.refl _ _ | assumption | refine below_drewN ?_ _ | refine Below.drew ?_ | refine Below.alloc ?_ (by first | exact Nat.le_refl _ | exact Below.size (by assumption) | (simp; done) | (simp; omega)) _ | refine Below.setCell ?_ (by first | exact Nat.le_refl _ | exact Below.size (by assumption) | (simp; done) | (simp; omega)) _ | refine Below.trans ?_ (by assumption)))).cell (p := ⟨w.heap.size + 1, 2, none⟩) lw1).trans Rw2⟩
              clear hK K
              try simp only [List.getElem_toArray, List.getElem_cons_succ, List.getElem_cons_zero, Act.put, List.setIfInBounds_toArray, List.set_cons_zero, List.set_cons_succ]
              refine wpAnyH_ready (rs := [3]) (by kernel_rfl) (by simp) ?_
              refine AllReadyH.cons rfl (fun K hK => ?_) AllReadyH.nil
              · apply step_gat_copy (s := .tmp 32) (x := .tmp 34) (G := G) (base := wr.heap.size)
                case hgd => rfl
                case ho => rfl
                case hs => rfl
                case hx => rfl
                case hX => first | exact alloc_at (by simp) | exact alloc_past (alloc_at (by simp))
                case hbX => first | omega | (simp; done) | (simp; omega)
                case hbase => first | omega | (simp; done) | (simp; omega)
                case hc => exact (unhide HDr).later (by repeat (first | exact Below.refl _ _ | assumption | refine below_drewN ?_ _ | refine Below.drew ?_ | refine Below.alloc ?_ (by first | exact Nat.le_refl _ | exact Below.size (by assumption) | (simp; done) | (simp; omega)) _ | refine Below.setCell ?_ (by first | exact Nat.le_refl _ | exact Below.size (by assumption) | (simp; done) | (simp; omega)) _ | refine Below.trans ?_ (by assumption)))
                case hnn => exact hnn
                case hspot => exact hspot
                case hl => omega
                case h =>
                  intro g1 c1 wa o1 gr1 at1 lt1
                  have ba := (show Below wr.heap.size wr _ from (by repeat (first | exact Below.refl _ _ | assumption | refine below_drewN ?_ _ | refine Below.drew ?_ | refine Below.alloc ?_ (by first | exact Nat.le_refl _ | exact Below.size (by assumption) | (simp; done) | (simp; omega)) _ | refine Below.setCell ?_ (by first | exact Nat.le_refl _ | exact Below.size (by assumption) | (simp; done) | (simp; omega)) _ | refine Below.trans ?_ (by assumption)))).trans ((mov_of_grown gr1).below (by first | omega | (simp; done) | (simp; omega)) (by first | omega | (simp; done) | (simp; omega)))
                  have sa := gr1.size
                  have p0 := (ba.cell (p := ⟨w.heap.size, 0, none⟩) lw).trans Pw0
                  have p1 := (ba.cell (p := ⟨w.heap.size, 1, none⟩) lw).trans Pw1
                  have r0 := (ba.cell (p := ⟨w.heap.size + 1, 0, none⟩) lw1).trans Rw0
                  have r1 := (ba.cell (p := ⟨w.heap.size + 1, 1, none⟩) lw1).trans Rw1
                  have r2 := (ba.cell (p := ⟨w.heap.size + 1, 2, none⟩) lw1).trans Rw2
                  (try simp [go_sem] at sa)
                  have qT : Gts wa (wr.heap.size + 1) 0 1 (fun _ => g) := by
                    refine Gts.grown (Gts.lone ?_ ?_ ?_) gr1 ?_
                    · simp [go_sem]
                    · simp [go_sem]
                    · simp [go_sem]
                    · first | omega | (simp; done) | (simp; omega)
                  refine hK.out _ _ ?_ (fun hHeld => ?_)
                  · exact ⟨((show Below wr.heap.size wr _ from (by repeat (first | exact Below.refl _ _ | assumption | refine below_drewN ?_ _ | refine Below.drew ?_ | refine Below.alloc ?_ (by first | exact Nat.le_refl _ | exact Below.size (by assumption) | (simp; done) | (simp; omega)) _ | refine Below.setCell ?_ (by first | exact Nat.le_refl _ | exact Below.size (by assumption) | (simp; done) | (simp; omega)) _ | refine Below.trans ?_ (by assumption)))).cell (p := ⟨w.heap.size + 1, 0, none⟩) lw1).trans Rw0, ((show Below wr.heap.size wr _ from (by repeat (first | exact Below.refl _ _ | assumption | refine below_drewN ?_ _ | refine Below.drew ?_ | refine Below.alloc ?_ (by first | exact Nat.le_refl _ | exact Below.size (by assumption) | (simp; done) | (simp; omega)) _ | refine Below.setCell ?_ (by first | exact Nat.le_refl _ | exact Below.size (by assumption) | (simp; done) | (simp; omega)) _ | refine Below.trans ?_ (by assumption)))).cell (p := ⟨w.heap.size + 1, 1, none⟩) lw1).trans Rw1, ((show Below wr.heap.size wr _ from (by repeat (first | exact Below.refl _ _ | assumption | refine below_drewN ?_ _ | refine Below.drew ?_ | refine Below.alloc ?_ (by first | exact Nat.le_refl _ | exact Below.size (by assumption) | (simp; done) | (simp; omega)) _ | refine Below.setCell ?_ (by first | exact Nat.le_refl _ | exact Below.size (by assumption) | (simp; done) | (simp; omega)) _ | refine Below.trans ?_ (by assumption)))).cell (p := ⟨w.heap.size + 1, 2, none⟩) lw1).trans Rw2⟩
                  clear hK K
                  try simp only [List.getElem_toArray, List.getElem_cons_succ, List.getElem_cons_zero, Act.put, List.setIfInBounds_toArray, List.set_cons_zero, List.set_cons_succ]
                  refine wpAnyH_ready (rs := [6]) (by kernel_rfl) (by simp) ?_
                  refine AllReadyH.cons rfl (fun K hK => ?_) AllReadyH.nil
                  · apply step_gat_one (s := .tmp 35) (x := .tmp 37) (G := G) (q := g) (base := wr.heap.size) (g := g1) (cap := c1)
                    case hgd => rfl
                    case ho => rfl
                    case hs => rfl
                    case hx => rfl
                    case hown => exact o1.kept (grown_below (by repeat (first | exact Below.refl _ _ | assumption | refine below_drewN ?_ _ | refine Below.drew ?_ | refine Below.alloc ?_ (by first | exact Nat.le_refl _ | exact Below.size (by assumption) | (simp; done) | (simp; omega)) _ | refine Below.setCell ?_ (by first | exact Nat.le_refl _ | exact Below.size (by assumption) | (simp; done) | (simp; omega)) _ | refine Below.trans ?_ (by assumption)))) (Or.inr (by simp [Value.ownBlock]))
                    case hbase => first | omega | (simp; done) | (simp; omega)
                    case hT => exact Gts.later qT (by repeat (first | exact Below.refl _ _ | assumption | refine below_drewN ?_ _ | refine Below.drew ?_ | refine Below.alloc ?_ (by first | exact Nat.le_refl _ | exact Below.size (by assumption) | (simp; done) | (simp; omega)) _ | refine Below.setCell ?_ (by first | exact Nat.le_refl _ | exact Below.size (by assumption) | (simp; done) | (simp; omega)) _ | refine Below.trans ?_ (by assumption)))
                    case hl => omega
                    case h =>
                      intro g2 c2 wb o2 gr2 at2 lt2
                      have bb := (show Below wr.heap.size wr _ from (by repeat (first | exact Below.refl _ _ | assumption | refine below_drewN ?_ _ | refine Below.drew ?_ | refine Below.alloc ?_ (by first | exact Nat.le_refl _ | exact Below.size (by assumption) | (simp; done) | (simp; omega)) _ | refine Below.setCell ?_ (by first | exact Nat.le_refl _ | exact Below.size (by assumption) | (simp; done) | (simp; omega)) _ | refine Below.trans ?_ (by assumption)))).trans ((mov_of_grown gr2).below (own_base o1) (by first | omega | (simp; done) | (simp; omega)))
                      have p0 := (bb.cell (p := ⟨w.heap.size, 0, none⟩) lw).trans Pw0
                      have p1 := (bb.cell (p := ⟨w.heap.size, 1, none⟩) lw).trans Pw1
                      have r0 := (bb.cell (p := ⟨w.heap.size + 1, 0, none⟩) lw1).trans Rw0
                      have r1 := (bb.cell (p := ⟨w.heap.size + 1, 1, none⟩) lw1).trans Rw1
                      have r2 := (bb.cell (p := ⟨w.heap.size + 1, 2, none⟩) lw1).trans Rw2
                      have f1 := (bb.frozen (p := ⟨w.heap.size, 1, none⟩) lw).trans (unhide HF w.heap.size 1 (by omega) (by omega))
                      refine hK.out _ _ ?_ (fun hHeld => ?_)
                      · exact ⟨((show Below wr.heap.size wr _ from (by repeat (first | exact Below.refl _ _ | assumption | refine below_drewN ?_ _ | refine Below.drew ?_ | refine Below.alloc ?_ (by first | exact Nat.le_refl _ | exact Below.size (by assumption) | (simp; done) | (simp; omega)) _ | refine Below.setCell ?_ (by first | exact Nat.le_refl _ | exact Below.size (by assumption) | (simp; done) | (simp; omega)) _ | refine Below.trans ?_ (by assumption)))).cell (p := ⟨w.heap.size + 1, 0, none⟩) lw1).trans Rw0, ((show Below wr.heap.size wr _ from (by repeat (first | exact Below.refl _ _ | assumption | refine below_drewN ?_ _ | refine Below.drew ?_ | refine Below.alloc ?_ (by first | exact Nat.le_refl _ | exact Below.size (by assumption) | (simp; done) | (simp; omega)) _ | refine Below.setCell ?_ (by first | exact Nat.le_refl _ | exact Below.size (by assumption) | (simp; done) | (simp; omega)) _ | refine Below.trans ?_ (by assumption)))).cell (p := ⟨w.heap.size + 1, 1, none⟩) lw1).trans Rw1, ((show Below wr.heap.size wr _ from (by repeat (first | exact Below.refl _ _ | assumption | refine below_drewN ?_ _ | refine Below.drew ?_ | refine Below.alloc ?_ (by first | exact Nat.le_refl _ | exact Below.size (by assumption) | (simp; done) | (simp; omega)) _ | refine Below.setCell ?_ (by first | exact Nat.le_refl _ | exact Below.size (by assumption) | (simp; done) | (simp; omega)) _ | refine Below.trans ?_ (by assumption)))).cell (p := ⟨w.heap.size + 1, 2, none⟩) lw1).trans Rw2⟩
                      clear hK K
                      try simp only [List.getElem_toArray, List.getElem_cons_succ, List.getElem_cons_zero, Act.put, List.setIfInBounds_toArray, List.set_cons_zero, List.set_cons_succ]
                      refine wpAnyH_take (i := 7) (v := ?_) rfl (by kernel_rfl) (by kernel_rfl) (by kernel_rfl) (fun _ _ _ h => h) (Or.inl ⟨by rfl, ?_⟩) (by assumption) ?_
                      rotate_left
                      · (intro w hSw; (try dsimp only at hSw); first | (go_simp; done) | (go_simp; with_reducible rfl))
                      try simp only [List.getElem_toArray, List.getElem_cons_succ, List.getElem_cons_zero, Act.put, List.setIfInBounds_toArray, List.set_cons_zero, List.set_cons_succ]
                      refine wpAnyH_ready (rs := [8]) (by kernel_rfl) (by simp) ?_
                      refine AllReadyH.cons rfl (fun K hK => ?_) AllReadyH.nil
                      · go_simp
                        refine hK.out _ _ ?_ (fun hHeld => ?_)
                        · exact ⟨by rw [World.cell?_setCell_other _ _ _ _ (by simp)]; exact r0, by rw [World.cell?_setCell_other _ _ _ _ (by simp)]; exact r1, by rw [World.cell?_setCell_other _ _ _ _ (by simp)]; exact r2⟩
                        clear hK K
                        try simp only [List.getElem_toArray, List.getElem_cons_succ, List.getElem_cons_zero, Act.put, List.setIfInBounds_toArray, List.set_cons_zero, List.set_cons_succ]
                        refine wpAnyH_done (by kernel_rfl) ?_ _
                        obtain ⟨wc, hwc⟩ : ∃ wc, wc = wb.setCell ⟨w.heap.size, 1, none⟩ (.slice (some ⟨g2, 0, none⟩) (j + 1) c2) := ⟨_, rfl⟩
                        have P0 : wc.cell? ⟨w.heap.size, 0, none⟩ = some (.int .i64 m) := by rw [hwc, World.cell?_setCell_other _ _ _ _ (by simp)]; exact p0
                        have P1 : wc.cell? ⟨w.heap.size, 1, none⟩ = some (.slice (some ⟨g2, 0, none⟩) (j + 1) c2) := by rw [hwc]; exact World.cell?_setCell_same _ _ _ p1
                        have MC : Mov w.heap.size wb wc := by rw [hwc]; exact Mov.set _ _ _
                        have s0 := MC.cell ((bb.cell (p := ⟨w.heap.size + 2, 0, none⟩) lw2).trans (unhide Sw0)) (by simp)
                        have s1 := MC.cell ((bb.cell (p := ⟨w.heap.size + 2, 1, none⟩) lw2).trans (unhide Sw1)) (by simp)
                        have fz0 : wc.frozen? ⟨w.heap.size + 2, 0, none⟩ = false := by rw [hwc]; simp [go_sem]; exact (bb.frozen (p := ⟨w.heap.size + 2, 0, none⟩) lw2).trans (unhide HF (w.heap.size + 2) 0 (by omega) (by omega))
                        have fz1 : wc.frozen? ⟨w.heap.size + 2, 1, none⟩ = false := by rw [hwc]; simp [go_sem]; exact (bb.frozen (p := ⟨w.heap.size + 2, 1, none⟩) lw2).trans (unhide HF (w.heap.size + 2) 1 (by omega) (by omega))
                        have gb := own_base o2
                        have HG : Hid (GtsAt wc (some ⟨g2, 0, none⟩) (j + 1) (snocG G j g)) := by
                          refine Or.inr ⟨g2, 0, rfl, Nat.lt_of_lt_of_le lt2 MC.size, fun i hi => ?_⟩
                          have h := own_gts o2 i hi
                          exact ⟨MC.cell h.1 (by simp only; omega), MC.cell h.2.1 (by simp only; omega), MC.cell h.2.2 (by simp only; omega)⟩
                        have BC : Below w.heap.size w wc := by rw [hwc]; exact (hbel.trans (bb.mono hbel.size)).setCell (Nat.le_refl _) _
                        have g2l := Nat.lt_of_lt_of_le lt2 MC.size
                        rw [← hwc]
                        clear hwc MC bb p0 p1 r0 r1 r2 f1 o2
                        have n0 : w.heap.size ≠ w.heap.size + 2 := by omega
                        have n1 : w.heap.size + 2 ≠ w.heap.size := by omega
                        go_wp2
                        go_region
                        all_goals go_wp2
                        all_goals refine bodyPost_ret (v := .tuple #[.agg #[.int .i64 m, .slice (some ⟨g2, 0, none⟩) (j + 1) c2], .int .i64 (2 + m + j)]) (by simp [results, Tryd.results102, go_sem, s0, s1]; try omega) rfl ?_
                        all_goals rw [unhide HR]
                        all_goals exact ⟨⟨some ⟨g2, 0, none⟩, c2, rfl, (by refine GtsAt.mov2 (unhide HG) (B := w.heap.size + 2) (by omega) ?_; first | exact (Mov.set _ _ _).trans (Mov.set _ _ _) | exact ((Mov.set _ _ _).trans (Mov.set _ _ _)).drew | exact ((Mov.refl _ _).drew.trans (Mov.set _ _ _)).trans (Mov.set _ _ _)), (fun h => by cases h), (fun p h => by cases h; rfl), Or.inr (Or.inr ⟨g2, rfl, by omega, by simp; omega⟩)⟩, (by repeat (first | exact Below.refl _ _ | assumption | refine below_drewN ?_ _ | refine Below.drew ?_ | refine Below.alloc ?_ (by first | exact Nat.le_refl _ | exact Below.size (by assumption) | (simp; done) | (simp; omega)) _ | refine Below.setCell ?_ (by first | exact Nat.le_refl _ | exact Below.size (by assumption) | (simp; done) | (simp; omega)) _ | refine Below.trans ?_ (by assumption)))⟩
          · go_simp
            refine hK.out _ _ ?_ (fun hHeld => ?_)
            · exact ⟨((show Below wr.heap.size wr _ from (by repeat (first | exact Below.refl _ _ | assumption | refine below_drewN ?_ _ | refine Below.drew ?_ | refine Below.alloc ?_ (by first | exact Nat.le_refl _ | exact Below.size (by assumption) | (simp; done) | (simp; omega)) _ | refine Below.setCell ?_ (by first | exact Nat.le_refl _ | exact Below.size (by assumption) | (simp; done) | (simp; omega)) _ | refine Below.trans ?_ (by assumption)))).cell (p := ⟨w.heap.size + 1, 0, none⟩) lw1).trans Rw0, ((show Below wr.heap.size wr _ from (by repeat (first | exact Below.refl _ _ | assumption | refine below_drewN ?_ _ | refine Below.drew ?_ | refine Below.alloc ?_ (by first | exact Nat.le_refl _ | exact Below.size (by assumption) | (simp; done) | (simp; omega)) _ | refine Below.setCell ?_ (by first | exact Nat.le_refl _ | exact Below.size (by assumption) | (simp; done) | (simp; omega)) _ | refine Below.trans ?_ (by assumption)))).cell (p := ⟨w.heap.size + 1, 1, none⟩) lw1).trans Rw1, ((show Below wr.heap.size wr _ from (by repeat (first | exact Below.refl _ _ | assumption | refine below_drewN ?_ _ | refine Below.drew ?_ | refine Below.alloc ?_ (by first | exact Nat.le_refl _ | exact Below.size (by assumption) | (simp; done) | (simp; omega)) _ | refine Below.setCell ?_ (by first | exact Nat.le_refl _ | exact Below.size (by assumption) | (simp; done) | (simp; omega)) _ | refine Below.trans ?_ (by assumption)))).cell (p := ⟨w.heap.size + 1, 2, none⟩) lw1).trans Rw2⟩
            clear hK K
            try simp only [List.getElem_toArray, List.getElem_cons_succ, List.getElem_cons_zero, Act.put, List.setIfInBounds_toArray, List.set_cons_zero, List.set_cons_succ]
            refine wpAnyH_ready (rs := [2]) (by kernel_rfl) (by simp) ?_
            refine AllReadyH.cons rfl (fun K hK => ?_) AllReadyH.nil
            · go_simp
              refine hK.out _ _ ?_ (fun hHeld => ?_)
              · exact ⟨((show Below wr.heap.size wr _ from (by repeat (first | exact Below.refl _ _ | assumption | refine below_drewN ?_ _ | refine Below.drew ?_ | refine Below.alloc ?_ (by first | exact Nat.le_refl _ | exact Below.size (by assumption) | (simp; done) | (simp; omega)) _ | refine Below.setCell ?_ (by first | exact Nat.le_refl _ | exact Below.size (by assumption) | (simp; done) | (simp; omega)) _ | refine Below.trans ?_ (by assumption)))).cell (p := ⟨w.heap.size + 1, 0, none⟩) lw1).trans Rw0, ((show Below wr.heap.size wr _ from (by repeat (first | exact Below.refl _ _ | assumption | refine below_drewN ?_ _ | refine Below.drew ?_ | refine Below.alloc ?_ (by first | exact Nat.le_refl _ | exact Below.size (by assumption) | (simp; done) | (simp; omega)) _ | refine Below.setCell ?_ (by first | exact Nat.le_refl _ | exact Below.size (by assumption) | (simp; done) | (simp; omega)) _ | refine Below.trans ?_ (by assumption)))).cell (p := ⟨w.heap.size + 1, 1, none⟩) lw1).trans Rw1, ((show Below wr.heap.size wr _ from (by repeat (first | exact Below.refl _ _ | assumption | refine below_drewN ?_ _ | refine Below.drew ?_ | refine Below.alloc ?_ (by first | exact Nat.le_refl _ | exact Below.size (by assumption) | (simp; done) | (simp; omega)) _ | refine Below.setCell ?_ (by first | exact Nat.le_refl _ | exact Below.size (by assumption) | (simp; done) | (simp; omega)) _ | refine Below.trans ?_ (by assumption)))).cell (p := ⟨w.heap.size + 1, 2, none⟩) lw1).trans Rw2⟩
              clear hK K
              try simp only [List.getElem_toArray, List.getElem_cons_succ, List.getElem_cons_zero, Act.put, List.setIfInBounds_toArray, List.set_cons_zero, List.set_cons_succ]
              refine wpAnyH_ready (rs := [3]) (by kernel_rfl) (by simp) ?_
              refine AllReadyH.cons rfl (fun K hK => ?_) AllReadyH.nil
              · apply step_gat_copy (s := .tmp 32) (x := .tmp 34) (G := G) (base := wr.heap.size)
                case hgd => rfl
                case ho => rfl
                case hs => rfl
                case hx => rfl
                case hX => first | exact alloc_at (by simp) | exact alloc_past (alloc_at (by simp))
                case hbX => first | omega | (simp; done) | (simp; omega)
                case hbase => first | omega | (simp; done) | (simp; omega)
                case hc => exact (unhide HDr).later (by repeat (first | exact Below.refl _ _ | assumption | refine below_drewN ?_ _ | refine Below.drew ?_ | refine Below.alloc ?_ (by first | exact Nat.le_refl _ | exact Below.size (by assumption) | (simp; done) | (simp; omega)) _ | refine Below.setCell ?_ (by first | exact Nat.le_refl _ | exact Below.size (by assumption) | (simp; done) | (simp; omega)) _ | refine Below.trans ?_ (by assumption)))
                case hnn => exact hnn
                case hspot => exact hspot
                case hl => omega
                case h =>
                  intro g1 c1 wa o1 gr1 at1 lt1
                  have ba := (show Below wr.heap.size wr _ from (by repeat (first | exact Below.refl _ _ | assumption | refine below_drewN ?_ _ | refine Below.drew ?_ | refine Below.alloc ?_ (by first | exact Nat.le_refl _ | exact Below.size (by assumption) | (simp; done) | (simp; omega)) _ | refine Below.setCell ?_ (by first | exact Nat.le_refl _ | exact Below.size (by assumption) | (simp; done) | (simp; omega)) _ | refine Below.trans ?_ (by assumption)))).trans ((mov_of_grown gr1).below (by first | omega | (simp; done) | (simp; omega)) (by first | omega | (simp; done) | (simp; omega)))
                  have sa := gr1.size
                  have p0 := (ba.cell (p := ⟨w.heap.size, 0, none⟩) lw).trans Pw0
                  have p1 := (ba.cell (p := ⟨w.heap.size, 1, none⟩) lw).trans Pw1
                  have r0 := (ba.cell (p := ⟨w.heap.size + 1, 0, none⟩) lw1).trans Rw0
                  have r1 := (ba.cell (p := ⟨w.heap.size + 1, 1, none⟩) lw1).trans Rw1
                  have r2 := (ba.cell (p := ⟨w.heap.size + 1, 2, none⟩) lw1).trans Rw2
                  (try simp [go_sem] at sa)
                  have qT : Gts wa (wr.heap.size + 1) 0 1 (fun _ => g) := by
                    refine Gts.grown (Gts.lone ?_ ?_ ?_) gr1 ?_
                    · simp [go_sem]
                    · simp [go_sem]
                    · simp [go_sem]
                    · first | omega | (simp; done) | (simp; omega)
                  refine hK.out _ _ ?_ (fun hHeld => ?_)
                  · exact ⟨((show Below wr.heap.size wr _ from (by repeat (first | exact Below.refl _ _ | assumption | refine below_drewN ?_ _ | refine Below.drew ?_ | refine Below.alloc ?_ (by first | exact Nat.le_refl _ | exact Below.size (by assumption) | (simp; done) | (simp; omega)) _ | refine Below.setCell ?_ (by first | exact Nat.le_refl _ | exact Below.size (by assumption) | (simp; done) | (simp; omega)) _ | refine Below.trans ?_ (by assumption)))).cell (p := ⟨w.heap.size + 1, 0, none⟩) lw1).trans Rw0, ((show Below wr.heap.size wr _ from (by repeat (first | exact Below.refl _ _ | assumption | refine below_drewN ?_ _ | refine Below.drew ?_ | refine Below.alloc ?_ (by first | exact Nat.le_refl _ | exact Below.size (by assumption) | (simp; done) | (simp; omega)) _ | refine Below.setCell ?_ (by first | exact Nat.le_refl _ | exact Below.size (by assumption) | (simp; done) | (simp; omega)) _ | refine Below.trans ?_ (by assumption)))).cell (p := ⟨w.heap.size + 1, 1, none⟩) lw1).trans Rw1, ((show Below wr.heap.size wr _ from (by repeat (first | exact Below.refl _ _ | assumption | refine below_drewN ?_ _ | refine Below.drew ?_ | refine Below.alloc ?_ (by first | exact Nat.le_refl _ | exact Below.size (by assumption) | (simp; done) | (simp; omega)) _ | refine Below.setCell ?_ (by first | exact Nat.le_refl _ | exact Below.size (by assumption) | (simp; done) | (simp; omega)) _ | refine Below.trans ?_ (by assumption)))).cell (p := ⟨w.heap.size + 1, 2, none⟩) lw1).trans Rw2⟩
                  clear hK K
                  try simp only [List.getElem_toArray, List.getElem_cons_succ, List.getElem_cons_zero, Act.put, List.setIfInBounds_toArray, List.set_cons_zero, List.set_cons_succ]
                  refine wpAnyH_ready (rs := [6]) (by kernel_rfl) (by simp) ?_
                  refine AllReadyH.cons rfl (fun K hK => ?_) AllReadyH.nil
                  · apply step_gat_one (s := .tmp 35) (x := .tmp 37) (G := G) (q := g) (base := wr.heap.size) (g := g1) (cap := c1)
                    case hgd => rfl
                    case ho => rfl
                    case hs => rfl
                    case hx => rfl
                    case hown => exact o1.kept (grown_below (by repeat (first | exact Below.refl _ _ | assumption | refine below_drewN ?_ _ | refine Below.drew ?_ | refine Below.alloc ?_ (by first | exact Nat.le_refl _ | exact Below.size (by assumption) | (simp; done) | (simp; omega)) _ | refine Below.setCell ?_ (by first | exact Nat.le_refl _ | exact Below.size (by assumption) | (simp; done) | (simp; omega)) _ | refine Below.trans ?_ (by assumption)))) (Or.inr (by simp [Value.ownBlock]))
                    case hbase => first | omega | (simp; done) | (simp; omega)
                    case hT => exact Gts.later qT (by repeat (first | exact Below.refl _ _ | assumption | refine below_drewN ?_ _ | refine Below.drew ?_ | refine Below.alloc ?_ (by first | exact Nat.le_refl _ | exact Below.size (by assumption) | (simp; done) | (simp; omega)) _ | refine Below.setCell ?_ (by first | exact Nat.le_refl _ | exact Below.size (by assumption) | (simp; done) | (simp; omega)) _ | refine Below.trans ?_ (by assumption)))
                    case hl => omega
                    case h =>
                      intro g2 c2 wb o2 gr2 at2 lt2
                      have bb := (show Below wr.heap.size wr _ from (by repeat (first | exact Below.refl _ _ | assumption | refine below_drewN ?_ _ | refine Below.drew ?_ | refine Below.alloc ?_ (by first | exact Nat.le_refl _ | exact Below.size (by assumption) | (simp; done) | (simp; omega)) _ | refine Below.setCell ?_ (by first | exact Nat.le_refl _ | exact Below.size (by assumption) | (simp; done) | (simp; omega)) _ | refine Below.trans ?_ (by assumption)))).trans ((mov_of_grown gr2).below (own_base o1) (by first | omega | (simp; done) | (simp; omega)))
                      have p0 := (bb.cell (p := ⟨w.heap.size, 0, none⟩) lw).trans Pw0
                      have p1 := (bb.cell (p := ⟨w.heap.size, 1, none⟩) lw).trans Pw1
                      have r0 := (bb.cell (p := ⟨w.heap.size + 1, 0, none⟩) lw1).trans Rw0
                      have r1 := (bb.cell (p := ⟨w.heap.size + 1, 1, none⟩) lw1).trans Rw1
                      have r2 := (bb.cell (p := ⟨w.heap.size + 1, 2, none⟩) lw1).trans Rw2
                      have f1 := (bb.frozen (p := ⟨w.heap.size, 1, none⟩) lw).trans (unhide HF w.heap.size 1 (by omega) (by omega))
                      refine hK.out _ _ ?_ (fun hHeld => ?_)
                      · exact ⟨((show Below wr.heap.size wr _ from (by repeat (first | exact Below.refl _ _ | assumption | refine below_drewN ?_ _ | refine Below.drew ?_ | refine Below.alloc ?_ (by first | exact Nat.le_refl _ | exact Below.size (by assumption) | (simp; done) | (simp; omega)) _ | refine Below.setCell ?_ (by first | exact Nat.le_refl _ | exact Below.size (by assumption) | (simp; done) | (simp; omega)) _ | refine Below.trans ?_ (by assumption)))).cell (p := ⟨w.heap.size + 1, 0, none⟩) lw1).trans Rw0, ((show Below wr.heap.size wr _ from (by repeat (first | exact Below.refl _ _ | assumption | refine below_drewN ?_ _ | refine Below.drew ?_ | refine Below.alloc ?_ (by first | exact Nat.le_refl _ | exact Below.size (by assumption) | (simp; done) | (simp; omega)) _ | refine Below.setCell ?_ (by first | exact Nat.le_refl _ | exact Below.size (by assumption) | (simp; done) | (simp; omega)) _ | refine Below.trans ?_ (by assumption)))).cell (p := ⟨w.heap.size + 1, 1, none⟩) lw1).trans Rw1, ((show Below wr.heap.size wr _ from (by repeat (first | exact Below.refl _ _ | assumption | refine below_drewN ?_ _ | refine Below.drew ?_ | refine Below.alloc ?_ (by first | exact Nat.le_refl _ | exact Below.size (by assumption) | (simp; done) | (simp; omega)) _ | refine Below.setCell ?_ (by first | exact Nat.le_refl _ | exact Below.size (by assumption) | (simp; done) | (simp; omega)) _ | refine Below.trans ?_ (by assumption)))).cell (p := ⟨w.heap.size + 1, 2, none⟩) lw1).trans Rw2⟩
                      clear hK K
                      try simp only [List.getElem_toArray, List.getElem_cons_succ, List.getElem_cons_zero, Act.put, List.setIfInBounds_toArray, List.set_cons_zero, List.set_cons_succ]
                      refine wpAnyH_take (i := 7) (v := ?_) rfl (by kernel_rfl) (by kernel_rfl) (by kernel_rfl) (fun _ _ _ h => h) (Or.inl ⟨by rfl, ?_⟩) (by assumption) ?_
                      rotate_left
                      · (intro w hSw; (try dsimp only at hSw); first | (go_simp; done) | (go_simp; with_reducible rfl))
                      try simp only [List.getElem_toArray, List.getElem_cons_succ, List.getElem_cons_zero, Act.put, List.setIfInBounds_toArray, List.set_cons_zero, List.set_cons_succ]
                      refine wpAnyH_ready (rs := [8]) (by kernel_rfl) (by simp) ?_
                      refine AllReadyH.cons rfl (fun K hK => ?_) AllReadyH.nil
                      · go_simp
                        refine hK.out _ _ ?_ (fun hHeld => ?_)
                        · exact ⟨by rw [World.cell?_setCell_other _ _ _ _ (by simp)]; exact r0, by rw [World.cell?_setCell_other _ _ _ _ (by simp)]; exact r1, by rw [World.cell?_setCell_other _ _ _ _ (by simp)]; exact r2⟩
                        clear hK K
                        try simp only [List.getElem_toArray, List.getElem_cons_succ, List.getElem_cons_zero, Act.put, List.setIfInBounds_toArray, List.set_cons_zero, List.set_cons_succ]
                        refine wpAnyH_done (by kernel_rfl) ?_ _
                        obtain ⟨wc, hwc⟩ : ∃ wc, wc = wb.setCell ⟨w.heap.size, 1, none⟩ (.slice (some ⟨g2, 0, none⟩) (j + 1) c2) := ⟨_, rfl⟩
                        have P0 : wc.cell? ⟨w.heap.size, 0, none⟩ = some (.int .i64 m) := by rw [hwc, World.cell?_setCell_other _ _ _ _ (by simp)]; exact p0
                        have P1 : wc.cell? ⟨w.heap.size, 1, none⟩ = some (.slice (some ⟨g2, 0, none⟩) (j + 1) c2) := by rw [hwc]; exact World.cell?_setCell_same _ _ _ p1
                        have MC : Mov w.heap.size wb wc := by rw [hwc]; exact Mov.set _ _ _
                        have s0 := MC.cell ((bb.cell (p := ⟨w.heap.size + 2, 0, none⟩) lw2).trans (unhide Sw0)) (by simp)
                        have s1 := MC.cell ((bb.cell (p := ⟨w.heap.size + 2, 1, none⟩) lw2).trans (unhide Sw1)) (by simp)
                        have fz0 : wc.frozen? ⟨w.heap.size + 2, 0, none⟩ = false := by rw [hwc]; simp [go_sem]; exact (bb.frozen (p := ⟨w.heap.size + 2, 0, none⟩) lw2).trans (unhide HF (w.heap.size + 2) 0 (by omega) (by omega))
                        have fz1 : wc.frozen? ⟨w.heap.size + 2, 1, none⟩ = false := by rw [hwc]; simp [go_sem]; exact (bb.frozen (p := ⟨w.heap.size + 2, 1, none⟩) lw2).trans (unhide HF (w.heap.size + 2) 1 (by omega) (by omega))
                        have gb := own_base o2
                        have HG : Hid (GtsAt wc (some ⟨g2, 0, none⟩) (j + 1) (snocG G j g)) := by
                          refine Or.inr ⟨g2, 0, rfl, Nat.lt_of_lt_of_le lt2 MC.size, fun i hi => ?_⟩
                          have h := own_gts o2 i hi
                          exact ⟨MC.cell h.1 (by simp only; omega), MC.cell h.2.1 (by simp only; omega), MC.cell h.2.2 (by simp only; omega)⟩
                        have BC : Below w.heap.size w wc := by rw [hwc]; exact (hbel.trans (bb.mono hbel.size)).setCell (Nat.le_refl _) _
                        have g2l := Nat.lt_of_lt_of_le lt2 MC.size
                        rw [← hwc]
                        clear hwc MC bb p0 p1 r0 r1 r2 f1 o2
                        have n0 : w.heap.size ≠ w.heap.size + 2 := by omega
                        have n1 : w.heap.size + 2 ≠ w.heap.size := by omega
                        go_wp2
                        go_region
                        all_goals go_wp2
                        all_goals refine bodyPost_ret (v := .tuple #[.agg #[.int .i64 m, .slice (some ⟨g2, 0, none⟩) (j + 1) c2], .int .i64 (2 + m + j)]) (by simp [results, Tryd.results102, go_sem, s0, s1]; try omega) rfl ?_
                        all_goals rw [unhide HR]
                        all_goals exact ⟨⟨some ⟨g2, 0, none⟩, c2, rfl, (by refine GtsAt.mov2 (unhide HG) (B := w.heap.size + 2) (by omega) ?_; first | exact (Mov.set _ _ _).trans (Mov.set _ _ _) | exact ((Mov.set _ _ _).trans (Mov.set _ _ _)).drew | exact ((Mov.refl _ _).drew.trans (Mov.set _ _ _)).trans (Mov.set _ _ _)), (fun h => by cases h), (fun p h => by cases h; rfl), Or.inr (Or.inr ⟨g2, rfl, by omega, by simp; omega⟩)⟩, (by repeat (first | exact Below.refl _ _ | assumption | refine below_drewN ?_ _ | refine Below.drew ?_ | refine Below.alloc ?_ (by first | exact Nat.le_refl _ | exact Below.size (by assumption) | (simp; done) | (simp; omega)) _ | refine Below.setCell ?_ (by first | exact Nat.le_refl _ | exact Below.size (by assumption) | (simp; done) | (simp; omega)) _ | refine Below.trans ?_ (by assumption)))⟩
        · go_simp
          refine hK.out _ _ ?_ (fun hHeld => ?_)
          · exact ⟨((show Below wr.heap.size wr _ from (by repeat (first | exact Below.refl _ _ | assumption | refine below_drewN ?_ _ | refine Below.drew ?_ | refine Below.alloc ?_ (by first | exact Nat.le_refl _ | exact Below.size (by assumption) | (simp; done) | (simp; omega)) _ | refine Below.setCell ?_ (by first | exact Nat.le_refl _ | exact Below.size (by assumption) | (simp; done) | (simp; omega)) _ | refine Below.trans ?_ (by assumption)))).cell (p := ⟨w.heap.size + 1, 0, none⟩) lw1).trans Rw0, ((show Below wr.heap.size wr _ from (by repeat (first | exact Below.refl _ _ | assumption | refine below_drewN ?_ _ | refine Below.drew ?_ | refine Below.alloc ?_ (by first | exact Nat.le_refl _ | exact Below.size (by assumption) | (simp; done) | (simp; omega)) _ | refine Below.setCell ?_ (by first | exact Nat.le_refl _ | exact Below.size (by assumption) | (simp; done) | (simp; omega)) _ | refine Below.trans ?_ (by assumption)))).cell (p := ⟨w.heap.size + 1, 1, none⟩) lw1).trans Rw1, ((show Below wr.heap.size wr _ from (by repeat (first | exact Below.refl _ _ | assumption | refine below_drewN ?_ _ | refine Below.drew ?_ | refine Below.alloc ?_ (by first | exact Nat.le_refl _ | exact Below.size (by assumption) | (simp; done) | (simp; omega)) _ | refine Below.setCell ?_ (by first | exact Nat.le_refl _ | exact Below.size (by assumption) | (simp; done) | (simp; omega)) _ | refine Below.trans ?_ (by assumption)))).cell (p := ⟨w.heap.size + 1, 2, none⟩) lw1).trans Rw2⟩
          clear hK K
          try simp only [List.getElem_toArray, List.getElem_cons_succ, List.getElem_cons_zero, Act.put, List.setIfInBounds_toArray, List.set_cons_zero, List.set_cons_succ]
          refine wpAnyH_ready (rs := [0, 5]) (by kernel_rfl) (by simp) ?_
          refine AllReadyH.cons rfl (fun K hK => ?_) (AllReadyH.cons rfl (fun K hK => ?_) AllReadyH.nil)
          · go_simp
            refine hK.out _ _ ?_ (fun hHeld => ?_)
            · exact ⟨((show Below wr.heap.size wr _ from (by repeat (first | exact Below.refl _ _ | assumption | refine below_drewN ?_ _ | refine Below.drew ?_ | refine Below.alloc ?_ (by first | exact Nat.le_refl _ | exact Below.size (by assumption) | (simp; done) | (simp; omega)) _ | refine Below.setCell ?_ (by first | exact Nat.le_refl _ | exact Below.size (by assumption) | (simp; done) | (simp; omega)) _ | refine Below.trans ?_ (by assumption)))).cell (p := ⟨w.heap.size + 1, 0, none⟩) lw1).trans Rw0, ((show Below wr.heap.size wr _ from (by repeat (first | exact Below.refl _ _ | assumption | refine below_drewN ?_ _ | refine Below.drew ?_ | refine Below.alloc ?_ (by first | exact Nat.le_refl _ | exact Below.size (by assumption) | (simp; done) | (simp; omega)) _ | refine Below.setCell ?_ (by first | exact Nat.le_refl _ | exact Below.size (by assumption) | (simp; done) | (simp; omega)) _ | refine Below.trans ?_ (by assumption)))).cell (p := ⟨w.heap.size + 1, 1, none⟩) lw1).trans Rw1, ((show Below wr.heap.size wr _ from (by repeat (first | exact Below.refl _ _ | assumption | refine below_drewN ?_ _ | refine Below.drew ?_ | refine Below.alloc ?_ (by first | exact Nat.le_refl _ | exact Below.size (by assumption) | (simp; done) | (simp; omega)) _ | refine Below.setCell ?_ (by first | exact Nat.le_refl _ | exact Below.size (by assumption) | (simp; done) | (simp; omega)) _ | refine Below.trans ?_ (by assumption)))).cell (p := ⟨w.heap.size + 1, 2, none⟩) lw1).trans Rw2⟩
            clear hK K
            try simp only [List.getElem_toArray, List.getElem_cons_succ, List.getElem_cons_zero, Act.put, List.setIfInBounds_toArray, List.set_cons_zero, List.set_cons_succ]
            refine wpAnyH_ready (rs := [3, 5]) (by kernel_rfl) (by simp) ?_
            refine AllReadyH.cons rfl (fun K hK => ?_) (AllReadyH.cons rfl (fun K hK => ?_) AllReadyH.nil)
            · apply step_gat_copy (s := .tmp 32) (x := .tmp 34) (G := G) (base := wr.heap.size)
              case hgd => rfl
              case ho => rfl
              case hs => rfl
              case hx => rfl
              case hX => first | exact alloc_at (by simp) | exact alloc_past (alloc_at (by simp))
              case hbX => first | omega | (simp; done) | (simp; omega)
              case hbase => first | omega | (simp; done) | (simp; omega)
              case hc => exact (unhide HDr).later (by repeat (first | exact Below.refl _ _ | assumption | refine below_drewN ?_ _ | refine Below.drew ?_ | refine Below.alloc ?_ (by first | exact Nat.le_refl _ | exact Below.size (by assumption) | (simp; done) | (simp; omega)) _ | refine Below.setCell ?_ (by first | exact Nat.le_refl _ | exact Below.size (by assumption) | (simp; done) | (simp; omega)) _ | refine Below.trans ?_ (by assumption)))
              case hnn => exact hnn
              case hspot => exact hspot
              case hl => omega
              case h =>
                intro g1 c1 wa o1 gr1 at1 lt1
                have ba := (show Below wr.heap.size wr _ from (by repeat (first | exact Below.refl _ _ | assumption | refine below_drewN ?_ _ | refine Below.drew ?_ | refine Below.alloc ?_ (by first | exact Nat.le_refl _ | exact Below.size (by assumption) | (simp; done) | (simp; omega)) _ | refine Below.setCell ?_ (by first | exact Nat.le_refl _ | exact Below.size (by assumption) | (simp; done) | (simp; omega)) _ | refine Below.trans ?_ (by assumption)))).trans ((mov_of_grown gr1).below (by first | omega | (simp; done) | (simp; omega)) (by first | omega | (simp; done) | (simp; omega)))
                have sa := gr1.size
                have p0 := (ba.cell (p := ⟨w.heap.size, 0, none⟩) lw).trans Pw0
                have p1 := (ba.cell (p := ⟨w.heap.size, 1, none⟩) lw).trans Pw1
                have r0 := (ba.cell (p := ⟨w.heap.size + 1, 0, none⟩) lw1).trans Rw0
                have r1 := (ba.cell (p := ⟨w.heap.size + 1, 1, none⟩) lw1).trans Rw1
                have r2 := (ba.cell (p := ⟨w.heap.size + 1, 2, none⟩) lw1).trans Rw2
                (try simp [go_sem] at sa)
                refine hK.out _ _ ?_ (fun hHeld => ?_)
                · exact ⟨((show Below wr.heap.size wr _ from (by repeat (first | exact Below.refl _ _ | assumption | refine below_drewN ?_ _ | refine Below.drew ?_ | refine Below.alloc ?_ (by first | exact Nat.le_refl _ | exact Below.size (by assumption) | (simp; done) | (simp; omega)) _ | refine Below.setCell ?_ (by first | exact Nat.le_refl _ | exact Below.size (by assumption) | (simp; done) | (simp; omega)) _ | refine Below.trans ?_ (by assumption)))).cell (p := ⟨w.heap.size + 1, 0, none⟩) lw1).trans Rw0, ((show Below wr.heap.size wr _ from (by repeat (first | exact Below.refl _ _ | assumption | refine below_drewN ?_ _ | refine Below.drew ?_ | refine Below.alloc ?_ (by first | exact Nat.le_refl _ | exact Below.size (by assumption) | (simp; done) | (simp; omega)) _ | refine Below.setCell ?_ (by first | exact Nat.le_refl _ | exact Below.size (by assumption) | (simp; done) | (simp; omega)) _ | refine Below.trans ?_ (by assumption)))).cell (p := ⟨w.heap.size + 1, 1, none⟩) lw1).trans Rw1, ((show Below wr.heap.size wr _ from (by repeat (first | exact Below.refl _ _ | assumption | refine below_drewN ?_ _ | refine Below.drew ?_ | refine Below.alloc ?_ (by first | exact Nat.le_refl _ | exact Below.size (by assumption) | (simp; done) | (simp; omega)) _ | refine Below.setCell ?_ (by first | exact Nat.le_refl _ | exact Below.size (by assumption) | (simp; done) | (simp; omega)) _ | refine Below.trans ?_ (by assumption)))).cell (p := ⟨w.heap.size + 1, 2, none⟩) lw1).trans Rw2⟩
                clear hK K
                try simp only [List.getElem_toArray, List.getElem_cons_succ, List.getElem_cons_zero, Act.put, List.setIfInBounds_toArray, List.set_cons_zero, List.set_cons_succ]
                refine wpAnyH_ready (rs := [5]) (by kernel_rfl) (by simp) ?_
                refine AllReadyH.cons rfl (fun K hK => ?_) AllReadyH.nil
                · go_simp
                  refine hK.out _ _ ?_ (fun hHeld => ?_)
                  · exact ⟨((show Below wr.heap.size wr _ from (by repeat (first | exact Below.refl _ _ | assumption | refine below_drewN ?_ _ | refine Below.drew ?_ | refine Below.alloc ?_ (by first | exact Nat.le_refl _ | exact Below.size (by assumption) | (simp; done) | (simp; omega)) _ | refine Below.setCell ?_ (by first | exact Nat.le_refl _ | exact Below.size (by assumption) | (simp; done) | (simp; omega)) _ | refine Below.trans ?_ (by assumption)))).cell (p := ⟨w.heap.size + 1, 0, none⟩) lw1).trans Rw0, ((show Below wr.heap.size wr _ from (by repeat (first | exact Below.refl _ _ | assumption | refine below_drewN ?_ _ | refine Below.drew ?_ | refine Below.alloc ?_ (by first | exact Nat.le_refl _ | exact Below.size (by assumption) | (simp; done) | (simp; omega)) _ | refine Below.setCell ?_ (by first | exact Nat.le_refl _ | exact Below.size (by assumption) | (simp; done) | (simp; omega)) _ | refine Below.trans ?_ (by assumption)))).cell (p := ⟨w.heap.size + 1, 1, none⟩) lw1).trans Rw1, ((show Below wr.heap.size wr _ from (by repeat (first | exact Below.refl _ _ | assumption | refine below_drewN ?_ _ | refine Below.drew ?_ | refine Below.alloc ?_ (by first | exact Nat.le_refl _ | exact Below.size (by assumption) | (simp; done) | (simp; omega)) _ | refine Below.setCell ?_ (by first | exact Nat.le_refl _ | exact Below.size (by assumption) | (simp; done) | (simp; omega)) _ | refine Below.trans ?_ (by assumption)))).cell (p := ⟨w.heap.size + 1, 2, none⟩) lw1).trans Rw2⟩
                  clear hK K
                  try simp only [List.getElem_toArray, List.getElem_cons_succ, List.getElem_cons_zero, Act.put, List.setIfInBounds_toArray, List.set_cons_zero, List.set_cons_succ]
                  refine wpAnyH_ready (rs := [6]) (by kernel_rfl) (by simp) ?_
                  refine AllReadyH.cons rfl (fun K hK => ?_) AllReadyH.nil
                  · apply step_gat_one (s := .tmp 35) (x := .tmp 37) (G := G) (q := g) (base := wr.heap.size) (g := g1) (cap := c1)
                    case hgd => rfl
                    case ho => rfl
                    case hs => rfl
                    case hx => rfl
                    case hown => exact o1.kept (grown_below (by repeat (first | exact Below.refl _ _ | assumption | refine below_drewN ?_ _ | refine Below.drew ?_ | refine Below.alloc ?_ (by first | exact Nat.le_refl _ | exact Below.size (by assumption) | (simp; done) | (simp; omega)) _ | refine Below.setCell ?_ (by first | exact Nat.le_refl _ | exact Below.size (by assumption) | (simp; done) | (simp; omega)) _ | refine Below.trans ?_ (by assumption)))) (Or.inr (by simp [Value.ownBlock]))
                    case hbase => first | omega | (simp; done) | (simp; omega)
                    case hT => refine Gts.lone ?_ ?_ ?_ <;> simp [go_sem]
                    case hl => omega
                    case h =>
                      intro g2 c2 wb o2 gr2 at2 lt2
                      have bb := (show Below wr.heap.size wr _ from (by repeat (first | exact Below.refl _ _ | assumption | refine below_drewN ?_ _ | refine Below.drew ?_ | refine Below.alloc ?_ (by first | exact Nat.le_refl _ | exact Below.size (by assumption) | (simp; done) | (simp; omega)) _ | refine Below.setCell ?_ (by first | exact Nat.le_refl _ | exact Below.size (by assumption) | (simp; done) | (simp; omega)) _ | refine Below.trans ?_ (by assumption)))).trans ((mov_of_grown gr2).below (own_base o1) (by first | omega | (simp; done) | (simp; omega)))
                      have p0 := (bb.cell (p := ⟨w.heap.size, 0, none⟩) lw).trans Pw0
                      have p1 := (bb.cell (p := ⟨w.heap.size, 1, none⟩) lw).trans Pw1
                      have r0 := (bb.cell (p := ⟨w.heap.size + 1, 0, none⟩) lw1).trans Rw0
                      have r1 := (bb.cell (p := ⟨w.heap.size + 1, 1, none⟩) lw1).trans Rw1
                      have r2 := (bb.cell (p := ⟨w.heap.size + 1, 2, none⟩) lw1).trans Rw2
                      have f1 := (bb.frozen (p := ⟨w.heap.size, 1, none⟩) lw).trans (unhide HF w.heap.size 1 (by omega) (by omega))
                      refine hK.out _ _ ?_ (fun hHeld => ?_)
                      · exact ⟨((show Below wr.heap.size wr _ from (by repeat (first | exact Below.refl _ _ | assumption | refine below_drewN ?_ _ | refine Below.drew ?_ | refine Below.alloc ?_ (by first | exact Nat.le_refl _ | exact Below.size (by assumption) | (simp; done) | (simp; omega)) _ | refine Below.setCell ?_ (by first | exact Nat.le_refl _ | exact Below.size (by assumption) | (simp; done) | (simp; omega)) _ | refine Below.trans ?_ (by assumption)))).cell (p := ⟨w.heap.size + 1, 0, none⟩) lw1).trans Rw0, ((show Below wr.heap.size wr _ from (by repeat (first | exact Below.refl _ _ | assumption | refine below_drewN ?_ _ | refine Below.drew ?_ | refine Below.alloc ?_ (by first | exact Nat.le_refl _ | exact Below.size (by assumption) | (simp; done) | (simp; omega)) _ | refine Below.setCell ?_ (by first | exact Nat.le_refl _ | exact Below.size (by assumption) | (simp; done) | (simp; omega)) _ | refine Below.trans ?_ (by assumption)))).cell (p := ⟨w.heap.size + 1, 1, none⟩) lw1).trans Rw1, ((show Below wr.heap.size wr _ from (by repeat (first | exact Below.refl _ _ | assumption | refine below_drewN ?_ _ | refine Below.drew ?_ | refine Below.alloc ?_ (by first | exact Nat.le_refl _ | exact Below.size (by assumption) | (simp; done) | (simp; omega)) _ | refine Below.setCell ?_ (by first | exact Nat.le_refl _ | exact Below.size (by assumption) | (simp; done) | (simp; omega)) _ | refine Below.trans ?_ (by assumption)))).cell (p := ⟨w.heap.size + 1, 2, none⟩) lw1).trans Rw2⟩
                      clear hK K
                      try simp only [List.getElem_toArray, List.getElem_cons_succ, List.getElem_cons_zero, Act.put, List.setIfInBounds_toArray, List.set_cons_zero, List.set_cons_succ]
                      refine wpAnyH_take (i := 7) (v := ?_) rfl (by kernel_rfl) (by kernel_rfl) (by kernel_rfl) (fun _ _ _ h => h) (Or.inl ⟨by rfl, ?_⟩) (by assumption) ?_
                      rotate_left
                      · (intro w hSw; (try dsimp only at hSw); first | (go_simp; done) | (go_simp; with_reducible rfl))
                      try simp only [List.getElem_toArray, List.getElem_cons_succ, List.getElem_cons_zero, Act.put, List.setIfInBounds_toArray, List.set_cons_zero, List.set_cons_succ]
                      refine wpAnyH_ready (rs := [8]) (by kernel_rfl) (by simp) ?_
                      refine AllReadyH.cons rfl (fun K hK => ?_) AllReadyH.nil
                      · go_simp
                        refine hK.out _ _ ?_ (fun hHeld => ?_)
                        · exact ⟨by rw [World.cell?_setCell_other _ _ _ _ (by simp)]; exact r0, by rw [World.cell?_setCell_other _ _ _ _ (by simp)]; exact r1, by rw [World.cell?_setCell_other _ _ _ _ (by simp)]; exact r2⟩
                        clear hK K
                        try simp only [List.getElem_toArray, List.getElem_cons_succ, List.getElem_cons_zero, Act.put, List.setIfInBounds_toArray, List.set_cons_zero, List.set_cons_succ]
                        refine wpAnyH_done (by kernel_rfl) ?_ _
                        obtain ⟨wc, hwc⟩ : ∃ wc, wc = wb.setCell ⟨w.heap.size, 1, none⟩ (.slice (some ⟨g2, 0, none⟩) (j + 1) c2) := ⟨_, rfl⟩
                        have P0 : wc.cell? ⟨w.heap.size, 0, none⟩ = some (.int .i64 m) := by rw [hwc, World.cell?_setCell_other _ _ _ _ (by simp)]; exact p0
                        have P1 : wc.cell? ⟨w.heap.size, 1, none⟩ = some (.slice (some ⟨g2, 0, none⟩) (j + 1) c2) := by rw [hwc]; exact World.cell?_setCell_same _ _ _ p1
                        have MC : Mov w.heap.size wb wc := by rw [hwc]; exact Mov.set _ _ _
                        have s0 := MC.cell ((bb.cell (p := ⟨w.heap.size + 2, 0, none⟩) lw2).trans (unhide Sw0)) (by simp)
                        have s1 := MC.cell ((bb.cell (p := ⟨w.heap.size + 2, 1, none⟩) lw2).trans (unhide Sw1)) (by simp)
                        have fz0 : wc.frozen? ⟨w.heap.size + 2, 0, none⟩ = false := by rw [hwc]; simp [go_sem]; exact (bb.frozen (p := ⟨w.heap.size + 2, 0, none⟩) lw2).trans (unhide HF (w.heap.size + 2) 0 (by omega) (by omega))
                        have fz1 : wc.frozen? ⟨w.heap.size + 2, 1, none⟩ = false := by rw [hwc]; simp [go_sem]; exact (bb.frozen (p := ⟨w.heap.size + 2, 1, none⟩) lw2).trans (unhide HF (w.heap.size + 2) 1 (by omega) (by omega))
                        have gb := own_base o2
                        have HG : Hid (GtsAt wc (some ⟨g2, 0, none⟩) (j + 1) (snocG G j g)) := by
                          refine Or.inr ⟨g2, 0, rfl, Nat.lt_of_lt_of_le lt2 MC.size, fun i hi => ?_⟩
                          have h := own_gts o2 i hi
                          exact ⟨MC.cell h.1 (by simp only; omega), MC.cell h.2.1 (by simp only; omega), MC.cell h.2.2 (by simp only; omega)⟩
                        have BC : Below w.heap.size w wc := by rw [hwc]; exact (hbel.trans (bb.mono hbel.size)).setCell (Nat.le_refl _) _
                        have g2l := Nat.lt_of_lt_of_le lt2 MC.size
                        rw [← hwc]
                        clear hwc MC bb p0 p1 r0 r1 r2 f1 o2
                        have n0 : w.heap.size ≠ w.heap.size + 2 := by omega
                        have n1 : w.heap.size + 2 ≠ w.heap.size := by omega
                        go_wp2
                        go_region
                        all_goals go_wp2
                        all_goals refine bodyPost_ret (v := .tuple #[.agg #[.int .i64 m, .slice (some ⟨g2, 0, none⟩) (j + 1) c2], .int .i64 (2 + m + j)]) (by simp [results, Tryd.results102, go_sem, s0, s1]; try omega) rfl ?_
                        all_goals rw [unhide HR]
                        all_goals exact ⟨⟨some ⟨g2, 0, none⟩, c2, rfl, (by refine GtsAt.mov2 (unhide HG) (B := w.heap.size + 2) (by omega) ?_; first | exact (Mov.set _ _ _).trans (Mov.set _ _ _) | exact ((Mov.set _ _ _).trans (Mov.set _ _ _)).drew | exact ((Mov.refl _ _).drew.trans (Mov.set _ _ _)).trans (Mov.set _ _ _)), (fun h => by cases h), (fun p h => by cases h; rfl), Or.inr (Or.inr ⟨g2, rfl, by omega, by simp; omega⟩)⟩, (by repeat (first | exact Below.refl _ _ | assumption | refine below_drewN ?_ _ | refine Below.drew ?_ | refine Below.alloc ?_ (by first | exact Nat.le_refl _ | exact Below.size (by assumption) | (simp; done) | (simp; omega)) _ | refine Below.setCell ?_ (by first | exact Nat.le_refl _ | exact Below.size (by assumption) | (simp; done) | (simp; omega)) _ | refine Below.trans ?_ (by assumption)))⟩
            · go_simp
              refine hK.out _ _ ?_ (fun hHeld => ?_)
              · exact ⟨((show Below wr.heap.size wr _ from (by repeat (first | exact Below.refl _ _ | assumption | refine below_drewN ?_ _ | refine Below.drew ?_ | refine Below.alloc ?_ (by first | exact Nat.le_refl _ | exact Below.size (by assumption) | (simp; done) | (simp; omega)) _ | refine Below.setCell ?_ (by first | exact Nat.le_refl _ | exact Below.size (by assumption) | (simp; done) | (simp; omega)) _ | refine Below.trans ?_ (by assumption)))).cell (p := ⟨w.heap.size + 1, 0, none⟩) lw1).trans Rw0, ((show Below wr.heap.size wr _ from (by repeat (first | exact Below.refl _ _ | assumption | refine below_drewN ?_ _ | refine Below.drew ?_ | refine Below.alloc ?_ (by first | exact Nat.le_refl _ | exact Below.size (by assumption) | (simp; done) | (simp; omega)) _ | refine Below.setCell ?_ (by first | exact Nat.le_refl _ | exact Below.size (by assumption) | (simp; done) | (simp; omega)) _ | refine Below.trans ?_ (by assumption)))).cell (p := ⟨w.heap.size + 1, 1, none⟩) lw1).trans Rw1, ((show Below wr.heap.size wr _ from (by repeat (first | exact Below.refl _ _ | assumption | refine below_drewN ?_ _ | refine Below.drew ?_ | refine Below.alloc ?_ (by first | exact Nat.le_refl _ | exact Below.size (by assumption) | (simp; done) | (simp; omega)) _ | refine Below.setCell ?_ (by first | exact Nat.le_refl _ | exact Below.size (by assumption) | (simp; done) | (simp; omega)) _ | refine Below.trans ?_ (by assumption)))).cell (p := ⟨w.heap.size + 1, 2, none⟩) lw1).trans Rw2⟩
              clear hK K
              try simp only [List.getElem_toArray, List.getElem_cons_succ, List.getElem_cons_zero, Act.put, List.setIfInBounds_toArray, List.set_cons_zero, List.set_cons_succ]
              refine wpAnyH_ready (rs := [3]) (by kernel_rfl) (by simp) ?_
              refine AllReadyH.cons rfl (fun K hK => ?_) AllReadyH.nil
              · apply step_gat_copy (s := .tmp 32) (x := .tmp 34) (G := G) (base := wr.heap.size)
                case hgd => rfl
                case ho => rfl
                case hs => rfl
                case hx => rfl
                case hX => first | exact alloc_at (by simp) | exact alloc_past (alloc_at (by simp))
                case hbX => first | omega | (simp; done) | (simp; omega)
                case hbase => first | omega | (simp; done) | (simp; omega)
                case hc => exact (unhide HDr).later (by repeat (first | exact Below.refl _ _ | assumption | refine below_drewN ?_ _ | refine Below.drew ?_ | refine Below.alloc ?_ (by first | exact Nat.le_refl _ | exact Below.size (by assumption) | (simp; done) | (simp; omega)) _ | refine Below.setCell ?_ (by first | exact Nat.le_refl _ | exact Below.size (by assumption) | (simp; done) | (simp; omega)) _ | refine Below.trans ?_ (by assumption)))
                case hnn => exact hnn
                case hspot => exact hspot
                case hl => omega
                case h =>
                  intro g1 c1 wa o1 gr1 at1 lt1
                  have ba := (show Below wr.heap.size wr _ from (by repeat (first | exact Below.refl _ _ | assumption | refine below_drewN ?_ _ | refine Below.drew ?_ | refine Below.alloc ?_ (by first | exact Nat.le_refl _ | exact Below.size (by assumption) | (simp; done) | (simp; omega)) _ | refine Below.setCell ?_ (by first | exact Nat.le_refl _ | exact Below.size (by assumption) | (simp; done) | (simp; omega)) _ | refine Below.trans ?_ (by assumption)))).trans ((mov_of_grown gr1).below (by first | omega | (simp; done) | (simp; omega)) (by first | omega | (simp; done) | (simp; omega)))
                  have sa := gr1.size
                  have p0 := (ba.cell (p := ⟨w.heap.size, 0, none⟩) lw).trans Pw0
                  have p1 := (ba.cell (p := ⟨w.heap.size, 1, none⟩) lw).trans Pw1
                  have r0 := (ba.cell (p := ⟨w.heap.size + 1, 0, none⟩) lw1).trans Rw0
                  have r1 := (ba.cell (p := ⟨w.heap.size + 1, 1, none⟩) lw1).trans Rw1
                  have r2 := (ba.cell (p := ⟨w.heap.size + 1, 2, none⟩) lw1).trans Rw2
                  (try simp [go_sem] at sa)
                  have qT : Gts wa (wr.heap.size + 1) 0 1 (fun _ => g) := by
                    refine Gts.grown (Gts.lone ?_ ?_ ?_) gr1 ?_
                    · simp [go_sem]
                    · simp [go_sem]
                    · simp [go_sem]
                    · first | omega | (simp; done) | (simp; omega)
                  refine hK.out _ _ ?_ (fun hHeld => ?_)
                  · exact ⟨((show Below wr.heap.size wr _ from (by repeat (first | exact Below.refl _ _ | assumption | refine below_drewN ?_ _ | refine Below.drew ?_ | refine Below.alloc ?_ (by first | exact Nat.le_refl _ | exact Below.size (by assumption) | (simp; done) | (simp; omega)) _ | refine Below.setCell ?_ (by first | exact Nat.le_refl _ | exact Below.size (by assumption) | (simp; done) | (simp; omega)) _ | refine Below.trans ?_ (by assumption)))).cell (p := ⟨w.heap.size + 1, 0, none⟩) lw1).trans Rw0, ((show Below wr.heap.size wr _ from (by repeat (first | exact Below.refl _ _ | assumption | refine below_drewN ?_ _ | refine Below.drew ?_ | refine Below.alloc ?_ (by first | exact Nat.le_refl _ | exact Below.size (by assumption) | (simp; done) | (simp; omega)) _ | refine Below.setCell ?_ (by first | exact Nat.le_refl _ | exact Below.size (by assumption) | (simp; done) | (simp; omega)) _ | refine Below.trans ?_ (by assumption)))).cell (p := ⟨w.heap.size + 1, 1, none⟩) lw1).trans Rw1, ((show Below wr.heap.size wr _ from (by repeat (first | exact Below.refl _ _ | assumption | refine below_drewN ?_ _ | refine Below.drew ?_ | refine Below.alloc ?_ (by first | exact Nat.le_refl _ | exact Below.size (by assumption) | (simp; done) | (simp; omega)) _ | refine Below.setCell ?_ (by first | exact Nat.le_refl _ | exact Below.size (by assumption) | (simp; done) | (simp; omega)) _ | refine Below.trans ?_ (by assumption)))).cell (p := ⟨w.heap.size + 1, 2, none⟩) lw1).trans Rw2⟩
                  clear hK K
                  try simp only [List.getElem_toArray, List.getElem_cons_succ, List.getElem_cons_zero, Act.put, List.setIfInBounds_toArray, List.set_cons_zero, List.set_cons_succ]
                  refine wpAnyH_ready (rs := [6]) (by kernel_rfl) (by simp) ?_
                  refine AllReadyH.cons rfl (fun K hK => ?_) AllReadyH.nil
                  · apply step_gat_one (s := .tmp 35) (x := .tmp 37) (G := G) (q := g) (base := wr.heap.size) (g := g1) (cap := c1)
                    case hgd => rfl
                    case ho => rfl
                    case hs => rfl
                    case hx => rfl
                    case hown => exact o1.kept (grown_below (by repeat (first | exact Below.refl _ _ | assumption | refine below_drewN ?_ _ | refine Below.drew ?_ | refine Below.alloc ?_ (by first | exact Nat.le_refl _ | exact Below.size (by assumption) | (simp; done) | (simp; omega)) _ | refine Below.setCell ?_ (by first | exact Nat.le_refl _ | exact Below.size (by assumption) | (simp; done) | (simp; omega)) _ | refine Below.trans ?_ (by assumption)))) (Or.inr (by simp [Value.ownBlock]))
                    case hbase => first | omega | (simp; done) | (simp; omega)
                    case hT => exact Gts.later qT (by repeat (first | exact Below.refl _ _ | assumption | refine below_drewN ?_ _ | refine Below.drew ?_ | refine Below.alloc ?_ (by first | exact Nat.le_refl _ | exact Below.size (by assumption) | (simp; done) | (simp; omega)) _ | refine Below.setCell ?_ (by first | exact Nat.le_refl _ | exact Below.size (by assumption) | (simp; done) | (simp; omega)) _ | refine Below.trans ?_ (by assumption)))
                    case hl => omega
                    case h =>
                      intro g2 c2 wb o2 gr2 at2 lt2
                      have bb := (show Below wr.heap.size wr _ from (by repeat (first | exact Below.refl _ _ | assumption | refine below_drewN ?_ _ | refine Below.drew ?_ | refine Below.alloc ?_ (by first | exact Nat.le_refl _ | exact Below.size (by assumption) | (simp; done) | (simp; omega)) _ | refine Below.setCell ?_ (by first | exact Nat.le_refl _ | exact Below.size (by assumption) | (simp; done) | (simp; omega)) _ | refine Below.trans ?_ (by assumption)))).trans ((mov_of_grown gr2).below (own_base o1) (by first | omega | (simp; done) | (simp; omega)))
                      have p0 := (bb.cell (p := ⟨w.heap.size, 0, none⟩) lw).trans Pw0
                      have p1 := (bb.cell (p := ⟨w.heap.size, 1, none⟩) lw).trans Pw1
                      have r0 := (bb.cell (p := ⟨w.heap.size + 1, 0, none⟩) lw1).trans Rw0
                      have r1 := (bb.cell (p := ⟨w.heap.size + 1, 1, none⟩) lw1).trans Rw1
                      have r2 := (bb.cell (p := ⟨w.heap.size + 1, 2, none⟩) lw1).trans Rw2
                      have f1 := (bb.frozen (p := ⟨w.heap.size, 1, none⟩) lw).trans (unhide HF w.heap.size 1 (by omega) (by omega))
                      refine hK.out _ _ ?_ (fun hHeld => ?_)
                      · exact ⟨((show Below wr.heap.size wr _ from (by repeat (first | exact Below.refl _ _ | assumption | refine below_drewN ?_ _ | refine Below.drew ?_ | refine Below.alloc ?_ (by first | exact Nat.le_refl _ | exact Below.size (by assumption) | (simp; done) | (simp; omega)) _ | refine Below.setCell ?_ (by first | exact Nat.le_refl _ | exact Below.size (by assumption) | (simp; done) | (simp; omega)) _ | refine Below.trans ?_ (by assumption)))).cell (p := ⟨w.heap.size + 1, 0, none⟩) lw1).trans Rw0, ((show Below wr.heap.size wr _ from (by repeat (first | exact Below.refl _ _ | assumption | refine below_drewN ?_ _ | refine Below.drew ?_ | refine Below.alloc ?_ (by first | exact Nat.le_refl _ | exact Below.size (by assumption) | (simp; done) | (simp; omega)) _ | refine Below.setCell ?_ (by first | exact Nat.le_refl _ | exact Below.size (by assumption) | (simp; done) | (simp; omega)) _ | refine Below.trans ?_ (by assumption)))).cell (p := ⟨w.heap.size + 1, 1, none⟩) lw1).trans Rw1, ((show Below wr.heap.size wr _ from (by repeat (first | exact Below.refl _ _ | assumption | refine below_drewN ?_ _ | refine Below.drew ?_ | refine Below.alloc ?_ (by first | exact Nat.le_refl _ | exact Below.size (by assumption) | (simp; done) | (simp; omega)) _ | refine Below.setCell ?_ (by first | exact Nat.le_refl _ | exact Below.size (by assumption) | (simp; done) | (simp; omega)) _ | refine Below.trans ?_ (by assumption)))).cell (p := ⟨w.heap.size + 1, 2, none⟩) lw1).trans Rw2⟩
                      clear hK K
                      try simp only [List.getElem_toArray, List.getElem_cons_succ, List.getElem_cons_zero, Act.put, List.setIfInBounds_toArray, List.set_cons_zero, List.set_cons_succ]
                      refine wpAnyH_take (i := 7) (v := ?_) rfl (by kernel_rfl) (by kernel_rfl) (by kernel_rfl) (fun _ _ _ h => h) (Or.inl ⟨by rfl, ?_⟩) (by assumption) ?_
                      rotate_left
                      · (intro w hSw; (try dsimp only at hSw); first | (go_simp; done) | (go_simp; with_reducible rfl))
                      try simp only [List.getElem_toArray, List.getElem_cons_succ, List.getElem_cons_zero, Act.put, List.setIfInBounds_toArray, List.set_cons_zero, List.set_cons_succ]
                      refine wpAnyH_ready (rs := [8]) (by kernel_rfl) (by simp) ?_
                      refine AllReadyH.cons rfl (fun K hK => ?_) AllReadyH.nil
                      · go_simp
                        refine hK.out _ _ ?_ (fun hHeld => ?_)
                        · exact ⟨by rw [World.cell?_setCell_other _ _ _ _ (by simp)]; exact r0, by rw [World.cell?_setCell_other _ _ _ _ (by simp)]; exact r1, by rw [World.cell?_setCell_other _ _ _ _ (by simp)]; exact r2⟩
                        clear hK K
                        try simp only [List.getElem_toArray, List.getElem_cons_succ, List.getElem_cons_zero, Act.put, List.setIfInBounds_toArray, List.set_cons_zero, List.set_cons_succ]
                        refine wpAnyH_done (by kernel_rfl) ?_ _
                        obtain ⟨wc, hwc⟩ : ∃ wc, wc = wb.setCell ⟨w.heap.size, 1, none⟩ (.slice (some ⟨g2, 0, none⟩) (j + 1) c2) := ⟨_, rfl⟩
                        have P0 : wc.cell? ⟨w.heap.size, 0, none⟩ = some (.int .i64 m) := by rw [hwc, World.cell?_setCell_other _ _ _ _ (by simp)]; exact p0
                        have P1 : wc.cell? ⟨w.heap.size, 1, none⟩ = some (.slice (some ⟨g2, 0, none⟩) (j + 1) c2) := by rw [hwc]; exact World.cell?_setCell_same _ _ _ p1
                        have MC : Mov w.heap.size wb wc := by rw [hwc]; exact Mov.set _ _ _
                        have s0 := MC.cell ((bb.cell (p := ⟨w.heap.size + 2, 0, none⟩) lw2).trans (unhide Sw0)) (by simp)
                        have s1 := MC.cell ((bb.cell (p := ⟨w.heap.size + 2, 1, none⟩) lw2).trans (unhide Sw1)) (by simp)
                        have fz0 : wc.frozen? ⟨w.heap.size + 2, 0, none⟩ = false := by rw [hwc]; simp [go_sem]; exact (bb.frozen (p := ⟨w.heap.size + 2, 0, none⟩) lw2).trans (unhide HF (w.heap.size + 2) 0 (by omega) (by omega))
                        have fz1 : wc.frozen? ⟨w.heap.size + 2, 1, none⟩ = false := by rw [hwc]; simp [go_sem]; exact (bb.frozen (p := ⟨w.heap.size + 2, 1, none⟩) lw2).trans (unhide HF (w.heap.size + 2) 1 (by omega) (by omega))
                        have gb := own_base o2
                        have HG : Hid (GtsAt wc (some ⟨g2, 0, none⟩) (j + 1) (snocG G j g)) := by
                          refine Or.inr ⟨g2, 0, rfl, Nat.lt_of_lt_of_le lt2 MC.size, fun i hi => ?_⟩
                          have h := own_gts o2 i hi
                          exact ⟨MC.cell h.1 (by simp only; omega), MC.cell h.2.1 (by simp only; omega), MC.cell h.2.2 (by simp only; omega)⟩
                        have BC : Below w.heap.size w wc := by rw [hwc]; exact (hbel.trans (bb.mono hbel.size)).setCell (Nat.le_refl _) _
                        have g2l := Nat.lt_of_lt_of_le lt2 MC.size
                        rw [← hwc]
                        clear hwc MC bb p0 p1 r0 r1 r2 f1 o2
                        have n0 : w.heap.size ≠ w.heap.size + 2 := by omega
                        have n1 : w.heap.size + 2 ≠ w.heap.size := by omega
                        go_wp2
                        go_region
                        all_goals go_wp2
                        all_goals refine bodyPost_ret (v := .tuple #[.agg #[.int .i64 m, .slice (some ⟨g2, 0, none⟩) (j + 1) c2], .int .i64 (2 + m + j)]) (by simp [results, Tryd.results102, go_sem, s0, s1]; try omega) rfl ?_
                        all_goals rw [unhide HR]
                        all_goals exact ⟨⟨some ⟨g2, 0, none⟩, c2, rfl, (by refine GtsAt.mov2 (unhide HG) (B := w.heap.size + 2) (by omega) ?_; first | exact (Mov.set _ _ _).trans (Mov.set _ _ _) | exact ((Mov.set _ _ _).trans (Mov.set _ _ _)).drew | exact ((Mov.refl _ _).drew.trans (Mov.set _ _ _)).trans (Mov.set _ _ _)), (fun h => by cases h), (fun p h => by cases h; rfl), Or.inr (Or.inr ⟨g2, rfl, by omega, by simp; omega⟩)⟩, (by repeat (first | exact Below.refl _ _ | assumption | refine below_drewN ?_ _ | refine Below.drew ?_ | refine Below.alloc ?_ (by first | exact Nat.le_refl _ | exact Below.size (by assumption) | (simp; done) | (simp; omega)) _ | refine Below.setCell ?_ (by first | exact Nat.le_refl _ | exact Below.size (by assumption) | (simp; done) | (simp; omega)) _ | refine Below.trans ?_ (by assumption)))⟩
          · go_simp
            refine hK.out _ _ ?_ (fun hHeld => ?_)
            · exact ⟨((show Below wr.heap.size wr _ from (by repeat (first | exact Below.refl _ _ | assumption | refine below_drewN ?_ _ | refine Below.drew ?_ | refine Below.alloc ?_ (by first | exact Nat.le_refl _ | exact Below.size (by assumption) | (simp; done) | (simp; omega)) _ | refine Below.setCell ?_ (by first | exact Nat.le_refl _ | exact Below.size (by assumption) | (simp; done) | (simp; omega)) _ | refine Below.trans ?_ (by assumption)))).cell (p := ⟨w.heap.size + 1, 0, none⟩) lw1).trans Rw0, ((show Below wr.heap.size wr _ from (by repeat (first | exact Below.refl _ _ | assumption | refine below_drewN ?_ _ | refine Below.drew ?_ | refine Below.alloc ?_ (by first | exact Nat.le_refl _ | exact Below.size (by assumption) | (simp; done) | (simp; omega)) _ | refine Below.setCell ?_ (by first | exact Nat.le_refl _ | exact Below.size (by assumption) | (simp; done) | (simp; omega)) _ | refine Below.trans ?_ (by assumption)))).cell (p := ⟨w.heap.size + 1, 1, none⟩) lw1).trans Rw1, ((show Below wr.heap.size wr _ from (by repeat (first | exact Below.refl _ _ | assumption | refine below_drewN ?_ _ | refine Below.drew ?_ | refine Below.alloc ?_ (by first | exact Nat.le_refl _ | exact Below.size (by assumption) | (simp; done) | (simp; omega)) _ | refine Below.setCell ?_ (by first | exact Nat.le_refl _ | exact Below.size (by assumption) | (simp; done) | (simp; omega)) _ | refine Below.trans ?_ (by assumption)))).cell (p := ⟨w.heap.size + 1, 2, none⟩) lw1).trans Rw2⟩
            clear hK K
            try simp only [List.getElem_toArray, List.getElem_cons_succ, List.getElem_cons_zero, Act.put, List.setIfInBounds_toArray, List.set_cons_zero, List.set_cons_succ]
            refine wpAnyH_ready (rs := [0]) (by kernel_rfl) (by simp) ?_
            refine AllReadyH.cons rfl (fun K hK => ?_) AllReadyH.nil
            · go_simp
              refine hK.out _ _ ?_ (fun hHeld => ?_)
              · exact ⟨((show Below wr.heap.size wr _ from (by repeat (first | exact Below.refl _ _ | assumption | refine below_drewN ?_ _ | refine Below.drew ?_ | refine Below.alloc ?_ (by first | exact Nat.le_refl _ | exact Below.size (by assumption) | (simp; done) | (simp; omega)) _ | refine Below.setCell ?_ (by first | exact Nat.le_refl _ | exact Below.size (by assumption) | (simp; done) | (simp; omega)) _ | refine Below.trans ?_ (by assumption)))).cell (p := ⟨w.heap.size + 1, 0, none⟩) lw1).trans Rw0, ((show Below wr.heap.size wr _ from (by repeat (first | exact Below.refl _ _ | assumption | refine below_drewN ?_ _ | refine Below.drew ?_ | refine Below.alloc ?_ (by first | exact Nat.le_refl _ | exact Below.size (by assumption) | (simp; done) | (simp; omega)) _ | refine Below.setCell ?_ (by first | exact Nat.le_refl _ | exact Below.size (by assumption) | (simp; done) | (simp; omega)) _ | refine Below.trans ?_ (by assumption)))).cell (p := ⟨w.heap.size + 1, 1, none⟩) lw1).trans Rw1, ((show Below wr.heap.size wr _ from (by repeat (first | exact Below.refl _ _ | assumption | refine below_drewN ?_ _ | refine Below.drew ?_ | refine Below.alloc ?_ (by first | exact Nat.le_refl _ | exact Below.size (by assumption) | (simp; done) | (simp; omega)) _ | refine Below.setCell ?_ (by first | exact Nat.le_refl _ | exact Below.size (by assumption) | (simp; done) | (simp; omega)) _ | refine Below.trans ?_ (by assumption)))).cell (p := ⟨w.heap.size + 1, 2, none⟩) lw1).trans Rw2⟩
              clear hK K
              try simp only [List.getElem_toArray, List.getElem_cons_succ, List.getElem_cons_zero, Act.put, List.setIfInBounds_toArray, List.set_cons_zero, List.set_cons_succ]
              refine wpAnyH_ready (rs := [3]) (by kernel_rfl) (by simp) ?_
              refine AllReadyH.cons rfl (fun K hK => ?_) AllReadyH.nil
              · apply step_gat_copy (s := .tmp 32) (x := .tmp 34) (G := G) (base := wr.heap.size)
                case hgd => rfl
                case ho => rfl
                case hs => rfl
                case hx => rfl
                case hX => first | exact alloc_at (by simp) | exact alloc_past (alloc_at (by simp))
                case hbX => first | omega | (simp; done) | (simp; omega)
                case hbase => first | omega | (simp; done) | (simp; omega)
                case hc => exact (unhide HDr).later (by repeat (first | exact Below.refl _ _ | assumption | refine below_drewN ?_ _ | refine Below.drew ?_ | refine Below.alloc ?_ (by first | exact Nat.le_refl _ | exact Below.size (by assumption) | (simp; done) | (simp; omega)) _ | refine Below.setCell ?_ (by first | exact Nat.le_refl _ | exact Below.size (by assumption) | (simp; done) | (simp; omega)) _ | refine Below.trans ?_ (by assumption)))
                case hnn => exact hnn
                case hspot => exact hspot
                case hl => omega
                case h =>
                  intro g1 c1 wa o1 gr1 at1 lt1
                  have ba := (show Below wr.heap.size wr _ from (by repeat (first | exact Below.refl _ _ | assumption | refine below_drewN ?_ _ | refine Below.drew ?_ | refine Below.alloc ?_ (by first | exact Nat.le_refl _ | exact Below.size (by assumption) | (simp; done) | (simp; omega)) _ | refine Below.setCell ?_ (by first | exact Nat.le_refl _ | exact Below.size (by assumption) | (simp; done) | (simp; omega)) _ | refine Below.trans ?_ (by assumption)))).trans ((mov_of_grown gr1).below (by first | omega | (simp; done) | (simp; omega)) (by first | omega | (simp; done) | (simp; omega)))
                  have sa := gr1.size
                  have p0 := (ba.cell (p := ⟨w.heap.size, 0, none⟩) lw).trans Pw0
                  have p1 := (ba.cell (p := ⟨w.heap.size, 1, none⟩) lw).trans Pw1
                  have r0 := (ba.cell (p := ⟨w.heap.size + 1, 0, none⟩) lw1).trans Rw0
                  have r1 := (ba.cell (p := ⟨w.heap.size + 1, 1, none⟩) lw1).trans Rw1
                  have r2 := (ba.cell (p := ⟨w.heap.size + 1, 2, none⟩) lw1).trans Rw2
                  (try simp [go_sem] at sa)
                  have qT : Gts wa (wr.heap.size) 0 1 (fun _ => g) := by
                    refine Gts.grown (Gts.lone ?_ ?_ ?_) gr1 ?_
                    · simp [go_sem]
                    · simp [go_sem]
                    · simp [go_sem]
                    · first | omega | (simp; done) | (simp; omega)
                  refine hK.out _ _ ?_ (fun hHeld => ?_)
                  · exact ⟨((show Below wr.heap.size wr _ from (by repeat (first | exact Below.refl _ _ | assumption | refine below_drewN ?_ _ | refine Below.drew ?_ | refine Below.alloc ?_ (by first | exact Nat.le_refl _ | exact Below.size (by assumption) | (simp; done) | (simp; omega)) _ | refine Below.setCell ?_ (by first | exact Nat.le_refl _ | exact Below.size (by assumption) | (simp; done) | (simp; omega)) _ | refine Below.trans ?_ (by assumption)))).cell (p := ⟨w.heap.size + 1, 0, none⟩) lw1).trans Rw0, ((show Below wr.heap.size wr _ from (by repeat (first | exact Below.refl _ _ | assumption | refine below_drewN ?_ _ | refine Below.drew ?_ | refine Below.alloc ?_ (by first | exact Nat.le_refl _ | exact Below.size (by assumption) | (simp; done) | (simp; omega)) _ | refine Below.setCell ?_ (by first | exact Nat.le_refl _ | exact Below.size (by assumption) | (simp; done) | (simp; omega)) _ | refine Below.trans ?_ (by assumption)))).cell (p := ⟨w.heap.size + 1, 1, none⟩) lw1).trans Rw1, ((show Below wr.heap.size wr _ from (by repeat (first | exact Below.refl _ _ | assumption | refine below_drewN ?_ _ | refine Below.drew ?_ | refine Below.alloc ?_ (by first | exact Nat.le_refl _ | exact Below.size (by assumption) | (simp; done) | (simp; omega)) _ | refine Below.setCell ?_ (by first | exact Nat.le_refl _ | exact Below.size (by assumption) | (simp; done) | (simp; omega)) _ | refine Below.trans ?_ (by assumption)))).cell (p := ⟨w.heap.size + 1, 2, none⟩) lw1).trans Rw2⟩
                  clear hK K
                  try simp only [List.getElem_toArray, List.getElem_cons_succ, List.getElem_cons_zero, Act.put, List.setIfInBounds_toArray, List.set_cons_zero, List.set_cons_succ]
                  refine wpAnyH_ready (rs := [6]) (by kernel_rfl) (by simp) ?_
                  refine AllReadyH.cons rfl (fun K hK => ?_) AllReadyH.nil
                  · apply step_gat_one (s := .tmp 35) (x := .tmp 37) (G := G) (q := g) (base := wr.heap.size) (g := g1) (cap := c1)
                    case hgd => rfl
                    case ho => rfl
                    case hs => rfl
                    case hx => rfl
                    case hown => exact o1.kept (grown_below (by repeat (first | exact Below.refl _ _ | assumption | refine below_drewN ?_ _ | refine Below.drew ?_ | refine Below.alloc ?_ (by first | exact Nat.le_refl _ | exact Below.size (by assumption) | (simp; done) | (simp; omega)) _ | refine Below.setCell ?_ (by first | exact Nat.le_refl _ | exact Below.size (by assumption) | (simp; done) | (simp; omega)) _ | refine Below.trans ?_ (by assumption)))) (Or.inr (by simp [Value.ownBlock]))
                    case hbase => first | omega | (simp; done) | (simp; omega)
                    case hT => exact Gts.later qT (by repeat (first | exact Below.refl _ _ | assumption | refine below_drewN ?_ _ | refine Below.drew ?_ | refine Below.alloc ?_ (by first | exact Nat.le_refl _ | exact Below.size (by assumption) | (simp; done) | (simp; omega)) _ | refine Below.setCell ?_ (by first | exact Nat.le_refl _ | exact Below.size (by assumption) | (simp; done) | (simp; omega)) _ | refine Below.trans ?_ (by assumption)))
                    case hl => omega
                    case h =>
                      intro g2 c2 wb o2 gr2 at2 lt2
                      have bb := (show Below wr.heap.size wr _ from (by repeat (first | exact Below.refl _ _ | assumption | refine below_drewN ?_ _ | refine Below.drew ?_ | refine Below.alloc ?_ (by first | exact Nat.le_refl _ | exact Below.size (by assumption) | (simp; done) | (simp; omega)) _ | refine Below.setCell ?_ (by first | exact Nat.le_refl _ | exact Below.size (by assumption) | (simp; done) | (simp; omega)) _ | refine Below.trans ?_ (by assumption)))).trans ((mov_of_grown gr2).below (own_base o1) (by first | omega | (simp; done) | (simp; omega)))
                      have p0 := (bb.cell (p := ⟨w.heap.size, 0, none⟩) lw).trans Pw0
                      have p1 := (bb.cell (p := ⟨w.heap.size, 1, none⟩) lw).trans Pw1
                      have r0 := (bb.cell (p := ⟨w.heap.size + 1, 0, none⟩) lw1).trans Rw0
                      have r1 := (bb.cell (p := ⟨w.heap.size + 1, 1, none⟩) lw1).trans Rw1
                      have r2 := (bb.cell (p := ⟨w.heap.size + 1, 2, none⟩) lw1).trans Rw2
                      have f1 := (bb.frozen (p := ⟨w.heap.size, 1, none⟩) lw).trans (unhide HF w.heap.size 1 (by omega) (by omega))
                      refine hK.out _ _ ?_ (fun hHeld => ?_)
                      · exact ⟨((show Below wr.heap.size wr _ from (by repeat (first | exact Below.refl _ _ | assumption | refine below_drewN ?_ _ | refine Below.drew ?_ | refine Below.alloc ?_ (by first | exact Nat.le_refl _ | exact Below.size (by assumption) | (simp; done) | (simp; omega)) _ | refine Below.setCell ?_ (by first | exact Nat.le_refl _ | exact Below.size (by assumption) | (simp; done) | (simp; omega)) _ | refine Below.trans ?_ (by assumption)))).cell (p := ⟨w.heap.size + 1, 0, none⟩) lw1).trans Rw0, ((show Below wr.heap.size wr _ from (by repeat (first | exact Below.refl _ _ | assumption | refine below_drewN ?_ _ | refine Below.drew ?_ | refine Below.alloc ?_ (by first | exact Nat.le_refl _ | exact Below.size (by assumption) | (simp; done) | (simp; omega)) _ | refine Below.setCell ?_ (by first | exact Nat.le_refl _ | exact Below.size (by assumption) | (simp; done) | (simp; omega)) _ | refine Below.trans ?_ (by assumption)))).cell (p := ⟨w.heap.size + 1, 1, none⟩) lw1).trans Rw1, ((show Below wr.heap.size wr _ from (by repeat (first | exact Below.refl _ _ | assumption | refine below_drewN ?_ _ | refine Below.drew ?_ | refine Below.alloc ?_ (by first | exact Nat.le_refl _ | exact Below.size (by assumption) | (simp; done) | (simp; omega)) _ | refine Below.setCell ?_ (by first | exact Nat.le_refl _ | exact Below.size (by assumption) | (simp; done) | (simp; omega)) _ | refine Below.trans ?_ (by assumption)))).cell (p := ⟨w.heap.size + 1, 2, none⟩) lw1).trans Rw2⟩
                      clear hK K
                      try simp only [List.getElem_toArray, List.getElem_cons_succ, List.getElem_cons_zero, Act.put, List.setIfInBounds_toArray, List.set_cons_zero, List.set_cons_succ]
                      refine wpAnyH_take (i := 7) (v := ?_) rfl (by kernel_rfl) (by kernel_rfl) (by kernel_rfl) (fun _ _ _ h => h) (Or.inl ⟨by rfl, ?_⟩) (by assumption) ?_
                      rotate_left
                      · (intro w hSw; (try dsimp only at hSw); first | (go_simp; done) | (go_simp; with_reducible rfl))
                      try simp only [List.getElem_toArray, List.getElem_cons_succ, List.getElem_cons_zero, Act.put, List.setIfInBounds_toArray, List.set_cons_zero, List.set_cons_succ]
                      refine wpAnyH_ready (rs := [8]) (by kernel_rfl) (by simp) ?_
                      refine AllReadyH.cons rfl (fun K hK => ?_) AllReadyH.nil
                      · go_simp
                        refine hK.out _ _ ?_ (fun hHeld => ?_)
                        · exact ⟨by rw [World.cell?_setCell_other _ _ _ _ (by simp)]; exact r0, by rw [World.cell?_setCell_other _ _ _ _ (by simp)]; exact r1, by rw [World.cell?_setCell_other _ _ _ _ (by simp)]; exact r2⟩
                        clear hK K
                        try simp only [List.getElem_toArray, List.getElem_cons_succ, List.getElem_cons_zero, Act.put, List.setIfInBounds_toArray, List.set_cons_zero, List.set_cons_succ]
                        refine wpAnyH_done (by kernel_rfl) ?_ _
                        obtain ⟨wc, hwc⟩ : ∃ wc, wc = wb.setCell ⟨w.heap.size, 1, none⟩ (.slice (some ⟨g2, 0, none⟩) (j + 1) c2) := ⟨_, rfl⟩
                        have P0 : wc.cell? ⟨w.heap.size, 0, none⟩ = some (.int .i64 m) := by rw [hwc, World.cell?_setCell_other _ _ _ _ (by simp)]; exact p0
                        have P1 : wc.cell? ⟨w.heap.size, 1, none⟩ = some (.slice (some ⟨g2, 0, none⟩) (j + 1) c2) := by rw [hwc]; exact World.cell?_setCell_same _ _ _ p1
                        have MC : Mov w.heap.size wb wc := by rw [hwc]; exact Mov.set _ _ _
                        have s0 := MC.cell ((bb.cell (p := ⟨w.heap.size + 2, 0, none⟩) lw2).trans (unhide Sw0)) (by simp)
                        have s1 := MC.cell ((bb.cell (p := ⟨w.heap.size + 2, 1, none⟩) lw2).trans (unhide Sw1)) (by simp)
                        have fz0 : wc.frozen? ⟨w.heap.size + 2, 0, none⟩ = false := by rw [hwc]; simp [go_sem]; exact (bb.frozen (p := ⟨w.heap.size + 2, 0, none⟩) lw2).trans (unhide HF (w.heap.size + 2) 0 (by omega) (by omega))
                        have fz1 : wc.frozen? ⟨w.heap.size + 2, 1, none⟩ = false := by rw [hwc]; simp [go_sem]; exact (bb.frozen (p := ⟨w.heap.size + 2, 1, none⟩) lw2).trans (unhide HF (w.heap.size + 2) 1 (by omega) (by omega))
                        have gb := own_base o2
                        have HG : Hid (GtsAt wc (some ⟨g2, 0, none⟩) (j + 1) (snocG G j g)) := by
                          refine Or.inr ⟨g2, 0, rfl, Nat.lt_of_lt_of_le lt2 MC.size, fun i hi => ?_⟩
                          have h := own_gts o2 i hi
                          exact ⟨MC.cell h.1 (by simp only; omega), MC.cell h.2.1 (by simp only; omega), MC.cell h.2.2 (by simp only; omega)⟩
                        have BC : Below w.heap.size w wc := by rw [hwc]; exact (hbel.trans (bb.mono hbel.size)).setCell (Nat.le_refl _) _
                        have g2l := Nat.lt_of_lt_of_le lt2 MC.size
                        rw [← hwc]
                        clear hwc MC bb p0 p1 r0 r1 r2 f1 o2
                        have n0 : w.heap.size ≠ w.heap.size + 2 := by omega
                        have n1 : w.heap.size + 2 ≠ w.heap.size := by omega
                        go_wp2
                        go_region
                        all_goals go_wp2
                        all_goals refine bodyPost_ret (v := .tuple #[.agg #[.int .i64 m, .slice (some ⟨g2, 0, none⟩) (j + 1) c2], .int .i64 (2 + m + j)]) (by simp [results, Tryd.results102, go_sem, s0, s1]; try omega) rfl ?_
                        all_goals rw [unhide HR]
                        all_goals exact ⟨⟨some ⟨g2, 0, none⟩, c2, rfl, (by refine GtsAt.mov2 (unhide HG) (B := w.heap.size + 2) (by omega) ?_; first | exact (Mov.set _ _ _).trans (Mov.set _ _ _) | exact ((Mov.set _ _ _).trans (Mov.set _ _ _)).drew | exact ((Mov.refl _ _).drew.trans (Mov.set _ _ _)).trans (Mov.set _ _ _)), (fun h => by cases h), (fun p h => by cases h; rfl), Or.inr (Or.inr ⟨g2, rfl, by omega, by simp; omega⟩)⟩, (by repeat (first | exact Below.refl _ _ | assumption | refine below_drewN ?_ _ | refine Below.drew ?_ | refine Below.alloc ?_ (by first | exact Nat.le_refl _ | exact Below.size (by assumption) | (simp; done) | (simp; omega)) _ | refine Below.setCell ?_ (by first | exact Nat.le_refl _ | exact Below.size (by assumption) | (simp; done) | (simp; omega)) _ | refine Below.trans ?_ (by assumption)))⟩
        · go_simp
          refine hK.out _ _ ?_ (fun hHeld => ?_)
          · exact ⟨((show Below wr.heap.size wr _ from (by repeat (first | exact Below.refl _ _ | assumption | refine below_drewN ?_ _ | refine Below.drew ?_ | refine Below.alloc ?_ (by first | exact Nat.le_refl _ | exact Below.size (by assumption) | (simp; done) | (simp; omega)) _ | refine Below.setCell ?_ (by first | exact Nat.le_refl _ | exact Below.size (by assumption) | (simp; done) | (simp; omega)) _ | refine Below.trans ?_ (by assumption)))).cell (p := ⟨w.heap.size + 1, 0, none⟩) lw1).trans Rw0, ((show Below wr.heap.size wr _ from (by repeat (first | exact Below.refl _ _ | assumption | refine below_drewN ?_ _ | refine Below.drew ?_ | refine Below.alloc ?_ (by first | exact Nat.le_refl _ | exact Below.size (by assumption) | (simp; done) | (simp; omega)) _ | refine Below.setCell ?_ (by first | exact Nat.le_refl _ | exact Below.size (by assumption) | (simp; done) | (simp; omega)) _ | refine Below.trans ?_ (by assumption)))).cell (p := ⟨w.heap.size + 1, 1, none⟩) lw1).trans Rw1, ((show Below wr.heap.size wr _ from (by repeat (first | exact Below.refl _ _ | assumption | refine below_drewN ?_ _ | refine Below.drew ?_ | refine Below.alloc ?_ (by first | exact Nat.le_refl _ | exact Below.size (by assumption) | (simp; done) | (simp; omega)) _ | refine Below.setCell ?_ (by first | exact Nat.le_refl _ | exact Below.size (by assumption) | (simp; done) | (simp; omega)) _ | refine Below.trans ?_ (by assumption)))).cell (p := ⟨w.heap.size + 1, 2, none⟩) lw1).trans Rw2⟩
          clear hK K
          try simp only [List.getElem_toArray, List.getElem_cons_succ, List.getElem_cons_zero, Act.put, List.setIfInBounds_toArray, List.set_cons_zero, List.set_cons_succ]
          refine wpAnyH_ready (rs := [0, 2]) (by kernel_rfl) (by simp) ?_
          refine AllReadyH.cons rfl (fun K hK => ?_) (AllReadyH.cons rfl (fun K hK => ?_) AllReadyH.nil)
          · go_simp
            refine hK.out _ _ ?_ (fun hHeld => ?_)
            · exact ⟨((show Below wr.heap.size wr _ from (by repeat (first | exact Below.refl _ _ | assumption | refine below_drewN ?_ _ | refine Below.drew ?_ | refine Below.alloc ?_ (by first | exact Nat.le_refl _ | exact Below.size (by assumption) | (simp; done) | (simp; omega)) _ | refine Below.setCell ?_ (by first | exact Nat.le_refl _ | exact Below.size (by assumption) | (simp; done) | (simp; omega)) _ | refine Below.trans ?_ (by assumption)))).cell (p := ⟨w.heap.size + 1, 0, none⟩) lw1).trans Rw0, ((show Below wr.heap.size wr _ from (by repeat (first | exact Below.refl _ _ | assumption | refine below_drewN ?_ _ | refine Below.drew ?_ | refine Below.alloc ?_ (by first | exact Nat.le_refl _ | exact Below.size (by assumption) | (simp; done) | (simp; omega)) _ | refine Below.setCell ?_ (by first | exact Nat.le_refl _ | exact Below.size (by assumption) | (simp; done) | (simp; omega)) _ | refine Below.trans ?_ (by assumption)))).cell (p := ⟨w.heap.size + 1, 1, none⟩) lw1).trans Rw1, ((show Below wr.heap.size wr _ from (by repeat (first | exact Below.refl _ _ | assumption | refine below_drewN ?_ _ | refine Below.drew ?_ | refine Below.alloc ?_ (by first | exact Nat.le_refl _ | exact Below.size (by assumption) | (simp; done) | (simp; omega)) _ | refine Below.setCell ?_ (by first | exact Nat.le_refl _ | exact Below.size (by assumption) | (simp; done) | (simp; omega)) _ | refine Below.trans ?_ (by assumption)))).cell (p := ⟨w.heap.size + 1, 2, none⟩) lw1).trans Rw2⟩
            clear hK K
            try simp only [List.getElem_toArray, List.getElem_cons_succ, List.getElem_cons_zero, Act.put, List.setIfInBounds_toArray, List.set_cons_zero, List.set_cons_succ]
            refine wpAnyH_ready (rs := [2]) (by kernel_rfl) (by simp) ?_
            refine AllReadyH.cons rfl (fun K hK => ?_) AllReadyH.nil
            · go_simp
              refine hK.out _ _ ?_ (fun hHeld => ?_)
              · exact ⟨((show Below wr.heap.size wr _ from (by repeat (first | exact Below.refl _ _ | assumption | refine below_drewN ?_ _ | refine Below.drew ?_ | refine Below.alloc ?_ (by first | exact Nat.le_refl _ | exact Below.size (by assumption) | (simp; done) | (simp; omega)) _ | refine Below.setCell ?_ (by first | exact Nat.le_refl _ | exact Below.size (by assumption) | (simp; done) | (simp; omega)) _ | refine Below.trans ?_ (by assumption)))).cell (p := ⟨w.heap.size + 1, 0, none⟩) lw1).trans Rw0, ((show Below wr.heap.size wr _ from (by repeat (first | exact Below.refl _ _ | assumption | refine below_drewN ?_ _ | refine Below.drew ?_ | refine Below.alloc ?_ (by first | exact Nat.le_refl _ | exact Below.size (by assumption) | (simp; done) | (simp; omega)) _ | refine Below.setCell ?_ (by first | exact Nat.le_refl _ | exact Below.size (by assumption) | (simp; done) | (simp; omega)) _ | refine Below.trans ?_ (by assumption)))).cell (p := ⟨w.heap.size + 1, 1, none⟩) lw1).trans Rw1, ((show Below wr.heap.size wr _ from (by repeat (first | exact Below.refl _ _ | assumption | refine below_drewN ?_ _ | refine Below.drew ?_ | refine Below.alloc ?_ (by first | exact Nat.le_refl _ | exact Below.size (by assumption) | (simp; done) | (simp; omega)) _ | refine Below.setCell ?_ (by first | exact Nat.le_refl _ | exact Below.size (by assumption) | (simp; done) | (simp; omega)) _ | refine Below.trans ?_ (by assumption)))).cell (p := ⟨w.heap.size + 1, 2, none⟩) lw1).trans Rw2⟩
              clear hK K
              try simp only [List.getElem_toArray, List.getElem_cons_succ, List.getElem_cons_zero, Act.put, List.setIfInBounds_toArray, List.set_cons_zero, List.set_cons_succ]
              refine wpAnyH_ready (rs := [3]) (by kernel_rfl) (by simp) ?_
              refine AllReadyH.cons rfl (fun K hK => ?_) AllReadyH.nil
              · apply step_gat_copy (s := .tmp 32) (x := .tmp 34) (G := G) (base := wr.heap.size)
                case hgd => rfl
                case ho => rfl
                case hs => rfl
                case hx => rfl
                case hX => first | exact alloc_at (by simp) | exact alloc_past (alloc_at (by simp))
                case hbX => first | omega | (simp; done) | (simp; omega)
                case hbase => first | omega | (simp; done) | (simp; omega)
                case hc => exact (unhide HDr).later (by repeat (first | exact Below.refl _ _ | assumption | refine below_drewN ?_ _ | refine Below.drew ?_ | refine Below.alloc ?_ (by first | exact Nat.le_refl _ | exact Below.size (by assumption) | (simp; done) | (simp; omega)) _ | refine Below.setCell ?_ (by first | exact Nat.le_refl _ | exact Below.size (by assumption) | (simp; done) | (simp; omega)) _ | refine Below.trans ?_ (by assumption)))
                case hnn => exact hnn
                case hspot => exact hspot
                case hl => omega
                case h =>
                  intro g1 c1 wa o1 gr1 at1 lt1
                  have ba := (show Below wr.heap.size wr _ from (by repeat (first | exact Below.refl _ _ | assumption | refine below_drewN ?_ _ | refine Below.drew ?_ | refine Below.alloc ?_ (by first | exact Nat.le_refl _ | exact Below.size (by assumption) | (simp; done) | (simp; omega)) _ | refine Below.setCell ?_ (by first | exact Nat.le_refl _ | exact Below.size (by assumption) | (simp; done) | (simp; omega)) _ | refine Below.trans ?_ (by assumption)))).trans ((mov_of_grown gr1).below (by first | omega | (simp; done) | (simp; omega)) (by first | omega | (simp; done) | (simp; omega)))
                  have sa := gr1.size
                  have p0 := (ba.cell (p := ⟨w.heap.size, 0, none⟩) lw).trans Pw0
                  have p1 := (ba.cell (p := ⟨w.heap.size, 1, none⟩) lw).trans Pw1
                  have r0 := (ba.cell (p := ⟨w.heap.size + 1, 0, none⟩) lw1).trans Rw0
                  have r1 := (ba.cell (p := ⟨w.heap.size + 1, 1, none⟩) lw1).trans Rw1
                  have r2 := (ba.cell (p := ⟨w.heap.size + 1, 2, none⟩) lw1).trans Rw2
                  (try simp [go_sem] at sa)
                  have qT : Gts wa (wr.heap.size) 0 1 (fun _ => g) := by
                    refine Gts.grown (Gts.lone ?_ ?_ ?_) gr1 ?_
                    · simp [go_sem]
                    · simp [go_sem]
                    · simp [go_sem]
                    · first | omega | (simp; done) | (simp; omega)
                  refine hK.out _ _ ?_ (fun hHeld => ?_)
                  · exact ⟨((show Below wr.heap.size wr _ from (by repeat (first | exact Below.refl _ _ | assumption | refine below_drewN ?_ _ | refine Below.drew ?_ | refine Below.alloc ?_ (by first | exact Nat.le_refl _ | exact Below.size (by assumption) | (simp; done) | (simp; omega)) _ | refine Below.setCell ?_ (by first | exact Nat.le_refl _ | exact Below.size (by assumption) | (simp; done) | (simp; omega)) _ | refine Below.trans ?_ (by assumption)))).cell (p := ⟨w.heap.size + 1, 0, none⟩) lw1).trans Rw0, ((show Below wr.heap.size wr _ from (by repeat (first | exact Below.refl _ _ | assumption | refine below_drewN ?_ _ | refine Below.drew ?_ | refine Below.alloc ?_ (by first | exact Nat.le_refl _ | exact Below.size (by assumption) | (simp; done) | (simp; omega)) _ | refine Below.setCell ?_ (by first | exact Nat.le_refl _ | exact Below.size (by assumption) | (simp; done) | (simp; omega)) _ | refine Below.trans ?_ (by assumption)))).cell (p := ⟨w.heap.size + 1, 1, none⟩) lw1).trans Rw1, ((show Below wr.heap.size wr _ from (by repeat (first | exact Below.refl _ _ | assumption | refine below_drewN ?_ _ | refine Below.drew ?_ | refine Below.alloc ?_ (by first | exact Nat.le_refl _ | exact Below.size (by assumption) | (simp; done) | (simp; omega)) _ | refine Below.setCell ?_ (by first | exact Nat.le_refl _ | exact Below.size (by assumption) | (simp; done) | (simp; omega)) _ | refine Below.trans ?_ (by assumption)))).cell (p := ⟨w.heap.size + 1, 2, none⟩) lw1).trans Rw2⟩
                  clear hK K
                  try simp only [List.getElem_toArray, List.getElem_cons_succ, List.getElem_cons_zero, Act.put, List.setIfInBounds_toArray, List.set_cons_zero, List.set_cons_succ]
                  refine wpAnyH_ready (rs := [6]) (by kernel_rfl) (by simp) ?_
                  refine AllReadyH.cons rfl (fun K hK => ?_) AllReadyH.nil
                  · apply step_gat_one (s := .tmp 35) (x := .tmp 37) (G := G) (q := g) (base := wr.heap.size) (g := g1) (cap := c1)
                    case hgd => rfl
                    case ho => rfl
                    case hs => rfl
                    case hx => rfl
                    case hown => exact o1.kept (grown_below (by repeat (first | exact Below.refl _ _ | assumption | refine below_drewN ?_ _ | refine Below.drew ?_ | refine Below.alloc ?_ (by first | exact Nat.le_refl _ | exact Below.size (by assumption) | (simp; done) | (simp; omega)) _ | refine Below.setCell ?_ (by first | exact Nat.le_refl _ | exact Below.size (by assumption) | (simp; done) | (simp; omega)) _ | refine Below.trans ?_ (by assumption)))) (Or.inr (by simp [Value.ownBlock]))
                    case hbase => first | omega | (simp; done) | (simp; omega)
                    case hT => exact Gts.later qT (by repeat (first | exact Below.refl _ _ | assumption | refine below_drewN ?_ _ | refine Below.drew ?_ | refine Below.alloc ?_ (by first | exact Nat.le_refl _ | exact Below.size (by assumption) | (simp; done) | (simp; omega)) _ | refine Below.setCell ?_ (by first | exact Nat.le_refl _ | exact Below.size (by assumption) | (simp; done) | (simp; omega)) _ | refine Below.trans ?_ (by assumption)))
                    case hl => omega
                    case h =>
                      intro g2 c2 wb o2 gr2 at2 lt2
                      have bb := (show Below wr.heap.size wr _ from (by repeat (first | exact Below.refl _ _ | assumption | refine below_drewN ?_ _ | refine Below.drew ?_ | refine Below.alloc ?_ (by first | exact Nat.le_refl _ | exact Below.size (by assumption) | (simp; done) | (simp; omega)) _ | refine Below.setCell ?_ (by first | exact Nat.le_refl _ | exact Below.size (by assumption) | (simp; done) | (simp; omega)) _ | refine Below.trans ?_ (by assumption)))).trans ((mov_of_grown gr2).below (own_base o1) (by first | omega | (simp; done) | (simp; omega)))
                      have p0 := (bb.cell (p := ⟨w.heap.size, 0, none⟩) lw).trans Pw0
                      have p1 := (bb.cell (p := ⟨w.heap.size, 1, none⟩) lw).trans Pw1
                      have r0 := (bb.cell (p := ⟨w.heap.size + 1, 0, none⟩) lw1).trans Rw0
                      have r1 := (bb.cell (p := ⟨w.heap.size + 1, 1, none⟩) lw1).trans Rw1
                      have r2 := (bb.cell (p := ⟨w.heap.size + 1, 2, none⟩) lw1).trans Rw2
                      have f1 := (bb.frozen (p := ⟨w.heap.size, 1, none⟩) lw).trans (unhide HF w.heap.size 1 (by omega) (by omega))
                      refine hK.out _ _ ?_ (fun hHeld => ?_)
                      · exact ⟨((show Below wr.heap.size wr _ from (by repeat (first | exact Below.refl _ _ | assumption | refine below_drewN ?_ _ | refine Below.drew ?_ | refine Below.alloc ?_ (by first | exact Nat.le_refl _ | exact Below.size (by assumption) | (simp; done) | (simp; omega)) _ | refine Below.setCell ?_ (by first | exact Nat.le_refl _ | exact Below.size (by assumption) | (simp; done) | (simp; omega)) _ | refine Below.trans ?_ (by assumption)))).cell (p := ⟨w.heap.size + 1, 0, none⟩) lw1).trans Rw0, ((show Below wr.heap.size wr _ from (by repeat (first | exact Below.refl _ _ | assumption | refine below_drewN ?_ _ | refine Below.drew ?_ | refine Below.alloc ?_ (by first | exact Nat.le_refl _ | exact Below.size (by assumption) | (simp; done) | (simp; omega)) _ | refine Below.setCell ?_ (by first | exact Nat.le_refl _ | exact Below.size (by assumption) | (simp; done) | (simp; omega)) _ | refine Below.trans ?_ (by assumption)))).cell (p := ⟨w.heap.size + 1, 1, none⟩) lw1).trans Rw1, ((show Below wr.heap.size wr _ from (by repeat (first | exact Below.refl _ _ | assumption | refine below_drewN ?_ _ | refine Below.drew ?_ | refine Below.alloc ?_ (by first | exact Nat.le_refl _ | exact Below.size (by assumption) | (simp; done) | (simp; omega)) _ | refine Below.setCell ?_ (by first | exact Nat.le_refl _ | exact Below.size (by assumption) | (simp; done) | (simp; omega)) _ | refine Below.trans ?_ (by assumption)))).cell (p := ⟨w.heap.size + 1, 2, none⟩) lw1).trans Rw2⟩
                      clear hK K
                      try simp only [List.getElem_toArray, List.getElem_cons_succ, List.getElem_cons_zero, Act.put, List.setIfInBounds_toArray, List.set_cons_zero, List.set_cons_succ]
                      refine wpAnyH_take (i := 7) (v := ?_) rfl (by kernel_rfl) (by kernel_rfl) (by kernel_rfl) (fun _ _ _ h => h) (Or.inl ⟨by rfl, ?_⟩) (by assumption) ?_
                      rotate_left
                      · (intro w hSw; (try dsimp only at hSw); first | (go_simp; done) | (go_simp; with_reducible rfl))
                      try simp only [List.getElem_toArray, List.getElem_cons_succ, List.getElem_cons_zero, Act.put, List.setIfInBounds_toArray, List.set_cons_zero, List.set_cons_succ]
                      refine wpAnyH_ready (rs := [8]) (by kernel_rfl) (by simp) ?_
                      refine AllReadyH.cons rfl (fun K hK => ?_) AllReadyH.nil
                      · go_simp
                        refine hK.out _ _ ?_ (fun hHeld => ?_)
                        · exact ⟨by rw [World.cell?_setCell_other _ _ _ _ (by simp)]; exact r0, by rw [World.cell?_setCell_other _ _ _ _ (by simp)]; exact r1, by rw [World.cell?_setCell_other _ _ _ _ (by simp)]; exact r2⟩
                        clear hK K
                        try simp only [List.getElem_toArray, List.getElem_cons_succ, List.getElem_cons_zero, Act.put, List.setIfInBounds_toArray, List.set_cons_zero, List.set_cons_succ]
                        refine wpAnyH_done (by kernel_rfl) ?_ _
                        obtain ⟨wc, hwc⟩ : ∃ wc, wc = wb.setCell ⟨w.heap.size, 1, none⟩ (.slice (some ⟨g2, 0, none⟩) (j + 1) c2) := ⟨_, rfl⟩
                        have P0 : wc.cell? ⟨w.heap.size, 0, none⟩ = some (.int .i64 m) := by rw [hwc, World.cell?_setCell_other _ _ _ _ (by simp)]; exact p0
                        have P1 : wc.cell? ⟨w.heap.size, 1, none⟩ = some (.slice (some ⟨g2, 0, none⟩) (j + 1) c2) := by rw [hwc]; exact World.cell?_setCell_same _ _ _ p1
                        have MC : Mov w.heap.size wb wc := by rw [hwc]; exact Mov.set _ _ _
                        have s0 := MC.cell ((bb.cell (p := ⟨w.heap.size + 2, 0, none⟩) lw2).trans (unhide Sw0)) (by simp)
                        have s1 := MC.cell ((bb.cell (p := ⟨w.heap.size + 2, 1, none⟩) lw2).trans (unhide Sw1)) (by simp)
                        have fz0 : wc.frozen? ⟨w.heap.size + 2, 0, none⟩ = false := by rw [hwc]; simp [go_sem]; exact (bb.frozen (p := ⟨w.heap.size + 2, 0, none⟩) lw2).trans (unhide HF (w.heap.size + 2) 0 (by omega) (by omega))
                        have fz1 : wc.frozen? ⟨w.heap.size + 2, 1, none⟩ = false := by rw [hwc]; simp [go_sem]; exact (bb.frozen (p := ⟨w.heap.size + 2, 1, none⟩) lw2).trans (unhide HF (w.heap.size + 2) 1 (by omega) (by omega))
                        have gb := own_base o2
                        have HG : Hid (GtsAt wc (some ⟨g2, 0, none⟩) (j + 1) (snocG G j g)) := by
                          refine Or.inr ⟨g2, 0, rfl, Nat.lt_of_lt_of_le lt2 MC.size, fun i hi => ?_⟩
                          have h := own_gts o2 i hi
                          exact ⟨MC.cell h.1 (by simp only; omega), MC.cell h.2.1 (by simp only; omega), MC.cell h.2.2 (by simp only; omega)⟩
                        have BC : Below w.heap.size w wc := by rw [hwc]; exact (hbel.trans (bb.mono hbel.size)).setCell (Nat.le_refl _) _
                        have g2l := Nat.lt_of_lt_of_le lt2 MC.size
                        rw [← hwc]
                        clear hwc MC bb p0 p1 r0 r1 r2 f1 o2
                        have n0 : w.heap.size ≠ w.heap.size + 2 := by omega
                        have n1 : w.heap.size + 2 ≠ w.heap.size := by omega
                        go_wp2
                        go_region
                        all_goals go_wp2
                        all_goals refine bodyPost_ret (v := .tuple #[.agg #[.int .i64 m, .slice (some ⟨g2, 0, none⟩) (j + 1) c2], .int .i64 (2 + m + j)]) (by simp [results, Tryd.results102, go_sem, s0, s1]; try omega) rfl ?_
                        all_goals rw [unhide HR]
                        all_goals exact ⟨⟨some ⟨g2, 0, none⟩, c2, rfl, (by refine GtsAt.mov2 (unhide HG) (B := w.heap.size + 2) (by omega) ?_; first | exact (Mov.set _ _ _).trans (Mov.set _ _ _) | exact ((Mov.set _ _ _).trans (Mov.set _ _ _)).drew | exact ((Mov.refl _ _).drew.trans (Mov.set _ _ _)).trans (Mov.set _ _ _)), (fun h => by cases h), (fun p h => by cases h; rfl), Or.inr (Or.inr ⟨g2, rfl, by omega, by simp; omega⟩)⟩, (by repeat (first | exact Below.refl _ _ | assumption | refine below_drewN ?_ _ | refine Below.drew ?_ | refine Below.alloc ?_ (by first | exact Nat.le_refl _ | exact Below.size (by assumption) | (simp; done) | (simp; omega)) _ | refine Below.setCell ?_ (by first | exact Nat.le_refl _ | exact Below.size (by assumption) | (simp; done) | (simp; omega)) _ | refine Below.trans ?_ (by assumption)))⟩
          · go_simp
            refine hK.out _ _ ?_ (fun hHeld => ?_)
            · exact ⟨((show Below wr.heap.size wr _ from (by repeat (first | exact Below.refl _ _ | assumption | refine below_drewN ?_ _ | refine Below.drew ?_ | refine Below.alloc ?_ (by first | exact Nat.le_refl _ | exact Below.size (by assumption) | (simp; done) | (simp; omega)) _ | refine Below.setCell ?_ (by first | exact Nat.le_refl _ | exact Below.size (by assumption) | (simp; done) | (simp; omega)) _ | refine Below.trans ?_ (by assumption)))).cell (p := ⟨w.heap.size + 1, 0, none⟩) lw1).trans Rw0, ((show Below wr.heap.size wr _ from (by repeat (first | exact Below.refl _ _ | assumption | refine below_drewN ?_ _ | refine Below.drew ?_ | refine Below.alloc ?_ (by first | exact Nat.le_refl _ | exact Below.size (by assumption) | (simp; done) | (simp; omega)) _ | refine Below.setCell ?_ (by first | exact Nat.le_refl _ | exact Below.size (by assumption) | (simp; done) | (simp; omega)) _ | refine Below.trans ?_ (by assumption)))).cell (p := ⟨w.heap.size + 1, 1, none⟩) lw1).trans Rw1, ((show Below wr.heap.size wr _ from (by repeat (first | exact Below.refl _ _ | assumption | refine below_drewN ?_ _ | refine Below.drew ?_ | refine Below.alloc ?_ (by first | exact Nat.le_refl _ | exact Below.size (by assumption) | (simp; done) | (simp; omega)) _ | refine Below.setCell ?_ (by first | exact Nat.le_refl _ | exact Below.size (by assumption) | (simp; done) | (simp; omega)) _ | refine Below.trans ?_ (by assumption)))).cell (p := ⟨w.heap.size + 1, 2, none⟩) lw1).trans Rw2⟩
            clear hK K
            try simp only [List.getElem_toArray, List.getElem_cons_succ, List.getElem_cons_zero, Act.put, List.setIfInBounds_toArray, List.set_cons_zero, List.set_cons_succ]
            refine wpAnyH_ready (rs := [0]) (by kernel_rfl) (by simp) ?_
            refine AllReadyH.cons rfl (fun K hK => ?_) AllReadyH.nil
            · go_simp
              refine hK.out _ _ ?_ (fun hHeld => ?_)
              · exact ⟨((show Below wr.heap.size wr _ from (by repeat (first | exact Below.refl _ _ | assumption | refine below_drewN ?_ _ | refine Below.drew ?_ | refine Below.alloc ?_ (by first | exact Nat.le_refl _ | exact Below.size (by assumption) | (simp; done) | (simp; omega)) _ | refine Below.setCell ?_ (by first | exact Nat.le_refl _ | exact Below.size (by assumption) | (simp; done) | (simp; omega)) _ | refine Below.trans ?_ (by assumption)))).cell (p := ⟨w.heap.size + 1, 0, none⟩) lw1).trans Rw0, ((show Below wr.heap.size wr _ from (by repeat (first | exact Below.refl _ _ | assumption | refine below_drewN ?_ _ | refine Below.drew ?_ | refine Below.alloc ?_ (by first | exact Nat.le_refl _ | exact Below.size (by assumption) | (simp; done) | (simp; omega)) _ | refine Below.setCell ?_ (by first | exact Nat.le_refl _ | exact Below.size (by assumption) | (simp; done) | (simp; omega)) _ | refine Below.trans ?_ (by assumption)))).cell (p := ⟨w.heap.size + 1, 1, none⟩) lw1).trans Rw1, ((show Below wr.heap.size wr _ from (by repeat (first | exact Below.refl _ _ | assumption | refine below_drewN ?_ _ | refine Below.drew ?_ | refine Below.alloc ?_ (by first | exact Nat.le_refl _ | exact Below.size (by assumption) | (simp; done) | (simp; omega)) _ | refine Below.setCell ?_ (by first | exact Nat.le_refl _ | exact Below.size (by assumption) | (simp; done) | (simp; omega)) _ | refine Below.trans ?_ (by assumption)))).cell (p := ⟨w.heap.size + 1, 2, none⟩) lw1).trans Rw2⟩
              clear hK K
              try simp only [List.getElem_toArray, List.getElem_cons_succ, List.getElem_cons_zero, Act.put, List.setIfInBounds_toArray, List.set_cons_zero, List.set_cons_succ]
              refine wpAnyH_ready (rs := [3]) (by kernel_rfl) (by simp) ?_
              refine AllReadyH.cons rfl (fun K hK => ?_) AllReadyH.nil
              · apply step_gat_copy (s := .tmp 32) (x := .tmp 34) (G := G) (base := wr.heap.size)
                case hgd => rfl
                case ho => rfl
                case hs => rfl
                case hx => rfl
                case hX => first | exact alloc_at (by simp) | exact alloc_past (alloc_at (by simp))
                case hbX => first | omega | (simp; done) | (simp; omega)
                case hbase => first | omega | (simp; done) | (simp; omega)
                case hc => exact (unhide HDr).later (by repeat (first | exact Below.refl _ _ | assumption | refine below_drewN ?_ _ | refine Below.drew ?_ | refine Below.alloc ?_ (by first | exact Nat.le_refl _ | exact Below.size (by assumption) | (simp; done) | (simp; omega)) _ | refine Below.setCell ?_ (by first | exact Nat.le_refl _ | exact Below.size (by assumption) | (simp; done) | (simp; omega)) _ | refine Below.trans ?_ (by assumption)))
                case hnn => exact hnn
                case hspot => exact hspot
                case hl => omega
                case h =>
                  intro g1 c1 wa o1 gr1 at1 lt1
                  have ba := (show Below wr.heap.size wr _ from (by repeat (first | exact Below.refl _ _ | assumption | refine below_drewN ?_ _ | refine Below.drew ?_ | refine Below.alloc ?_ (by first | exact Nat.le_refl _ | exact Below.size (by assumption) | (simp; done) | (simp; omega)) _ | refine Below.setCell ?_ (by first | exact Nat.le_refl _ | exact Below.size (by assumption) | (simp; done) | (simp; omega)) _ | refine Below.trans ?_ (by assumption)))).trans ((mov_of_grown gr1).below (by first | omega | (simp; done) | (simp; omega)) (by first | omega | (simp; done) | (simp; omega)))
                  have sa := gr1.size
                  have p0 := (ba.cell (p := ⟨w.heap.size, 0, none⟩) lw).trans Pw0
                  have p1 := (ba.cell (p := ⟨w.heap.size, 1, none⟩) lw).trans Pw1
                  have r0 := (ba.cell (p := ⟨w.heap.size + 1, 0, none⟩) lw1).trans Rw0
                  have r1 := (ba.cell (p := ⟨w.heap.size + 1, 1, none⟩) lw1).trans Rw1
                  have r2 := (ba.cell (p := ⟨w.heap.size + 1, 2, none⟩) lw1).trans Rw2
                  (try simp [go_sem] at sa)
                  have qT : Gts wa (wr.heap.size) 0 1 (fun _ => g) := by
                    refine Gts.grown (Gts.lone ?_ ?_ ?_) gr1 ?_
                    · simp [go_sem]
                    · simp [go_sem]
                    · simp [go_sem]
                    · first | omega | (simp; done) | (simp; omega)
                  refine hK.out _ _ ?_ (fun hHeld => ?_)
                  · exact ⟨((show Below wr.heap.size wr _ from (by repeat (first | exact Below.refl _ _ | assumption | refine below_drewN ?_ _ | refine Below.drew ?_ | refine Below.alloc ?_ (by first | exact Nat.le_refl _ | exact Below.size (by assumption) | (simp; done) | (simp; omega)) _ | refine Below.setCell ?_ (by first | exact Nat.le_refl _ | exact Below.size (by assumption) | (simp; done) | (simp; omega)) _ | refine Below.trans ?_ (by assumption)))).cell (p := ⟨w.heap.size + 1, 0, none⟩) lw1).trans Rw0, ((show Below wr.heap.size wr _ from (by repeat (first | exact Below.refl _ _ | assumption | refine below_drewN ?_ _ | refine Below.drew ?_ | refine Below.alloc ?_ (by first | exact Nat.le_refl _ | exact Below.size (by assumption) | (simp; done) | (simp; omega)) _ | refine Below.setCell ?_ (by first | exact Nat.le_refl _ | exact Below.size (by assumption) | (simp; done) | (simp; omega)) _ | refine Below.trans ?_ (by assumption)))).cell (p := ⟨w.heap.size + 1, 1, none⟩) lw1).trans Rw1, ((show Below wr.heap.size wr _ from (by repeat (first | exact Below.refl _ _ | assumption | refine below_drewN ?_ _ | refine Below.drew ?_ | refine Below.alloc ?_ (by first | exact Nat.le_refl _ | exact Below.size (by assumption) | (simp; done) | (simp; omega)) _ | refine Below.setCell ?_ (by first | exact Nat.le_refl _ | exact Below.size (by assumption) | (simp; done) | (simp; omega)) _ | refine Below.trans ?_ (by assumption)))).cell (p := ⟨w.heap.size + 1, 2, none⟩) lw1).trans Rw2⟩
                  clear hK K
                  try simp only [List.getElem_toArray, List.getElem_cons_succ, List.getElem_cons_zero, Act.put, List.setIfInBounds_toArray, List.set_cons_zero, List.set_cons_succ]
                  refine wpAnyH_ready (rs := [6]) (by kernel_rfl) (by simp) ?_
                  refine AllReadyH.cons rfl (fun K hK => ?_) AllReadyH.nil
                  · apply step_gat_one (s := .tmp 35) (x := .tmp 37) (G := G) (q := g) (base := wr.heap.size) (g := g1) (cap := c1)
                    case hgd => rfl
                    case ho => rfl
                    case hs => rfl
                    case hx => rfl
                    case hown => exact o1.kept (grown_below (by repeat (first | exact Below.refl _ _ | assumption | refine below_drewN ?_ _ | refine Below.drew ?_ | refine Below.alloc ?_ (by first | exact Nat.le_refl _ | exact Below.size (by assumption) | (simp; done) | (simp; omega)) _ | refine Below.setCell ?_ (by first | exact Nat.le_refl _ | exact Below.size (by assumption) | (simp; done) | (simp; omega)) _ | refine Below.trans ?_ (by assumption)))) (Or.inr (by simp [Value.ownBlock]))
                    case hbase => first | omega | (simp; done) | (simp; omega)
                    case hT => exact Gts.later qT (by repeat (first | exact Below.refl _ _ | assumption | refine below_drewN ?_ _ | refine Below.drew ?_ | refine Below.alloc ?_ (by first | exact Nat.le_refl _ | exact Below.size (by assumption) | (simp; done) | (simp; omega)) _ | refine Below.setCell ?_ (by first | exact Nat.le_refl _ | exact Below.size (by assumption) | (simp; done) | (simp; omega)) _ | refine Below.trans ?_ (by assumption)))
                    case hl => omega
                    case h =>
                      intro g2 c2 wb o2 gr2 at2 lt2
                      have bb := (show Below wr.heap.size wr _ from (by repeat (first | exact Below.refl _ _ | assumption | refine below_drewN ?_ _ | refine Below.drew ?_ | refine Below.alloc ?_ (by first | exact Nat.le_refl _ | exact Below.size (by assumption) | (simp; done) | (simp; omega)) _ | refine Below.setCell ?_ (by first | exact Nat.le_refl _ | exact Below.size (by assumption) | (simp; done) | (simp; omega)) _ | refine Below.trans ?_ (by assumption)))).trans ((mov_of_grown gr2).below (own_base o1) (by first | omega | (simp; done) | (simp; omega)))
                      have p0 := (bb.cell (p := ⟨w.heap.size, 0, none⟩) lw).trans Pw0
                      have p1 := (bb.cell (p := ⟨w.heap.size, 1, none⟩) lw).trans Pw1
                      have r0 := (bb.cell (p := ⟨w.heap.size + 1, 0, none⟩) lw1).trans Rw0
                      have r1 := (bb.cell (p := ⟨w.heap.size + 1, 1, none⟩) lw1).trans Rw1
                      have r2 := (bb.cell (p := ⟨w.heap.size + 1, 2, none⟩) lw1).trans Rw2
                      have f1 := (bb.frozen (p := ⟨w.heap.size, 1, none⟩) lw).trans (unhide HF w.heap.size 1 (by omega) (by omega))
                      refine hK.out _ _ ?_ (fun hHeld => ?_)
                      · exact ⟨((show Below wr.heap.size wr _ from (by repeat (first | exact Below.refl _ _ | assumption | refine below_drewN ?_ _ | refine Below.drew ?_ | refine Below.alloc ?_ (by first | exact Nat.le_refl _ | exact Below.size (by assumption) | (simp; done) | (simp; omega)) _ | refine Below.setCell ?_ (by first | exact Nat.le_refl _ | exact Below.size (by assumption) | (simp; done) | (simp; omega)) _ | refine Below.trans ?_ (by assumption)))).cell (p := ⟨w.heap.size + 1, 0, none⟩) lw1).trans Rw0, ((show Below wr.heap.size wr _ from (by repeat (first | exact Below.refl _ _ | assumption | refine below_drewN ?_ _ | refine Below.drew ?_ | refine Below.alloc ?_ (by first | exact Nat.le_refl _ | exact Below.size (by assumption) | (simp; done) | (simp; omega)) _ | refine Below.setCell ?_ (by first | exact Nat.le_refl _ | exact Below.size (by assumption) | (simp; done) | (simp; omega)) _ | refine Below.trans ?_ (by assumption)))).cell (p := ⟨w.heap.size + 1, 1, none⟩) lw1).trans Rw1, ((show Below wr.heap.size wr _ from (by repeat (first | exact Below.refl _ _ | assumption | refine below_drewN ?_ _ | refine Below.drew ?_ | refine Below.alloc ?_ (by first | exact Nat.le_refl _ | exact Below.size (by assumption) | (simp; done) | (simp; omega)) _ | refine Below.setCell ?_ (by first | exact Nat.le_refl _ | exact Below.size (by assumption) | (simp; done) | (simp; omega)) _ | refine Below.trans ?_ (by assumption)))).cell (p := ⟨w.heap.size + 1, 2, none⟩) lw1).trans Rw2⟩
                      clear hK K
                      try simp only [List.getElem_toArray, List.getElem_cons_succ, List.getElem_cons_zero, Act.put, List.setIfInBounds_toArray, List.set_cons_zero, List.set_cons_succ]
                      refine wpAnyH_take (i := 7) (v := ?_) rfl (by kernel_rfl) (by kernel_rfl) (by kernel_rfl) (fun _ _ _ h => h) (Or.inl ⟨by rfl, ?_⟩) (by assumption) ?_
                      rotate_left
                      · (intro w hSw; (try dsimp only at hSw); first | (go_simp; done) | (go_simp; with_reducible rfl))
                      try simp only [List.getElem_toArray, List.getElem_cons_succ, List.getElem_cons_zero, Act.put, List.setIfInBounds_toArray, List.set_cons_zero, List.set_cons_succ]
                      refine wpAnyH_ready (rs := [8]) (by kernel_rfl) (by simp) ?_
                      refine AllReadyH.cons rfl (fun K hK => ?_) AllReadyH.nil
                      · go_simp
                        refine hK.out _ _ ?_ (fun hHeld => ?_)
                        · exact ⟨by rw [World.cell?_setCell_other _ _ _ _ (by simp)]; exact r0, by rw [World.cell?_setCell_other _ _ _ _ (by simp)]; exact r1, by rw [World.cell?_setCell_other _ _ _ _ (by simp)]; exact r2⟩
                        clear hK K
                        try simp only [List.getElem_toArray, List.getElem_cons_succ, List.getElem_cons_zero, Act.put, List.setIfInBounds_toArray, List.set_cons_zero, List.set_cons_succ]
                        refine wpAnyH_done (by kernel_rfl) ?_ _
                        obtain ⟨wc, hwc⟩ : ∃ wc, wc = wb.setCell ⟨w.heap.size, 1, none⟩ (.slice (some ⟨g2, 0, none⟩) (j + 1) c2) := ⟨_, rfl⟩
                        have P0 : wc.cell? ⟨w.heap.size, 0, none⟩ = some (.int .i64 m) := by rw [hwc, World.cell?_setCell_other _ _ _ _ (by simp)]; exact p0
                        have P1 : wc.cell? ⟨w.heap.size, 1, none⟩ = some (.slice (some ⟨g2, 0, none⟩) (j + 1) c2) := by rw [hwc]; exact World.cell?_setCell_same _ _ _ p1
                        have MC : Mov w.heap.size wb wc := by rw [hwc]; exact Mov.set _ _ _
                        have s0 := MC.cell ((bb.cell (p := ⟨w.heap.size + 2, 0, none⟩) lw2).trans (unhide Sw0)) (by simp)
                        have s1 := MC.cell ((bb.cell (p := ⟨w.heap.size + 2, 1, none⟩) lw2).trans (unhide Sw1)) (by simp)
                        have fz0 : wc.frozen? ⟨w.heap.size + 2, 0, none⟩ = false := by rw [hwc]; simp [go_sem]; exact (bb.frozen (p := ⟨w.heap.size + 2, 0, none⟩) lw2).trans (unhide HF (w.heap.size + 2) 0 (by omega) (by omega))
                        have fz1 : wc.frozen? ⟨w.heap.size + 2, 1, none⟩ = false := by rw [hwc]; simp [go_sem]; exact (bb.frozen (p := ⟨w.heap.size + 2, 1, none⟩) lw2).trans (unhide HF (w.heap.size + 2) 1 (by omega) (by omega))
                        have gb := own_base o2
                        have HG : Hid (GtsAt wc (some ⟨g2, 0, none⟩) (j + 1) (snocG G j g)) := by
                          refine Or.inr ⟨g2, 0, rfl, Nat.lt_of_lt_of_le lt2 MC.size, fun i hi => ?_⟩
                          have h := own_gts o2 i hi
                          exact ⟨MC.cell h.1 (by simp only; omega), MC.cell h.2.1 (by simp only; omega), MC.cell h.2.2 (by simp only; omega)⟩
                        have BC : Below w.heap.size w wc := by rw [hwc]; exact (hbel.trans (bb.mono hbel.size)).setCell (Nat.le_refl _) _
                        have g2l := Nat.lt_of_lt_of_le lt2 MC.size
                        rw [← hwc]
                        clear hwc MC bb p0 p1 r0 r1 r2 f1 o2
                        have n0 : w.heap.size ≠ w.heap.size + 2 := by omega
                        have n1 : w.heap.size + 2 ≠ w.heap.size := by omega
                        go_wp2
                        go_region
                        all_goals go_wp2
                        all_goals refine bodyPost_ret (v := .tuple #[.agg #[.int .i64 m, .slice (some ⟨g2, 0, none⟩) (j + 1) c2], .int .i64 (2 + m + j)]) (by simp [results, Tryd.results102, go_sem, s0, s1]; try omega) rfl ?_
                        all_goals rw [unhide HR]
                        all_goals exact ⟨⟨some ⟨g2, 0, none⟩, c2, rfl, (by refine GtsAt.mov2 (unhide HG) (B := w.heap.size + 2) (by omega) ?_; first | exact (Mov.set _ _ _).trans (Mov.set _ _ _) | exact ((Mov.set _ _ _).trans (Mov.set _ _ _)).drew | exact ((Mov.refl _ _).drew.trans (Mov.set _ _ _)).trans (Mov.set _ _ _)), (fun h => by cases h), (fun p h => by cases h; rfl), Or.inr (Or.inr ⟨g2, rfl, by omega, by simp; omega⟩)⟩, (by repeat (first | exact Below.refl _ _ | assumption | refine below_drewN ?_ _ | refine Below.drew ?_ | refine Below.alloc ?_ (by first | exact Nat.le_refl _ | exact Below.size (by assumption) | (simp; done) | (simp; omega)) _ | refine Below.setCell ?_ (by first | exact Nat.le_refl _ | exact Below.size (by assumption) | (simp; done) | (simp; omega)) _ | refine Below.trans ?_ (by assumption)))⟩
end Go.Proofs.YtmpiiilkaadhfaaDoor
