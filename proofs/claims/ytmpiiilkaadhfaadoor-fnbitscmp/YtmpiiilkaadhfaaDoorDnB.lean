/- What the model's bending of a net returns. -/
import Derived.Test.YtmpiiilkaadhfaaDoorDnA
import Derived.Test.YtmpiiilkaadhfaaDoorNrC
namespace Go.Proofs.YtmpiiilkaadhfaaDoor
open Go.ChangeShapes Go.WideShapes Go.ChangeAt Go.RowKit Go.Joins
set_option linter.unusedVariables false
set_option maxRecDepth 100000
set_option linter.unusedSimpArgs false

set_option maxRecDepth 100000 in
set_option maxHeartbeats 2000000 in
theorem l6Fresh_own (m : Int) (ad : Option Addr) (n cap : Nat) (G : Nat → Gt) (w : World) (hd : GtsAt w ad n G) (hnn : ad = none → n = 0 ∧ cap = 0) (hspot : ∀ p, ad = some p → p.spot = none) (hn : n ≤ 1048576) :
    Calls Tryd.prog 39 #[.agg #[.int .i64 m, .slice ad n cap]] w fun e w' => ∃ g cap', e = .returned (.agg #[.int .i64 m, .slice (some ⟨g, 0, none⟩) n cap']) ∧ w'.ownsRow w.heap.size 76 3 (.slice (some ⟨g, 0, none⟩) n cap') n (gcells G n) ∧ Below w.heap.size w w' := by
  obtain ⟨wz, hwz⟩ : ∃ wz, wz = (w.alloc (.cells #[.int .i64 m, .slice ad n cap] 25)).alloc (.cells #[.int .i64 0, .slice none 0 0] 25) := ⟨_, rfl⟩
  have BZ : Below w.heap.size w wz := by rw [hwz]; exact ((Below.refl _ _).alloc (Nat.le_refl _) _).alloc (by simp) _
  have Pw0 : wz.cell? ⟨w.heap.size, 0, none⟩ = some (.int .i64 m) := by rw [hwz]; simp [go_sem]
  have Pw1 : wz.cell? ⟨w.heap.size, 1, none⟩ = some (.slice ad n cap) := by rw [hwz]; simp [go_sem]
  have Sw0 : wz.cell? ⟨w.heap.size + 1, 0, none⟩ = some (.int .i64 0) := by rw [hwz]; simp [go_sem]
  have Sw1 : wz.cell? ⟨w.heap.size + 1, 1, none⟩ = some (.slice none 0 0) := by rw [hwz]; simp [go_sem]
  have Fw0 : wz.frozen? ⟨w.heap.size + 1, 0, none⟩ = false := by rw [hwz]; simp [go_sem]
  have Fw1 : wz.frozen? ⟨w.heap.size + 1, 1, none⟩ = false := by rw [hwz]; simp [go_sem]
  have hsz : wz.heap.size = w.heap.size + 2 := by rw [hwz]; simp
  have lw : w.heap.size < wz.heap.size := by omega
  have lw1 : w.heap.size + 1 < wz.heap.size := by omega
  have HDz := hide (hd.later BZ)
  have HZ := hide hwz
  have p0 := Pw0
  have p1 := Pw1
  clear hd hwz
  go_enter Tryd.func39, Tryd.ntmps39
  go_wp2
  rw [← unhide HZ]
  go_region_held3 (fun w' => w'.cell? ⟨w.heap.size, 0, none⟩ = some (.int .i64 m) ∧ w'.cell? ⟨w.heap.size, 1, none⟩ = some (.slice ad n cap)) (first | (refine ⟨?_, ?_⟩ <;> (rw [World.cell?_setCell_other _ _ _ _ (by simp), World.cell?_setCell_other _ _ _ _ (by simp)]; assumption)) | exact ⟨((show Below wz.heap.size wz _ from (by repeat (first | exact Below.refl _ _ | assumption | refine below_drewN ?_ _ | refine Below.drew ?_ | refine Below.alloc ?_ (by first | exact Nat.le_refl _ | exact Below.size (by assumption) | (simp; done) | (simp; omega)) _ | refine Below.setCell ?_ (by first | exact Nat.le_refl _ | exact Below.size (by assumption) | (simp; done) | (simp; omega)) _ | refine Below.trans ?_ (by assumption)))).cell (p := ⟨w.heap.size, 0, none⟩) lw).trans Pw0, ((show Below wz.heap.size wz _ from (by repeat (first | exact Below.refl _ _ | assumption | refine below_drewN ?_ _ | refine Below.drew ?_ | refine Below.alloc ?_ (by first | exact Nat.le_refl _ | exact Below.size (by assumption) | (simp; done) | (simp; omega)) _ | refine Below.setCell ?_ (by first | exact Nat.le_refl _ | exact Below.size (by assumption) | (simp; done) | (simp; omega)) _ | refine Below.trans ?_ (by assumption)))).cell (p := ⟨w.heap.size, 1, none⟩) lw).trans Pw1⟩ | go_keep | exact ⟨p0, p1⟩)
    (first | (apply step_gat_copy (s := .tmp 5) (x := .tmp 7) (G := G) (base := wz.heap.size); (case hgd => rfl); (case ho => rfl); (case hs => rfl); (case hx => rfl); (case hX => (first | (refine alloc_at ?_; first | rfl | (simp; done) | omega) | (show (World.alloc _ _).heap[_]? = _; refine alloc_at ?_; first | rfl | (simp; done) | omega))); (case hbX => (first | omega | (simp; done) | (simp; omega))); (case hbase => (first | omega | (simp; done) | (simp; omega))); (case hc => exact (unhide HDz).later (by repeat (first | exact Below.refl _ _ | assumption | refine below_drewN ?_ _ | refine Below.drew ?_ | refine Below.alloc ?_ (by first | exact Nat.le_refl _ | exact Below.size (by assumption) | (simp; done) | (simp; omega)) _ | refine Below.setCell ?_ (by first | exact Nat.le_refl _ | exact Below.size (by assumption) | (simp; done) | (simp; omega)) _ | refine Below.trans ?_ (by assumption)))); (case hnn => exact hnn); (case hspot => exact hspot); (case hl => omega); case' h => (intro g1 c1 wa o1 gr1 at1 lt1; have ba := (show Below wz.heap.size wz _ from (by repeat (first | exact Below.refl _ _ | assumption | refine below_drewN ?_ _ | refine Below.drew ?_ | refine Below.alloc ?_ (by first | exact Nat.le_refl _ | exact Below.size (by assumption) | (simp; done) | (simp; omega)) _ | refine Below.setCell ?_ (by first | exact Nat.le_refl _ | exact Below.size (by assumption) | (simp; done) | (simp; omega)) _ | refine Below.trans ?_ (by assumption)))).trans ((mov_of_grown gr1).below (by first | omega | (simp; done) | (simp; omega)) (by first | omega | (simp; done) | (simp; omega))); have p0 := (ba.cell (p := ⟨w.heap.size, 0, none⟩) lw).trans Pw0; have p1 := (ba.cell (p := ⟨w.heap.size, 1, none⟩) lw).trans Pw1; have s0 := (ba.cell (p := ⟨w.heap.size + 1, 0, none⟩) lw1).trans Sw0; have s1 := (ba.cell (p := ⟨w.heap.size + 1, 1, none⟩) lw1).trans Sw1; have f0 := (ba.frozen (p := ⟨w.heap.size + 1, 0, none⟩) lw1).trans Fw0; have f1 := (ba.frozen (p := ⟨w.heap.size + 1, 1, none⟩) lw1).trans Fw1)))
  all_goals go_wp2
  all_goals have gb := own_base o1
  all_goals refine bodyPost_ret (v := .agg #[.int .i64 m, .slice (some ⟨g1, 0, none⟩) n c1]) (by simp [results, Tryd.results39, go_sem, s0, s1]) rfl ?_
  all_goals exact ⟨g1, c1, rfl, own_mono (World.ownsRow.kept o1 (grown_mov (R := w.heap.size + 1) (by first | exact (Mov.set _ _ _).trans (Mov.set _ _ _) | exact ((Mov.set _ _ _).trans (Mov.set _ _ _)).drew | exact ((Mov.refl _ _).drew.trans (Mov.set _ _ _)).trans (Mov.set _ _ _))) (Or.inr (by simp [Value.ownBlock]; omega))) (by omega), (by have BA := BZ.trans (ba.mono BZ.size); exact (by repeat (first | exact Below.refl _ _ | assumption | refine below_drewN ?_ _ | refine Below.drew ?_ | refine Below.alloc ?_ (by first | exact Nat.le_refl _ | exact Below.size (by assumption) | (simp; done) | (simp; omega)) _ | refine Below.setCell ?_ (by first | exact Nat.le_refl _ | exact Below.size (by assumption) | (simp; done) | (simp; omega)) _ | refine Below.trans ?_ (by assumption))))⟩
theorem own_froz {w : World} {base g n cap size : Nat} {e : TypeId} {xs : List Value} (h : w.ownsRow base e size (.slice (some ⟨g, 0, none⟩) n cap) n xs) (o : Nat) : w.frozen? ⟨g, o, none⟩ = false := by
  rcases h.2 with ⟨h', _⟩ | ⟨g', cap', cur, h', _, hg', _⟩
  · cases h'
  · simp at h'
    obtain ⟨rfl, rfl⟩ := h'
    simp [World.frozen?, hg']
def upA (G : Nat → Gt) (k : Nat) (v : Int) (i : Nat) : Gt := if i = k then ⟨(G i).x, v, (G i).b⟩ else G i
def upB (G : Nat → Gt) (k : Nat) (v : Int) (i : Nat) : Gt := if i = k then ⟨(G i).x, (G i).a, v⟩ else G i
def upX (G : Nat → Gt) (k : Nat) (v : Bool) (i : Nat) : Gt := if i = k then ⟨v, (G i).a, (G i).b⟩ else G i
theorem upA_wg {G : Nat → Gt} {n k : Nat} {v : Int} (h : WG n G) (hv : W64 v) : WG n (upA G k v) := fun i hi => by unfold upA; split; exact ⟨hv, (h i hi).2⟩; exact h i hi
theorem upB_wg {G : Nat → Gt} {n k : Nat} {v : Int} (h : WG n G) (hv : W64 v) : WG n (upB G k v) := fun i hi => by unfold upB; split; exact ⟨(h i hi).1, hv⟩; exact h i hi
theorem upX_wg {G : Nat → Gt} {n k : Nat} {v : Bool} (h : WG n G) : WG n (upX G k v) := fun i hi => by unfold upX; split; exact h i hi; exact h i hi
theorem Gts.setA {w : World} {g n k : Nat} {G : Nat → Gt} (h : Gts w g 0 n G) (hk : k < n) (v : Int) : Gts (w.setCell ⟨g, k * 3 + 1, none⟩ (.int .i64 v)) g 0 n (upA G k v) := fun i hi => by
  obtain ⟨a, b, c⟩ := h i hi
  rw [Nat.zero_add] at a b c ⊢
  unfold upA
  refine ⟨?_, ?_, ?_⟩
  · rw [World.cell?_setCell_other _ _ _ _ (by simp <;> omega), a]; split <;> rfl
  · by_cases e : i = k
    · subst e; rw [World.cell?_setCell_same _ _ _ b, if_pos rfl]
    · rw [World.cell?_setCell_other _ _ _ _ (by simp <;> omega), b, if_neg e]
  · rw [World.cell?_setCell_other _ _ _ _ (by simp <;> omega), c]; split <;> rfl
theorem Gts.setB {w : World} {g n k : Nat} {G : Nat → Gt} (h : Gts w g 0 n G) (hk : k < n) (v : Int) : Gts (w.setCell ⟨g, k * 3 + 2, none⟩ (.int .i64 v)) g 0 n (upB G k v) := fun i hi => by
  obtain ⟨a, b, c⟩ := h i hi
  rw [Nat.zero_add] at a b c ⊢
  unfold upB
  refine ⟨?_, ?_, ?_⟩
  · rw [World.cell?_setCell_other _ _ _ _ (by simp <;> omega), a]; split <;> rfl
  · rw [World.cell?_setCell_other _ _ _ _ (by simp <;> omega), b]; split <;> rfl
  · by_cases e : i = k
    · subst e; rw [World.cell?_setCell_same _ _ _ c, if_pos rfl]
    · rw [World.cell?_setCell_other _ _ _ _ (by simp <;> omega), c, if_neg e]
theorem Gts.setX {w : World} {g n k : Nat} {G : Nat → Gt} (h : Gts w g 0 n G) (hk : k < n) (v : Bool) : Gts (w.setCell ⟨g, k * 3, none⟩ (.bool v)) g 0 n (upX G k v) := fun i hi => by
  obtain ⟨a, b, c⟩ := h i hi
  rw [Nat.zero_add] at a b c ⊢
  unfold upX
  refine ⟨?_, ?_, ?_⟩
  · by_cases e : i = k
    · subst e; rw [World.cell?_setCell_same _ _ _ a, if_pos rfl]
    · rw [World.cell?_setCell_other _ _ _ _ (by simp <;> omega), a, if_neg e]
  · rw [World.cell?_setCell_other _ _ _ _ (by simp <;> omega), b]; split <;> rfl
  · rw [World.cell?_setCell_other _ _ _ _ (by simp <;> omega), c]; split <;> rfl
/-- A net that is bent: its box X, the results' box Y, its gates in a row of its own, the reader. -/
structure XB (w0 wr : World) (R N X Y : Nat) (m : Int) (g n cap : Nat) (G : Nat → Gt) : Prop where
  p0 : wr.cell? ⟨X, 0, none⟩ = some (.int .i64 m)
  p1 : wr.cell? ⟨X, 1, none⟩ = some (.slice (some ⟨g, 0, none⟩) n cap)
  pf : ∀ o, wr.frozen? ⟨X, o, none⟩ = false
  s0 : wr.cell? ⟨Y, 0, none⟩ = some (.int .i64 0)
  s1 : wr.cell? ⟨Y, 1, none⟩ = some (.slice none 0 0)
  sf : ∀ o, wr.frozen? ⟨Y, o, none⟩ = false
  ow : wr.ownsRow w0.heap.size 76 3 (.slice (some ⟨g, 0, none⟩) n cap) n (gcells G n)
  wg : WG n G
  rd : Rd wr R N
  mv : Mov R w0 wr
  ne : X ≠ R ∧ Y ≠ R ∧ X ≠ Y ∧ w0.heap.size ≤ X ∧ w0.heap.size ≤ Y ∧ R < w0.heap.size ∧ g ≠ X ∧ g ≠ Y
theorem XB.drew {w0 wr : World} {R N X Y : Nat} {m : Int} {g n cap : Nat} {G : Nat → Gt} (h : XB w0 wr R N X Y m g n cap G) : XB w0 wr.drew R N X Y m g n cap G := ⟨h.p0, h.p1, h.pf, h.s0, h.s1, h.sf, h.ow, h.wg, h.rd, h.mv, h.ne⟩
theorem XB.gR {w0 wr : World} {R N X Y : Nat} {m : Int} {g n cap : Nat} {G : Nat → Gt} (h : XB w0 wr R N X Y m g n cap G) : g ≠ R := by have := own_base h.ow; have := h.ne; omega
theorem XB.mov {w0 wr w' : World} {R N N' X Y : Nat} {m : Int} {g n cap : Nat} {G : Nat → Gt} (h : XB w0 wr R N X Y m g n cap G) (hm : Mov R wr w') (hR : Rd w' R N') : XB w0 w' R N' X Y m g n cap G := by
  have hX := World.block_lt_of_cell? _ _ h.p0
  have hY := World.block_lt_of_cell? _ _ h.s0
  exact ⟨hm.cell h.p0 h.ne.1, hm.cell h.p1 h.ne.1, fun o => frozen_mov hm hX h.ne.1 (h.pf o), hm.cell h.s0 h.ne.2.1, hm.cell h.s1 h.ne.2.1, fun o => frozen_mov hm hY h.ne.2.1 (h.sf o), h.ow.kept (grown_mov hm) (Or.inr (by simp [Value.ownBlock]; exact h.gR)), h.wg, hR, h.mv.trans hm, h.ne⟩
theorem XB.later {w0 wr w' : World} {R N X Y : Nat} {m : Int} {g n cap : Nat} {G : Nat → Gt} (h : XB w0 wr R N X Y m g n cap G) (hb : Below wr.heap.size wr w') : XB w0 w' R N X Y m g n cap G := h.mov (Mov.of hb) (h.rd.below hb)
/-- What it is at the end. -/
structure XF (w0 wr : World) (R N X Y : Nat) (m : Int) (g n cap : Nat) (G : Nat → Gt) : Prop where
  p0 : wr.cell? ⟨X, 0, none⟩ = some (.int .i64 m)
  p1 : wr.cell? ⟨X, 1, none⟩ = some (.slice (some ⟨g, 0, none⟩) n cap)
  s0 : wr.cell? ⟨Y, 0, none⟩ = some (.int .i64 0)
  s1 : wr.cell? ⟨Y, 1, none⟩ = some (.slice none 0 0)
  sf : ∀ o, wr.frozen? ⟨Y, o, none⟩ = false
  gt : Gts wr g 0 n G
  gl : g < wr.heap.size ∧ w0.heap.size ≤ g
  wg : WG n G
  rd : Rd wr R N
  mv : Mov R w0 wr
  ne : X ≠ R ∧ Y ≠ R ∧ X ≠ Y ∧ w0.heap.size ≤ X ∧ w0.heap.size ≤ Y ∧ R < w0.heap.size ∧ g ≠ X ∧ g ≠ Y
theorem XB.fin {w0 wr : World} {R N X Y : Nat} {m : Int} {g n cap : Nat} {G : Nat → Gt} (h : XB w0 wr R N X Y m g n cap G) : XF w0 wr R N X Y m g n cap G :=
  ⟨h.p0, h.p1, h.s0, h.s1, h.sf, own_gts h.ow, ⟨(own_cap h.ow).2, own_base h.ow⟩, h.wg, h.rd, h.mv, h.ne⟩
theorem XF.drew {w0 wr : World} {R N X Y : Nat} {m : Int} {g n cap : Nat} {G : Nat → Gt} (h : XF w0 wr R N X Y m g n cap G) : XF w0 wr.drew R N X Y m g n cap G := ⟨h.p0, h.p1, h.s0, h.s1, h.sf, h.gt, h.gl, h.wg, h.rd, h.mv, h.ne⟩
/-- Behind a store into the gates' row. -/
theorem XF.row {w0 wr : World} {R N X Y : Nat} {m : Int} {g n cap o : Nat} {G G' : Nat → Gt} {v : Value} (h : XF w0 wr R N X Y m g n cap G) (hg : Gts (wr.setCell ⟨g, o, none⟩ v) g 0 n G') (hw : WG n G') : XF w0 (wr.setCell ⟨g, o, none⟩ v) R N X Y m g n cap G' := by
  have hv : Mov g wr (wr.setCell ⟨g, o, none⟩ v) := Mov.set _ _ _
  obtain ⟨e1, e2, e3, e4, e5, e6, e7, e8⟩ := h.ne
  have hY := World.block_lt_of_cell? _ _ h.s0
  have := h.gl
  exact ⟨hv.cell h.p0 e7.symm, hv.cell h.p1 e7.symm, hv.cell h.s0 e8.symm, hv.cell h.s1 e8.symm, fun o => frozen_mov hv hY e8.symm (h.sf o), hg, ⟨Nat.lt_of_lt_of_le h.gl.1 hv.size, h.gl.2⟩, hw, h.rd.other hv (by omega), h.mv.setNew h.gl.2 _ _, h.ne⟩
/-- Behind a store of the box's number. -/
theorem XF.ins {w0 wr : World} {R N X Y : Nat} {m m' : Int} {g n cap : Nat} {G : Nat → Gt} (h : XF w0 wr R N X Y m g n cap G) : XF w0 (wr.setCell ⟨X, 0, none⟩ (.int .i64 m')) R N X Y m' g n cap G := by
  have hv : Mov X wr (wr.setCell ⟨X, 0, none⟩ (.int .i64 m')) := Mov.set _ _ _
  obtain ⟨e1, e2, e3, e4, e5, e6, e7, e8⟩ := h.ne
  have hY := World.block_lt_of_cell? _ _ h.s0
  exact ⟨World.cell?_setCell_same _ _ _ h.p0, by rw [World.cell?_setCell_other _ _ _ _ (by simp)]; exact h.p1, hv.cell h.s0 e3.symm, hv.cell h.s1 e3.symm, fun o => frozen_mov hv hY e3.symm (h.sf o), fun i hi => ⟨hv.cell (h.gt i hi).1 e7, hv.cell (h.gt i hi).2.1 e7, hv.cell (h.gt i hi).2.2 e7⟩, ⟨Nat.lt_of_lt_of_le h.gl.1 hv.size, h.gl.2⟩, h.wg, h.rd.other hv (by omega), h.mv.setNew e4 _ _, h.ne⟩
/-- Behind an append: the new row stands in the box. -/
theorem XB.app {w0 wr wa : World} {R N X Y : Nat} {m : Int} {g n cap g' n' cap' : Nat} {G G' : Nat → Gt} (h : XB w0 wr R N X Y m g n cap G) (gr : wr.grownBy wa (some g)) (at' : g' = g ∨ wr.heap.size ≤ g') (ow : wa.ownsRow w0.heap.size 76 3 (.slice (some ⟨g', 0, none⟩) n' cap') n' (gcells G' n')) (wg : WG n' G') :
    XF w0 (wa.setCell ⟨X, 1, none⟩ (.slice (some ⟨g', 0, none⟩) n' cap')) R N X Y m g' n' cap' G' := by
  have hm := mov_of_grown gr
  have hX := World.block_lt_of_cell? _ _ h.p0
  have hY := World.block_lt_of_cell? _ _ h.s0
  simp only at hX hY
  have hgb := own_base h.ow
  obtain ⟨e1, e2, e3, e4, e5, e6, e7, e8⟩ := h.ne
  have p0 := hm.cell h.p0 e7.symm
  have p1 := hm.cell h.p1 e7.symm
  have hv : Mov X wa (wa.setCell ⟨X, 1, none⟩ (.slice (some ⟨g', 0, none⟩) n' cap')) := Mov.set _ _ _
  have x1 : g' ≠ X := by rcases at' with rfl | h'; exact e7; omega
  have x2 : g' ≠ Y := by rcases at' with rfl | h'; exact e8; omega
  have hg := own_gts ow
  have hY2 := Nat.lt_of_lt_of_le hY hm.size
  exact ⟨by rw [World.cell?_setCell_other _ _ _ _ (by simp)]; exact p0, World.cell?_setCell_same _ _ _ p1, hv.cell (hm.cell h.s0 e8.symm) e3.symm, hv.cell (hm.cell h.s1 e8.symm) e3.symm, fun o => frozen_mov hv hY2 e3.symm (frozen_mov hm hY e8.symm (h.sf o)), fun i hi => ⟨hv.cell (hg i hi).1 x1, hv.cell (hg i hi).2.1 x1, hv.cell (hg i hi).2.2 x1⟩, ⟨Nat.lt_of_lt_of_le (own_cap ow).2 hv.size, own_base ow⟩, wg, (h.rd.other hm (by omega)).other hv (by omega), (Mov.grown h.mv gr (fun k hk => by simp at hk; omega)).setNew e4 _ _, ⟨e1, e2, e3, e4, e5, e6, x1, x2⟩⟩
/-- What l6Bent hands back. -/
def BentQ (w : World) (R N : Nat) (m0 : Int) (n0 : Nat) (e : Ending) (w' : World) : Prop := ∃ m g n cap G, e = .returned (.agg #[.int .i64 m, .slice (some ⟨g, 0, none⟩) n cap]) ∧ -1 ≤ m ∧ (m ≤ 9 ∨ m ≤ m0 + 1) ∧ n ≤ n0 + 1 ∧ GtsAt w' (some ⟨g, 0, none⟩) n G ∧ g < w'.heap.size ∧ w.heap.size ≤ g ∧ WG n G ∧ Rd w' R N ∧ Mov R w w'
theorem XF.ret {w0 wr : World} {R N N' X Y : Nat} {m m0 : Int} {g n n0 cap : Nat} {G : Nat → Gt} (h : XF w0 wr R N X Y m g n cap G) (h1 : -1 ≤ m) (h2 : m ≤ 9 ∨ m ≤ m0 + 1) (h3 : n ≤ n0 + 1) (hN : N ≤ N') :
    BentQ w0 R N' m0 n0 (.returned (.agg #[.int .i64 m, .slice (some ⟨g, 0, none⟩) n cap])) ((wr.setCell ⟨Y, 0, none⟩ (.int .i64 m)).setCell ⟨Y, 1, none⟩ (.slice (some ⟨g, 0, none⟩) n cap)) := by
  have hv : Mov Y wr ((wr.setCell ⟨Y, 0, none⟩ (.int .i64 m)).setCell ⟨Y, 1, none⟩ (.slice (some ⟨g, 0, none⟩) n cap)) := (Mov.set _ _ _).trans (Mov.set _ _ _)
  obtain ⟨e1, e2, e3, e4, e5, e6, e7, e8⟩ := h.ne
  exact ⟨m, g, n, cap, G, rfl, h1, h2, h3, Or.inr ⟨g, 0, rfl, Nat.lt_of_lt_of_le h.gl.1 hv.size, fun i hi => ⟨hv.cell (h.gt i hi).1 e8, hv.cell (h.gt i hi).2.1 e8, hv.cell (h.gt i hi).2.2 e8⟩⟩, Nat.lt_of_lt_of_le h.gl.1 hv.size, h.gl.2, h.wg, (h.rd.other hv (by omega)).mono hN, (h.mv.setNew e5 _ _).setNew e5 _ _⟩
theorem rowN (w : World) (zs : List Int) (T : TypeId) : ∀ i, i < zs.length → (w.alloc (.cells (zs.map (Value.int .i64)).toArray T)).cell? ⟨w.heap.size, i, none⟩ = some (.int .i64 (zs.getD i 0)) := by
  intro i hi
  rw [World.cell?_alloc_new]
  simp [List.getD, hi]
theorem snoc_wg {n : Nat} {G : Nat → Gt} {q : Gt} (h : WG n G) (hq : W64 q.a ∧ W64 q.b) : WG (n + 1) (snocG G n q) := fun i hi => by
  by_cases e : i = n
  · subst e; simp only [snocG_at]; exact hq
  · have hlt : i < n := by omega
    simp only [snocG_lt hlt]; exact h i hlt
set_option maxRecDepth 100000 in
set_option maxHeartbeats 16000000 in
theorem l6Bent_any (R N : Nat) (m : Int) (ad : Option Addr) (n cap : Nat) (G : Nat → Gt) (w : World) (hR : Rd w R N) (hN : N ≤ 800000) (hd : GtsAt w ad n G) (hnn : ad = none → n = 0 ∧ cap = 0) (hspot : ∀ p, ad = some p → p.spot = none) (hw : WG n G) (hm0 : -1 ≤ m) (hm1 : m ≤ 100) (hn : n ≤ 1000) :
    Calls Tryd.prog 88 #[.pointer (some ⟨R, 0, none⟩), .agg #[.int .i64 m, .slice ad n cap]] w fun e w' => BentQ w R (N + 3) m n e w' := by
  obtain ⟨wz, hwz⟩ : ∃ wz, wz = (w.alloc (.cells #[.int .i64 m, .slice ad n cap] 25)).alloc (.cells #[.int .i64 0, .slice none 0 0] 25) := ⟨_, rfl⟩
  have BZ : Below w.heap.size w wz := by rw [hwz]; exact ((Below.refl _ _).alloc (Nat.le_refl _) _).alloc (by simp) _
  have p0 : wz.cell? ⟨w.heap.size, 0, none⟩ = some (.int .i64 m) := by rw [hwz]; simp [go_sem]
  have p1 : wz.cell? ⟨w.heap.size, 1, none⟩ = some (.slice ad n cap) := by rw [hwz]; simp [go_sem]
  have s0 : wz.cell? ⟨w.heap.size + 1, 0, none⟩ = some (.int .i64 0) := by rw [hwz]; simp [go_sem]
  have s1 : wz.cell? ⟨w.heap.size + 1, 1, none⟩ = some (.slice none 0 0) := by rw [hwz]; simp [go_sem]
  have sf : ∀ o, wz.frozen? ⟨w.heap.size + 1, o, none⟩ = false := fun o => by rw [hwz]; simp [go_sem]
  have hsz : wz.heap.size = w.heap.size + 2 := by rw [hwz]; simp
  have rl := hR.lt
  have RZ := hR.below BZ
  have HDz := hide (hd.later BZ)
  have HW := hide hw
  have HZ := hide hwz
  clear hd hwz hR hw
  go_enter Tryd.func88, Tryd.ntmps88
  go_wp2_with fail
  rw [← unhide HZ]
  refine (l6Fresh_own m ad n cap G _ (unhide HDz) hnn hspot (by omega)).mono ?_
  rintro e w1 ⟨g, cp, rfl, ow, b1⟩
  have hs1 := b1.size
  have h0 : Hid (XB w (w1.alloc (.cells #[.int .i64 m, .slice (some ⟨g, 0, none⟩) n cp] 25)) R N w1.heap.size (w.heap.size + 1) m g n cp G) := by
    have hgb := own_base ow
    have hgl := (own_cap ow).2
    have ba : Below w1.heap.size w1 (w1.alloc (.cells #[.int .i64 m, .slice (some ⟨g, 0, none⟩) n cp] 25)) := (Below.refl _ _).alloc (Nat.le_refl _) _
    have yl := World.block_lt_of_cell? _ _ (cell_later b1 s0)
    have yl0 := World.block_lt_of_cell? _ _ s0
    simp only at yl yl0
    exact ⟨by simp [go_sem], by simp [go_sem], fun o => by simp [go_sem], cell_later ba (cell_later b1 s0), cell_later ba (cell_later b1 s1), fun o => ((ba.frozen (p := ⟨w.heap.size + 1, o, none⟩) yl).trans ((b1.frozen (p := ⟨w.heap.size + 1, o, none⟩) yl0).trans (sf o))), own_mono (World.ownsRow.kept ow (grown_below ba) (Classical.em _)) (by omega), unhide HW, (RZ.below b1).below ba, ((Mov.of BZ).from b1).from ba, by omega⟩
  clear s0 s1 sf p0 p1 RZ HDz b1 ow
  go_wp2_with fail
  obtain ⟨X, hX⟩ : ∃ X, X = w1.heap.size := ⟨_, rfl⟩
  obtain ⟨Y, hY⟩ : ∃ Y, Y = w.heap.size + 1 := ⟨_, rfl⟩
  rw [← hX, ← hY] at h0
  (try rw [← hX])
  generalize hwb : w1.alloc (.cells #[.int .i64 m, .slice (some ⟨g, 0, none⟩) n cp] 25) = wb at *
  (try rw [← hY])
  refine (pick_any R N 60 _ (unhide h0).rd (by omega) (by omega) (by omega)).mono ?_
  rintro e w2 ⟨q, rfl, q0, q1, R2, M2⟩
  have HR := hide ((unhide h0).mov M2 R2)
  have hgx := (unhide HR).ne.2.2.2.2.2.2.1
  have hgy := (unhide HR).ne.2.2.2.2.2.2.2
  have hXY := (unhide HR).ne.2.2.1
  have hYX := hXY.symm
  have hxg := hgx.symm
  have hyg := hgy.symm
  have hgr := (unhide HR).gR
  have hXR := (unhide HR).ne.1
  clear h0 M2 R2 hwb hX HZ BZ hs1 hsz hY
  by_cases c0 : q = 0
  · subst c0
    have kp0 := (unhide HR).p0
    have kp1 := (unhide HR).p1
    have kq0 := (unhide HR).pf 0
    have kq1 := (unhide HR).pf 1
    have zl : w2.heap.size ≠ R := by have := (unhide HR).rd.lt; omega
    go_wp2_with fail
    obtain ⟨wt, hwt⟩ : ∃ x, x = w2.alloc (.cells #[.int .i64 (-1), .int .i64 (9), .int .i64 (m + 1), .int .i64 (0)] 3) := ⟨_, rfl⟩
    have bt : Below w2.heap.size w2 wt := by rw [hwt]; exact (Below.refl _ _).alloc (Nat.le_refl _) _
    have zt : ∀ i, i < 4 → wt.cell? ⟨w2.heap.size, i, none⟩ = some (.int .i64 (([-1, 9, m + 1, 0] : List Int).getD i 0)) := fun i hi => by rw [hwt]; exact rowN w2 [-1, 9, m + 1, 0] 3 i hi
    have zn : w2.heap.size ≠ R := by have := (unhide HR).rd.lt; omega
    clear kp0 kp1 kq0 kq1
    have HR := hide ((unhide HR).later bt)
    rw [← hwt]
    obtain ⟨ZT, hZT⟩ : ∃ z, z = w2.heap.size := ⟨_, rfl⟩
    rw [← hZT] at zt zn ⊢
    clear hwt bt hZT
    have kp0 := (unhide HR).p0
    have kp1 := (unhide HR).p1
    have kq0 := (unhide HR).pf 0
    have kq1 := (unhide HR).pf 1
    refine (num_any R _ ZT 4 [-1, 9, m + 1, 0] _ rfl (unhide HR).rd (by omega) zn (by omega) (by omega) zt).mono ?_
    rintro e w7 ⟨j7, hj7, rfl, R7, M7⟩
    have hz2 : (([-1, 9, m + 1, 0] : List Int).getD j7 0) ≤ 9 ∨ (([-1, 9, m + 1, 0] : List Int).getD j7 0) ≤ m + 1 := by
      have : j7 = 0 ∨ j7 = 1 ∨ j7 = 2 ∨ j7 = 3 := by omega
      rcases this with rfl | rfl | rfl | rfl <;> (simp only [List.getD_cons_zero, List.getD_cons_succ]; omega)
    have hz : -1 ≤ (([-1, 9, m + 1, 0] : List Int).getD j7 0) := by
      have : j7 = 0 ∨ j7 = 1 ∨ j7 = 2 ∨ j7 = 3 := by omega
      rcases this with rfl | rfl | rfl | rfl <;> (simp only [List.getD_cons_zero, List.getD_cons_succ]; first | omega | (unfold W64; omega))
    generalize ([-1, 9, m + 1, 0] : List Int).getD j7 0 = z at *
    clear kp0 kp1 kq0 kq1
    have HR := hide ((unhide HR).mov M7 R7)
    clear M7 R7 zt zn
    have kp0 := (unhide HR).p0
    have kp1 := (unhide HR).p1
    have kq0 := (unhide HR).pf 0
    have kq1 := (unhide HR).pf 1
    have HF := hide ((unhide HR).fin.ins (m' := z))
    have ks0 := (unhide HR).s0
    have ks1 := (unhide HR).s1
    have kf0 := (unhide HR).sf 0
    have kf1 := (unhide HR).sf 1
    go_wp2
    refine bodyPost_ret (v := .agg #[.int .i64 z, .slice (some ⟨g, 0, none⟩) n cp]) (by simp [results, Tryd.results88, go_sem, ks0, ks1, hXY, hYX, hgx, hgx.symm]) rfl ?_
    exact XF.ret (by first | exact unhide HF | exact unhide HF.drew) hz hz2 (by omega) (by omega)
  have k0 : (q == 0) = false := by simp [c0]
  by_cases c1 : q = 1
  · subst c1
    have kp0 := (unhide HR).p0
    have kp1 := (unhide HR).p1
    have kq0 := (unhide HR).pf 0
    have kq1 := (unhide HR).pf 1
    go_wp2
    refine wp_region_held_drew (S := fun _ => True) (by kernel_rfl) ?_ (fun hHeld => ?_)
    · trivial
    obtain ⟨wd, hwd⟩ : ∃ x, x = w2.drew := ⟨_, rfl⟩
    have HR := hide ((unhide HR).drew)
    rw [← hwd] at HR ⊢
    (try rw [← hwd] at hHeld)
    clear hwd
    have kp0 := (unhide HR).p0
    have kp1 := (unhide HR).p1
    have kq0 := (unhide HR).pf 0
    have kq1 := (unhide HR).pf 1
    refine wpAnyH_take (i := 0) (v := ?_) rfl (by kernel_rfl) (by kernel_rfl) (by kernel_rfl) (fun _ _ _ h => h) (Or.inl ⟨by rfl, ?_⟩) (by assumption) ?_
    rotate_left
    · (intro w hSw; (try dsimp only at hSw); first | (go_simp; done) | (go_simp; with_reducible rfl))
    try simp only [List.getElem_toArray, List.getElem_cons_succ, List.getElem_cons_zero, Act.put, List.setIfInBounds_toArray, List.set_cons_zero, List.set_cons_succ]
    refine wpAnyH_take (i := 2) (v := ?_) rfl (by kernel_rfl) (by kernel_rfl) (by kernel_rfl) (fun _ _ _ h => h) (Or.inl ⟨by rfl, ?_⟩) (by assumption) ?_
    rotate_left
    · (intro w hSw; (try dsimp only at hSw); first | (go_simp; done) | (go_simp; with_reducible rfl))
    try simp only [List.getElem_toArray, List.getElem_cons_succ, List.getElem_cons_zero, Act.put, List.setIfInBounds_toArray, List.set_cons_zero, List.set_cons_succ]
    refine wpAnyH_take (i := 4) (v := ?_) rfl (by kernel_rfl) (by kernel_rfl) (by kernel_rfl) (fun _ _ _ h => h) (Or.inl ⟨by rfl, ?_⟩) (by assumption) ?_
    rotate_left
    · (intro w hSw; (try dsimp only at hSw); first | (go_simp; done) | (go_simp; with_reducible rfl))
    try simp only [List.getElem_toArray, List.getElem_cons_succ, List.getElem_cons_zero, Act.put, List.setIfInBounds_toArray, List.set_cons_zero, List.set_cons_succ]
    refine wpAnyH_ready (rs := [1, 3]) (by kernel_rfl) (by simp) ?_
    refine AllReadyH.cons rfl (fun K hK => ?_) (AllReadyH.cons rfl (fun K hK => ?_) AllReadyH.nil)
    · go_simp
      refine hK.out _ _ ?_ (fun hHeld => ?_)
      · trivial
      clear hK K
      try simp only [List.getElem_toArray, List.getElem_cons_succ, List.getElem_cons_zero, Act.put, List.setIfInBounds_toArray, List.set_cons_zero, List.set_cons_succ]
      refine wpAnyH_ready (rs := [3]) (by kernel_rfl) (by simp) ?_
      refine AllReadyH.cons rfl (fun K hK => ?_) AllReadyH.nil
      go_simp
      refine (pick_any R _ 4 _ (by exact (unhide HR).rd) (by omega) (by omega) (by omega)).mono ?_
      rintro e w5 ⟨qa, rfl, qa0, qa1, R5, M5⟩
      clear kp0 kp1 kq0 kq1
      have HR := hide ((unhide HR).mov (by exact M5) R5)
      clear M5 R5
      have kp0 := (unhide HR).p0
      have kp1 := (unhide HR).p1
      have kq0 := (unhide HR).pf 0
      have kq1 := (unhide HR).pf 1
      go_wp2_with fail
      refine hK.out _ _ ?_ (fun hHeld => ?_)
      · trivial
      clear hK K
      try simp only [List.getElem_toArray, List.getElem_cons_succ, List.getElem_cons_zero, Act.put, List.setIfInBounds_toArray, List.set_cons_zero, List.set_cons_succ]
      refine wpAnyH_ready (rs := [5]) (by kernel_rfl) (by simp) ?_
      refine AllReadyH.cons rfl (fun K hK => ?_) AllReadyH.nil
      go_simp
      refine (pick_any R _ 6 _ (by exact (unhide HR).rd) (by omega) (by omega) (by omega)).mono ?_
      rintro e w6 ⟨qb, rfl, qb0, qb1, R6, M6⟩
      clear kp0 kp1 kq0 kq1
      have HR := hide ((unhide HR).mov (by exact M6) R6)
      clear M6 R6
      have kp0 := (unhide HR).p0
      have kp1 := (unhide HR).p1
      have kq0 := (unhide HR).pf 0
      have kq1 := (unhide HR).pf 1
      go_wp2_with fail
      refine hK.out _ _ ?_ (fun hHeld => ?_)
      · trivial
      clear hK K
      try simp only [List.getElem_toArray, List.getElem_cons_succ, List.getElem_cons_zero, Act.put, List.setIfInBounds_toArray, List.set_cons_zero, List.set_cons_succ]
      refine wpAnyH_take (i := 6) (v := ?_) rfl (by kernel_rfl) (by kernel_rfl) (by kernel_rfl) (fun _ _ _ h => h) (Or.inl ⟨by rfl, ?_⟩) (by assumption) ?_
      rotate_left
      · (intro w hSw; (try dsimp only at hSw); first | (go_simp; done) | (go_simp; with_reducible rfl))
      try simp only [List.getElem_toArray, List.getElem_cons_succ, List.getElem_cons_zero, Act.put, List.setIfInBounds_toArray, List.set_cons_zero, List.set_cons_succ]
      refine wpAnyH_ready (rs := [7]) (by kernel_rfl) (by simp) ?_
      refine AllReadyH.cons rfl (fun K hK => ?_) AllReadyH.nil
      go_simp
      obtain ⟨wt, hwt⟩ : ∃ x, x = w6.alloc (.cells #[.bool false, .int .i64 qa, .int .i64 qb] 76) := ⟨_, rfl⟩
      have bt : Below w6.heap.size w6 wt := by rw [hwt]; exact (Below.refl _ _).alloc (Nat.le_refl _) _
      have qT : Gts wt w6.heap.size 0 1 (fun _ => ⟨false, qa, qb⟩) := by
        refine Gts.lone ?_ ?_ ?_ <;> (rw [hwt]; simp [go_sem])
      clear kp0 kp1 kq0 kq1
      have HR := hide ((unhide HR).later bt)
      rw [← hwt]
      clear hwt bt
      have kp0 := (unhide HR).p0
      have kp1 := (unhide HR).p1
      have kq0 := (unhide HR).pf 0
      have kq1 := (unhide HR).pf 1
      refine hK.out _ _ ?_ (fun hHeld => ?_)
      · trivial
      clear hK K
      try simp only [List.getElem_toArray, List.getElem_cons_succ, List.getElem_cons_zero, Act.put, List.setIfInBounds_toArray, List.set_cons_zero, List.set_cons_succ]
      refine wpAnyH_ready (rs := [8]) (by kernel_rfl) (by simp) ?_
      refine AllReadyH.cons rfl (fun K hK => ?_) AllReadyH.nil
      apply step_gat_one (s := .tmp 26) (x := .tmp 32) (G := G) (q := ⟨false, qa, qb⟩) (base := w.heap.size) (g := g) (cap := cp)
      case hgd => rfl
      case ho => rfl
      case hs => rfl
      case hown => exact (unhide HR).ow
      case hbase => exact Nat.le_trans (unhide HR).mv.size (Nat.le_refl _)
      case hx => rfl
      case hT => exact qT
      case hl => omega
      case' h => intro g2 c2 wa o2 gr2 at2 lt2
      have HA := hide ((unhide HR).app gr2 at2 o2 (snoc_wg (unhide HR).wg ⟨by unfold W64; simp only; omega, by unfold W64; simp only; omega⟩))
      have ka0 := (mov_of_grown gr2).cell kp0 hgx.symm
      have ka1 := (mov_of_grown gr2).cell kp1 hgx.symm
      have kb1 := frozen_mov (mov_of_grown gr2) (World.block_lt_of_cell? _ _ kp1) hgx.symm kq1
      have ks0 := (mov_of_grown gr2).cell (unhide HR).s0 hgy.symm
      have ks1 := (mov_of_grown gr2).cell (unhide HR).s1 hgy.symm
      have kf0 := frozen_mov (mov_of_grown gr2) (World.block_lt_of_cell? _ _ (unhide HR).s0) hgy.symm ((unhide HR).sf 0)
      have kf1 := frozen_mov (mov_of_grown gr2) (World.block_lt_of_cell? _ _ (unhide HR).s0) hgy.symm ((unhide HR).sf 1)
      clear kp0 kp1 kq0 kq1 o2 gr2 at2 lt2 qT
      refine hK.out _ _ ?_ (fun hHeld => ?_)
      · trivial
      clear hK K
      try simp only [List.getElem_toArray, List.getElem_cons_succ, List.getElem_cons_zero, Act.put, List.setIfInBounds_toArray, List.set_cons_zero, List.set_cons_succ]
      refine wpAnyH_take (i := 9) (v := ?_) rfl (by kernel_rfl) (by kernel_rfl) (by kernel_rfl) (fun _ _ _ h => h) (Or.inl ⟨by rfl, ?_⟩) (by assumption) ?_
      rotate_left
      · (intro w hSw; (try dsimp only at hSw); first | (go_simp; done) | (go_simp; with_reducible rfl))
      try simp only [List.getElem_toArray, List.getElem_cons_succ, List.getElem_cons_zero, Act.put, List.setIfInBounds_toArray, List.set_cons_zero, List.set_cons_succ]
      refine wpAnyH_ready (rs := [10]) (by kernel_rfl) (by simp) ?_
      refine AllReadyH.cons rfl (fun K hK => ?_) AllReadyH.nil
      go_simp
      refine hK.out _ _ ?_ (fun hHeld => ?_)
      · trivial
      clear hK K
      try simp only [List.getElem_toArray, List.getElem_cons_succ, List.getElem_cons_zero, Act.put, List.setIfInBounds_toArray, List.set_cons_zero, List.set_cons_succ]
      refine wpAnyH_done (by kernel_rfl) ?_ _
      have HF := HA
      clear HA
      go_wp2
      refine bodyPost_ret (v := .agg #[.int .i64 m, .slice (some ⟨g2, 0, none⟩) (n + 1) c2]) (by simp [results, Tryd.results88, go_sem, ks0, ks1, hXY, hYX, hgx, hgx.symm]) rfl ?_
      exact XF.ret (by first | exact unhide HF | exact unhide HF.drew) hm0 (Or.inr (by omega)) (by omega) (by omega)
    · go_simp
      refine (pick_any R _ 4 _ (by exact (unhide HR).rd) (by omega) (by omega) (by omega)).mono ?_
      rintro e w5 ⟨qa, rfl, qa0, qa1, R5, M5⟩
      clear kp0 kp1 kq0 kq1
      have HR := hide ((unhide HR).mov (by exact M5) R5)
      clear M5 R5
      have kp0 := (unhide HR).p0
      have kp1 := (unhide HR).p1
      have kq0 := (unhide HR).pf 0
      have kq1 := (unhide HR).pf 1
      go_wp2_with fail
      refine hK.out _ _ ?_ (fun hHeld => ?_)
      · trivial
      clear hK K
      try simp only [List.getElem_toArray, List.getElem_cons_succ, List.getElem_cons_zero, Act.put, List.setIfInBounds_toArray, List.set_cons_zero, List.set_cons_succ]
      refine wpAnyH_ready (rs := [1, 5]) (by kernel_rfl) (by simp) ?_
      refine AllReadyH.cons rfl (fun K hK => ?_) (AllReadyH.cons rfl (fun K hK => ?_) AllReadyH.nil)
      · go_simp
        refine hK.out _ _ ?_ (fun hHeld => ?_)
        · trivial
        clear hK K
        try simp only [List.getElem_toArray, List.getElem_cons_succ, List.getElem_cons_zero, Act.put, List.setIfInBounds_toArray, List.set_cons_zero, List.set_cons_succ]
        refine wpAnyH_ready (rs := [5]) (by kernel_rfl) (by simp) ?_
        refine AllReadyH.cons rfl (fun K hK => ?_) AllReadyH.nil
        go_simp
        refine (pick_any R _ 6 _ (by exact (unhide HR).rd) (by omega) (by omega) (by omega)).mono ?_
        rintro e w6 ⟨qb, rfl, qb0, qb1, R6, M6⟩
        clear kp0 kp1 kq0 kq1
        have HR := hide ((unhide HR).mov (by exact M6) R6)
        clear M6 R6
        have kp0 := (unhide HR).p0
        have kp1 := (unhide HR).p1
        have kq0 := (unhide HR).pf 0
        have kq1 := (unhide HR).pf 1
        go_wp2_with fail
        refine hK.out _ _ ?_ (fun hHeld => ?_)
        · trivial
        clear hK K
        try simp only [List.getElem_toArray, List.getElem_cons_succ, List.getElem_cons_zero, Act.put, List.setIfInBounds_toArray, List.set_cons_zero, List.set_cons_succ]
        refine wpAnyH_take (i := 6) (v := ?_) rfl (by kernel_rfl) (by kernel_rfl) (by kernel_rfl) (fun _ _ _ h => h) (Or.inl ⟨by rfl, ?_⟩) (by assumption) ?_
        rotate_left
        · (intro w hSw; (try dsimp only at hSw); first | (go_simp; done) | (go_simp; with_reducible rfl))
        try simp only [List.getElem_toArray, List.getElem_cons_succ, List.getElem_cons_zero, Act.put, List.setIfInBounds_toArray, List.set_cons_zero, List.set_cons_succ]
        refine wpAnyH_ready (rs := [7]) (by kernel_rfl) (by simp) ?_
        refine AllReadyH.cons rfl (fun K hK => ?_) AllReadyH.nil
        go_simp
        obtain ⟨wt, hwt⟩ : ∃ x, x = w6.alloc (.cells #[.bool false, .int .i64 qa, .int .i64 qb] 76) := ⟨_, rfl⟩
        have bt : Below w6.heap.size w6 wt := by rw [hwt]; exact (Below.refl _ _).alloc (Nat.le_refl _) _
        have qT : Gts wt w6.heap.size 0 1 (fun _ => ⟨false, qa, qb⟩) := by
          refine Gts.lone ?_ ?_ ?_ <;> (rw [hwt]; simp [go_sem])
        clear kp0 kp1 kq0 kq1
        have HR := hide ((unhide HR).later bt)
        rw [← hwt]
        clear hwt bt
        have kp0 := (unhide HR).p0
        have kp1 := (unhide HR).p1
        have kq0 := (unhide HR).pf 0
        have kq1 := (unhide HR).pf 1
        refine hK.out _ _ ?_ (fun hHeld => ?_)
        · trivial
        clear hK K
        try simp only [List.getElem_toArray, List.getElem_cons_succ, List.getElem_cons_zero, Act.put, List.setIfInBounds_toArray, List.set_cons_zero, List.set_cons_succ]
        refine wpAnyH_ready (rs := [8]) (by kernel_rfl) (by simp) ?_
        refine AllReadyH.cons rfl (fun K hK => ?_) AllReadyH.nil
        apply step_gat_one (s := .tmp 26) (x := .tmp 32) (G := G) (q := ⟨false, qa, qb⟩) (base := w.heap.size) (g := g) (cap := cp)
        case hgd => rfl
        case ho => rfl
        case hs => rfl
        case hown => exact (unhide HR).ow
        case hbase => exact Nat.le_trans (unhide HR).mv.size (Nat.le_refl _)
        case hx => rfl
        case hT => exact qT
        case hl => omega
        case' h => intro g2 c2 wa o2 gr2 at2 lt2
        have HA := hide ((unhide HR).app gr2 at2 o2 (snoc_wg (unhide HR).wg ⟨by unfold W64; simp only; omega, by unfold W64; simp only; omega⟩))
        have ka0 := (mov_of_grown gr2).cell kp0 hgx.symm
        have ka1 := (mov_of_grown gr2).cell kp1 hgx.symm
        have kb1 := frozen_mov (mov_of_grown gr2) (World.block_lt_of_cell? _ _ kp1) hgx.symm kq1
        have ks0 := (mov_of_grown gr2).cell (unhide HR).s0 hgy.symm
        have ks1 := (mov_of_grown gr2).cell (unhide HR).s1 hgy.symm
        have kf0 := frozen_mov (mov_of_grown gr2) (World.block_lt_of_cell? _ _ (unhide HR).s0) hgy.symm ((unhide HR).sf 0)
        have kf1 := frozen_mov (mov_of_grown gr2) (World.block_lt_of_cell? _ _ (unhide HR).s0) hgy.symm ((unhide HR).sf 1)
        clear kp0 kp1 kq0 kq1 o2 gr2 at2 lt2 qT
        refine hK.out _ _ ?_ (fun hHeld => ?_)
        · trivial
        clear hK K
        try simp only [List.getElem_toArray, List.getElem_cons_succ, List.getElem_cons_zero, Act.put, List.setIfInBounds_toArray, List.set_cons_zero, List.set_cons_succ]
        refine wpAnyH_take (i := 9) (v := ?_) rfl (by kernel_rfl) (by kernel_rfl) (by kernel_rfl) (fun _ _ _ h => h) (Or.inl ⟨by rfl, ?_⟩) (by assumption) ?_
        rotate_left
        · (intro w hSw; (try dsimp only at hSw); first | (go_simp; done) | (go_simp; with_reducible rfl))
        try simp only [List.getElem_toArray, List.getElem_cons_succ, List.getElem_cons_zero, Act.put, List.setIfInBounds_toArray, List.set_cons_zero, List.set_cons_succ]
        refine wpAnyH_ready (rs := [10]) (by kernel_rfl) (by simp) ?_
        refine AllReadyH.cons rfl (fun K hK => ?_) AllReadyH.nil
        go_simp
        refine hK.out _ _ ?_ (fun hHeld => ?_)
        · trivial
        clear hK K
        try simp only [List.getElem_toArray, List.getElem_cons_succ, List.getElem_cons_zero, Act.put, List.setIfInBounds_toArray, List.set_cons_zero, List.set_cons_succ]
        refine wpAnyH_done (by kernel_rfl) ?_ _
        have HF := HA
        clear HA
        go_wp2
        refine bodyPost_ret (v := .agg #[.int .i64 m, .slice (some ⟨g2, 0, none⟩) (n + 1) c2]) (by simp [results, Tryd.results88, go_sem, ks0, ks1, hXY, hYX, hgx, hgx.symm]) rfl ?_
        exact XF.ret (by first | exact unhide HF | exact unhide HF.drew) hm0 (Or.inr (by omega)) (by omega) (by omega)
      · go_simp
        refine (pick_any R _ 6 _ (by exact (unhide HR).rd) (by omega) (by omega) (by omega)).mono ?_
        rintro e w6 ⟨qb, rfl, qb0, qb1, R6, M6⟩
        clear kp0 kp1 kq0 kq1
        have HR := hide ((unhide HR).mov (by exact M6) R6)
        clear M6 R6
        have kp0 := (unhide HR).p0
        have kp1 := (unhide HR).p1
        have kq0 := (unhide HR).pf 0
        have kq1 := (unhide HR).pf 1
        go_wp2_with fail
        refine hK.out _ _ ?_ (fun hHeld => ?_)
        · trivial
        clear hK K
        try simp only [List.getElem_toArray, List.getElem_cons_succ, List.getElem_cons_zero, Act.put, List.setIfInBounds_toArray, List.set_cons_zero, List.set_cons_succ]
        refine wpAnyH_take (i := 6) (v := ?_) rfl (by kernel_rfl) (by kernel_rfl) (by kernel_rfl) (fun _ _ _ h => h) (Or.inl ⟨by rfl, ?_⟩) (by assumption) ?_
        rotate_left
        · (intro w hSw; (try dsimp only at hSw); first | (go_simp; done) | (go_simp; with_reducible rfl))
        try simp only [List.getElem_toArray, List.getElem_cons_succ, List.getElem_cons_zero, Act.put, List.setIfInBounds_toArray, List.set_cons_zero, List.set_cons_succ]
        refine wpAnyH_ready (rs := [1, 7]) (by kernel_rfl) (by simp) ?_
        refine AllReadyH.cons rfl (fun K hK => ?_) (AllReadyH.cons rfl (fun K hK => ?_) AllReadyH.nil)
        · go_simp
          refine hK.out _ _ ?_ (fun hHeld => ?_)
          · trivial
          clear hK K
          try simp only [List.getElem_toArray, List.getElem_cons_succ, List.getElem_cons_zero, Act.put, List.setIfInBounds_toArray, List.set_cons_zero, List.set_cons_succ]
          refine wpAnyH_ready (rs := [7]) (by kernel_rfl) (by simp) ?_
          refine AllReadyH.cons rfl (fun K hK => ?_) AllReadyH.nil
          go_simp
          obtain ⟨wt, hwt⟩ : ∃ x, x = w6.alloc (.cells #[.bool false, .int .i64 qa, .int .i64 qb] 76) := ⟨_, rfl⟩
          have bt : Below w6.heap.size w6 wt := by rw [hwt]; exact (Below.refl _ _).alloc (Nat.le_refl _) _
          have qT : Gts wt w6.heap.size 0 1 (fun _ => ⟨false, qa, qb⟩) := by
            refine Gts.lone ?_ ?_ ?_ <;> (rw [hwt]; simp [go_sem])
          clear kp0 kp1 kq0 kq1
          have HR := hide ((unhide HR).later bt)
          rw [← hwt]
          clear hwt bt
          have kp0 := (unhide HR).p0
          have kp1 := (unhide HR).p1
          have kq0 := (unhide HR).pf 0
          have kq1 := (unhide HR).pf 1
          refine hK.out _ _ ?_ (fun hHeld => ?_)
          · trivial
          clear hK K
          try simp only [List.getElem_toArray, List.getElem_cons_succ, List.getElem_cons_zero, Act.put, List.setIfInBounds_toArray, List.set_cons_zero, List.set_cons_succ]
          refine wpAnyH_ready (rs := [8]) (by kernel_rfl) (by simp) ?_
          refine AllReadyH.cons rfl (fun K hK => ?_) AllReadyH.nil
          apply step_gat_one (s := .tmp 26) (x := .tmp 32) (G := G) (q := ⟨false, qa, qb⟩) (base := w.heap.size) (g := g) (cap := cp)
          case hgd => rfl
          case ho => rfl
          case hs => rfl
          case hown => exact (unhide HR).ow
          case hbase => exact Nat.le_trans (unhide HR).mv.size (Nat.le_refl _)
          case hx => rfl
          case hT => exact qT
          case hl => omega
          case' h => intro g2 c2 wa o2 gr2 at2 lt2
          have HA := hide ((unhide HR).app gr2 at2 o2 (snoc_wg (unhide HR).wg ⟨by unfold W64; simp only; omega, by unfold W64; simp only; omega⟩))
          have ka0 := (mov_of_grown gr2).cell kp0 hgx.symm
          have ka1 := (mov_of_grown gr2).cell kp1 hgx.symm
          have kb1 := frozen_mov (mov_of_grown gr2) (World.block_lt_of_cell? _ _ kp1) hgx.symm kq1
          have ks0 := (mov_of_grown gr2).cell (unhide HR).s0 hgy.symm
          have ks1 := (mov_of_grown gr2).cell (unhide HR).s1 hgy.symm
          have kf0 := frozen_mov (mov_of_grown gr2) (World.block_lt_of_cell? _ _ (unhide HR).s0) hgy.symm ((unhide HR).sf 0)
          have kf1 := frozen_mov (mov_of_grown gr2) (World.block_lt_of_cell? _ _ (unhide HR).s0) hgy.symm ((unhide HR).sf 1)
          clear kp0 kp1 kq0 kq1 o2 gr2 at2 lt2 qT
          refine hK.out _ _ ?_ (fun hHeld => ?_)
          · trivial
          clear hK K
          try simp only [List.getElem_toArray, List.getElem_cons_succ, List.getElem_cons_zero, Act.put, List.setIfInBounds_toArray, List.set_cons_zero, List.set_cons_succ]
          refine wpAnyH_take (i := 9) (v := ?_) rfl (by kernel_rfl) (by kernel_rfl) (by kernel_rfl) (fun _ _ _ h => h) (Or.inl ⟨by rfl, ?_⟩) (by assumption) ?_
          rotate_left
          · (intro w hSw; (try dsimp only at hSw); first | (go_simp; done) | (go_simp; with_reducible rfl))
          try simp only [List.getElem_toArray, List.getElem_cons_succ, List.getElem_cons_zero, Act.put, List.setIfInBounds_toArray, List.set_cons_zero, List.set_cons_succ]
          refine wpAnyH_ready (rs := [10]) (by kernel_rfl) (by simp) ?_
          refine AllReadyH.cons rfl (fun K hK => ?_) AllReadyH.nil
          go_simp
          refine hK.out _ _ ?_ (fun hHeld => ?_)
          · trivial
          clear hK K
          try simp only [List.getElem_toArray, List.getElem_cons_succ, List.getElem_cons_zero, Act.put, List.setIfInBounds_toArray, List.set_cons_zero, List.set_cons_succ]
          refine wpAnyH_done (by kernel_rfl) ?_ _
          have HF := HA
          clear HA
          go_wp2
          refine bodyPost_ret (v := .agg #[.int .i64 m, .slice (some ⟨g2, 0, none⟩) (n + 1) c2]) (by simp [results, Tryd.results88, go_sem, ks0, ks1, hXY, hYX, hgx, hgx.symm]) rfl ?_
          exact XF.ret (by first | exact unhide HF | exact unhide HF.drew) hm0 (Or.inr (by omega)) (by omega) (by omega)
        · go_simp
          obtain ⟨wt, hwt⟩ : ∃ x, x = w6.alloc (.cells #[.bool false, .int .i64 qa, .int .i64 qb] 76) := ⟨_, rfl⟩
          have bt : Below w6.heap.size w6 wt := by rw [hwt]; exact (Below.refl _ _).alloc (Nat.le_refl _) _
          have qT : Gts wt w6.heap.size 0 1 (fun _ => ⟨false, qa, qb⟩) := by
            refine Gts.lone ?_ ?_ ?_ <;> (rw [hwt]; simp [go_sem])
          clear kp0 kp1 kq0 kq1
          have HR := hide ((unhide HR).later bt)
          rw [← hwt]
          clear hwt bt
          have kp0 := (unhide HR).p0
          have kp1 := (unhide HR).p1
          have kq0 := (unhide HR).pf 0
          have kq1 := (unhide HR).pf 1
          refine hK.out _ _ ?_ (fun hHeld => ?_)
          · trivial
          clear hK K
          try simp only [List.getElem_toArray, List.getElem_cons_succ, List.getElem_cons_zero, Act.put, List.setIfInBounds_toArray, List.set_cons_zero, List.set_cons_succ]
          refine wpAnyH_ready (rs := [1]) (by kernel_rfl) (by simp) ?_
          refine AllReadyH.cons rfl (fun K hK => ?_) AllReadyH.nil
          go_simp
          refine hK.out _ _ ?_ (fun hHeld => ?_)
          · trivial
          clear hK K
          try simp only [List.getElem_toArray, List.getElem_cons_succ, List.getElem_cons_zero, Act.put, List.setIfInBounds_toArray, List.set_cons_zero, List.set_cons_succ]
          refine wpAnyH_ready (rs := [8]) (by kernel_rfl) (by simp) ?_
          refine AllReadyH.cons rfl (fun K hK => ?_) AllReadyH.nil
          apply step_gat_one (s := .tmp 26) (x := .tmp 32) (G := G) (q := ⟨false, qa, qb⟩) (base := w.heap.size) (g := g) (cap := cp)
          case hgd => rfl
          case ho => rfl
          case hs => rfl
          case hown => exact (unhide HR).ow
          case hbase => exact Nat.le_trans (unhide HR).mv.size (Nat.le_refl _)
          case hx => rfl
          case hT => exact qT
          case hl => omega
          case' h => intro g2 c2 wa o2 gr2 at2 lt2
          have HA := hide ((unhide HR).app gr2 at2 o2 (snoc_wg (unhide HR).wg ⟨by unfold W64; simp only; omega, by unfold W64; simp only; omega⟩))
          have ka0 := (mov_of_grown gr2).cell kp0 hgx.symm
          have ka1 := (mov_of_grown gr2).cell kp1 hgx.symm
          have kb1 := frozen_mov (mov_of_grown gr2) (World.block_lt_of_cell? _ _ kp1) hgx.symm kq1
          have ks0 := (mov_of_grown gr2).cell (unhide HR).s0 hgy.symm
          have ks1 := (mov_of_grown gr2).cell (unhide HR).s1 hgy.symm
          have kf0 := frozen_mov (mov_of_grown gr2) (World.block_lt_of_cell? _ _ (unhide HR).s0) hgy.symm ((unhide HR).sf 0)
          have kf1 := frozen_mov (mov_of_grown gr2) (World.block_lt_of_cell? _ _ (unhide HR).s0) hgy.symm ((unhide HR).sf 1)
          clear kp0 kp1 kq0 kq1 o2 gr2 at2 lt2 qT
          refine hK.out _ _ ?_ (fun hHeld => ?_)
          · trivial
          clear hK K
          try simp only [List.getElem_toArray, List.getElem_cons_succ, List.getElem_cons_zero, Act.put, List.setIfInBounds_toArray, List.set_cons_zero, List.set_cons_succ]
          refine wpAnyH_take (i := 9) (v := ?_) rfl (by kernel_rfl) (by kernel_rfl) (by kernel_rfl) (fun _ _ _ h => h) (Or.inl ⟨by rfl, ?_⟩) (by assumption) ?_
          rotate_left
          · (intro w hSw; (try dsimp only at hSw); first | (go_simp; done) | (go_simp; with_reducible rfl))
          try simp only [List.getElem_toArray, List.getElem_cons_succ, List.getElem_cons_zero, Act.put, List.setIfInBounds_toArray, List.set_cons_zero, List.set_cons_succ]
          refine wpAnyH_ready (rs := [10]) (by kernel_rfl) (by simp) ?_
          refine AllReadyH.cons rfl (fun K hK => ?_) AllReadyH.nil
          go_simp
          refine hK.out _ _ ?_ (fun hHeld => ?_)
          · trivial
          clear hK K
          try simp only [List.getElem_toArray, List.getElem_cons_succ, List.getElem_cons_zero, Act.put, List.setIfInBounds_toArray, List.set_cons_zero, List.set_cons_succ]
          refine wpAnyH_done (by kernel_rfl) ?_ _
          have HF := HA
          clear HA
          go_wp2
          refine bodyPost_ret (v := .agg #[.int .i64 m, .slice (some ⟨g2, 0, none⟩) (n + 1) c2]) (by simp [results, Tryd.results88, go_sem, ks0, ks1, hXY, hYX, hgx, hgx.symm]) rfl ?_
          exact XF.ret (by first | exact unhide HF | exact unhide HF.drew) hm0 (Or.inr (by omega)) (by omega) (by omega)
  have k1 : (q == 1) = false := by simp [c1]
  by_cases c2 : q = 2
  · subst c2
    by_cases hn0 : 0 < n
    · have hnb : decide ((n : Int) > 0) = true := by simp; omega
      have kp0 := (unhide HR).p0
      have kp1 := (unhide HR).p1
      have kq0 := (unhide HR).pf 0
      have kq1 := (unhide HR).pf 1
      go_wp2
      refine wp_region_held_drew (S := fun w' => w'.cell? ⟨X, 0, none⟩ = some (.int .i64 m) ∧ w'.cell? ⟨X, 1, none⟩ = some (.slice (some ⟨g, 0, none⟩) n cp)) (by kernel_rfl) ?_ (fun hHeld => ?_)
      · exact ⟨kp0, kp1⟩
      obtain ⟨wd, hwd⟩ : ∃ x, x = w2.drew := ⟨_, rfl⟩
      have HR := hide ((unhide HR).drew)
      rw [← hwd] at HR ⊢
      (try rw [← hwd] at hHeld)
      clear hwd
      have kp0 := (unhide HR).p0
      have kp1 := (unhide HR).p1
      have kq0 := (unhide HR).pf 0
      have kq1 := (unhide HR).pf 1
      refine wpAnyH_take (i := 0) (v := ?_) rfl (by kernel_rfl) (by kernel_rfl) (by kernel_rfl) (fun _ _ _ h => h) (Or.inl ⟨by rfl, ?_⟩) (by assumption) ?_
      rotate_left
      · (intro w hSw; (try dsimp only at hSw); first | (go_simp; done) | (go_simp; with_reducible rfl))
      try simp only [List.getElem_toArray, List.getElem_cons_succ, List.getElem_cons_zero, Act.put, List.setIfInBounds_toArray, List.set_cons_zero, List.set_cons_succ]
      refine wpAnyH_take (i := 1) (v := ?_) rfl (by kernel_rfl) (by kernel_rfl) (by kernel_rfl) (fun _ _ _ h => h) (Or.inl ⟨by rfl, ?_⟩) (by assumption) ?_
      rotate_left
      · (intro w hSw; (try dsimp only at hSw); first | (go_simp; done) | (go_simp; with_reducible rfl))
      try simp only [List.getElem_toArray, List.getElem_cons_succ, List.getElem_cons_zero, Act.put, List.setIfInBounds_toArray, List.set_cons_zero, List.set_cons_succ]
      refine wpAnyH_take (i := 2) (v := ?_) rfl (by kernel_rfl) (by kernel_rfl) (by kernel_rfl) (fun _ _ _ h => h) (Or.inl ⟨by rfl, ?_⟩) (by assumption) ?_
      rotate_left
      · (intro w hSw; (try dsimp only at hSw); first | (go_simp; done) | (go_simp; with_reducible rfl))
      try simp only [List.getElem_toArray, List.getElem_cons_succ, List.getElem_cons_zero, Act.put, List.setIfInBounds_toArray, List.set_cons_zero, List.set_cons_succ]
      refine wpAnyH_take (i := 3) (v := ?_) rfl (by kernel_rfl) (by kernel_rfl) (by kernel_rfl) (fun _ _ _ h => h) (Or.inl ⟨by rfl, ?_⟩) (by assumption) ?_
      rotate_left
      · (intro w hSw; (try dsimp only at hSw); first | (go_simp; done) | (go_simp; with_reducible rfl))
      try simp only [List.getElem_toArray, List.getElem_cons_succ, List.getElem_cons_zero, Act.put, List.setIfInBounds_toArray, List.set_cons_zero, List.set_cons_succ]
      refine wpAnyH_take (i := 5) (v := ?_) rfl (by kernel_rfl) (by kernel_rfl) (by kernel_rfl) (fun _ _ _ h => h) (Or.inl ⟨by rfl, ?_⟩) (by assumption) ?_
      rotate_left
      · (intro w hSw; (try dsimp only at hSw); first | (go_simp; done) | (go_simp; with_reducible rfl))
      try simp only [List.getElem_toArray, List.getElem_cons_succ, List.getElem_cons_zero, Act.put, List.setIfInBounds_toArray, List.set_cons_zero, List.set_cons_succ]
      refine wpAnyH_ready (rs := [4, 6]) (by kernel_rfl) (by simp) ?_
      refine AllReadyH.cons rfl (fun K hK => ?_) (AllReadyH.cons rfl (fun K hK => ?_) AllReadyH.nil)
      · go_simp
        refine (pick_any R _ n _ (unhide HR).rd (by omega) (by omega) (by omega)).mono ?_
        rintro e w5 ⟨qi', rfl, qi0, qi1, R5, M5⟩
        obtain ⟨qi, rfl⟩ := Int.eq_ofNat_of_zero_le qi0
        have qn : qi < n := by omega
        clear kp0 kp1 kq0 kq1
        have HR := hide ((unhide HR).mov M5 R5)
        clear M5 R5
        have kp0 := (unhide HR).p0
        have kp1 := (unhide HR).p1
        have kq0 := (unhide HR).pf 0
        have kq1 := (unhide HR).pf 1
        go_wp2_with fail
        refine hK.out _ _ ?_ (fun hHeld => ?_)
        · exact ⟨kp0, kp1⟩
        clear hK K
        try simp only [List.getElem_toArray, List.getElem_cons_succ, List.getElem_cons_zero, Act.put, List.setIfInBounds_toArray, List.set_cons_zero, List.set_cons_succ]
        refine wpAnyH_ready (rs := [6]) (by kernel_rfl) (by simp) ?_
        refine AllReadyH.cons rfl (fun K hK => ?_) AllReadyH.nil
        go_simp
        obtain ⟨wt, hwt⟩ : ∃ x, x = w5.alloc (.cells #[.int .i64 (0), .int .i64 (1), .int .i64 (-1), .int .i64 (50), .int .i64 (-9223372036854775808)] 3) := ⟨_, rfl⟩
        have bt : Below w5.heap.size w5 wt := by rw [hwt]; exact (Below.refl _ _).alloc (Nat.le_refl _) _
        have zt : ∀ i, i < 5 → wt.cell? ⟨w5.heap.size, i, none⟩ = some (.int .i64 (([0, 1, -1, 50, -9223372036854775808] : List Int).getD i 0)) := fun i hi => by rw [hwt]; exact rowN w5 [0, 1, -1, 50, -9223372036854775808] 3 i hi
        have zn : w5.heap.size ≠ R := by have := (unhide HR).rd.lt; omega
        clear kp0 kp1 kq0 kq1
        have HR := hide ((unhide HR).later bt)
        rw [← hwt]
        obtain ⟨ZT, hZT⟩ : ∃ z, z = w5.heap.size := ⟨_, rfl⟩
        rw [← hZT] at zt zn ⊢
        clear hwt bt hZT
        have kp0 := (unhide HR).p0
        have kp1 := (unhide HR).p1
        have kq0 := (unhide HR).pf 0
        have kq1 := (unhide HR).pf 1
        refine hK.out _ _ ?_ (fun hHeld => ?_)
        · exact ⟨kp0, kp1⟩
        clear hK K
        try simp only [List.getElem_toArray, List.getElem_cons_succ, List.getElem_cons_zero, Act.put, List.setIfInBounds_toArray, List.set_cons_zero, List.set_cons_succ]
        refine wpAnyH_ready (rs := [7]) (by kernel_rfl) (by simp) ?_
        refine AllReadyH.cons rfl (fun K hK => ?_) AllReadyH.nil
        go_simp
        refine (num_any R _ ZT 5 [0, 1, -1, 50, -9223372036854775808] _ rfl (unhide HR).rd (by omega) zn (by omega) (by omega) zt).mono ?_
        rintro e w7 ⟨j7, hj7, rfl, R7, M7⟩
        have hz : W64 (([0, 1, -1, 50, -9223372036854775808] : List Int).getD j7 0) := by
          have : j7 = 0 ∨ j7 = 1 ∨ j7 = 2 ∨ j7 = 3 ∨ j7 = 4 := by omega
          rcases this with rfl | rfl | rfl | rfl | rfl <;> (simp only [List.getD_cons_zero, List.getD_cons_succ]; first | omega | (unfold W64; omega))
        generalize ([0, 1, -1, 50, -9223372036854775808] : List Int).getD j7 0 = z at *
        clear kp0 kp1 kq0 kq1
        have HR := hide ((unhide HR).mov M7 R7)
        clear M7 R7 zt zn
        have kp0 := (unhide HR).p0
        have kp1 := (unhide HR).p1
        have kq0 := (unhide HR).pf 0
        have kq1 := (unhide HR).pf 1
        go_wp2_with fail
        refine hK.out _ _ ?_ (fun hHeld => ?_)
        · exact ⟨kp0, kp1⟩
        clear hK K
        try simp only [List.getElem_toArray, List.getElem_cons_succ, List.getElem_cons_zero, Act.put, List.setIfInBounds_toArray, List.set_cons_zero, List.set_cons_succ]
        refine wpAnyH_take (i := 8) (v := ?_) rfl (by kernel_rfl) (by kernel_rfl) (by kernel_rfl) (fun _ _ _ h => h) (Or.inl ⟨by rfl, ?_⟩) (by assumption) ?_
        rotate_left
        · (intro w hSw; (try dsimp only at hSw); first | (go_simp; done) | (go_simp; with_reducible rfl))
        try simp only [List.getElem_toArray, List.getElem_cons_succ, List.getElem_cons_zero, Act.put, List.setIfInBounds_toArray, List.set_cons_zero, List.set_cons_succ]
        refine wpAnyH_take (i := 9) (v := ?_) rfl (by kernel_rfl) (by kernel_rfl) (by kernel_rfl) (fun _ _ _ h => h) (Or.inl ⟨by rfl, ?_⟩) (by assumption) ?_
        rotate_left
        · (intro w hSw; (try dsimp only at hSw); first | (go_simp; done) | (go_simp; with_reducible rfl))
        try simp only [List.getElem_toArray, List.getElem_cons_succ, List.getElem_cons_zero, Act.put, List.setIfInBounds_toArray, List.set_cons_zero, List.set_cons_succ]
        refine wpAnyH_ready (rs := [10]) (by kernel_rfl) (by simp) ?_
        refine AllReadyH.cons rfl (fun K hK => ?_) AllReadyH.nil
        obtain ⟨dg0, dg1, dg2⟩ := own_gts (unhide HR).ow qi qn
        rw [Nat.zero_add] at dg0 dg1 dg2
        have kg := fun o => own_froz (unhide HR).ow o
        have kg0 := kg (qi * 3)
        have kg1 := kg (qi * 3 + 1)
        have kg2 := kg (qi * 3 + 2)
        clear kg
        go_simp
        refine hK.out _ _ ?_ (fun hHeld => ?_)
        · exact ⟨by rw [World.cell?_setCell_other _ _ _ _ (by simp <;> omega)]; exact kp0, by rw [World.cell?_setCell_other _ _ _ _ (by simp <;> omega)]; exact kp1⟩
        clear hK K
        try simp only [List.getElem_toArray, List.getElem_cons_succ, List.getElem_cons_zero, Act.put, List.setIfInBounds_toArray, List.set_cons_zero, List.set_cons_succ]
        refine wpAnyH_done (by kernel_rfl) ?_ _
        have HF := hide ((unhide HR).fin.row (Gts.setA (own_gts (unhide HR).ow) qn z) (upA_wg (unhide HR).wg hz))
        clear dg0 dg1 dg2 kg0 kg1 kg2
        have ks0 := (unhide HR).s0
        have ks1 := (unhide HR).s1
        have kf0 := (unhide HR).sf 0
        have kf1 := (unhide HR).sf 1
        go_wp2
        refine bodyPost_ret (v := .agg #[.int .i64 m, .slice (some ⟨g, 0, none⟩) n cp]) (by simp [results, Tryd.results88, go_sem, ks0, ks1, hXY, hYX, hgx, hgx.symm]) rfl ?_
        exact XF.ret (by first | exact unhide HF | exact unhide HF.drew) hm0 (Or.inr (by omega)) (by omega) (by omega)
      · go_simp
        obtain ⟨wt, hwt⟩ : ∃ x, x = wd.alloc (.cells #[.int .i64 (0), .int .i64 (1), .int .i64 (-1), .int .i64 (50), .int .i64 (-9223372036854775808)] 3) := ⟨_, rfl⟩
        have bt : Below wd.heap.size wd wt := by rw [hwt]; exact (Below.refl _ _).alloc (Nat.le_refl _) _
        have zt : ∀ i, i < 5 → wt.cell? ⟨wd.heap.size, i, none⟩ = some (.int .i64 (([0, 1, -1, 50, -9223372036854775808] : List Int).getD i 0)) := fun i hi => by rw [hwt]; exact rowN wd [0, 1, -1, 50, -9223372036854775808] 3 i hi
        have zn : wd.heap.size ≠ R := by have := (unhide HR).rd.lt; omega
        clear kp0 kp1 kq0 kq1
        have HR := hide ((unhide HR).later bt)
        rw [← hwt]
        obtain ⟨ZT, hZT⟩ : ∃ z, z = wd.heap.size := ⟨_, rfl⟩
        rw [← hZT] at zt zn ⊢
        clear hwt bt hZT
        have kp0 := (unhide HR).p0
        have kp1 := (unhide HR).p1
        have kq0 := (unhide HR).pf 0
        have kq1 := (unhide HR).pf 1
        refine hK.out _ _ ?_ (fun hHeld => ?_)
        · exact ⟨kp0, kp1⟩
        clear hK K
        try simp only [List.getElem_toArray, List.getElem_cons_succ, List.getElem_cons_zero, Act.put, List.setIfInBounds_toArray, List.set_cons_zero, List.set_cons_succ]
        refine wpAnyH_ready (rs := [4]) (by kernel_rfl) (by simp) ?_
        refine AllReadyH.cons rfl (fun K hK => ?_) AllReadyH.nil
        go_simp
        refine (pick_any R _ n _ (unhide HR).rd (by omega) (by omega) (by omega)).mono ?_
        rintro e w5 ⟨qi', rfl, qi0, qi1, R5, M5⟩
        obtain ⟨qi, rfl⟩ := Int.eq_ofNat_of_zero_le qi0
        have qn : qi < n := by omega
        clear kp0 kp1 kq0 kq1
        have HR := hide ((unhide HR).mov M5 R5)
        have zt := fun i hi => M5.cell (zt i hi) zn
        clear M5 R5
        have kp0 := (unhide HR).p0
        have kp1 := (unhide HR).p1
        have kq0 := (unhide HR).pf 0
        have kq1 := (unhide HR).pf 1
        go_wp2_with fail
        refine hK.out _ _ ?_ (fun hHeld => ?_)
        · exact ⟨kp0, kp1⟩
        clear hK K
        try simp only [List.getElem_toArray, List.getElem_cons_succ, List.getElem_cons_zero, Act.put, List.setIfInBounds_toArray, List.set_cons_zero, List.set_cons_succ]
        refine wpAnyH_ready (rs := [7]) (by kernel_rfl) (by simp) ?_
        refine AllReadyH.cons rfl (fun K hK => ?_) AllReadyH.nil
        go_simp
        refine (num_any R _ ZT 5 [0, 1, -1, 50, -9223372036854775808] _ rfl (unhide HR).rd (by omega) zn (by omega) (by omega) zt).mono ?_
        rintro e w7 ⟨j7, hj7, rfl, R7, M7⟩
        have hz : W64 (([0, 1, -1, 50, -9223372036854775808] : List Int).getD j7 0) := by
          have : j7 = 0 ∨ j7 = 1 ∨ j7 = 2 ∨ j7 = 3 ∨ j7 = 4 := by omega
          rcases this with rfl | rfl | rfl | rfl | rfl <;> (simp only [List.getD_cons_zero, List.getD_cons_succ]; first | omega | (unfold W64; omega))
        generalize ([0, 1, -1, 50, -9223372036854775808] : List Int).getD j7 0 = z at *
        clear kp0 kp1 kq0 kq1
        have HR := hide ((unhide HR).mov M7 R7)
        clear M7 R7 zt zn
        have kp0 := (unhide HR).p0
        have kp1 := (unhide HR).p1
        have kq0 := (unhide HR).pf 0
        have kq1 := (unhide HR).pf 1
        go_wp2_with fail
        refine hK.out _ _ ?_ (fun hHeld => ?_)
        · exact ⟨kp0, kp1⟩
        clear hK K
        try simp only [List.getElem_toArray, List.getElem_cons_succ, List.getElem_cons_zero, Act.put, List.setIfInBounds_toArray, List.set_cons_zero, List.set_cons_succ]
        refine wpAnyH_take (i := 8) (v := ?_) rfl (by kernel_rfl) (by kernel_rfl) (by kernel_rfl) (fun _ _ _ h => h) (Or.inl ⟨by rfl, ?_⟩) (by assumption) ?_
        rotate_left
        · (intro w hSw; (try dsimp only at hSw); first | (go_simp; done) | (go_simp; with_reducible rfl))
        try simp only [List.getElem_toArray, List.getElem_cons_succ, List.getElem_cons_zero, Act.put, List.setIfInBounds_toArray, List.set_cons_zero, List.set_cons_succ]
        refine wpAnyH_take (i := 9) (v := ?_) rfl (by kernel_rfl) (by kernel_rfl) (by kernel_rfl) (fun _ _ _ h => h) (Or.inl ⟨by rfl, ?_⟩) (by assumption) ?_
        rotate_left
        · (intro w hSw; (try dsimp only at hSw); first | (go_simp; done) | (go_simp; with_reducible rfl))
        try simp only [List.getElem_toArray, List.getElem_cons_succ, List.getElem_cons_zero, Act.put, List.setIfInBounds_toArray, List.set_cons_zero, List.set_cons_succ]
        refine wpAnyH_ready (rs := [10]) (by kernel_rfl) (by simp) ?_
        refine AllReadyH.cons rfl (fun K hK => ?_) AllReadyH.nil
        obtain ⟨dg0, dg1, dg2⟩ := own_gts (unhide HR).ow qi qn
        rw [Nat.zero_add] at dg0 dg1 dg2
        have kg := fun o => own_froz (unhide HR).ow o
        have kg0 := kg (qi * 3)
        have kg1 := kg (qi * 3 + 1)
        have kg2 := kg (qi * 3 + 2)
        clear kg
        go_simp
        refine hK.out _ _ ?_ (fun hHeld => ?_)
        · exact ⟨by rw [World.cell?_setCell_other _ _ _ _ (by simp <;> omega)]; exact kp0, by rw [World.cell?_setCell_other _ _ _ _ (by simp <;> omega)]; exact kp1⟩
        clear hK K
        try simp only [List.getElem_toArray, List.getElem_cons_succ, List.getElem_cons_zero, Act.put, List.setIfInBounds_toArray, List.set_cons_zero, List.set_cons_succ]
        refine wpAnyH_done (by kernel_rfl) ?_ _
        have HF := hide ((unhide HR).fin.row (Gts.setA (own_gts (unhide HR).ow) qn z) (upA_wg (unhide HR).wg hz))
        clear dg0 dg1 dg2 kg0 kg1 kg2
        have ks0 := (unhide HR).s0
        have ks1 := (unhide HR).s1
        have kf0 := (unhide HR).sf 0
        have kf1 := (unhide HR).sf 1
        go_wp2
        refine bodyPost_ret (v := .agg #[.int .i64 m, .slice (some ⟨g, 0, none⟩) n cp]) (by simp [results, Tryd.results88, go_sem, ks0, ks1, hXY, hYX, hgx, hgx.symm]) rfl ?_
        exact XF.ret (by first | exact unhide HF | exact unhide HF.drew) hm0 (Or.inr (by omega)) (by omega) (by omega)
    · have hnb : decide ((n : Int) > 0) = false := by simp; omega
      have HF := hide (unhide HR).fin
      have kp0 := (unhide HR).p0
      have kp1 := (unhide HR).p1
      have kq0 := (unhide HR).pf 0
      have kq1 := (unhide HR).pf 1
      have ks0 := (unhide HR).s0
      have ks1 := (unhide HR).s1
      have kf0 := (unhide HR).sf 0
      have kf1 := (unhide HR).sf 1
      go_wp2
      refine bodyPost_ret (v := .agg #[.int .i64 m, .slice (some ⟨g, 0, none⟩) n cp]) (by simp [results, Tryd.results88, go_sem, ks0, ks1, hXY, hYX, hgx, hgx.symm]) rfl ?_
      exact XF.ret (by first | exact unhide HF | exact unhide HF.drew) hm0 (Or.inr (by omega)) (by omega) (by omega)
  have k2 : (q == 2) = false := by simp [c2]
  by_cases c3 : q = 3
  · subst c3
    by_cases hn0 : 0 < n
    · have hnb : decide ((n : Int) > 0) = true := by simp; omega
      obtain ⟨qi, hqi⟩ : ∃ qi, n = qi + 1 := ⟨n - 1, by omega⟩
      have qn : qi < n := by omega
      have hki : (n : Int) - 1 = (qi : Int) := by omega
      clear hqi
      have hwi : IntKind.i64.wrap (qi : Int) = (qi : Int) := by rw [IntKind.wrap_i64]; omega
      have hw2 : IntKind.i64.wrap (2 + m) = 2 + m := by rw [IntKind.wrap_i64]; omega
      have hw3 : IntKind.i64.wrap (2 + m + (n : Int)) = 2 + m + (n : Int) := by rw [IntKind.wrap_i64]; omega
      have kp0 := (unhide HR).p0
      have kp1 := (unhide HR).p1
      have kq0 := (unhide HR).pf 0
      have kq1 := (unhide HR).pf 1
      go_wp2
      refine wp_region_held_drew (S := fun w' => w'.cell? ⟨X, 0, none⟩ = some (.int .i64 m) ∧ w'.cell? ⟨X, 1, none⟩ = some (.slice (some ⟨g, 0, none⟩) n cp)) (by kernel_rfl) ?_ (fun hHeld => ?_)
      · exact ⟨kp0, kp1⟩
      obtain ⟨wd, hwd⟩ : ∃ x, x = w2.drew := ⟨_, rfl⟩
      have HR := hide ((unhide HR).drew)
      rw [← hwd] at HR ⊢
      (try rw [← hwd] at hHeld)
      clear hwd
      have kp0 := (unhide HR).p0
      have kp1 := (unhide HR).p1
      have kq0 := (unhide HR).pf 0
      have kq1 := (unhide HR).pf 1
      refine wpAnyH_take (i := 0) (v := ?_) rfl (by kernel_rfl) (by kernel_rfl) (by kernel_rfl) (fun _ _ _ h => h) (Or.inl ⟨by rfl, ?_⟩) (by assumption) ?_
      rotate_left
      · (intro w hSw; (try dsimp only at hSw); first | (go_simp; done) | (go_simp; with_reducible rfl))
      try simp only [List.getElem_toArray, List.getElem_cons_succ, List.getElem_cons_zero, Act.put, List.setIfInBounds_toArray, List.set_cons_zero, List.set_cons_succ]
      refine wpAnyH_take (i := 1) (v := ?_) rfl (by kernel_rfl) (by kernel_rfl) (by kernel_rfl) (fun _ _ _ h => h) (Or.inl ⟨by rfl, ?_⟩) (by assumption) ?_
      rotate_left
      · (intro w hSw; (try dsimp only at hSw); first | (go_simp; done) | (go_simp; with_reducible rfl))
      try simp only [List.getElem_toArray, List.getElem_cons_succ, List.getElem_cons_zero, Act.put, List.setIfInBounds_toArray, List.set_cons_zero, List.set_cons_succ]
      refine wpAnyH_take (i := 2) (v := ?_) rfl (by kernel_rfl) (by kernel_rfl) (by kernel_rfl) (fun _ _ _ h => h) (Or.inl ⟨by rfl, ?_⟩) (by assumption) ?_
      rotate_left
      · (intro w hSw; (try dsimp only at hSw); first | (go_simp; done) | (go_simp; with_reducible rfl))
      try simp only [List.getElem_toArray, List.getElem_cons_succ, List.getElem_cons_zero, Act.put, List.setIfInBounds_toArray, List.set_cons_zero, List.set_cons_succ]
      refine wpAnyH_take (i := 3) (v := ?_) rfl (by kernel_rfl) (by kernel_rfl) (by kernel_rfl) (fun _ _ _ h => h) (Or.inl ⟨by rfl, ?_⟩) (by assumption) ?_
      rotate_left
      · (intro w hSw; (try dsimp only at hSw); first | (go_simp; done) | (go_simp; with_reducible rfl))
      try simp only [List.getElem_toArray, List.getElem_cons_succ, List.getElem_cons_zero, Act.put, List.setIfInBounds_toArray, List.set_cons_zero, List.set_cons_succ]
      (try simp only [hki, hwi])
      refine wpAnyH_take (i := 4) (v := ?_) rfl (by kernel_rfl) (by kernel_rfl) (by kernel_rfl) (fun _ _ _ h => h) (Or.inl ⟨by rfl, ?_⟩) (by assumption) ?_
      rotate_left
      · (intro w hSw; (try dsimp only at hSw); first | (go_simp; done) | (go_simp; with_reducible rfl))
      try simp only [List.getElem_toArray, List.getElem_cons_succ, List.getElem_cons_zero, Act.put, List.setIfInBounds_toArray, List.set_cons_zero, List.set_cons_succ]
      refine wpAnyH_take (i := 5) (v := ?_) rfl (by kernel_rfl) (by kernel_rfl) (by kernel_rfl) (fun _ _ _ h => h) (Or.inl ⟨by rfl, ?_⟩) (by assumption) ?_
      rotate_left
      · (intro w hSw; (try dsimp only at hSw); first | (go_simp; done) | (go_simp; with_reducible rfl))
      try simp only [List.getElem_toArray, List.getElem_cons_succ, List.getElem_cons_zero, Act.put, List.setIfInBounds_toArray, List.set_cons_zero, List.set_cons_succ]
      refine wpAnyH_take (i := 6) (v := ?_) rfl (by kernel_rfl) (by kernel_rfl) (by kernel_rfl) (fun _ _ _ h => h) (Or.inl ⟨by rfl, ?_⟩) (by assumption) ?_
      rotate_left
      · (intro w hSw; (try dsimp only at hSw); first | (go_simp; done) | (go_simp; with_reducible rfl))
      try simp only [List.getElem_toArray, List.getElem_cons_succ, List.getElem_cons_zero, Act.put, List.setIfInBounds_toArray, List.set_cons_zero, List.set_cons_succ]
      refine wpAnyH_take (i := 7) (v := ?_) rfl (by kernel_rfl) (by kernel_rfl) (by kernel_rfl) (fun _ _ _ h => h) (Or.inl ⟨by rfl, ?_⟩) (by assumption) ?_
      rotate_left
      · (intro w hSw; (try dsimp only at hSw); first | (go_simp; done) | (go_simp; with_reducible rfl))
      try simp only [List.getElem_toArray, List.getElem_cons_succ, List.getElem_cons_zero, Act.put, List.setIfInBounds_toArray, List.set_cons_zero, List.set_cons_succ]
      (try simp only [hw2])
      refine wpAnyH_take (i := 8) (v := ?_) rfl (by kernel_rfl) (by kernel_rfl) (by kernel_rfl) (fun _ _ _ h => h) (Or.inl ⟨by rfl, ?_⟩) (by assumption) ?_
      rotate_left
      · (intro w hSw; (try dsimp only at hSw); first | (go_simp; done) | (go_simp; with_reducible rfl))
      try simp only [List.getElem_toArray, List.getElem_cons_succ, List.getElem_cons_zero, Act.put, List.setIfInBounds_toArray, List.set_cons_zero, List.set_cons_succ]
      refine wpAnyH_take (i := 9) (v := ?_) rfl (by kernel_rfl) (by kernel_rfl) (by kernel_rfl) (fun _ _ _ h => h) (Or.inl ⟨by rfl, ?_⟩) (by assumption) ?_
      rotate_left
      · (intro w hSw; (try dsimp only at hSw); first | (go_simp; done) | (go_simp; with_reducible rfl))
      try simp only [List.getElem_toArray, List.getElem_cons_succ, List.getElem_cons_zero, Act.put, List.setIfInBounds_toArray, List.set_cons_zero, List.set_cons_succ]
      (try simp only [hw3])
      refine wpAnyH_ready (rs := [10]) (by kernel_rfl) (by simp) ?_
      refine AllReadyH.cons rfl (fun K hK => ?_) AllReadyH.nil
      go_simp
      obtain ⟨wt, hwt⟩ : ∃ x, x = wd.alloc (.cells #[.int .i64 (0), .int .i64 (2 + m + n), .int .i64 (-2), .int .i64 (9223372036854775807)] 3) := ⟨_, rfl⟩
      have bt : Below wd.heap.size wd wt := by rw [hwt]; exact (Below.refl _ _).alloc (Nat.le_refl _) _
      have zt : ∀ i, i < 4 → wt.cell? ⟨wd.heap.size, i, none⟩ = some (.int .i64 (([0, 2 + m + n, -2, 9223372036854775807] : List Int).getD i 0)) := fun i hi => by rw [hwt]; exact rowN wd [0, 2 + m + n, -2, 9223372036854775807] 3 i hi
      have zn : wd.heap.size ≠ R := by have := (unhide HR).rd.lt; omega
      clear kp0 kp1 kq0 kq1
      have HR := hide ((unhide HR).later bt)
      rw [← hwt]
      obtain ⟨ZT, hZT⟩ : ∃ z, z = wd.heap.size := ⟨_, rfl⟩
      rw [← hZT] at zt zn ⊢
      clear hwt bt hZT
      have kp0 := (unhide HR).p0
      have kp1 := (unhide HR).p1
      have kq0 := (unhide HR).pf 0
      have kq1 := (unhide HR).pf 1
      refine hK.out _ _ ?_ (fun hHeld => ?_)
      · exact ⟨kp0, kp1⟩
      clear hK K
      try simp only [List.getElem_toArray, List.getElem_cons_succ, List.getElem_cons_zero, Act.put, List.setIfInBounds_toArray, List.set_cons_zero, List.set_cons_succ]
      refine wpAnyH_ready (rs := [11]) (by kernel_rfl) (by simp) ?_
      refine AllReadyH.cons rfl (fun K hK => ?_) AllReadyH.nil
      go_simp
      refine (num_any R _ ZT 4 [0, 2 + m + n, -2, 9223372036854775807] _ rfl (unhide HR).rd (by omega) zn (by omega) (by omega) zt).mono ?_
      rintro e w7 ⟨j7, hj7, rfl, R7, M7⟩
      have hz : W64 (([0, 2 + m + n, -2, 9223372036854775807] : List Int).getD j7 0) := by
        have : j7 = 0 ∨ j7 = 1 ∨ j7 = 2 ∨ j7 = 3 := by omega
        rcases this with rfl | rfl | rfl | rfl <;> (simp only [List.getD_cons_zero, List.getD_cons_succ]; first | omega | (unfold W64; omega))
      generalize ([0, 2 + m + n, -2, 9223372036854775807] : List Int).getD j7 0 = z at *
      clear kp0 kp1 kq0 kq1
      have HR := hide ((unhide HR).mov M7 R7)
      clear M7 R7 zt zn
      have kp0 := (unhide HR).p0
      have kp1 := (unhide HR).p1
      have kq0 := (unhide HR).pf 0
      have kq1 := (unhide HR).pf 1
      go_wp2_with fail
      refine hK.out _ _ ?_ (fun hHeld => ?_)
      · exact ⟨kp0, kp1⟩
      clear hK K
      try simp only [List.getElem_toArray, List.getElem_cons_succ, List.getElem_cons_zero, Act.put, List.setIfInBounds_toArray, List.set_cons_zero, List.set_cons_succ]
      refine wpAnyH_take (i := 12) (v := ?_) rfl (by kernel_rfl) (by kernel_rfl) (by kernel_rfl) (fun _ _ _ h => h) (Or.inl ⟨by rfl, ?_⟩) (by assumption) ?_
      rotate_left
      · (intro w hSw; (try dsimp only at hSw); first | (go_simp; done) | (go_simp; with_reducible rfl))
      try simp only [List.getElem_toArray, List.getElem_cons_succ, List.getElem_cons_zero, Act.put, List.setIfInBounds_toArray, List.set_cons_zero, List.set_cons_succ]
      refine wpAnyH_take (i := 13) (v := ?_) rfl (by kernel_rfl) (by kernel_rfl) (by kernel_rfl) (fun _ _ _ h => h) (Or.inl ⟨by rfl, ?_⟩) (by assumption) ?_
      rotate_left
      · (intro w hSw; (try dsimp only at hSw); first | (go_simp; done) | (go_simp; with_reducible rfl))
      try simp only [List.getElem_toArray, List.getElem_cons_succ, List.getElem_cons_zero, Act.put, List.setIfInBounds_toArray, List.set_cons_zero, List.set_cons_succ]
      refine wpAnyH_ready (rs := [14]) (by kernel_rfl) (by simp) ?_
      refine AllReadyH.cons rfl (fun K hK => ?_) AllReadyH.nil
      obtain ⟨dg0, dg1, dg2⟩ := own_gts (unhide HR).ow qi qn
      rw [Nat.zero_add] at dg0 dg1 dg2
      have kg := fun o => own_froz (unhide HR).ow o
      have kg0 := kg (qi * 3)
      have kg1 := kg (qi * 3 + 1)
      have kg2 := kg (qi * 3 + 2)
      clear kg
      go_simp
      refine hK.out _ _ ?_ (fun hHeld => ?_)
      · exact ⟨by rw [World.cell?_setCell_other _ _ _ _ (by simp <;> omega)]; exact kp0, by rw [World.cell?_setCell_other _ _ _ _ (by simp <;> omega)]; exact kp1⟩
      clear hK K
      try simp only [List.getElem_toArray, List.getElem_cons_succ, List.getElem_cons_zero, Act.put, List.setIfInBounds_toArray, List.set_cons_zero, List.set_cons_succ]
      refine wpAnyH_done (by kernel_rfl) ?_ _
      have HF := hide ((unhide HR).fin.row (Gts.setB (own_gts (unhide HR).ow) qn z) (upB_wg (unhide HR).wg hz))
      clear dg0 dg1 dg2 kg0 kg1 kg2
      have ks0 := (unhide HR).s0
      have ks1 := (unhide HR).s1
      have kf0 := (unhide HR).sf 0
      have kf1 := (unhide HR).sf 1
      go_wp2
      refine bodyPost_ret (v := .agg #[.int .i64 m, .slice (some ⟨g, 0, none⟩) n cp]) (by simp [results, Tryd.results88, go_sem, ks0, ks1, hXY, hYX, hgx, hgx.symm]) rfl ?_
      exact XF.ret (by first | exact unhide HF | exact unhide HF.drew) hm0 (Or.inr (by omega)) (by omega) (by omega)
    · have hnb : decide ((n : Int) > 0) = false := by simp; omega
      have HF := hide (unhide HR).fin
      have kp0 := (unhide HR).p0
      have kp1 := (unhide HR).p1
      have kq0 := (unhide HR).pf 0
      have kq1 := (unhide HR).pf 1
      have ks0 := (unhide HR).s0
      have ks1 := (unhide HR).s1
      have kf0 := (unhide HR).sf 0
      have kf1 := (unhide HR).sf 1
      go_wp2
      refine bodyPost_ret (v := .agg #[.int .i64 m, .slice (some ⟨g, 0, none⟩) n cp]) (by simp [results, Tryd.results88, go_sem, ks0, ks1, hXY, hYX, hgx, hgx.symm]) rfl ?_
      exact XF.ret (by first | exact unhide HF | exact unhide HF.drew) hm0 (Or.inr (by omega)) (by omega) (by omega)
  have k3 : (q == 3) = false := by simp [c3]
  by_cases c4 : q = 4
  · subst c4
    by_cases hn0 : 0 < n
    · have hnb : decide ((n : Int) > 0) = true := by simp; omega
      have kp0 := (unhide HR).p0
      have kp1 := (unhide HR).p1
      have kq0 := (unhide HR).pf 0
      have kq1 := (unhide HR).pf 1
      go_wp2
      refine wp_region_held_drew (S := fun _ => True) (by kernel_rfl) ?_ (fun hHeld => ?_)
      · trivial
      obtain ⟨wd, hwd⟩ : ∃ x, x = w2.drew := ⟨_, rfl⟩
      have HR := hide ((unhide HR).drew)
      rw [← hwd] at HR ⊢
      (try rw [← hwd] at hHeld)
      clear hwd
      have kp0 := (unhide HR).p0
      have kp1 := (unhide HR).p1
      have kq0 := (unhide HR).pf 0
      have kq1 := (unhide HR).pf 1
      refine wpAnyH_take (i := 0) (v := ?_) rfl (by kernel_rfl) (by kernel_rfl) (by kernel_rfl) (fun _ _ _ h => h) (Or.inl ⟨by rfl, ?_⟩) (by assumption) ?_
      rotate_left
      · (intro w hSw; (try dsimp only at hSw); first | (go_simp; done) | (go_simp; with_reducible rfl))
      try simp only [List.getElem_toArray, List.getElem_cons_succ, List.getElem_cons_zero, Act.put, List.setIfInBounds_toArray, List.set_cons_zero, List.set_cons_succ]
      refine wpAnyH_take (i := 2) (v := ?_) rfl (by kernel_rfl) (by kernel_rfl) (by kernel_rfl) (fun _ _ _ h => h) (Or.inl ⟨by rfl, ?_⟩) (by assumption) ?_
      rotate_left
      · (intro w hSw; (try dsimp only at hSw); first | (go_simp; done) | (go_simp; with_reducible rfl))
      try simp only [List.getElem_toArray, List.getElem_cons_succ, List.getElem_cons_zero, Act.put, List.setIfInBounds_toArray, List.set_cons_zero, List.set_cons_succ]
      refine wpAnyH_take (i := 4) (v := ?_) rfl (by kernel_rfl) (by kernel_rfl) (by kernel_rfl) (fun _ _ _ h => h) (Or.inl ⟨by rfl, ?_⟩) (by assumption) ?_
      rotate_left
      · (intro w hSw; (try dsimp only at hSw); first | (go_simp; done) | (go_simp; with_reducible rfl))
      try simp only [List.getElem_toArray, List.getElem_cons_succ, List.getElem_cons_zero, Act.put, List.setIfInBounds_toArray, List.set_cons_zero, List.set_cons_succ]
      refine wpAnyH_take (i := 5) (v := ?_) rfl (by kernel_rfl) (by kernel_rfl) (by kernel_rfl) (fun _ _ _ h => h) (Or.inl ⟨by rfl, ?_⟩) (by assumption) ?_
      rotate_left
      · (intro w hSw; (try dsimp only at hSw); first | (go_simp; done) | (go_simp; with_reducible rfl))
      try simp only [List.getElem_toArray, List.getElem_cons_succ, List.getElem_cons_zero, Act.put, List.setIfInBounds_toArray, List.set_cons_zero, List.set_cons_succ]
      refine wpAnyH_ready (rs := [1, 3, 6]) (by kernel_rfl) (by simp) ?_
      refine AllReadyH.cons rfl (fun K hK => ?_) (AllReadyH.cons rfl (fun K hK => ?_) (AllReadyH.cons rfl (fun K hK => ?_) AllReadyH.nil))
      · go_simp
        refine hK.out _ _ ?_ (fun hHeld => ?_)
        · trivial
        clear hK K
        try simp only [List.getElem_toArray, List.getElem_cons_succ, List.getElem_cons_zero, Act.put, List.setIfInBounds_toArray, List.set_cons_zero, List.set_cons_succ]
        refine wpAnyH_ready (rs := [3, 6]) (by kernel_rfl) (by simp) ?_
        refine AllReadyH.cons rfl (fun K hK => ?_) (AllReadyH.cons rfl (fun K hK => ?_) AllReadyH.nil)
        · go_simp
          refine hK.out _ _ ?_ (fun hHeld => ?_)
          · trivial
          clear hK K
          try simp only [List.getElem_toArray, List.getElem_cons_succ, List.getElem_cons_zero, Act.put, List.setIfInBounds_toArray, List.set_cons_zero, List.set_cons_succ]
          refine wpAnyH_ready (rs := [6]) (by kernel_rfl) (by simp) ?_
          refine AllReadyH.cons rfl (fun K hK => ?_) AllReadyH.nil
          go_simp
          refine (pick_any R _ n _ (unhide HR).rd (by omega) (by omega) (by omega)).mono ?_
          rintro e w5 ⟨qi', rfl, qi0, qi1, R5, M5⟩
          obtain ⟨qi, rfl⟩ := Int.eq_ofNat_of_zero_le qi0
          have qn : qi < n := by omega
          clear kp0 kp1 kq0 kq1
          have HR := hide ((unhide HR).mov M5 R5)
          clear M5 R5
          have kp0 := (unhide HR).p0
          have kp1 := (unhide HR).p1
          have kq0 := (unhide HR).pf 0
          have kq1 := (unhide HR).pf 1
          go_wp2_with fail
          refine hK.out _ _ ?_ (fun hHeld => ?_)
          · trivial
          clear hK K
          try simp only [List.getElem_toArray, List.getElem_cons_succ, List.getElem_cons_zero, Act.put, List.setIfInBounds_toArray, List.set_cons_zero, List.set_cons_succ]
          refine wpAnyH_take (i := 7) (v := ?_) rfl (by kernel_rfl) (by kernel_rfl) (by kernel_rfl) (fun _ _ _ h => h) (Or.inl ⟨by rfl, ?_⟩) (by assumption) ?_
          rotate_left
          · (intro w hSw; (try dsimp only at hSw); first | (go_simp; done) | (go_simp; with_reducible rfl))
          try simp only [List.getElem_toArray, List.getElem_cons_succ, List.getElem_cons_zero, Act.put, List.setIfInBounds_toArray, List.set_cons_zero, List.set_cons_succ]
          refine wpAnyH_ready (rs := [8]) (by kernel_rfl) (by simp) ?_
          refine AllReadyH.cons rfl (fun K hK => ?_) AllReadyH.nil
          obtain ⟨dg0, dg1, dg2⟩ := own_gts (unhide HR).ow qi qn
          rw [Nat.zero_add] at dg0 dg1 dg2
          have kg := fun o => own_froz (unhide HR).ow o
          have kg0 := kg (qi * 3)
          have kg1 := kg (qi * 3 + 1)
          have kg2 := kg (qi * 3 + 2)
          clear kg
          go_simp
          refine hK.out _ _ ?_ (fun hHeld => ?_)
          · trivial
          clear hK K
          try simp only [List.getElem_toArray, List.getElem_cons_succ, List.getElem_cons_zero, Act.put, List.setIfInBounds_toArray, List.set_cons_zero, List.set_cons_succ]
          refine wpAnyH_ready (rs := [9]) (by kernel_rfl) (by simp) ?_
          refine AllReadyH.cons rfl (fun K hK => ?_) AllReadyH.nil
          go_simp
          obtain ⟨wt, hwt⟩ : ∃ x, x = w5.alloc (.cells #[.bool (G qi).x, .int .i64 (G qi).a, .int .i64 (G qi).b] 76) := ⟨_, rfl⟩
          have bt : Below w5.heap.size w5 wt := by rw [hwt]; exact (Below.refl _ _).alloc (Nat.le_refl _) _
          have qT : Gts wt w5.heap.size 0 1 (fun _ => (G qi)) := by
            refine Gts.lone ?_ ?_ ?_ <;> (rw [hwt]; simp [go_sem])
          clear kp0 kp1 kq0 kq1
          have HR := hide ((unhide HR).later bt)
          rw [← hwt]
          clear hwt bt
          have kp0 := (unhide HR).p0
          have kp1 := (unhide HR).p1
          have kq0 := (unhide HR).pf 0
          have kq1 := (unhide HR).pf 1
          refine hK.out _ _ ?_ (fun hHeld => ?_)
          · trivial
          clear hK K
          try simp only [List.getElem_toArray, List.getElem_cons_succ, List.getElem_cons_zero, Act.put, List.setIfInBounds_toArray, List.set_cons_zero, List.set_cons_succ]
          refine wpAnyH_ready (rs := [10]) (by kernel_rfl) (by simp) ?_
          refine AllReadyH.cons rfl (fun K hK => ?_) AllReadyH.nil
          apply step_gat_one (s := .tmp 72) (x := .tmp 80) (G := G) (q := (G qi)) (base := w.heap.size) (g := g) (cap := cp)
          case hgd => rfl
          case ho => rfl
          case hs => rfl
          case hown => exact (unhide HR).ow
          case hbase => exact Nat.le_trans (unhide HR).mv.size (Nat.le_refl _)
          case hx => rfl
          case hT => exact qT
          case hl => omega
          case' h => intro g2 c2 wa o2 gr2 at2 lt2
          have HA := hide ((unhide HR).app gr2 at2 o2 (snoc_wg (unhide HR).wg ((unhide HR).wg qi qn)))
          have ka0 := (mov_of_grown gr2).cell kp0 hgx.symm
          have ka1 := (mov_of_grown gr2).cell kp1 hgx.symm
          have kb1 := frozen_mov (mov_of_grown gr2) (World.block_lt_of_cell? _ _ kp1) hgx.symm kq1
          have ks0 := (mov_of_grown gr2).cell (unhide HR).s0 hgy.symm
          have ks1 := (mov_of_grown gr2).cell (unhide HR).s1 hgy.symm
          have kf0 := frozen_mov (mov_of_grown gr2) (World.block_lt_of_cell? _ _ (unhide HR).s0) hgy.symm ((unhide HR).sf 0)
          have kf1 := frozen_mov (mov_of_grown gr2) (World.block_lt_of_cell? _ _ (unhide HR).s0) hgy.symm ((unhide HR).sf 1)
          clear kp0 kp1 kq0 kq1 o2 gr2 at2 lt2 qT
          refine hK.out _ _ ?_ (fun hHeld => ?_)
          · trivial
          clear hK K
          try simp only [List.getElem_toArray, List.getElem_cons_succ, List.getElem_cons_zero, Act.put, List.setIfInBounds_toArray, List.set_cons_zero, List.set_cons_succ]
          refine wpAnyH_take (i := 11) (v := ?_) rfl (by kernel_rfl) (by kernel_rfl) (by kernel_rfl) (fun _ _ _ h => h) (Or.inl ⟨by rfl, ?_⟩) (by assumption) ?_
          rotate_left
          · (intro w hSw; (try dsimp only at hSw); first | (go_simp; done) | (go_simp; with_reducible rfl))
          try simp only [List.getElem_toArray, List.getElem_cons_succ, List.getElem_cons_zero, Act.put, List.setIfInBounds_toArray, List.set_cons_zero, List.set_cons_succ]
          refine wpAnyH_ready (rs := [12]) (by kernel_rfl) (by simp) ?_
          refine AllReadyH.cons rfl (fun K hK => ?_) AllReadyH.nil
          go_simp
          refine hK.out _ _ ?_ (fun hHeld => ?_)
          · trivial
          clear hK K
          try simp only [List.getElem_toArray, List.getElem_cons_succ, List.getElem_cons_zero, Act.put, List.setIfInBounds_toArray, List.set_cons_zero, List.set_cons_succ]
          refine wpAnyH_done (by kernel_rfl) ?_ _
          have HF := HA
          clear HA
          go_wp2
          refine bodyPost_ret (v := .agg #[.int .i64 m, .slice (some ⟨g2, 0, none⟩) (n + 1) c2]) (by simp [results, Tryd.results88, go_sem, ks0, ks1, hXY, hYX, hgx, hgx.symm]) rfl ?_
          exact XF.ret (by first | exact unhide HF | exact unhide HF.drew) hm0 (Or.inr (by omega)) (by omega) (by omega)
        · go_simp
          refine (pick_any R _ n _ (unhide HR).rd (by omega) (by omega) (by omega)).mono ?_
          rintro e w5 ⟨qi', rfl, qi0, qi1, R5, M5⟩
          obtain ⟨qi, rfl⟩ := Int.eq_ofNat_of_zero_le qi0
          have qn : qi < n := by omega
          clear kp0 kp1 kq0 kq1
          have HR := hide ((unhide HR).mov M5 R5)
          clear M5 R5
          have kp0 := (unhide HR).p0
          have kp1 := (unhide HR).p1
          have kq0 := (unhide HR).pf 0
          have kq1 := (unhide HR).pf 1
          go_wp2_with fail
          refine hK.out _ _ ?_ (fun hHeld => ?_)
          · trivial
          clear hK K
          try simp only [List.getElem_toArray, List.getElem_cons_succ, List.getElem_cons_zero, Act.put, List.setIfInBounds_toArray, List.set_cons_zero, List.set_cons_succ]
          refine wpAnyH_ready (rs := [3]) (by kernel_rfl) (by simp) ?_
          refine AllReadyH.cons rfl (fun K hK => ?_) AllReadyH.nil
          go_simp
          refine hK.out _ _ ?_ (fun hHeld => ?_)
          · trivial
          clear hK K
          try simp only [List.getElem_toArray, List.getElem_cons_succ, List.getElem_cons_zero, Act.put, List.setIfInBounds_toArray, List.set_cons_zero, List.set_cons_succ]
          refine wpAnyH_take (i := 7) (v := ?_) rfl (by kernel_rfl) (by kernel_rfl) (by kernel_rfl) (fun _ _ _ h => h) (Or.inl ⟨by rfl, ?_⟩) (by assumption) ?_
          rotate_left
          · (intro w hSw; (try dsimp only at hSw); first | (go_simp; done) | (go_simp; with_reducible rfl))
          try simp only [List.getElem_toArray, List.getElem_cons_succ, List.getElem_cons_zero, Act.put, List.setIfInBounds_toArray, List.set_cons_zero, List.set_cons_succ]
          refine wpAnyH_ready (rs := [8]) (by kernel_rfl) (by simp) ?_
          refine AllReadyH.cons rfl (fun K hK => ?_) AllReadyH.nil
          obtain ⟨dg0, dg1, dg2⟩ := own_gts (unhide HR).ow qi qn
          rw [Nat.zero_add] at dg0 dg1 dg2
          have kg := fun o => own_froz (unhide HR).ow o
          have kg0 := kg (qi * 3)
          have kg1 := kg (qi * 3 + 1)
          have kg2 := kg (qi * 3 + 2)
          clear kg
          go_simp
          refine hK.out _ _ ?_ (fun hHeld => ?_)
          · trivial
          clear hK K
          try simp only [List.getElem_toArray, List.getElem_cons_succ, List.getElem_cons_zero, Act.put, List.setIfInBounds_toArray, List.set_cons_zero, List.set_cons_succ]
          refine wpAnyH_ready (rs := [9]) (by kernel_rfl) (by simp) ?_
          refine AllReadyH.cons rfl (fun K hK => ?_) AllReadyH.nil
          go_simp
          obtain ⟨wt, hwt⟩ : ∃ x, x = w5.alloc (.cells #[.bool (G qi).x, .int .i64 (G qi).a, .int .i64 (G qi).b] 76) := ⟨_, rfl⟩
          have bt : Below w5.heap.size w5 wt := by rw [hwt]; exact (Below.refl _ _).alloc (Nat.le_refl _) _
          have qT : Gts wt w5.heap.size 0 1 (fun _ => (G qi)) := by
            refine Gts.lone ?_ ?_ ?_ <;> (rw [hwt]; simp [go_sem])
          clear kp0 kp1 kq0 kq1
          have HR := hide ((unhide HR).later bt)
          rw [← hwt]
          clear hwt bt
          have kp0 := (unhide HR).p0
          have kp1 := (unhide HR).p1
          have kq0 := (unhide HR).pf 0
          have kq1 := (unhide HR).pf 1
          refine hK.out _ _ ?_ (fun hHeld => ?_)
          · trivial
          clear hK K
          try simp only [List.getElem_toArray, List.getElem_cons_succ, List.getElem_cons_zero, Act.put, List.setIfInBounds_toArray, List.set_cons_zero, List.set_cons_succ]
          refine wpAnyH_ready (rs := [10]) (by kernel_rfl) (by simp) ?_
          refine AllReadyH.cons rfl (fun K hK => ?_) AllReadyH.nil
          apply step_gat_one (s := .tmp 72) (x := .tmp 80) (G := G) (q := (G qi)) (base := w.heap.size) (g := g) (cap := cp)
          case hgd => rfl
          case ho => rfl
          case hs => rfl
          case hown => exact (unhide HR).ow
          case hbase => exact Nat.le_trans (unhide HR).mv.size (Nat.le_refl _)
          case hx => rfl
          case hT => exact qT
          case hl => omega
          case' h => intro g2 c2 wa o2 gr2 at2 lt2
          have HA := hide ((unhide HR).app gr2 at2 o2 (snoc_wg (unhide HR).wg ((unhide HR).wg qi qn)))
          have ka0 := (mov_of_grown gr2).cell kp0 hgx.symm
          have ka1 := (mov_of_grown gr2).cell kp1 hgx.symm
          have kb1 := frozen_mov (mov_of_grown gr2) (World.block_lt_of_cell? _ _ kp1) hgx.symm kq1
          have ks0 := (mov_of_grown gr2).cell (unhide HR).s0 hgy.symm
          have ks1 := (mov_of_grown gr2).cell (unhide HR).s1 hgy.symm
          have kf0 := frozen_mov (mov_of_grown gr2) (World.block_lt_of_cell? _ _ (unhide HR).s0) hgy.symm ((unhide HR).sf 0)
          have kf1 := frozen_mov (mov_of_grown gr2) (World.block_lt_of_cell? _ _ (unhide HR).s0) hgy.symm ((unhide HR).sf 1)
          clear kp0 kp1 kq0 kq1 o2 gr2 at2 lt2 qT
          refine hK.out _ _ ?_ (fun hHeld => ?_)
          · trivial
          clear hK K
          try simp only [List.getElem_toArray, List.getElem_cons_succ, List.getElem_cons_zero, Act.put, List.setIfInBounds_toArray, List.set_cons_zero, List.set_cons_succ]
          refine wpAnyH_take (i := 11) (v := ?_) rfl (by kernel_rfl) (by kernel_rfl) (by kernel_rfl) (fun _ _ _ h => h) (Or.inl ⟨by rfl, ?_⟩) (by assumption) ?_
          rotate_left
          · (intro w hSw; (try dsimp only at hSw); first | (go_simp; done) | (go_simp; with_reducible rfl))
          try simp only [List.getElem_toArray, List.getElem_cons_succ, List.getElem_cons_zero, Act.put, List.setIfInBounds_toArray, List.set_cons_zero, List.set_cons_succ]
          refine wpAnyH_ready (rs := [12]) (by kernel_rfl) (by simp) ?_
          refine AllReadyH.cons rfl (fun K hK => ?_) AllReadyH.nil
          go_simp
          refine hK.out _ _ ?_ (fun hHeld => ?_)
          · trivial
          clear hK K
          try simp only [List.getElem_toArray, List.getElem_cons_succ, List.getElem_cons_zero, Act.put, List.setIfInBounds_toArray, List.set_cons_zero, List.set_cons_succ]
          refine wpAnyH_done (by kernel_rfl) ?_ _
          have HF := HA
          clear HA
          go_wp2
          refine bodyPost_ret (v := .agg #[.int .i64 m, .slice (some ⟨g2, 0, none⟩) (n + 1) c2]) (by simp [results, Tryd.results88, go_sem, ks0, ks1, hXY, hYX, hgx, hgx.symm]) rfl ?_
          exact XF.ret (by first | exact unhide HF | exact unhide HF.drew) hm0 (Or.inr (by omega)) (by omega) (by omega)
      · go_simp
        refine hK.out _ _ ?_ (fun hHeld => ?_)
        · trivial
        clear hK K
        try simp only [List.getElem_toArray, List.getElem_cons_succ, List.getElem_cons_zero, Act.put, List.setIfInBounds_toArray, List.set_cons_zero, List.set_cons_succ]
        refine wpAnyH_ready (rs := [1, 6]) (by kernel_rfl) (by simp) ?_
        refine AllReadyH.cons rfl (fun K hK => ?_) (AllReadyH.cons rfl (fun K hK => ?_) AllReadyH.nil)
        · go_simp
          refine hK.out _ _ ?_ (fun hHeld => ?_)
          · trivial
          clear hK K
          try simp only [List.getElem_toArray, List.getElem_cons_succ, List.getElem_cons_zero, Act.put, List.setIfInBounds_toArray, List.set_cons_zero, List.set_cons_succ]
          refine wpAnyH_ready (rs := [6]) (by kernel_rfl) (by simp) ?_
          refine AllReadyH.cons rfl (fun K hK => ?_) AllReadyH.nil
          go_simp
          refine (pick_any R _ n _ (unhide HR).rd (by omega) (by omega) (by omega)).mono ?_
          rintro e w5 ⟨qi', rfl, qi0, qi1, R5, M5⟩
          obtain ⟨qi, rfl⟩ := Int.eq_ofNat_of_zero_le qi0
          have qn : qi < n := by omega
          clear kp0 kp1 kq0 kq1
          have HR := hide ((unhide HR).mov M5 R5)
          clear M5 R5
          have kp0 := (unhide HR).p0
          have kp1 := (unhide HR).p1
          have kq0 := (unhide HR).pf 0
          have kq1 := (unhide HR).pf 1
          go_wp2_with fail
          refine hK.out _ _ ?_ (fun hHeld => ?_)
          · trivial
          clear hK K
          try simp only [List.getElem_toArray, List.getElem_cons_succ, List.getElem_cons_zero, Act.put, List.setIfInBounds_toArray, List.set_cons_zero, List.set_cons_succ]
          refine wpAnyH_take (i := 7) (v := ?_) rfl (by kernel_rfl) (by kernel_rfl) (by kernel_rfl) (fun _ _ _ h => h) (Or.inl ⟨by rfl, ?_⟩) (by assumption) ?_
          rotate_left
          · (intro w hSw; (try dsimp only at hSw); first | (go_simp; done) | (go_simp; with_reducible rfl))
          try simp only [List.getElem_toArray, List.getElem_cons_succ, List.getElem_cons_zero, Act.put, List.setIfInBounds_toArray, List.set_cons_zero, List.set_cons_succ]
          refine wpAnyH_ready (rs := [8]) (by kernel_rfl) (by simp) ?_
          refine AllReadyH.cons rfl (fun K hK => ?_) AllReadyH.nil
          obtain ⟨dg0, dg1, dg2⟩ := own_gts (unhide HR).ow qi qn
          rw [Nat.zero_add] at dg0 dg1 dg2
          have kg := fun o => own_froz (unhide HR).ow o
          have kg0 := kg (qi * 3)
          have kg1 := kg (qi * 3 + 1)
          have kg2 := kg (qi * 3 + 2)
          clear kg
          go_simp
          refine hK.out _ _ ?_ (fun hHeld => ?_)
          · trivial
          clear hK K
          try simp only [List.getElem_toArray, List.getElem_cons_succ, List.getElem_cons_zero, Act.put, List.setIfInBounds_toArray, List.set_cons_zero, List.set_cons_succ]
          refine wpAnyH_ready (rs := [9]) (by kernel_rfl) (by simp) ?_
          refine AllReadyH.cons rfl (fun K hK => ?_) AllReadyH.nil
          go_simp
          obtain ⟨wt, hwt⟩ : ∃ x, x = w5.alloc (.cells #[.bool (G qi).x, .int .i64 (G qi).a, .int .i64 (G qi).b] 76) := ⟨_, rfl⟩
          have bt : Below w5.heap.size w5 wt := by rw [hwt]; exact (Below.refl _ _).alloc (Nat.le_refl _) _
          have qT : Gts wt w5.heap.size 0 1 (fun _ => (G qi)) := by
            refine Gts.lone ?_ ?_ ?_ <;> (rw [hwt]; simp [go_sem])
          clear kp0 kp1 kq0 kq1
          have HR := hide ((unhide HR).later bt)
          rw [← hwt]
          clear hwt bt
          have kp0 := (unhide HR).p0
          have kp1 := (unhide HR).p1
          have kq0 := (unhide HR).pf 0
          have kq1 := (unhide HR).pf 1
          refine hK.out _ _ ?_ (fun hHeld => ?_)
          · trivial
          clear hK K
          try simp only [List.getElem_toArray, List.getElem_cons_succ, List.getElem_cons_zero, Act.put, List.setIfInBounds_toArray, List.set_cons_zero, List.set_cons_succ]
          refine wpAnyH_ready (rs := [10]) (by kernel_rfl) (by simp) ?_
          refine AllReadyH.cons rfl (fun K hK => ?_) AllReadyH.nil
          apply step_gat_one (s := .tmp 72) (x := .tmp 80) (G := G) (q := (G qi)) (base := w.heap.size) (g := g) (cap := cp)
          case hgd => rfl
          case ho => rfl
          case hs => rfl
          case hown => exact (unhide HR).ow
          case hbase => exact Nat.le_trans (unhide HR).mv.size (Nat.le_refl _)
          case hx => rfl
          case hT => exact qT
          case hl => omega
          case' h => intro g2 c2 wa o2 gr2 at2 lt2
          have HA := hide ((unhide HR).app gr2 at2 o2 (snoc_wg (unhide HR).wg ((unhide HR).wg qi qn)))
          have ka0 := (mov_of_grown gr2).cell kp0 hgx.symm
          have ka1 := (mov_of_grown gr2).cell kp1 hgx.symm
          have kb1 := frozen_mov (mov_of_grown gr2) (World.block_lt_of_cell? _ _ kp1) hgx.symm kq1
          have ks0 := (mov_of_grown gr2).cell (unhide HR).s0 hgy.symm
          have ks1 := (mov_of_grown gr2).cell (unhide HR).s1 hgy.symm
          have kf0 := frozen_mov (mov_of_grown gr2) (World.block_lt_of_cell? _ _ (unhide HR).s0) hgy.symm ((unhide HR).sf 0)
          have kf1 := frozen_mov (mov_of_grown gr2) (World.block_lt_of_cell? _ _ (unhide HR).s0) hgy.symm ((unhide HR).sf 1)
          clear kp0 kp1 kq0 kq1 o2 gr2 at2 lt2 qT
          refine hK.out _ _ ?_ (fun hHeld => ?_)
          · trivial
          clear hK K
          try simp only [List.getElem_toArray, List.getElem_cons_succ, List.getElem_cons_zero, Act.put, List.setIfInBounds_toArray, List.set_cons_zero, List.set_cons_succ]
          refine wpAnyH_take (i := 11) (v := ?_) rfl (by kernel_rfl) (by kernel_rfl) (by kernel_rfl) (fun _ _ _ h => h) (Or.inl ⟨by rfl, ?_⟩) (by assumption) ?_
          rotate_left
          · (intro w hSw; (try dsimp only at hSw); first | (go_simp; done) | (go_simp; with_reducible rfl))
          try simp only [List.getElem_toArray, List.getElem_cons_succ, List.getElem_cons_zero, Act.put, List.setIfInBounds_toArray, List.set_cons_zero, List.set_cons_succ]
          refine wpAnyH_ready (rs := [12]) (by kernel_rfl) (by simp) ?_
          refine AllReadyH.cons rfl (fun K hK => ?_) AllReadyH.nil
          go_simp
          refine hK.out _ _ ?_ (fun hHeld => ?_)
          · trivial
          clear hK K
          try simp only [List.getElem_toArray, List.getElem_cons_succ, List.getElem_cons_zero, Act.put, List.setIfInBounds_toArray, List.set_cons_zero, List.set_cons_succ]
          refine wpAnyH_done (by kernel_rfl) ?_ _
          have HF := HA
          clear HA
          go_wp2
          refine bodyPost_ret (v := .agg #[.int .i64 m, .slice (some ⟨g2, 0, none⟩) (n + 1) c2]) (by simp [results, Tryd.results88, go_sem, ks0, ks1, hXY, hYX, hgx, hgx.symm]) rfl ?_
          exact XF.ret (by first | exact unhide HF | exact unhide HF.drew) hm0 (Or.inr (by omega)) (by omega) (by omega)
        · go_simp
          refine (pick_any R _ n _ (unhide HR).rd (by omega) (by omega) (by omega)).mono ?_
          rintro e w5 ⟨qi', rfl, qi0, qi1, R5, M5⟩
          obtain ⟨qi, rfl⟩ := Int.eq_ofNat_of_zero_le qi0
          have qn : qi < n := by omega
          clear kp0 kp1 kq0 kq1
          have HR := hide ((unhide HR).mov M5 R5)
          clear M5 R5
          have kp0 := (unhide HR).p0
          have kp1 := (unhide HR).p1
          have kq0 := (unhide HR).pf 0
          have kq1 := (unhide HR).pf 1
          go_wp2_with fail
          refine hK.out _ _ ?_ (fun hHeld => ?_)
          · trivial
          clear hK K
          try simp only [List.getElem_toArray, List.getElem_cons_succ, List.getElem_cons_zero, Act.put, List.setIfInBounds_toArray, List.set_cons_zero, List.set_cons_succ]
          refine wpAnyH_take (i := 7) (v := ?_) rfl (by kernel_rfl) (by kernel_rfl) (by kernel_rfl) (fun _ _ _ h => h) (Or.inl ⟨by rfl, ?_⟩) (by assumption) ?_
          rotate_left
          · (intro w hSw; (try dsimp only at hSw); first | (go_simp; done) | (go_simp; with_reducible rfl))
          try simp only [List.getElem_toArray, List.getElem_cons_succ, List.getElem_cons_zero, Act.put, List.setIfInBounds_toArray, List.set_cons_zero, List.set_cons_succ]
          refine wpAnyH_ready (rs := [1, 8]) (by kernel_rfl) (by simp) ?_
          refine AllReadyH.cons rfl (fun K hK => ?_) (AllReadyH.cons rfl (fun K hK => ?_) AllReadyH.nil)
          · go_simp
            refine hK.out _ _ ?_ (fun hHeld => ?_)
            · trivial
            clear hK K
            try simp only [List.getElem_toArray, List.getElem_cons_succ, List.getElem_cons_zero, Act.put, List.setIfInBounds_toArray, List.set_cons_zero, List.set_cons_succ]
            refine wpAnyH_ready (rs := [8]) (by kernel_rfl) (by simp) ?_
            refine AllReadyH.cons rfl (fun K hK => ?_) AllReadyH.nil
            obtain ⟨dg0, dg1, dg2⟩ := own_gts (unhide HR).ow qi qn
            rw [Nat.zero_add] at dg0 dg1 dg2
            have kg := fun o => own_froz (unhide HR).ow o
            have kg0 := kg (qi * 3)
            have kg1 := kg (qi * 3 + 1)
            have kg2 := kg (qi * 3 + 2)
            clear kg
            go_simp
            refine hK.out _ _ ?_ (fun hHeld => ?_)
            · trivial
            clear hK K
            try simp only [List.getElem_toArray, List.getElem_cons_succ, List.getElem_cons_zero, Act.put, List.setIfInBounds_toArray, List.set_cons_zero, List.set_cons_succ]
            refine wpAnyH_ready (rs := [9]) (by kernel_rfl) (by simp) ?_
            refine AllReadyH.cons rfl (fun K hK => ?_) AllReadyH.nil
            go_simp
            obtain ⟨wt, hwt⟩ : ∃ x, x = w5.alloc (.cells #[.bool (G qi).x, .int .i64 (G qi).a, .int .i64 (G qi).b] 76) := ⟨_, rfl⟩
            have bt : Below w5.heap.size w5 wt := by rw [hwt]; exact (Below.refl _ _).alloc (Nat.le_refl _) _
            have qT : Gts wt w5.heap.size 0 1 (fun _ => (G qi)) := by
              refine Gts.lone ?_ ?_ ?_ <;> (rw [hwt]; simp [go_sem])
            clear kp0 kp1 kq0 kq1
            have HR := hide ((unhide HR).later bt)
            rw [← hwt]
            clear hwt bt
            have kp0 := (unhide HR).p0
            have kp1 := (unhide HR).p1
            have kq0 := (unhide HR).pf 0
            have kq1 := (unhide HR).pf 1
            refine hK.out _ _ ?_ (fun hHeld => ?_)
            · trivial
            clear hK K
            try simp only [List.getElem_toArray, List.getElem_cons_succ, List.getElem_cons_zero, Act.put, List.setIfInBounds_toArray, List.set_cons_zero, List.set_cons_succ]
            refine wpAnyH_ready (rs := [10]) (by kernel_rfl) (by simp) ?_
            refine AllReadyH.cons rfl (fun K hK => ?_) AllReadyH.nil
            apply step_gat_one (s := .tmp 72) (x := .tmp 80) (G := G) (q := (G qi)) (base := w.heap.size) (g := g) (cap := cp)
            case hgd => rfl
            case ho => rfl
            case hs => rfl
            case hown => exact (unhide HR).ow
            case hbase => exact Nat.le_trans (unhide HR).mv.size (Nat.le_refl _)
            case hx => rfl
            case hT => exact qT
            case hl => omega
            case' h => intro g2 c2 wa o2 gr2 at2 lt2
            have HA := hide ((unhide HR).app gr2 at2 o2 (snoc_wg (unhide HR).wg ((unhide HR).wg qi qn)))
            have ka0 := (mov_of_grown gr2).cell kp0 hgx.symm
            have ka1 := (mov_of_grown gr2).cell kp1 hgx.symm
            have kb1 := frozen_mov (mov_of_grown gr2) (World.block_lt_of_cell? _ _ kp1) hgx.symm kq1
            have ks0 := (mov_of_grown gr2).cell (unhide HR).s0 hgy.symm
            have ks1 := (mov_of_grown gr2).cell (unhide HR).s1 hgy.symm
            have kf0 := frozen_mov (mov_of_grown gr2) (World.block_lt_of_cell? _ _ (unhide HR).s0) hgy.symm ((unhide HR).sf 0)
            have kf1 := frozen_mov (mov_of_grown gr2) (World.block_lt_of_cell? _ _ (unhide HR).s0) hgy.symm ((unhide HR).sf 1)
            clear kp0 kp1 kq0 kq1 o2 gr2 at2 lt2 qT
            refine hK.out _ _ ?_ (fun hHeld => ?_)
            · trivial
            clear hK K
            try simp only [List.getElem_toArray, List.getElem_cons_succ, List.getElem_cons_zero, Act.put, List.setIfInBounds_toArray, List.set_cons_zero, List.set_cons_succ]
            refine wpAnyH_take (i := 11) (v := ?_) rfl (by kernel_rfl) (by kernel_rfl) (by kernel_rfl) (fun _ _ _ h => h) (Or.inl ⟨by rfl, ?_⟩) (by assumption) ?_
            rotate_left
            · (intro w hSw; (try dsimp only at hSw); first | (go_simp; done) | (go_simp; with_reducible rfl))
            try simp only [List.getElem_toArray, List.getElem_cons_succ, List.getElem_cons_zero, Act.put, List.setIfInBounds_toArray, List.set_cons_zero, List.set_cons_succ]
            refine wpAnyH_ready (rs := [12]) (by kernel_rfl) (by simp) ?_
            refine AllReadyH.cons rfl (fun K hK => ?_) AllReadyH.nil
            go_simp
            refine hK.out _ _ ?_ (fun hHeld => ?_)
            · trivial
            clear hK K
            try simp only [List.getElem_toArray, List.getElem_cons_succ, List.getElem_cons_zero, Act.put, List.setIfInBounds_toArray, List.set_cons_zero, List.set_cons_succ]
            refine wpAnyH_done (by kernel_rfl) ?_ _
            have HF := HA
            clear HA
            go_wp2
            refine bodyPost_ret (v := .agg #[.int .i64 m, .slice (some ⟨g2, 0, none⟩) (n + 1) c2]) (by simp [results, Tryd.results88, go_sem, ks0, ks1, hXY, hYX, hgx, hgx.symm]) rfl ?_
            exact XF.ret (by first | exact unhide HF | exact unhide HF.drew) hm0 (Or.inr (by omega)) (by omega) (by omega)
          · obtain ⟨dg0, dg1, dg2⟩ := own_gts (unhide HR).ow qi qn
            rw [Nat.zero_add] at dg0 dg1 dg2
            have kg := fun o => own_froz (unhide HR).ow o
            have kg0 := kg (qi * 3)
            have kg1 := kg (qi * 3 + 1)
            have kg2 := kg (qi * 3 + 2)
            clear kg
            go_simp
            refine hK.out _ _ ?_ (fun hHeld => ?_)
            · trivial
            clear hK K
            try simp only [List.getElem_toArray, List.getElem_cons_succ, List.getElem_cons_zero, Act.put, List.setIfInBounds_toArray, List.set_cons_zero, List.set_cons_succ]
            refine wpAnyH_ready (rs := [1, 9]) (by kernel_rfl) (by simp) ?_
            refine AllReadyH.cons rfl (fun K hK => ?_) (AllReadyH.cons rfl (fun K hK => ?_) AllReadyH.nil)
            · go_simp
              refine hK.out _ _ ?_ (fun hHeld => ?_)
              · trivial
              clear hK K
              try simp only [List.getElem_toArray, List.getElem_cons_succ, List.getElem_cons_zero, Act.put, List.setIfInBounds_toArray, List.set_cons_zero, List.set_cons_succ]
              refine wpAnyH_ready (rs := [9]) (by kernel_rfl) (by simp) ?_
              refine AllReadyH.cons rfl (fun K hK => ?_) AllReadyH.nil
              go_simp
              obtain ⟨wt, hwt⟩ : ∃ x, x = w5.alloc (.cells #[.bool (G qi).x, .int .i64 (G qi).a, .int .i64 (G qi).b] 76) := ⟨_, rfl⟩
              have bt : Below w5.heap.size w5 wt := by rw [hwt]; exact (Below.refl _ _).alloc (Nat.le_refl _) _
              have qT : Gts wt w5.heap.size 0 1 (fun _ => (G qi)) := by
                refine Gts.lone ?_ ?_ ?_ <;> (rw [hwt]; simp [go_sem])
              clear kp0 kp1 kq0 kq1
              have HR := hide ((unhide HR).later bt)
              rw [← hwt]
              clear hwt bt
              have kp0 := (unhide HR).p0
              have kp1 := (unhide HR).p1
              have kq0 := (unhide HR).pf 0
              have kq1 := (unhide HR).pf 1
              refine hK.out _ _ ?_ (fun hHeld => ?_)
              · trivial
              clear hK K
              try simp only [List.getElem_toArray, List.getElem_cons_succ, List.getElem_cons_zero, Act.put, List.setIfInBounds_toArray, List.set_cons_zero, List.set_cons_succ]
              refine wpAnyH_ready (rs := [10]) (by kernel_rfl) (by simp) ?_
              refine AllReadyH.cons rfl (fun K hK => ?_) AllReadyH.nil
              apply step_gat_one (s := .tmp 72) (x := .tmp 80) (G := G) (q := (G qi)) (base := w.heap.size) (g := g) (cap := cp)
              case hgd => rfl
              case ho => rfl
              case hs => rfl
              case hown => exact (unhide HR).ow
              case hbase => exact Nat.le_trans (unhide HR).mv.size (Nat.le_refl _)
              case hx => rfl
              case hT => exact qT
              case hl => omega
              case' h => intro g2 c2 wa o2 gr2 at2 lt2
              have HA := hide ((unhide HR).app gr2 at2 o2 (snoc_wg (unhide HR).wg ((unhide HR).wg qi qn)))
              have ka0 := (mov_of_grown gr2).cell kp0 hgx.symm
              have ka1 := (mov_of_grown gr2).cell kp1 hgx.symm
              have kb1 := frozen_mov (mov_of_grown gr2) (World.block_lt_of_cell? _ _ kp1) hgx.symm kq1
              have ks0 := (mov_of_grown gr2).cell (unhide HR).s0 hgy.symm
              have ks1 := (mov_of_grown gr2).cell (unhide HR).s1 hgy.symm
              have kf0 := frozen_mov (mov_of_grown gr2) (World.block_lt_of_cell? _ _ (unhide HR).s0) hgy.symm ((unhide HR).sf 0)
              have kf1 := frozen_mov (mov_of_grown gr2) (World.block_lt_of_cell? _ _ (unhide HR).s0) hgy.symm ((unhide HR).sf 1)
              clear kp0 kp1 kq0 kq1 o2 gr2 at2 lt2 qT
              refine hK.out _ _ ?_ (fun hHeld => ?_)
              · trivial
              clear hK K
              try simp only [List.getElem_toArray, List.getElem_cons_succ, List.getElem_cons_zero, Act.put, List.setIfInBounds_toArray, List.set_cons_zero, List.set_cons_succ]
              refine wpAnyH_take (i := 11) (v := ?_) rfl (by kernel_rfl) (by kernel_rfl) (by kernel_rfl) (fun _ _ _ h => h) (Or.inl ⟨by rfl, ?_⟩) (by assumption) ?_
              rotate_left
              · (intro w hSw; (try dsimp only at hSw); first | (go_simp; done) | (go_simp; with_reducible rfl))
              try simp only [List.getElem_toArray, List.getElem_cons_succ, List.getElem_cons_zero, Act.put, List.setIfInBounds_toArray, List.set_cons_zero, List.set_cons_succ]
              refine wpAnyH_ready (rs := [12]) (by kernel_rfl) (by simp) ?_
              refine AllReadyH.cons rfl (fun K hK => ?_) AllReadyH.nil
              go_simp
              refine hK.out _ _ ?_ (fun hHeld => ?_)
              · trivial
              clear hK K
              try simp only [List.getElem_toArray, List.getElem_cons_succ, List.getElem_cons_zero, Act.put, List.setIfInBounds_toArray, List.set_cons_zero, List.set_cons_succ]
              refine wpAnyH_done (by kernel_rfl) ?_ _
              have HF := HA
              clear HA
              go_wp2
              refine bodyPost_ret (v := .agg #[.int .i64 m, .slice (some ⟨g2, 0, none⟩) (n + 1) c2]) (by simp [results, Tryd.results88, go_sem, ks0, ks1, hXY, hYX, hgx, hgx.symm]) rfl ?_
              exact XF.ret (by first | exact unhide HF | exact unhide HF.drew) hm0 (Or.inr (by omega)) (by omega) (by omega)
            · go_simp
              obtain ⟨wt, hwt⟩ : ∃ x, x = w5.alloc (.cells #[.bool (G qi).x, .int .i64 (G qi).a, .int .i64 (G qi).b] 76) := ⟨_, rfl⟩
              have bt : Below w5.heap.size w5 wt := by rw [hwt]; exact (Below.refl _ _).alloc (Nat.le_refl _) _
              have qT : Gts wt w5.heap.size 0 1 (fun _ => (G qi)) := by
                refine Gts.lone ?_ ?_ ?_ <;> (rw [hwt]; simp [go_sem])
              clear kp0 kp1 kq0 kq1
              have HR := hide ((unhide HR).later bt)
              rw [← hwt]
              clear hwt bt
              have kp0 := (unhide HR).p0
              have kp1 := (unhide HR).p1
              have kq0 := (unhide HR).pf 0
              have kq1 := (unhide HR).pf 1
              refine hK.out _ _ ?_ (fun hHeld => ?_)
              · trivial
              clear hK K
              try simp only [List.getElem_toArray, List.getElem_cons_succ, List.getElem_cons_zero, Act.put, List.setIfInBounds_toArray, List.set_cons_zero, List.set_cons_succ]
              refine wpAnyH_ready (rs := [1]) (by kernel_rfl) (by simp) ?_
              refine AllReadyH.cons rfl (fun K hK => ?_) AllReadyH.nil
              go_simp
              refine hK.out _ _ ?_ (fun hHeld => ?_)
              · trivial
              clear hK K
              try simp only [List.getElem_toArray, List.getElem_cons_succ, List.getElem_cons_zero, Act.put, List.setIfInBounds_toArray, List.set_cons_zero, List.set_cons_succ]
              refine wpAnyH_ready (rs := [10]) (by kernel_rfl) (by simp) ?_
              refine AllReadyH.cons rfl (fun K hK => ?_) AllReadyH.nil
              apply step_gat_one (s := .tmp 72) (x := .tmp 80) (G := G) (q := (G qi)) (base := w.heap.size) (g := g) (cap := cp)
              case hgd => rfl
              case ho => rfl
              case hs => rfl
              case hown => exact (unhide HR).ow
              case hbase => exact Nat.le_trans (unhide HR).mv.size (Nat.le_refl _)
              case hx => rfl
              case hT => exact qT
              case hl => omega
              case' h => intro g2 c2 wa o2 gr2 at2 lt2
              have HA := hide ((unhide HR).app gr2 at2 o2 (snoc_wg (unhide HR).wg ((unhide HR).wg qi qn)))
              have ka0 := (mov_of_grown gr2).cell kp0 hgx.symm
              have ka1 := (mov_of_grown gr2).cell kp1 hgx.symm
              have kb1 := frozen_mov (mov_of_grown gr2) (World.block_lt_of_cell? _ _ kp1) hgx.symm kq1
              have ks0 := (mov_of_grown gr2).cell (unhide HR).s0 hgy.symm
              have ks1 := (mov_of_grown gr2).cell (unhide HR).s1 hgy.symm
              have kf0 := frozen_mov (mov_of_grown gr2) (World.block_lt_of_cell? _ _ (unhide HR).s0) hgy.symm ((unhide HR).sf 0)
              have kf1 := frozen_mov (mov_of_grown gr2) (World.block_lt_of_cell? _ _ (unhide HR).s0) hgy.symm ((unhide HR).sf 1)
              clear kp0 kp1 kq0 kq1 o2 gr2 at2 lt2 qT
              refine hK.out _ _ ?_ (fun hHeld => ?_)
              · trivial
              clear hK K
              try simp only [List.getElem_toArray, List.getElem_cons_succ, List.getElem_cons_zero, Act.put, List.setIfInBounds_toArray, List.set_cons_zero, List.set_cons_succ]
              refine wpAnyH_take (i := 11) (v := ?_) rfl (by kernel_rfl) (by kernel_rfl) (by kernel_rfl) (fun _ _ _ h => h) (Or.inl ⟨by rfl, ?_⟩) (by assumption) ?_
              rotate_left
              · (intro w hSw; (try dsimp only at hSw); first | (go_simp; done) | (go_simp; with_reducible rfl))
              try simp only [List.getElem_toArray, List.getElem_cons_succ, List.getElem_cons_zero, Act.put, List.setIfInBounds_toArray, List.set_cons_zero, List.set_cons_succ]
              refine wpAnyH_ready (rs := [12]) (by kernel_rfl) (by simp) ?_
              refine AllReadyH.cons rfl (fun K hK => ?_) AllReadyH.nil
              go_simp
              refine hK.out _ _ ?_ (fun hHeld => ?_)
              · trivial
              clear hK K
              try simp only [List.getElem_toArray, List.getElem_cons_succ, List.getElem_cons_zero, Act.put, List.setIfInBounds_toArray, List.set_cons_zero, List.set_cons_succ]
              refine wpAnyH_done (by kernel_rfl) ?_ _
              have HF := HA
              clear HA
              go_wp2
              refine bodyPost_ret (v := .agg #[.int .i64 m, .slice (some ⟨g2, 0, none⟩) (n + 1) c2]) (by simp [results, Tryd.results88, go_sem, ks0, ks1, hXY, hYX, hgx, hgx.symm]) rfl ?_
              exact XF.ret (by first | exact unhide HF | exact unhide HF.drew) hm0 (Or.inr (by omega)) (by omega) (by omega)
      · go_simp
        refine (pick_any R _ n _ (unhide HR).rd (by omega) (by omega) (by omega)).mono ?_
        rintro e w5 ⟨qi', rfl, qi0, qi1, R5, M5⟩
        obtain ⟨qi, rfl⟩ := Int.eq_ofNat_of_zero_le qi0
        have qn : qi < n := by omega
        clear kp0 kp1 kq0 kq1
        have HR := hide ((unhide HR).mov M5 R5)
        clear M5 R5
        have kp0 := (unhide HR).p0
        have kp1 := (unhide HR).p1
        have kq0 := (unhide HR).pf 0
        have kq1 := (unhide HR).pf 1
        go_wp2_with fail
        refine hK.out _ _ ?_ (fun hHeld => ?_)
        · trivial
        clear hK K
        try simp only [List.getElem_toArray, List.getElem_cons_succ, List.getElem_cons_zero, Act.put, List.setIfInBounds_toArray, List.set_cons_zero, List.set_cons_succ]
        refine wpAnyH_ready (rs := [1, 3]) (by kernel_rfl) (by simp) ?_
        refine AllReadyH.cons rfl (fun K hK => ?_) (AllReadyH.cons rfl (fun K hK => ?_) AllReadyH.nil)
        · go_simp
          refine hK.out _ _ ?_ (fun hHeld => ?_)
          · trivial
          clear hK K
          try simp only [List.getElem_toArray, List.getElem_cons_succ, List.getElem_cons_zero, Act.put, List.setIfInBounds_toArray, List.set_cons_zero, List.set_cons_succ]
          refine wpAnyH_ready (rs := [3]) (by kernel_rfl) (by simp) ?_
          refine AllReadyH.cons rfl (fun K hK => ?_) AllReadyH.nil
          go_simp
          refine hK.out _ _ ?_ (fun hHeld => ?_)
          · trivial
          clear hK K
          try simp only [List.getElem_toArray, List.getElem_cons_succ, List.getElem_cons_zero, Act.put, List.setIfInBounds_toArray, List.set_cons_zero, List.set_cons_succ]
          refine wpAnyH_take (i := 7) (v := ?_) rfl (by kernel_rfl) (by kernel_rfl) (by kernel_rfl) (fun _ _ _ h => h) (Or.inl ⟨by rfl, ?_⟩) (by assumption) ?_
          rotate_left
          · (intro w hSw; (try dsimp only at hSw); first | (go_simp; done) | (go_simp; with_reducible rfl))
          try simp only [List.getElem_toArray, List.getElem_cons_succ, List.getElem_cons_zero, Act.put, List.setIfInBounds_toArray, List.set_cons_zero, List.set_cons_succ]
          refine wpAnyH_ready (rs := [8]) (by kernel_rfl) (by simp) ?_
          refine AllReadyH.cons rfl (fun K hK => ?_) AllReadyH.nil
          obtain ⟨dg0, dg1, dg2⟩ := own_gts (unhide HR).ow qi qn
          rw [Nat.zero_add] at dg0 dg1 dg2
          have kg := fun o => own_froz (unhide HR).ow o
          have kg0 := kg (qi * 3)
          have kg1 := kg (qi * 3 + 1)
          have kg2 := kg (qi * 3 + 2)
          clear kg
          go_simp
          refine hK.out _ _ ?_ (fun hHeld => ?_)
          · trivial
          clear hK K
          try simp only [List.getElem_toArray, List.getElem_cons_succ, List.getElem_cons_zero, Act.put, List.setIfInBounds_toArray, List.set_cons_zero, List.set_cons_succ]
          refine wpAnyH_ready (rs := [9]) (by kernel_rfl) (by simp) ?_
          refine AllReadyH.cons rfl (fun K hK => ?_) AllReadyH.nil
          go_simp
          obtain ⟨wt, hwt⟩ : ∃ x, x = w5.alloc (.cells #[.bool (G qi).x, .int .i64 (G qi).a, .int .i64 (G qi).b] 76) := ⟨_, rfl⟩
          have bt : Below w5.heap.size w5 wt := by rw [hwt]; exact (Below.refl _ _).alloc (Nat.le_refl _) _
          have qT : Gts wt w5.heap.size 0 1 (fun _ => (G qi)) := by
            refine Gts.lone ?_ ?_ ?_ <;> (rw [hwt]; simp [go_sem])
          clear kp0 kp1 kq0 kq1
          have HR := hide ((unhide HR).later bt)
          rw [← hwt]
          clear hwt bt
          have kp0 := (unhide HR).p0
          have kp1 := (unhide HR).p1
          have kq0 := (unhide HR).pf 0
          have kq1 := (unhide HR).pf 1
          refine hK.out _ _ ?_ (fun hHeld => ?_)
          · trivial
          clear hK K
          try simp only [List.getElem_toArray, List.getElem_cons_succ, List.getElem_cons_zero, Act.put, List.setIfInBounds_toArray, List.set_cons_zero, List.set_cons_succ]
          refine wpAnyH_ready (rs := [10]) (by kernel_rfl) (by simp) ?_
          refine AllReadyH.cons rfl (fun K hK => ?_) AllReadyH.nil
          apply step_gat_one (s := .tmp 72) (x := .tmp 80) (G := G) (q := (G qi)) (base := w.heap.size) (g := g) (cap := cp)
          case hgd => rfl
          case ho => rfl
          case hs => rfl
          case hown => exact (unhide HR).ow
          case hbase => exact Nat.le_trans (unhide HR).mv.size (Nat.le_refl _)
          case hx => rfl
          case hT => exact qT
          case hl => omega
          case' h => intro g2 c2 wa o2 gr2 at2 lt2
          have HA := hide ((unhide HR).app gr2 at2 o2 (snoc_wg (unhide HR).wg ((unhide HR).wg qi qn)))
          have ka0 := (mov_of_grown gr2).cell kp0 hgx.symm
          have ka1 := (mov_of_grown gr2).cell kp1 hgx.symm
          have kb1 := frozen_mov (mov_of_grown gr2) (World.block_lt_of_cell? _ _ kp1) hgx.symm kq1
          have ks0 := (mov_of_grown gr2).cell (unhide HR).s0 hgy.symm
          have ks1 := (mov_of_grown gr2).cell (unhide HR).s1 hgy.symm
          have kf0 := frozen_mov (mov_of_grown gr2) (World.block_lt_of_cell? _ _ (unhide HR).s0) hgy.symm ((unhide HR).sf 0)
          have kf1 := frozen_mov (mov_of_grown gr2) (World.block_lt_of_cell? _ _ (unhide HR).s0) hgy.symm ((unhide HR).sf 1)
          clear kp0 kp1 kq0 kq1 o2 gr2 at2 lt2 qT
          refine hK.out _ _ ?_ (fun hHeld => ?_)
          · trivial
          clear hK K
          try simp only [List.getElem_toArray, List.getElem_cons_succ, List.getElem_cons_zero, Act.put, List.setIfInBounds_toArray, List.set_cons_zero, List.set_cons_succ]
          refine wpAnyH_take (i := 11) (v := ?_) rfl (by kernel_rfl) (by kernel_rfl) (by kernel_rfl) (fun _ _ _ h => h) (Or.inl ⟨by rfl, ?_⟩) (by assumption) ?_
          rotate_left
          · (intro w hSw; (try dsimp only at hSw); first | (go_simp; done) | (go_simp; with_reducible rfl))
          try simp only [List.getElem_toArray, List.getElem_cons_succ, List.getElem_cons_zero, Act.put, List.setIfInBounds_toArray, List.set_cons_zero, List.set_cons_succ]
          refine wpAnyH_ready (rs := [12]) (by kernel_rfl) (by simp) ?_
          refine AllReadyH.cons rfl (fun K hK => ?_) AllReadyH.nil
          go_simp
          refine hK.out _ _ ?_ (fun hHeld => ?_)
          · trivial
          clear hK K
          try simp only [List.getElem_toArray, List.getElem_cons_succ, List.getElem_cons_zero, Act.put, List.setIfInBounds_toArray, List.set_cons_zero, List.set_cons_succ]
          refine wpAnyH_done (by kernel_rfl) ?_ _
          have HF := HA
          clear HA
          go_wp2
          refine bodyPost_ret (v := .agg #[.int .i64 m, .slice (some ⟨g2, 0, none⟩) (n + 1) c2]) (by simp [results, Tryd.results88, go_sem, ks0, ks1, hXY, hYX, hgx, hgx.symm]) rfl ?_
          exact XF.ret (by first | exact unhide HF | exact unhide HF.drew) hm0 (Or.inr (by omega)) (by omega) (by omega)
        · go_simp
          refine hK.out _ _ ?_ (fun hHeld => ?_)
          · trivial
          clear hK K
          try simp only [List.getElem_toArray, List.getElem_cons_succ, List.getElem_cons_zero, Act.put, List.setIfInBounds_toArray, List.set_cons_zero, List.set_cons_succ]
          refine wpAnyH_take (i := 7) (v := ?_) rfl (by kernel_rfl) (by kernel_rfl) (by kernel_rfl) (fun _ _ _ h => h) (Or.inl ⟨by rfl, ?_⟩) (by assumption) ?_
          rotate_left
          · (intro w hSw; (try dsimp only at hSw); first | (go_simp; done) | (go_simp; with_reducible rfl))
          try simp only [List.getElem_toArray, List.getElem_cons_succ, List.getElem_cons_zero, Act.put, List.setIfInBounds_toArray, List.set_cons_zero, List.set_cons_succ]
          refine wpAnyH_ready (rs := [1, 8]) (by kernel_rfl) (by simp) ?_
          refine AllReadyH.cons rfl (fun K hK => ?_) (AllReadyH.cons rfl (fun K hK => ?_) AllReadyH.nil)
          · go_simp
            refine hK.out _ _ ?_ (fun hHeld => ?_)
            · trivial
            clear hK K
            try simp only [List.getElem_toArray, List.getElem_cons_succ, List.getElem_cons_zero, Act.put, List.setIfInBounds_toArray, List.set_cons_zero, List.set_cons_succ]
            refine wpAnyH_ready (rs := [8]) (by kernel_rfl) (by simp) ?_
            refine AllReadyH.cons rfl (fun K hK => ?_) AllReadyH.nil
            obtain ⟨dg0, dg1, dg2⟩ := own_gts (unhide HR).ow qi qn
            rw [Nat.zero_add] at dg0 dg1 dg2
            have kg := fun o => own_froz (unhide HR).ow o
            have kg0 := kg (qi * 3)
            have kg1 := kg (qi * 3 + 1)
            have kg2 := kg (qi * 3 + 2)
            clear kg
            go_simp
            refine hK.out _ _ ?_ (fun hHeld => ?_)
            · trivial
            clear hK K
            try simp only [List.getElem_toArray, List.getElem_cons_succ, List.getElem_cons_zero, Act.put, List.setIfInBounds_toArray, List.set_cons_zero, List.set_cons_succ]
            refine wpAnyH_ready (rs := [9]) (by kernel_rfl) (by simp) ?_
            refine AllReadyH.cons rfl (fun K hK => ?_) AllReadyH.nil
            go_simp
            obtain ⟨wt, hwt⟩ : ∃ x, x = w5.alloc (.cells #[.bool (G qi).x, .int .i64 (G qi).a, .int .i64 (G qi).b] 76) := ⟨_, rfl⟩
            have bt : Below w5.heap.size w5 wt := by rw [hwt]; exact (Below.refl _ _).alloc (Nat.le_refl _) _
            have qT : Gts wt w5.heap.size 0 1 (fun _ => (G qi)) := by
              refine Gts.lone ?_ ?_ ?_ <;> (rw [hwt]; simp [go_sem])
            clear kp0 kp1 kq0 kq1
            have HR := hide ((unhide HR).later bt)
            rw [← hwt]
            clear hwt bt
            have kp0 := (unhide HR).p0
            have kp1 := (unhide HR).p1
            have kq0 := (unhide HR).pf 0
            have kq1 := (unhide HR).pf 1
            refine hK.out _ _ ?_ (fun hHeld => ?_)
            · trivial
            clear hK K
            try simp only [List.getElem_toArray, List.getElem_cons_succ, List.getElem_cons_zero, Act.put, List.setIfInBounds_toArray, List.set_cons_zero, List.set_cons_succ]
            refine wpAnyH_ready (rs := [10]) (by kernel_rfl) (by simp) ?_
            refine AllReadyH.cons rfl (fun K hK => ?_) AllReadyH.nil
            apply step_gat_one (s := .tmp 72) (x := .tmp 80) (G := G) (q := (G qi)) (base := w.heap.size) (g := g) (cap := cp)
            case hgd => rfl
            case ho => rfl
            case hs => rfl
            case hown => exact (unhide HR).ow
            case hbase => exact Nat.le_trans (unhide HR).mv.size (Nat.le_refl _)
            case hx => rfl
            case hT => exact qT
            case hl => omega
            case' h => intro g2 c2 wa o2 gr2 at2 lt2
            have HA := hide ((unhide HR).app gr2 at2 o2 (snoc_wg (unhide HR).wg ((unhide HR).wg qi qn)))
            have ka0 := (mov_of_grown gr2).cell kp0 hgx.symm
            have ka1 := (mov_of_grown gr2).cell kp1 hgx.symm
            have kb1 := frozen_mov (mov_of_grown gr2) (World.block_lt_of_cell? _ _ kp1) hgx.symm kq1
            have ks0 := (mov_of_grown gr2).cell (unhide HR).s0 hgy.symm
            have ks1 := (mov_of_grown gr2).cell (unhide HR).s1 hgy.symm
            have kf0 := frozen_mov (mov_of_grown gr2) (World.block_lt_of_cell? _ _ (unhide HR).s0) hgy.symm ((unhide HR).sf 0)
            have kf1 := frozen_mov (mov_of_grown gr2) (World.block_lt_of_cell? _ _ (unhide HR).s0) hgy.symm ((unhide HR).sf 1)
            clear kp0 kp1 kq0 kq1 o2 gr2 at2 lt2 qT
            refine hK.out _ _ ?_ (fun hHeld => ?_)
            · trivial
            clear hK K
            try simp only [List.getElem_toArray, List.getElem_cons_succ, List.getElem_cons_zero, Act.put, List.setIfInBounds_toArray, List.set_cons_zero, List.set_cons_succ]
            refine wpAnyH_take (i := 11) (v := ?_) rfl (by kernel_rfl) (by kernel_rfl) (by kernel_rfl) (fun _ _ _ h => h) (Or.inl ⟨by rfl, ?_⟩) (by assumption) ?_
            rotate_left
            · (intro w hSw; (try dsimp only at hSw); first | (go_simp; done) | (go_simp; with_reducible rfl))
            try simp only [List.getElem_toArray, List.getElem_cons_succ, List.getElem_cons_zero, Act.put, List.setIfInBounds_toArray, List.set_cons_zero, List.set_cons_succ]
            refine wpAnyH_ready (rs := [12]) (by kernel_rfl) (by simp) ?_
            refine AllReadyH.cons rfl (fun K hK => ?_) AllReadyH.nil
            go_simp
            refine hK.out _ _ ?_ (fun hHeld => ?_)
            · trivial
            clear hK K
            try simp only [List.getElem_toArray, List.getElem_cons_succ, List.getElem_cons_zero, Act.put, List.setIfInBounds_toArray, List.set_cons_zero, List.set_cons_succ]
            refine wpAnyH_done (by kernel_rfl) ?_ _
            have HF := HA
            clear HA
            go_wp2
            refine bodyPost_ret (v := .agg #[.int .i64 m, .slice (some ⟨g2, 0, none⟩) (n + 1) c2]) (by simp [results, Tryd.results88, go_sem, ks0, ks1, hXY, hYX, hgx, hgx.symm]) rfl ?_
            exact XF.ret (by first | exact unhide HF | exact unhide HF.drew) hm0 (Or.inr (by omega)) (by omega) (by omega)
          · obtain ⟨dg0, dg1, dg2⟩ := own_gts (unhide HR).ow qi qn
            rw [Nat.zero_add] at dg0 dg1 dg2
            have kg := fun o => own_froz (unhide HR).ow o
            have kg0 := kg (qi * 3)
            have kg1 := kg (qi * 3 + 1)
            have kg2 := kg (qi * 3 + 2)
            clear kg
            go_simp
            refine hK.out _ _ ?_ (fun hHeld => ?_)
            · trivial
            clear hK K
            try simp only [List.getElem_toArray, List.getElem_cons_succ, List.getElem_cons_zero, Act.put, List.setIfInBounds_toArray, List.set_cons_zero, List.set_cons_succ]
            refine wpAnyH_ready (rs := [1, 9]) (by kernel_rfl) (by simp) ?_
            refine AllReadyH.cons rfl (fun K hK => ?_) (AllReadyH.cons rfl (fun K hK => ?_) AllReadyH.nil)
            · go_simp
              refine hK.out _ _ ?_ (fun hHeld => ?_)
              · trivial
              clear hK K
              try simp only [List.getElem_toArray, List.getElem_cons_succ, List.getElem_cons_zero, Act.put, List.setIfInBounds_toArray, List.set_cons_zero, List.set_cons_succ]
              refine wpAnyH_ready (rs := [9]) (by kernel_rfl) (by simp) ?_
              refine AllReadyH.cons rfl (fun K hK => ?_) AllReadyH.nil
              go_simp
              obtain ⟨wt, hwt⟩ : ∃ x, x = w5.alloc (.cells #[.bool (G qi).x, .int .i64 (G qi).a, .int .i64 (G qi).b] 76) := ⟨_, rfl⟩
              have bt : Below w5.heap.size w5 wt := by rw [hwt]; exact (Below.refl _ _).alloc (Nat.le_refl _) _
              have qT : Gts wt w5.heap.size 0 1 (fun _ => (G qi)) := by
                refine Gts.lone ?_ ?_ ?_ <;> (rw [hwt]; simp [go_sem])
              clear kp0 kp1 kq0 kq1
              have HR := hide ((unhide HR).later bt)
              rw [← hwt]
              clear hwt bt
              have kp0 := (unhide HR).p0
              have kp1 := (unhide HR).p1
              have kq0 := (unhide HR).pf 0
              have kq1 := (unhide HR).pf 1
              refine hK.out _ _ ?_ (fun hHeld => ?_)
              · trivial
              clear hK K
              try simp only [List.getElem_toArray, List.getElem_cons_succ, List.getElem_cons_zero, Act.put, List.setIfInBounds_toArray, List.set_cons_zero, List.set_cons_succ]
              refine wpAnyH_ready (rs := [10]) (by kernel_rfl) (by simp) ?_
              refine AllReadyH.cons rfl (fun K hK => ?_) AllReadyH.nil
              apply step_gat_one (s := .tmp 72) (x := .tmp 80) (G := G) (q := (G qi)) (base := w.heap.size) (g := g) (cap := cp)
              case hgd => rfl
              case ho => rfl
              case hs => rfl
              case hown => exact (unhide HR).ow
              case hbase => exact Nat.le_trans (unhide HR).mv.size (Nat.le_refl _)
              case hx => rfl
              case hT => exact qT
              case hl => omega
              case' h => intro g2 c2 wa o2 gr2 at2 lt2
              have HA := hide ((unhide HR).app gr2 at2 o2 (snoc_wg (unhide HR).wg ((unhide HR).wg qi qn)))
              have ka0 := (mov_of_grown gr2).cell kp0 hgx.symm
              have ka1 := (mov_of_grown gr2).cell kp1 hgx.symm
              have kb1 := frozen_mov (mov_of_grown gr2) (World.block_lt_of_cell? _ _ kp1) hgx.symm kq1
              have ks0 := (mov_of_grown gr2).cell (unhide HR).s0 hgy.symm
              have ks1 := (mov_of_grown gr2).cell (unhide HR).s1 hgy.symm
              have kf0 := frozen_mov (mov_of_grown gr2) (World.block_lt_of_cell? _ _ (unhide HR).s0) hgy.symm ((unhide HR).sf 0)
              have kf1 := frozen_mov (mov_of_grown gr2) (World.block_lt_of_cell? _ _ (unhide HR).s0) hgy.symm ((unhide HR).sf 1)
              clear kp0 kp1 kq0 kq1 o2 gr2 at2 lt2 qT
              refine hK.out _ _ ?_ (fun hHeld => ?_)
              · trivial
              clear hK K
              try simp only [List.getElem_toArray, List.getElem_cons_succ, List.getElem_cons_zero, Act.put, List.setIfInBounds_toArray, List.set_cons_zero, List.set_cons_succ]
              refine wpAnyH_take (i := 11) (v := ?_) rfl (by kernel_rfl) (by kernel_rfl) (by kernel_rfl) (fun _ _ _ h => h) (Or.inl ⟨by rfl, ?_⟩) (by assumption) ?_
              rotate_left
              · (intro w hSw; (try dsimp only at hSw); first | (go_simp; done) | (go_simp; with_reducible rfl))
              try simp only [List.getElem_toArray, List.getElem_cons_succ, List.getElem_cons_zero, Act.put, List.setIfInBounds_toArray, List.set_cons_zero, List.set_cons_succ]
              refine wpAnyH_ready (rs := [12]) (by kernel_rfl) (by simp) ?_
              refine AllReadyH.cons rfl (fun K hK => ?_) AllReadyH.nil
              go_simp
              refine hK.out _ _ ?_ (fun hHeld => ?_)
              · trivial
              clear hK K
              try simp only [List.getElem_toArray, List.getElem_cons_succ, List.getElem_cons_zero, Act.put, List.setIfInBounds_toArray, List.set_cons_zero, List.set_cons_succ]
              refine wpAnyH_done (by kernel_rfl) ?_ _
              have HF := HA
              clear HA
              go_wp2
              refine bodyPost_ret (v := .agg #[.int .i64 m, .slice (some ⟨g2, 0, none⟩) (n + 1) c2]) (by simp [results, Tryd.results88, go_sem, ks0, ks1, hXY, hYX, hgx, hgx.symm]) rfl ?_
              exact XF.ret (by first | exact unhide HF | exact unhide HF.drew) hm0 (Or.inr (by omega)) (by omega) (by omega)
            · go_simp
              obtain ⟨wt, hwt⟩ : ∃ x, x = w5.alloc (.cells #[.bool (G qi).x, .int .i64 (G qi).a, .int .i64 (G qi).b] 76) := ⟨_, rfl⟩
              have bt : Below w5.heap.size w5 wt := by rw [hwt]; exact (Below.refl _ _).alloc (Nat.le_refl _) _
              have qT : Gts wt w5.heap.size 0 1 (fun _ => (G qi)) := by
                refine Gts.lone ?_ ?_ ?_ <;> (rw [hwt]; simp [go_sem])
              clear kp0 kp1 kq0 kq1
              have HR := hide ((unhide HR).later bt)
              rw [← hwt]
              clear hwt bt
              have kp0 := (unhide HR).p0
              have kp1 := (unhide HR).p1
              have kq0 := (unhide HR).pf 0
              have kq1 := (unhide HR).pf 1
              refine hK.out _ _ ?_ (fun hHeld => ?_)
              · trivial
              clear hK K
              try simp only [List.getElem_toArray, List.getElem_cons_succ, List.getElem_cons_zero, Act.put, List.setIfInBounds_toArray, List.set_cons_zero, List.set_cons_succ]
              refine wpAnyH_ready (rs := [1]) (by kernel_rfl) (by simp) ?_
              refine AllReadyH.cons rfl (fun K hK => ?_) AllReadyH.nil
              go_simp
              refine hK.out _ _ ?_ (fun hHeld => ?_)
              · trivial
              clear hK K
              try simp only [List.getElem_toArray, List.getElem_cons_succ, List.getElem_cons_zero, Act.put, List.setIfInBounds_toArray, List.set_cons_zero, List.set_cons_succ]
              refine wpAnyH_ready (rs := [10]) (by kernel_rfl) (by simp) ?_
              refine AllReadyH.cons rfl (fun K hK => ?_) AllReadyH.nil
              apply step_gat_one (s := .tmp 72) (x := .tmp 80) (G := G) (q := (G qi)) (base := w.heap.size) (g := g) (cap := cp)
              case hgd => rfl
              case ho => rfl
              case hs => rfl
              case hown => exact (unhide HR).ow
              case hbase => exact Nat.le_trans (unhide HR).mv.size (Nat.le_refl _)
              case hx => rfl
              case hT => exact qT
              case hl => omega
              case' h => intro g2 c2 wa o2 gr2 at2 lt2
              have HA := hide ((unhide HR).app gr2 at2 o2 (snoc_wg (unhide HR).wg ((unhide HR).wg qi qn)))
              have ka0 := (mov_of_grown gr2).cell kp0 hgx.symm
              have ka1 := (mov_of_grown gr2).cell kp1 hgx.symm
              have kb1 := frozen_mov (mov_of_grown gr2) (World.block_lt_of_cell? _ _ kp1) hgx.symm kq1
              have ks0 := (mov_of_grown gr2).cell (unhide HR).s0 hgy.symm
              have ks1 := (mov_of_grown gr2).cell (unhide HR).s1 hgy.symm
              have kf0 := frozen_mov (mov_of_grown gr2) (World.block_lt_of_cell? _ _ (unhide HR).s0) hgy.symm ((unhide HR).sf 0)
              have kf1 := frozen_mov (mov_of_grown gr2) (World.block_lt_of_cell? _ _ (unhide HR).s0) hgy.symm ((unhide HR).sf 1)
              clear kp0 kp1 kq0 kq1 o2 gr2 at2 lt2 qT
              refine hK.out _ _ ?_ (fun hHeld => ?_)
              · trivial
              clear hK K
              try simp only [List.getElem_toArray, List.getElem_cons_succ, List.getElem_cons_zero, Act.put, List.setIfInBounds_toArray, List.set_cons_zero, List.set_cons_succ]
              refine wpAnyH_take (i := 11) (v := ?_) rfl (by kernel_rfl) (by kernel_rfl) (by kernel_rfl) (fun _ _ _ h => h) (Or.inl ⟨by rfl, ?_⟩) (by assumption) ?_
              rotate_left
              · (intro w hSw; (try dsimp only at hSw); first | (go_simp; done) | (go_simp; with_reducible rfl))
              try simp only [List.getElem_toArray, List.getElem_cons_succ, List.getElem_cons_zero, Act.put, List.setIfInBounds_toArray, List.set_cons_zero, List.set_cons_succ]
              refine wpAnyH_ready (rs := [12]) (by kernel_rfl) (by simp) ?_
              refine AllReadyH.cons rfl (fun K hK => ?_) AllReadyH.nil
              go_simp
              refine hK.out _ _ ?_ (fun hHeld => ?_)
              · trivial
              clear hK K
              try simp only [List.getElem_toArray, List.getElem_cons_succ, List.getElem_cons_zero, Act.put, List.setIfInBounds_toArray, List.set_cons_zero, List.set_cons_succ]
              refine wpAnyH_done (by kernel_rfl) ?_ _
              have HF := HA
              clear HA
              go_wp2
              refine bodyPost_ret (v := .agg #[.int .i64 m, .slice (some ⟨g2, 0, none⟩) (n + 1) c2]) (by simp [results, Tryd.results88, go_sem, ks0, ks1, hXY, hYX, hgx, hgx.symm]) rfl ?_
              exact XF.ret (by first | exact unhide HF | exact unhide HF.drew) hm0 (Or.inr (by omega)) (by omega) (by omega)
    · have hnb : decide ((n : Int) > 0) = false := by simp; omega
      have HF := hide (unhide HR).fin
      have kp0 := (unhide HR).p0
      have kp1 := (unhide HR).p1
      have kq0 := (unhide HR).pf 0
      have kq1 := (unhide HR).pf 1
      have ks0 := (unhide HR).s0
      have ks1 := (unhide HR).s1
      have kf0 := (unhide HR).sf 0
      have kf1 := (unhide HR).sf 1
      go_wp2
      refine bodyPost_ret (v := .agg #[.int .i64 m, .slice (some ⟨g, 0, none⟩) n cp]) (by simp [results, Tryd.results88, go_sem, ks0, ks1, hXY, hYX, hgx, hgx.symm]) rfl ?_
      exact XF.ret (by first | exact unhide HF | exact unhide HF.drew) hm0 (Or.inr (by omega)) (by omega) (by omega)
  have k4 : (q == 4) = false := by simp [c4]
  by_cases c5 : q = 5
  · subst c5
    by_cases hn0 : 0 < n
    · have hnb : decide ((n : Int) > 0) = true := by simp; omega
      have kp0 := (unhide HR).p0
      have kp1 := (unhide HR).p1
      have kq0 := (unhide HR).pf 0
      have kq1 := (unhide HR).pf 1
      go_wp2
      refine wp_region_held_drew (S := fun w' => w'.cell? ⟨X, 0, none⟩ = some (.int .i64 m) ∧ w'.cell? ⟨X, 1, none⟩ = some (.slice (some ⟨g, 0, none⟩) n cp)) (by kernel_rfl) ?_ (fun hHeld => ?_)
      · exact ⟨kp0, kp1⟩
      obtain ⟨wd, hwd⟩ : ∃ x, x = w2.drew := ⟨_, rfl⟩
      have HR := hide ((unhide HR).drew)
      rw [← hwd] at HR ⊢
      (try rw [← hwd] at hHeld)
      clear hwd
      have kp0 := (unhide HR).p0
      have kp1 := (unhide HR).p1
      have kq0 := (unhide HR).pf 0
      have kq1 := (unhide HR).pf 1
      refine wpAnyH_take (i := 0) (v := ?_) rfl (by kernel_rfl) (by kernel_rfl) (by kernel_rfl) (fun _ _ _ h => h) (Or.inl ⟨by rfl, ?_⟩) (by assumption) ?_
      rotate_left
      · (intro w hSw; (try dsimp only at hSw); first | (go_simp; done) | (go_simp; with_reducible rfl))
      try simp only [List.getElem_toArray, List.getElem_cons_succ, List.getElem_cons_zero, Act.put, List.setIfInBounds_toArray, List.set_cons_zero, List.set_cons_succ]
      refine wpAnyH_take (i := 1) (v := ?_) rfl (by kernel_rfl) (by kernel_rfl) (by kernel_rfl) (fun _ _ _ h => h) (Or.inl ⟨by rfl, ?_⟩) (by assumption) ?_
      rotate_left
      · (intro w hSw; (try dsimp only at hSw); first | (go_simp; done) | (go_simp; with_reducible rfl))
      try simp only [List.getElem_toArray, List.getElem_cons_succ, List.getElem_cons_zero, Act.put, List.setIfInBounds_toArray, List.set_cons_zero, List.set_cons_succ]
      refine wpAnyH_take (i := 2) (v := ?_) rfl (by kernel_rfl) (by kernel_rfl) (by kernel_rfl) (fun _ _ _ h => h) (Or.inl ⟨by rfl, ?_⟩) (by assumption) ?_
      rotate_left
      · (intro w hSw; (try dsimp only at hSw); first | (go_simp; done) | (go_simp; with_reducible rfl))
      try simp only [List.getElem_toArray, List.getElem_cons_succ, List.getElem_cons_zero, Act.put, List.setIfInBounds_toArray, List.set_cons_zero, List.set_cons_succ]
      refine wpAnyH_take (i := 3) (v := ?_) rfl (by kernel_rfl) (by kernel_rfl) (by kernel_rfl) (fun _ _ _ h => h) (Or.inl ⟨by rfl, ?_⟩) (by assumption) ?_
      rotate_left
      · (intro w hSw; (try dsimp only at hSw); first | (go_simp; done) | (go_simp; with_reducible rfl))
      try simp only [List.getElem_toArray, List.getElem_cons_succ, List.getElem_cons_zero, Act.put, List.setIfInBounds_toArray, List.set_cons_zero, List.set_cons_succ]
      refine wpAnyH_ready (rs := [4]) (by kernel_rfl) (by simp) ?_
      refine AllReadyH.cons rfl (fun K hK => ?_) AllReadyH.nil
      go_simp
      refine (pick_any R _ n _ (unhide HR).rd (by omega) (by omega) (by omega)).mono ?_
      rintro e w5 ⟨qi', rfl, qi0, qi1, R5, M5⟩
      obtain ⟨qi, rfl⟩ := Int.eq_ofNat_of_zero_le qi0
      have qn : qi < n := by omega
      clear kp0 kp1 kq0 kq1
      have HR := hide ((unhide HR).mov M5 R5)
      clear M5 R5
      have kp0 := (unhide HR).p0
      have kp1 := (unhide HR).p1
      have kq0 := (unhide HR).pf 0
      have kq1 := (unhide HR).pf 1
      go_wp2_with fail
      refine hK.out _ _ ?_ (fun hHeld => ?_)
      · exact ⟨kp0, kp1⟩
      clear hK K
      try simp only [List.getElem_toArray, List.getElem_cons_succ, List.getElem_cons_zero, Act.put, List.setIfInBounds_toArray, List.set_cons_zero, List.set_cons_succ]
      refine wpAnyH_take (i := 5) (v := ?_) rfl (by kernel_rfl) (by kernel_rfl) (by kernel_rfl) (fun _ _ _ h => h) (Or.inl ⟨by rfl, ?_⟩) (by assumption) ?_
      rotate_left
      · (intro w hSw; (try dsimp only at hSw); first | (go_simp; done) | (go_simp; with_reducible rfl))
      try simp only [List.getElem_toArray, List.getElem_cons_succ, List.getElem_cons_zero, Act.put, List.setIfInBounds_toArray, List.set_cons_zero, List.set_cons_succ]
      refine wpAnyH_take (i := 6) (v := ?_) rfl (by kernel_rfl) (by kernel_rfl) (by kernel_rfl) (fun _ _ _ h => h) (Or.inl ⟨by rfl, ?_⟩) (by assumption) ?_
      rotate_left
      · (intro w hSw; (try dsimp only at hSw); first | (go_simp; done) | (go_simp; with_reducible rfl))
      try simp only [List.getElem_toArray, List.getElem_cons_succ, List.getElem_cons_zero, Act.put, List.setIfInBounds_toArray, List.set_cons_zero, List.set_cons_succ]
      refine wpAnyH_ready (rs := [7]) (by kernel_rfl) (by simp) ?_
      refine AllReadyH.cons rfl (fun K hK => ?_) AllReadyH.nil
      obtain ⟨dg0, dg1, dg2⟩ := own_gts (unhide HR).ow qi qn
      rw [Nat.zero_add] at dg0 dg1 dg2
      have kg := fun o => own_froz (unhide HR).ow o
      have kg0 := kg (qi * 3)
      have kg1 := kg (qi * 3 + 1)
      have kg2 := kg (qi * 3 + 2)
      clear kg
      go_simp
      refine hK.out _ _ ?_ (fun hHeld => ?_)
      · exact ⟨by rw [World.cell?_setCell_other _ _ _ _ (by simp <;> omega)]; exact kp0, by rw [World.cell?_setCell_other _ _ _ _ (by simp <;> omega)]; exact kp1⟩
      clear hK K
      try simp only [List.getElem_toArray, List.getElem_cons_succ, List.getElem_cons_zero, Act.put, List.setIfInBounds_toArray, List.set_cons_zero, List.set_cons_succ]
      refine wpAnyH_done (by kernel_rfl) ?_ _
      have HF := hide ((unhide HR).fin.row (Gts.setX (own_gts (unhide HR).ow) qn true) (upX_wg (unhide HR).wg))
      clear dg0 dg1 dg2 kg0 kg1 kg2
      have ks0 := (unhide HR).s0
      have ks1 := (unhide HR).s1
      have kf0 := (unhide HR).sf 0
      have kf1 := (unhide HR).sf 1
      go_wp2
      refine bodyPost_ret (v := .agg #[.int .i64 m, .slice (some ⟨g, 0, none⟩) n cp]) (by simp [results, Tryd.results88, go_sem, ks0, ks1, hXY, hYX, hgx, hgx.symm]) rfl ?_
      exact XF.ret (by first | exact unhide HF | exact unhide HF.drew) hm0 (Or.inr (by omega)) (by omega) (by omega)
    · have hnb : decide ((n : Int) > 0) = false := by simp; omega
      have HF := hide (unhide HR).fin
      have kp0 := (unhide HR).p0
      have kp1 := (unhide HR).p1
      have kq0 := (unhide HR).pf 0
      have kq1 := (unhide HR).pf 1
      have ks0 := (unhide HR).s0
      have ks1 := (unhide HR).s1
      have kf0 := (unhide HR).sf 0
      have kf1 := (unhide HR).sf 1
      go_wp2
      refine bodyPost_ret (v := .agg #[.int .i64 m, .slice (some ⟨g, 0, none⟩) n cp]) (by simp [results, Tryd.results88, go_sem, ks0, ks1, hXY, hYX, hgx, hgx.symm]) rfl ?_
      exact XF.ret (by first | exact unhide HF | exact unhide HF.drew) hm0 (Or.inr (by omega)) (by omega) (by omega)
  have k5 : (q == 5) = false := by simp [c5]
  have HF := hide (unhide HR).fin
  have kp0 := (unhide HR).p0
  have kp1 := (unhide HR).p1
  have kq0 := (unhide HR).pf 0
  have kq1 := (unhide HR).pf 1
  have ks0 := (unhide HR).s0
  have ks1 := (unhide HR).s1
  have kf0 := (unhide HR).sf 0
  have kf1 := (unhide HR).sf 1
  go_wp2
  refine bodyPost_ret (v := .agg #[.int .i64 m, .slice (some ⟨g, 0, none⟩) n cp]) (by simp [results, Tryd.results88, go_sem, ks0, ks1, hXY, hYX, hgx, hgx.symm]) rfl ?_
  exact XF.ret (by first | exact unhide HF | exact unhide HF.drew) hm0 (Or.inr (by omega)) (by omega) (by omega)
end Go.Proofs.YtmpiiilkaadhfaaDoor
