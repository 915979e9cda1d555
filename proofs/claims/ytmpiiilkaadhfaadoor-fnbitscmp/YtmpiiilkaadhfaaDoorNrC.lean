/- Both so: the mark, of the model, in new memory. -/
import Derived.Test.YtmpiiilkaadhfaaDoorNrB
namespace Go.Proofs.YtmpiiilkaadhfaaDoor
open Go.ChangeShapes Go.WideShapes Go.ChangeAt Go.RowKit Go.Joins
set_option linter.unusedVariables false
set_option maxRecDepth 100000
set_option linter.unusedSimpArgs false

set_option maxRecDepth 100000 in
set_option maxHeartbeats 2000000 in
theorem l6Fresh_any (m : Int) (ad : Option Addr) (n cap : Nat) (G : Nat → Gt) (w : World) (hd : GtsAt w ad n G) (hnn : ad = none → n = 0 ∧ cap = 0) (hspot : ∀ p, ad = some p → p.spot = none) (hn : n ≤ 1048576) :
    Calls Tryd.prog 39 #[.agg #[.int .i64 m, .slice ad n cap]] w fun e w' => ∃ g cap', e = .returned (.agg #[.int .i64 m, .slice (some ⟨g, 0, none⟩) n cap']) ∧ GtsAt w' (some ⟨g, 0, none⟩) n G ∧ w.heap.size ≤ g ∧ Below w.heap.size w w' := by
  obtain ⟨wz, hwz⟩ : ∃ wz, wz = (w.alloc (.cells #[.int .i64 m, .slice ad n cap] 25)).alloc (.cells #[.int .i64 0, .slice none 0 0] 25) := ⟨_, rfl⟩
  have BZ : Below w.heap.size w wz := by rw [hwz]; exact ((Below.refl _ _).alloc (Nat.le_refl _) _).alloc (by simp) _
  have Pw0 : wz.cell? ⟨w.heap.size, 0, none⟩ = some (.int .i64 m) := by rw [hwz]; simp [go_sem]
  have Pw1 : wz.cell? ⟨w.heap.size, 1, none⟩ = some (.slice ad n cap) := by rw [hwz]; simp [go_sem]
  have Sw0 : wz.cell? ⟨w.heap.size + 1, 0, none⟩ = some (.int .i64 0) := by rw [hwz]; simp [go_sem]
  have Sw1 : wz.cell? ⟨w.heap.size + 1, 1, none⟩ = some (.slice none 0 0) := by rw [hwz]; simp [go_sem]
  have Fw0 : wz.frozen? ⟨w.heap.size + 1, 0, none⟩ = false := by rw [hwz]; simp [go_sem]
  have Fw1 : wz.frozen? ⟨w.heap.size + 1, 1, none⟩ = false := by rw [hwz]; simp [go_sem]
  have hsz : wz.heap.size = w.heap.size + 2 := by rw [hwz]; simp
  have lw : w.heap.size < wz.heap.size := by omega
  have lw1 : w.heap.size + 1 < wz.heap.size := by omega
  have HDz := hide (hd.later BZ)
  have HZ := hide hwz
  have p0 := Pw0
  have p1 := Pw1
  clear hd hwz
  go_enter Tryd.func39, Tryd.ntmps39
  go_wp2
  rw [← unhide HZ]
  go_region_held3 (fun w' => w'.cell? ⟨w.heap.size, 0, none⟩ = some (.int .i64 m) ∧ w'.cell? ⟨w.heap.size, 1, none⟩ = some (.slice ad n cap)) (first | (refine ⟨?_, ?_⟩ <;> (rw [World.cell?_setCell_other _ _ _ _ (by simp), World.cell?_setCell_other _ _ _ _ (by simp)]; assumption)) | exact ⟨((show Below wz.heap.size wz _ from (by repeat (first | exact Below.refl _ _ | assumption | refine below_drewN ?_ _ | refine Below.drew ?_ | refine Below.alloc ?_ (by first | exact Nat.le_refl _ | exact Below.size (by assumption) | (simp; done) | (simp; omega)) _ | refine Below.setCell ?_ (by first | exact Nat.le_refl _ | exact Below.size (by assumption) | (simp; done) | (simp; omega)) _ | refine Below.trans ?_ (by assumption)))).cell (p := ⟨w.heap.size, 0, none⟩) lw).trans Pw0, ((show Below wz.heap.size wz _ from (by repeat (first | exact Below.refl _ _ | assumption | refine below_drewN ?_ _ | refine Below.drew ?_ | refine Below.alloc ?_ (by first | exact Nat.le_refl _ | exact Below.size (by assumption) | (simp; done) | (simp; omega)) _ | refine Below.setCell ?_ (by first | exact Nat.le_refl _ | exact Below.size (by assumption) | (simp; done) | (simp; omega)) _ | refine Below.trans ?_ (by assumption)))).cell (p := ⟨w.heap.size, 1, none⟩) lw).trans Pw1⟩ | go_keep | exact ⟨p0, p1⟩)
    (first | (apply step_gat_copy (s := .tmp 5) (x := .tmp 7) (G := G) (base := wz.heap.size); (case hgd => rfl); (case ho => rfl); (case hs => rfl); (case hx => rfl); (case hX => (first | (refine alloc_at ?_; first | rfl | (simp; done) | omega) | (show (World.alloc _ _).heap[_]? = _; refine alloc_at ?_; first | rfl | (simp; done) | omega))); (case hbX => (first | omega | (simp; done) | (simp; omega))); (case hbase => (first | omega | (simp; done) | (simp; omega))); (case hc => exact (unhide HDz).later (by repeat (first | exact Below.refl _ _ | assumption | refine below_drewN ?_ _ | refine Below.drew ?_ | refine Below.alloc ?_ (by first | exact Nat.le_refl _ | exact Below.size (by assumption) | (simp; done) | (simp; omega)) _ | refine Below.setCell ?_ (by first | exact Nat.le_refl _ | exact Below.size (by assumption) | (simp; done) | (simp; omega)) _ | refine Below.trans ?_ (by assumption)))); (case hnn => exact hnn); (case hspot => exact hspot); (case hl => omega); case' h => (intro g1 c1 wa o1 gr1 at1 lt1; have ba := (show Below wz.heap.size wz _ from (by repeat (first | exact Below.refl _ _ | assumption | refine below_drewN ?_ _ | refine Below.drew ?_ | refine Below.alloc ?_ (by first | exact Nat.le_refl _ | exact Below.size (by assumption) | (simp; done) | (simp; omega)) _ | refine Below.setCell ?_ (by first | exact Nat.le_refl _ | exact Below.size (by assumption) | (simp; done) | (simp; omega)) _ | refine Below.trans ?_ (by assumption)))).trans ((mov_of_grown gr1).below (by first | omega | (simp; done) | (simp; omega)) (by first | omega | (simp; done) | (simp; omega))); have p0 := (ba.cell (p := ⟨w.heap.size, 0, none⟩) lw).trans Pw0; have p1 := (ba.cell (p := ⟨w.heap.size, 1, none⟩) lw).trans Pw1; have s0 := (ba.cell (p := ⟨w.heap.size + 1, 0, none⟩) lw1).trans Sw0; have s1 := (ba.cell (p := ⟨w.heap.size + 1, 1, none⟩) lw1).trans Sw1; have f0 := (ba.frozen (p := ⟨w.heap.size + 1, 0, none⟩) lw1).trans Fw0; have f1 := (ba.frozen (p := ⟨w.heap.size + 1, 1, none⟩) lw1).trans Fw1)))
  all_goals go_wp2
  all_goals have gb := own_base o1
  all_goals refine bodyPost_ret (v := .agg #[.int .i64 m, .slice (some ⟨g1, 0, none⟩) n c1]) (by simp [results, Tryd.results39, go_sem, s0, s1]) rfl ?_
  all_goals exact ⟨g1, c1, rfl, (by refine GtsAt.mov2 (own_gtsAt o1) (B := w.heap.size + 1) (by omega) ?_; first | exact (Mov.set _ _ _).trans (Mov.set _ _ _) | exact ((Mov.set _ _ _).trans (Mov.set _ _ _)).drew | exact ((Mov.refl _ _).drew.trans (Mov.set _ _ _)).trans (Mov.set _ _ _)), by omega, (by have BA := BZ.trans (ba.mono BZ.size); exact (by repeat (first | exact Below.refl _ _ | assumption | refine below_drewN ?_ _ | refine Below.drew ?_ | refine Below.alloc ?_ (by first | exact Nat.le_refl _ | exact Below.size (by assumption) | (simp; done) | (simp; omega)) _ | refine Below.setCell ?_ (by first | exact Nat.le_refl _ | exact Below.size (by assumption) | (simp; done) | (simp; omega)) _ | refine Below.trans ?_ (by assumption))))⟩
/-- A right net, and two marks that it has. -/
def inB (m : Int) (n : Nat) (G : Nat → Gt) (a b : Int) : Prop := netB m n G = true ∧ mkP m n a = true ∧ mkP m n b = true
def nilR (G : Nat → Gt) : NR := ⟨0, 0, G, 0⟩
noncomputable def netAndR (m : Int) (n : Nat) (G : Nat → Gt) (a b : Int) : NR := @ite _ (inB m n G a b) (Classical.propDecidable _) (andR m n G a b) (nilR G)
theorem netAndR_no {m : Int} {n : Nat} {G : Nat → Gt} {a b : Int} (h : ¬ inB m n G a b) : netAndR m n G a b = nilR G := if_neg h
theorem netAndR_yes {m : Int} {n : Nat} {G : Nat → Gt} {a b : Int} (h : inB m n G a b) : netAndR m n G a b = andR m n G a b := if_pos h
theorem andR_n {m : Int} {n : Nat} {G : Nat → Gt} {a b : Int} (hn : n ≤ 600) (hm0 : 0 ≤ m) (hm1 : m ≤ 8) : (andR m n G a b).n ≤ 600 := by
  unfold andR
  split
  · exact hn
  · split
    · exact hn
    · split
      · exact hn
      · split
        · exact hn
        · split
          · exact (putR_n m n G _ hn hm0 hm1).1
          · exact (putR_n m n G _ hn hm0 hm1).1
end Go.Proofs.YtmpiiilkaadhfaaDoor
