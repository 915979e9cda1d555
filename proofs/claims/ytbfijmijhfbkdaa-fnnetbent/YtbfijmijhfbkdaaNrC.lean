/- Both so: the mark, of the model, in new memory. -/
import Derived.Test.YtbfijmijhfbkdaaNrB
namespace Go.Proofs.Ytbfijmijhfbkdaa
open Go.ChangeShapes Go.WideShapes Go.ChangeAt Go.RowKit Go.Joins
set_option linter.unusedVariables false
set_option linter.unusedSimpArgs false

set_option maxHeartbeats 2000000 in
theorem l6Fresh_any (m : Int) (ad : Option Addr) (n cap : Nat) (G : Nat → Gt) (w : World) (hd : GtsAt w ad n G) (hnn : ad = none → n = 0 ∧ cap = 0) (hspot : ∀ p, ad = some p → p.spot = none) (hn : n ≤ 1048576) :
    Calls Try.prog 46 #[.agg #[.int .i64 m, .slice ad n cap]] w fun e w' => ∃ g cap', e = .returned (.agg #[.int .i64 m, .slice (some ⟨g, 0, none⟩) n cap']) ∧ GtsAt w' (some ⟨g, 0, none⟩) n G ∧ w.heap.size ≤ g ∧ Below w.heap.size w w' := by
  obtain ⟨wz, hwz⟩ : ∃ wz, wz = (w.alloc (.cells #[.int .i64 m, .slice ad n cap] 25)).alloc (.cells #[.int .i64 0, .slice none 0 0] 25) := ⟨_, rfl⟩
  have BZ : Below w.heap.size w wz := by rw [hwz]; exact ((Below.refl _ _).alloc (Nat.le_refl _) _).alloc (by simp) _
  have Pw0 : wz.cell? ⟨w.heap.size, 0, none⟩ = some (.int .i64 m) := by rw [hwz]; simp [go_sem]
  have Pw1 : wz.cell? ⟨w.heap.size, 1, none⟩ = some (.slice ad n cap) := by rw [hwz]; simp [go_sem]
  have Sw0 : wz.cell? ⟨w.heap.size + 1, 0, none⟩ = some (.int .i64 0) := by rw [hwz]; simp [go_sem]
  have Sw1 : wz.cell? ⟨w.heap.size + 1, 1, none⟩ = some (.slice none 0 0) := by rw [hwz]; simp [go_sem]
  have Fw0 : wz.frozen? ⟨w.heap.size + 1, 0, none⟩ = false := by rw [hwz]; simp [go_sem]
  have Fw1 : wz.frozen? ⟨w.heap.size + 1, 1, none⟩ = false := by rw [hwz]; simp [go_sem]
  have hsz : wz.heap.size = w.heap.size + 2 := by rw [hwz]; simp
  have lw : w.heap.size < wz.heap.size := by omega
  have lw1 : w.heap.size + 1 < wz.heap.size := by omega
  have HDz := hide (hd.later BZ)
  have HZ := hide hwz
  have p0 := Pw0
  have p1 := Pw1
  clear hd hwz
  go_enter Try.func46, Try.ntmps46
  go_wp2
  rw [← unhide HZ]
  go_region_held3 (fun w' => w'.cell? ⟨w.heap.size, 0, none⟩ = some (.int .i64 m) ∧ w'.cell? ⟨w.heap.size, 1, none⟩ = some (.slice ad n cap)) (first | (refine ⟨?_, ?_⟩ <;> (rw [World.cell?_setCell_other _ _ _ _ (by simp), World.cell?_setCell_other _ _ _ _ (by simp)]; assumption)) | exact ⟨((show Below wz.heap.size wz _ from (by repeat (first | exact Below.refl _ _ | assumption | refine below_drewN ?_ _ | refine Below.drew ?_ | refine Below.alloc ?_ (by first | exact Nat.le_refl _ | exact Below.size (by assumption) | (simp; done) | (simp; omega)) _ | refine Below.setCell ?_ (by first | exact Nat.le_refl _ | exact Below.size (by assumption) | (simp; done) | (simp; omega)) _ | refine Below.trans ?_ (by assumption)))).cell (p := ⟨w.heap.size, 0, none⟩) lw).trans Pw0, ((show Below wz.heap.size wz _ from (by repeat (first | exact Below.refl _ _ | assumption | refine below_drewN ?_ _ | refine Below.drew ?_ | refine Below.alloc ?_ (by first | exact Nat.le_refl _ | exact Below.size (by assumption) | (simp; done) | (simp; omega)) _ | refine Below.setCell ?_ (by first | exact Nat.le_refl _ | exact Below.size (by assumption) | (simp; done) | (simp; omega)) _ | refine Below.trans ?_ (by assumption)))).cell (p := ⟨w.heap.size, 1, none⟩) lw).trans Pw1⟩ | go_keep | exact ⟨p0, p1⟩)
    (first | (apply step_gat_copy (s := .tmp 5) (x := .tmp 7) (G := G) (base := wz.heap.size); (case hgd => rfl); (case ho => rfl); (case hs => rfl); (case hx => rfl); (case hX => (first | (refine alloc_at ?_; first | rfl | (simp; done) | omega) | (show (World.alloc _ _).heap[_]? = _; refine alloc_at ?_; first | rfl | (simp; done) | omega))); (case hbX => (first | omega | (simp; done) | (simp; omega))); (case hbase => (first | omega | (simp; done) | (simp; omega))); (case hc => exact (unhide HDz).later (by repeat (first | exact Below.refl _ _ | assumption | refine below_drewN ?_ _ | refine Below.drew ?_ | refine Below.alloc ?_ (by first | exact Nat.le_refl _ | exact Below.size (by assumption) | (simp; done) | (simp; omega)) _ | refine Below.setCell ?_ (by first | exact Nat.le_refl _ | exact Below.size (by assumption) | (simp; done) | (simp; omega)) _ | refine Below.trans ?_ (by assumption)))); (case hnn => exact hnn); (case hspot => exact hspot); (case hl => omega); case' h => (intro g1 c1 wa o1 gr1 at1 lt1; have ba := (show Below wz.heap.size wz _ from (by repeat (first | exact Below.refl _ _ | assumption | refine below_drewN ?_ _ | refine Below.drew ?_ | refine Below.alloc ?_ (by first | exact Nat.le_refl _ | exact Below.size (by assumption) | (simp; done) | (simp; omega)) _ | refine Below.setCell ?_ (by first | exact Nat.le_refl _ | exact Below.size (by assumption) | (simp; done) | (simp; omega)) _ | refine Below.trans ?_ (by assumption)))).trans ((mov_of_grown gr1).below (by first | omega | (simp; done) | (simp; omega)) (by first | omega | (simp; done) | (simp; omega))); have p0 := (ba.cell (p := ⟨w.heap.size, 0, none⟩) lw).trans Pw0; have p1 := (ba.cell (p := ⟨w.heap.size, 1, none⟩) lw).trans Pw1; have s0 := (ba.cell (p := ⟨w.heap.size + 1, 0, none⟩) lw1).trans Sw0; have s1 := (ba.cell (p := ⟨w.heap.size + 1, 1, none⟩) lw1).trans Sw1; have f0 := (ba.frozen (p := ⟨w.heap.size + 1, 0, none⟩) lw1).trans Fw0; have f1 := (ba.frozen (p := ⟨w.heap.size + 1, 1, none⟩) lw1).trans Fw1)))
  all_goals go_wp2
  all_goals have gb := own_base o1
  all_goals refine bodyPost_ret (v := .agg #[.int .i64 m, .slice (some ⟨g1, 0, none⟩) n c1]) (by simp [results, Try.results46, go_sem, s0, s1]) rfl ?_
  all_goals exact ⟨g1, c1, rfl, (by refine GtsAt.mov2 (own_gtsAt o1) (B := w.heap.size + 1) (by omega) ?_; first | exact (Mov.set _ _ _).trans (Mov.set _ _ _) | exact ((Mov.set _ _ _).trans (Mov.set _ _ _)).drew | exact ((Mov.refl _ _).drew.trans (Mov.set _ _ _)).trans (Mov.set _ _ _)), by omega, (by have BA := BZ.trans (ba.mono BZ.size); exact (by repeat (first | exact Below.refl _ _ | assumption | refine below_drewN ?_ _ | refine Below.drew ?_ | refine Below.alloc ?_ (by first | exact Nat.le_refl _ | exact Below.size (by assumption) | (simp; done) | (simp; omega)) _ | refine Below.setCell ?_ (by first | exact Nat.le_refl _ | exact Below.size (by assumption) | (simp; done) | (simp; omega)) _ | refine Below.trans ?_ (by assumption))))⟩
/-- A right net, and two marks that it has. -/
def inB (m : Int) (n : Nat) (G : Nat → Gt) (a b : Int) : Prop := netB m n G = true ∧ mkP m n a = true ∧ mkP m n b = true
def nilR (G : Nat → Gt) : NR := ⟨0, 0, G, 0⟩
noncomputable def netAndR (m : Int) (n : Nat) (G : Nat → Gt) (a b : Int) : NR := @ite _ (inB m n G a b) (Classical.propDecidable _) (andR m n G a b) (nilR G)
theorem netAndR_no {m : Int} {n : Nat} {G : Nat → Gt} {a b : Int} (h : ¬ inB m n G a b) : netAndR m n G a b = nilR G := if_neg h
theorem netAndR_yes {m : Int} {n : Nat} {G : Nat → Gt} {a b : Int} (h : inB m n G a b) : netAndR m n G a b = andR m n G a b := if_pos h
theorem andR_n {m : Int} {n : Nat} {G : Nat → Gt} {a b : Int} (hn : n ≤ 600) (hm0 : 0 ≤ m) (hm1 : m ≤ 8) : (andR m n G a b).n ≤ 600 := by
  unfold andR
  split
  · exact hn
  · split
    · exact hn
    · split
      · exact hn
      · split
        · exact hn
        · split
          · exact (putR_n m n G _ hn hm0 hm1).1
          · exact (putR_n m n G _ hn hm0 hm1).1
set_option maxRecDepth 100000 in
set_option maxHeartbeats 4000000 in
theorem sNetAnd_any (m : Int) (ad : Option Addr) (n cap : Nat) (G : Nat → Gt) (a b : Int) (w : World) (hd : GtsAt w ad n G) (hw : WG n G) (hnn : ad = none → n = 0 ∧ cap = 0) (hspot : ∀ p, ad = some p → p.spot = none) (hlow : ∀ p, ad = some p → p.block < w.heap.size) (hn : n ≤ 1048576) :
    Calls Try.prog 17 #[.agg #[.int .i64 m, .slice ad n cap], .int .i64 a, .int .i64 b] w fun e w' => (∃ a' cap', e = .returned (.tuple #[.agg #[.int .i64 (netAndR m n G a b).m, .slice a' (netAndR m n G a b).n cap'], .int .i64 (netAndR m n G a b).k]) ∧ GtsAt w' a' (netAndR m n G a b).n (netAndR m n G a b).G) ∧ Below w.heap.size w w' := by
  obtain ⟨wz, hwz⟩ : ∃ wz, wz = (w.alloc (.cells #[.int .i64 m, .slice ad n cap] 25)).alloc (.cells #[.int .i64 0, .slice none 0 0] 25) := ⟨_, rfl⟩
  have BZ : Below w.heap.size w wz := by rw [hwz]; exact ((Below.refl _ _).alloc (Nat.le_refl _) _).alloc (by simp) _
  have p0 : wz.cell? ⟨w.heap.size, 0, none⟩ = some (.int .i64 m) := by rw [hwz]; simp [go_sem]
  have p1 : wz.cell? ⟨w.heap.size, 1, none⟩ = some (.slice ad n cap) := by rw [hwz]; simp [go_sem]
  have s0 : wz.cell? ⟨w.heap.size + 1, 0, none⟩ = some (.int .i64 0) := by rw [hwz]; simp [go_sem]
  have s1 : wz.cell? ⟨w.heap.size + 1, 1, none⟩ = some (.slice none 0 0) := by rw [hwz]; simp [go_sem]
  have f0 : wz.frozen? ⟨w.heap.size + 1, 0, none⟩ = false := by rw [hwz]; simp [go_sem]
  have f1 : wz.frozen? ⟨w.heap.size + 1, 1, none⟩ = false := by rw [hwz]; simp [go_sem]
  have hsz : wz.heap.size = w.heap.size + 2 := by rw [hwz]; simp
  have HD := hide hd
  have HW := hide hw
  have HZ := hide hwz
  clear hd hwz hw
  go_enter Try.func17, Try.ntmps17
  go_wp2_with fail
  rw [← unhide HZ]
  refine (sNetOk_any _ _ _ _ _ _ ((unhide HD).later BZ) (unhide HW) hn).mono ?_
  rintro e w1 ⟨rfl, b1⟩
  have l1 := b1.size
  replace p0 := cell_later b1 p0
  replace p1 := cell_later b1 p1
  replace s0 := cell_later b1 s0
  replace s1 := cell_later b1 s1
  replace f0 := (b1.frozen (p := ⟨w.heap.size + 1, 0, none⟩) (by simp only; omega)).trans f0
  replace f1 := (b1.frozen (p := ⟨w.heap.size + 1, 1, none⟩) (by simp only; omega)).trans f1
  have BL := BZ.trans (b1.mono BZ.size)
  clear b1 BZ
  cases hP : netB m n G
  · have HN := hide (netAndR_no (m := m) (n := n) (G := G) (a := a) (b := b) (fun h => by have := h.1; rw [hP] at this; cases this))
    go_wp2
    refine bodyPost_ret (v := .tuple #[.agg #[.int .i64 0, .slice none 0 0], .int .i64 0]) (by simp [results, Try.results17, go_sem, s0, s1]) rfl ?_
    rw [unhide HN]
    exact ⟨⟨_, _, rfl, Or.inl rfl⟩, (by repeat (first | exact Below.refl _ _ | assumption | refine below_drewN ?_ _ | refine Below.drew ?_ | refine Below.alloc ?_ (by first | exact Nat.le_refl _ | exact Below.size (by assumption) | (simp; done) | (simp; omega)) _ | refine Below.setCell ?_ (by first | exact Nat.le_refl _ | exact Below.size (by assumption) | (simp; done) | (simp; omega)) _ | refine Below.trans ?_ (by assumption)))⟩
  · obtain ⟨hm0, hm1, hn6, _⟩ := netB_iff.1 hP
    go_wp2_with fail
    refine (l6Mark_any _ _ _ _ _ _ hm0 hm1 (by omega)).mono ?_
    rintro e w2 ⟨rfl, b2⟩
    have l2 := b2.size
    replace p0 := cell_later b2 p0
    replace p1 := cell_later b2 p1
    replace s0 := cell_later b2 s0
    replace s1 := cell_later b2 s1
    replace f0 := (b2.frozen (p := ⟨w.heap.size + 1, 0, none⟩) (by simp only; omega)).trans f0
    replace f1 := (b2.frozen (p := ⟨w.heap.size + 1, 1, none⟩) (by simp only; omega)).trans f1
    replace BL := BL.trans (b2.mono BL.size)
    clear b2
    cases hA : mkP m n a
    · have HN := hide (netAndR_no (m := m) (n := n) (G := G) (a := a) (b := b) (fun h => by have := h.2.1; rw [hA] at this; cases this))
      go_wp2
      refine bodyPost_ret (v := .tuple #[.agg #[.int .i64 0, .slice none 0 0], .int .i64 0]) (by simp [results, Try.results17, go_sem, s0, s1]) rfl ?_
      rw [unhide HN]
      exact ⟨⟨_, _, rfl, Or.inl rfl⟩, (by repeat (first | exact Below.refl _ _ | assumption | refine below_drewN ?_ _ | refine Below.drew ?_ | refine Below.alloc ?_ (by first | exact Nat.le_refl _ | exact Below.size (by assumption) | (simp; done) | (simp; omega)) _ | refine Below.setCell ?_ (by first | exact Nat.le_refl _ | exact Below.size (by assumption) | (simp; done) | (simp; omega)) _ | refine Below.trans ?_ (by assumption)))⟩
    · go_wp2_with fail
      refine (l6Mark_any _ _ _ _ _ _ hm0 hm1 (by omega)).mono ?_
      rintro e w3 ⟨rfl, b3⟩
      have l3 := b3.size
      replace p0 := cell_later b3 p0
      replace p1 := cell_later b3 p1
      replace s0 := cell_later b3 s0
      replace s1 := cell_later b3 s1
      replace f0 := (b3.frozen (p := ⟨w.heap.size + 1, 0, none⟩) (by simp only; omega)).trans f0
      replace f1 := (b3.frozen (p := ⟨w.heap.size + 1, 1, none⟩) (by simp only; omega)).trans f1
      replace BL := BL.trans (b3.mono BL.size)
      clear b3
      cases hB : mkP m n b
      · have HN := hide (netAndR_no (m := m) (n := n) (G := G) (a := a) (b := b) (fun h => by have := h.2.2; rw [hB] at this; cases this))
        go_wp2
        refine bodyPost_ret (v := .tuple #[.agg #[.int .i64 0, .slice none 0 0], .int .i64 0]) (by simp [results, Try.results17, go_sem, s0, s1]) rfl ?_
        rw [unhide HN]
        exact ⟨⟨_, _, rfl, Or.inl rfl⟩, (by repeat (first | exact Below.refl _ _ | assumption | refine below_drewN ?_ _ | refine Below.drew ?_ | refine Below.alloc ?_ (by first | exact Nat.le_refl _ | exact Below.size (by assumption) | (simp; done) | (simp; omega)) _ | refine Below.setCell ?_ (by first | exact Nat.le_refl _ | exact Below.size (by assumption) | (simp; done) | (simp; omega)) _ | refine Below.trans ?_ (by assumption)))⟩
      · have HN := hide (netAndR_yes (m := m) (n := n) (G := G) (a := a) (b := b) ⟨hP, hA, hB⟩)
        have hr6 := andR_n (G := G) (a := a) (b := b) hn6 hm0 hm1
        go_wp2_with fail
        refine (l6And_any _ _ _ _ G a b _ ((unhide HD).later BL) hnn hspot (fun p hp => Nat.lt_of_lt_of_le (hlow p hp) BL.size) hm0 hm1 hn6 hA hB).mono ?_
        rintro e w4 ⟨⟨ad', cap', rfl, hg, hn1, hs1, _⟩, b4⟩
        have l4 := b4.size
        replace s0 := cell_later b4 s0
        replace s1 := cell_later b4 s1
        replace f0 := (b4.frozen (p := ⟨w.heap.size + 1, 0, none⟩) (by simp only; omega)).trans f0
        replace f1 := (b4.frozen (p := ⟨w.heap.size + 1, 1, none⟩) (by simp only; omega)).trans f1
        replace BL := BL.trans (b4.mono BL.size)
        have HG := hide hg
        clear b4 hg p0 p1 hP hA hB
        generalize andR m n G a b = r at *
        go_wp2_with fail
        have BY : Below w4.heap.size w4 (w4.alloc (.cells #[.int .i64 r.m, .slice ad' r.n cap'] 25)) := (Below.refl _ _).alloc (Nat.le_refl _) _
        refine (l6Fresh_any _ _ _ _ r.G _ ((unhide HG).later BY) hn1 hs1 (by omega)).mono ?_
        rintro e w5 ⟨g5, c5, rfl, hg5, gl5, b5⟩
        simp only [World.size_alloc] at gl5
        have b6 := BY.trans (b5.mono BY.size)
        replace s0 := cell_later b6 s0
        replace s1 := cell_later b6 s1
        replace f0 := (b6.frozen (p := ⟨w.heap.size + 1, 0, none⟩) (by simp only; omega)).trans f0
        replace f1 := (b6.frozen (p := ⟨w.heap.size + 1, 1, none⟩) (by simp only; omega)).trans f1
        replace BL := BL.trans (b6.mono BL.size)
        have HG5 := hide hg5
        clear b5 b6 BY hg5
        go_wp2
        refine bodyPost_ret (v := .tuple #[.agg #[.int .i64 r.m, .slice (some ⟨g5, 0, none⟩) r.n c5], .int .i64 r.k]) (by simp [results, Try.results17, go_sem, s0, s1]) rfl ?_
        rw [unhide HN]
        exact ⟨⟨_, _, rfl, (unhide HG5).mov2 (B := w.heap.size + 1) (by omega) ((Mov.set _ _ _).trans (Mov.set _ _ _))⟩, (by repeat (first | exact Below.refl _ _ | assumption | refine below_drewN ?_ _ | refine Below.drew ?_ | refine Below.alloc ?_ (by first | exact Nat.le_refl _ | exact Below.size (by assumption) | (simp; done) | (simp; omega)) _ | refine Below.setCell ?_ (by first | exact Nat.le_refl _ | exact Below.size (by assumption) | (simp; done) | (simp; omega)) _ | refine Below.trans ?_ (by assumption)))⟩
end Go.Proofs.Ytbfijmijhfbkdaa
