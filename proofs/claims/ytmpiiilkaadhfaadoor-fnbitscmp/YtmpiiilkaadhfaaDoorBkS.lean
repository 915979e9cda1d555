/- What is made of marks, gate by gate, of the model. -/
import Derived.Test.YtmpiiilkaadhfaaDoorBkM
namespace Go.Proofs.YtmpiiilkaadhfaaDoor
open Go.ChangeShapes Go.WideShapes Go.ChangeAt Go.RowKit Go.Joins
set_option linter.unusedVariables false
set_option maxRecDepth 100000
set_option linter.unusedSimpArgs false

/-- The gates of a net in the making. -/
def KIn (w : World) (s : KS) (ad : Option Addr) (cap : Nat) : Prop := GtsAt w ad s.n s.G ∧ (ad = none → s.n = 0 ∧ cap = 0) ∧ (∀ p, ad = some p → p.spot = none) ∧ ∀ p, ad = some p → p.block < w.heap.size
theorem KIn.later {w w' : World} {s : KS} {ad : Option Addr} {cap : Nat} (h : KIn w s ad cap) (hb : Below w.heap.size w w') : KIn w' s ad cap := ⟨h.1.later hb, h.2.1, h.2.2.1, fun p hp => Nat.lt_of_lt_of_le (h.2.2.2 p hp) hb.size⟩
theorem KIn.mov {w w' : World} {s : KS} {ad : Option Addr} {cap B : Nat} (h : KIn w s ad cap) (hB : ∀ p, ad = some p → p.block ≠ B) (hm : Mov B w w') : KIn w' s ad cap := ⟨h.1.apart (Or.inr (fun b off e => hB _ e)) hm, h.2.1, h.2.2.1, fun p hp => Nat.lt_of_lt_of_le (h.2.2.2 p hp) hm.size⟩
/-- A net in the making, in a box. -/
def KBox (w : World) (b : Nat) (s : KS) (ad : Option Addr) (cap : Nat) : Prop := w.cell? ⟨b, 0, none⟩ = some (.int .i64 s.m) ∧ w.cell? ⟨b, 1, none⟩ = some (.slice ad s.n cap) ∧ w.cell? ⟨b, 2, none⟩ = some (.bool s.ok)
theorem KBox.later {w w' : World} {b : Nat} {s : KS} {ad : Option Addr} {cap : Nat} (h : KBox w b s ad cap) (hb : Below w.heap.size w w') : KBox w' b s ad cap := ⟨cell_later hb h.1, cell_later hb h.2.1, cell_later hb h.2.2⟩
theorem KBox.new (w : World) (s : KS) (ad : Option Addr) (cap : Nat) (T : TypeId) : KBox (w.alloc (.cells #[.int .i64 s.m, .slice ad s.n cap, .bool s.ok] T)) w.heap.size s ad cap := ⟨by simp [go_sem], by simp [go_sem], by simp [go_sem]⟩
theorem KBox.lt {w : World} {b : Nat} {s : KS} {ad : Option Addr} {cap : Nat} (h : KBox w b s ad cap) : b < w.heap.size := World.block_lt_of_cell? _ _ h.1
theorem KBox.put {w : World} {b : Nat} {s t : KS} {ad a : Option Addr} {cap c : Nat} (h : KBox w b s ad cap) : KBox (((w.setCell ⟨b, 0, none⟩ (.int .i64 t.m)).setCell ⟨b, 1, none⟩ (.slice a t.n c)).setCell ⟨b, 2, none⟩ (.bool t.ok)) b t a c := by
  obtain ⟨h0, h1, h2⟩ := h
  refine ⟨?_, ?_, ?_⟩
  · rw [World.cell?_setCell_other _ _ _ _ (by simp), World.cell?_setCell_other _ _ _ _ (by simp)]; exact World.cell?_setCell_same _ _ _ h0
  · rw [World.cell?_setCell_other _ _ _ _ (by simp)]
    refine World.cell?_setCell_same (u := .slice ad s.n cap) _ _ _ ?_
    rw [World.cell?_setCell_other _ _ _ _ (by simp)]; exact h1
  · refine World.cell?_setCell_same (u := .bool s.ok) _ _ _ ?_
    rw [World.cell?_setCell_other _ _ _ _ (by simp), World.cell?_setCell_other _ _ _ _ (by simp)]; exact h2
theorem mov3 (w : World) (B : Nat) (u v x : Value) : Mov B w (((w.setCell ⟨B, 0, none⟩ u).setCell ⟨B, 1, none⟩ v).setCell ⟨B, 2, none⟩ x) := ((Mov.set _ _ _).trans (Mov.set _ _ _)).trans (Mov.set _ _ _)
theorem bel3 {w w1 : World} {B : Nat} (h : Below w.heap.size w w1) (hB : w.heap.size ≤ B) (u v x : Value) : Below w.heap.size w (((w1.setCell ⟨B, 0, none⟩ u).setCell ⟨B, 1, none⟩ v).setCell ⟨B, 2, none⟩ x) := h.trans ((mov3 w1 B u v x).below hB h.size)
/-- A row of gates is the elder one or new. -/
def Pl (ad a : Option Addr) (base : Nat) : Prop := ∀ p, a = some p → ad = some p ∨ base ≤ p.block
theorem Pl.refl (ad : Option Addr) (base : Nat) : Pl ad ad base := fun p h => Or.inl h
theorem Pl.trans {x y z : Option Addr} {b b' : Nat} (h : Pl x y b) (k : Pl y z b') (hb : b ≤ b') : Pl x z b := fun p hp => by
  rcases k p hp with h1 | h1
  · exact h p h1
  · exact Or.inr (Nat.le_trans hb h1)
theorem Pl.mono {x y : Option Addr} {b b' : Nat} (h : Pl x y b') (hb : b ≤ b') : Pl x y b := fun p hp => (h p hp).imp id (Nat.le_trans hb)
theorem Pl.apart {x y : Option Addr} {b L B : Nat} (h : Pl x y b) (hx : ∀ p, x = some p → p.block < L) (h1 : L ≤ B) (h2 : B < b) : ∀ p, y = some p → p.block ≠ B := fun p hp => by
  rcases h p hp with h' | h'
  · have := hx p h'; omega
  · omega
/-- A net in the making and a mark, as they are handed back. -/
def KPost (p : KS × Int) (ad : Option Addr) (base : Nat) (e : Ending) (w' : World) : Prop := ∃ a cap, e = .returned (.tuple #[.agg #[.int .i64 p.1.m, .slice a p.1.n cap, .bool p.1.ok], .int .i64 p.2]) ∧ KIn w' p.1 a cap ∧ Pl ad a base
theorem NPost.kin {r : NR} {ad : Option Addr} {base : Nat} {e : Ending} {w' : World} (h : NPost r ad base e w') (hlow : ∀ p, ad = some p → p.block < w'.heap.size) : ∃ a cap, e = .returned (.tuple #[.agg #[.int .i64 r.m, .slice a r.n cap], .int .i64 r.k]) ∧ KIn w' (kR r).1 a cap ∧ Pl ad a base := by
  obtain ⟨a, cap, h1, h2, h3, h4, h5⟩ := h
  refine ⟨a, cap, h1, ⟨h2, h3, h4, fun p hp => ?_⟩, fun p hp => ?_⟩
  · rcases h5 with h5 | h5 | ⟨b, h5, _, h6⟩
    · rw [h5] at hp; cases hp
    · rw [h5] at hp; exact hlow p hp
    · rw [h5] at hp; cases hp; exact h6
  · rcases h5 with h5 | h5 | ⟨b, h5, h6, _⟩
    · rw [h5] at hp; cases hp
    · rw [h5] at hp; exact Or.inl hp
    · rw [h5] at hp; cases hp; exact Or.inr h6
set_option maxRecDepth 100000 in
set_option maxHeartbeats 2000000 in
theorem l7And_any (s : KS) (ad : Option Addr) (cap : Nat) (a b : Int) (w : World) (hk : KOk s) (hi : KIn w s ad cap) (ha : Mk s a) (hb : Mk s b) :
    Calls Tryd.prog 95 #[.agg #[.int .i64 s.m, .slice ad s.n cap, .bool s.ok], .int .i64 a, .int .i64 b] w fun e w' => KPost (andK 1 s a b) ad w.heap.size e w' ∧ Below w.heap.size w w' := by
  obtain ⟨m, n, G, ok⟩ := s
  have HI := hide hi
  clear hi
  cases ok
  · have HR := hide (show andK 1 ⟨m, n, G, false⟩ a b = (⟨m, n, G, false⟩, 1) by simp [andK])
    clear hk ha hb
    go_enter Tryd.func95, Tryd.ntmps95
    go_wp2
    refine bodyPost_ret (v := .tuple #[.agg #[.int .i64 m, .slice ad n cap, .bool false], .int .i64 1]) (by simp [results, Tryd.results95, go_sem]) rfl ?_
    rw [unhide HR]
    exact ⟨⟨ad, cap, rfl, (unhide HI).later (by repeat (first | exact Below.refl _ _ | assumption | refine below_drewN ?_ _ | refine Below.drew ?_ | refine Below.alloc ?_ (by first | exact Nat.le_refl _ | exact Below.size (by assumption) | (simp; done) | (simp; omega)) _ | refine Below.setCell ?_ (by first | exact Nat.le_refl _ | exact Below.size (by assumption) | (simp; done) | (simp; omega)) _ | refine Below.trans ?_ (by assumption))), Pl.refl _ _⟩, (by repeat (first | exact Below.refl _ _ | assumption | refine below_drewN ?_ _ | refine Below.drew ?_ | refine Below.alloc ?_ (by first | exact Nat.le_refl _ | exact Below.size (by assumption) | (simp; done) | (simp; omega)) _ | refine Below.setCell ?_ (by first | exact Nat.le_refl _ | exact Below.size (by assumption) | (simp; done) | (simp; omega)) _ | refine Below.trans ?_ (by assumption)))⟩
  · have HR := hide (show andK 1 ⟨m, n, G, true⟩ a b = kR (andR m n G a b) by simp [andK])
    obtain ⟨hm0, hm1, hn, hN⟩ := hk
    have ha' := ha.2.2 rfl
    have hb' := hb.2.2 rfl
    simp only at hm0 hm1 hn ha' hb'
    have HA := hide ha'
    have HB := hide hb'
    clear hN ha hb ha' hb'
    obtain ⟨wz, hwz⟩ : ∃ wz, wz = (w.alloc (.cells #[.int .i64 m, .slice ad n cap, .bool true] 70)).alloc (.cells #[.int .i64 0, .slice none 0 0, .bool false] 70) := ⟨_, rfl⟩
    have BZ : Below w.heap.size w wz := by rw [hwz]; exact ((Below.refl _ _).alloc (Nat.le_refl _) _).alloc (by simp) _
    have p0 : wz.cell? ⟨w.heap.size, 0, none⟩ = some (.int .i64 m) := by rw [hwz]; simp [go_sem]
    have p1 : wz.cell? ⟨w.heap.size, 1, none⟩ = some (.slice ad n cap) := by rw [hwz]; simp [go_sem]
    have p2 : wz.cell? ⟨w.heap.size, 2, none⟩ = some (.bool true) := by rw [hwz]; simp [go_sem]
    have s0 : wz.cell? ⟨w.heap.size + 1, 0, none⟩ = some (.int .i64 0) := by rw [hwz]; simp [go_sem]
    have s1 : wz.cell? ⟨w.heap.size + 1, 1, none⟩ = some (.slice none 0 0) := by rw [hwz]; simp [go_sem]
    have s2 : wz.cell? ⟨w.heap.size + 1, 2, none⟩ = some (.bool false) := by rw [hwz]; simp [go_sem]
    have f0 : wz.frozen? ⟨w.heap.size + 1, 0, none⟩ = false := by rw [hwz]; simp [go_sem]
    have f1 : wz.frozen? ⟨w.heap.size + 1, 1, none⟩ = false := by rw [hwz]; simp [go_sem]
    have f2 : wz.frozen? ⟨w.heap.size + 1, 2, none⟩ = false := by rw [hwz]; simp [go_sem]
    have lz : wz.heap.size = w.heap.size + 2 := by rw [hwz]; simp
    have HIz := hide ((unhide HI).later BZ)
    have HZ := hide hwz
    clear hwz
    go_enter Tryd.func95, Tryd.ntmps95
    go_wp2_with fail
    rw [← unhide HZ]
    refine (l6And_any m ad n cap G a b _ (unhide HIz).1 (unhide HIz).2.1 (unhide HIz).2.2.1 (unhide HIz).2.2.2 hm0 hm1 hn (unhide HA) (unhide HB)).mono ?_
    rintro e w1 ⟨hP, b1⟩
    obtain ⟨a1, c1, rfl, hi1, pl1⟩ := hP.kin (fun p hp => Nat.lt_of_lt_of_le ((unhide HIz).2.2.2 p hp) b1.size)
    have l1 := b1.size
    replace s0 := cell_later b1 s0
    replace s1 := cell_later b1 s1
    replace s2 := cell_later b1 s2
    replace f0 := (b1.frozen (p := ⟨w.heap.size + 1, 0, none⟩) (by simp only; omega)).trans f0
    replace f1 := (b1.frozen (p := ⟨w.heap.size + 1, 1, none⟩) (by simp only; omega)).trans f1
    replace f2 := (b1.frozen (p := ⟨w.heap.size + 1, 2, none⟩) (by simp only; omega)).trans f2
    have BL := BZ.trans (b1.mono BZ.size)
    have HI1 := hide hi1
    have HAP := hide (pl1.apart (unhide HI).2.2.2 (show w.heap.size ≤ w.heap.size + 1 by omega) (by omega))
    have HPL := hide (pl1.mono (show w.heap.size ≤ wz.heap.size by omega))
    clear b1 BZ hP hi1 p0 p1 p2 pl1
    generalize andR m n G a b = r at *
    have e29 : w.heap.size + 1 < w1.heap.size := by omega
    go_wp2
    refine bodyPost_ret (v := .tuple #[.agg #[.int .i64 r.m, .slice a1 r.n c1, .bool (r.k != 0)], .int .i64 r.k]) (by simp [results, Tryd.results95, go_sem, s0, s1, s2, e29]) rfl ?_
    rw [unhide HR]
    exact ⟨⟨a1, c1, rfl, ((unhide HI1).mov (unhide HAP) (mov3 _ _ _ _ _)).later ((Below.refl _ _).alloc (Nat.le_refl _) _), unhide HPL⟩, (by repeat (first | exact Below.refl _ _ | assumption | refine below_drewN ?_ _ | refine Below.drew ?_ | refine Below.alloc ?_ (by first | exact Nat.le_refl _ | exact Below.size (by assumption) | (simp; done) | (simp; omega)) _ | refine Below.setCell ?_ (by first | exact Nat.le_refl _ | exact Below.size (by assumption) | (simp; done) | (simp; omega)) _ | refine Below.trans ?_ (by assumption)))⟩
set_option maxRecDepth 100000 in
set_option maxHeartbeats 2000000 in
theorem l7Xor_any (s : KS) (ad : Option Addr) (cap : Nat) (a b : Int) (w : World) (hk : KOk s) (hi : KIn w s ad cap) (ha : Mk s a) (hb : Mk s b) :
    Calls Tryd.prog 94 #[.agg #[.int .i64 s.m, .slice ad s.n cap, .bool s.ok], .int .i64 a, .int .i64 b] w fun e w' => KPost (xorK 1 s a b) ad w.heap.size e w' ∧ Below w.heap.size w w' := by
  obtain ⟨m, n, G, ok⟩ := s
  have HI := hide hi
  clear hi
  cases ok
  · have HR := hide (show xorK 1 ⟨m, n, G, false⟩ a b = (⟨m, n, G, false⟩, 1) by simp [xorK])
    clear hk ha hb
    go_enter Tryd.func94, Tryd.ntmps94
    go_wp2
    refine bodyPost_ret (v := .tuple #[.agg #[.int .i64 m, .slice ad n cap, .bool false], .int .i64 1]) (by simp [results, Tryd.results94, go_sem]) rfl ?_
    rw [unhide HR]
    exact ⟨⟨ad, cap, rfl, (unhide HI).later (by repeat (first | exact Below.refl _ _ | assumption | refine below_drewN ?_ _ | refine Below.drew ?_ | refine Below.alloc ?_ (by first | exact Nat.le_refl _ | exact Below.size (by assumption) | (simp; done) | (simp; omega)) _ | refine Below.setCell ?_ (by first | exact Nat.le_refl _ | exact Below.size (by assumption) | (simp; done) | (simp; omega)) _ | refine Below.trans ?_ (by assumption))), Pl.refl _ _⟩, (by repeat (first | exact Below.refl _ _ | assumption | refine below_drewN ?_ _ | refine Below.drew ?_ | refine Below.alloc ?_ (by first | exact Nat.le_refl _ | exact Below.size (by assumption) | (simp; done) | (simp; omega)) _ | refine Below.setCell ?_ (by first | exact Nat.le_refl _ | exact Below.size (by assumption) | (simp; done) | (simp; omega)) _ | refine Below.trans ?_ (by assumption)))⟩
  · have HR := hide (show xorK 1 ⟨m, n, G, true⟩ a b = kR (xorR m n G a b) by simp [xorK])
    obtain ⟨hm0, hm1, hn, hN⟩ := hk
    have ha' := ha.2.2 rfl
    have hb' := hb.2.2 rfl
    simp only at hm0 hm1 hn ha' hb'
    have HA := hide ha'
    have HB := hide hb'
    clear hN ha hb ha' hb'
    obtain ⟨wz, hwz⟩ : ∃ wz, wz = (w.alloc (.cells #[.int .i64 m, .slice ad n cap, .bool true] 70)).alloc (.cells #[.int .i64 0, .slice none 0 0, .bool false] 70) := ⟨_, rfl⟩
    have BZ : Below w.heap.size w wz := by rw [hwz]; exact ((Below.refl _ _).alloc (Nat.le_refl _) _).alloc (by simp) _
    have p0 : wz.cell? ⟨w.heap.size, 0, none⟩ = some (.int .i64 m) := by rw [hwz]; simp [go_sem]
    have p1 : wz.cell? ⟨w.heap.size, 1, none⟩ = some (.slice ad n cap) := by rw [hwz]; simp [go_sem]
    have p2 : wz.cell? ⟨w.heap.size, 2, none⟩ = some (.bool true) := by rw [hwz]; simp [go_sem]
    have s0 : wz.cell? ⟨w.heap.size + 1, 0, none⟩ = some (.int .i64 0) := by rw [hwz]; simp [go_sem]
    have s1 : wz.cell? ⟨w.heap.size + 1, 1, none⟩ = some (.slice none 0 0) := by rw [hwz]; simp [go_sem]
    have s2 : wz.cell? ⟨w.heap.size + 1, 2, none⟩ = some (.bool false) := by rw [hwz]; simp [go_sem]
    have f0 : wz.frozen? ⟨w.heap.size + 1, 0, none⟩ = false := by rw [hwz]; simp [go_sem]
    have f1 : wz.frozen? ⟨w.heap.size + 1, 1, none⟩ = false := by rw [hwz]; simp [go_sem]
    have f2 : wz.frozen? ⟨w.heap.size + 1, 2, none⟩ = false := by rw [hwz]; simp [go_sem]
    have lz : wz.heap.size = w.heap.size + 2 := by rw [hwz]; simp
    have HIz := hide ((unhide HI).later BZ)
    have HZ := hide hwz
    clear hwz
    go_enter Tryd.func94, Tryd.ntmps94
    go_wp2_with fail
    rw [← unhide HZ]
    refine (l6Xor_any m ad n cap G a b _ (unhide HIz).1 (unhide HIz).2.1 (unhide HIz).2.2.1 (unhide HIz).2.2.2 hm0 hm1 hn (unhide HA) (unhide HB)).mono ?_
    rintro e w1 ⟨hP, b1⟩
    obtain ⟨a1, c1, rfl, hi1, pl1⟩ := hP.kin (fun p hp => Nat.lt_of_lt_of_le ((unhide HIz).2.2.2 p hp) b1.size)
    have l1 := b1.size
    replace s0 := cell_later b1 s0
    replace s1 := cell_later b1 s1
    replace s2 := cell_later b1 s2
    replace f0 := (b1.frozen (p := ⟨w.heap.size + 1, 0, none⟩) (by simp only; omega)).trans f0
    replace f1 := (b1.frozen (p := ⟨w.heap.size + 1, 1, none⟩) (by simp only; omega)).trans f1
    replace f2 := (b1.frozen (p := ⟨w.heap.size + 1, 2, none⟩) (by simp only; omega)).trans f2
    have BL := BZ.trans (b1.mono BZ.size)
    have HI1 := hide hi1
    have HAP := hide (pl1.apart (unhide HI).2.2.2 (show w.heap.size ≤ w.heap.size + 1 by omega) (by omega))
    have HPL := hide (pl1.mono (show w.heap.size ≤ wz.heap.size by omega))
    clear b1 BZ hP hi1 p0 p1 p2 pl1
    generalize xorR m n G a b = r at *
    have e29 : w.heap.size + 1 < w1.heap.size := by omega
    go_wp2
    refine bodyPost_ret (v := .tuple #[.agg #[.int .i64 r.m, .slice a1 r.n c1, .bool (r.k != 0)], .int .i64 r.k]) (by simp [results, Tryd.results94, go_sem, s0, s1, s2, e29]) rfl ?_
    rw [unhide HR]
    exact ⟨⟨a1, c1, rfl, ((unhide HI1).mov (unhide HAP) (mov3 _ _ _ _ _)).later ((Below.refl _ _).alloc (Nat.le_refl _) _), unhide HPL⟩, (by repeat (first | exact Below.refl _ _ | assumption | refine below_drewN ?_ _ | refine Below.drew ?_ | refine Below.alloc ?_ (by first | exact Nat.le_refl _ | exact Below.size (by assumption) | (simp; done) | (simp; omega)) _ | refine Below.setCell ?_ (by first | exact Nat.le_refl _ | exact Below.size (by assumption) | (simp; done) | (simp; omega)) _ | refine Below.trans ?_ (by assumption)))⟩
end Go.Proofs.YtmpiiilkaadhfaaDoor
