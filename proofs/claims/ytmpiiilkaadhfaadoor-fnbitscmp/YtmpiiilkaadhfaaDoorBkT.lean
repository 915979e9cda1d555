/- One or the other, of the model. -/
import Derived.Test.YtmpiiilkaadhfaaDoorBkS
namespace Go.Proofs.YtmpiiilkaadhfaaDoor
open Go.ChangeShapes Go.WideShapes Go.ChangeAt Go.RowKit Go.Joins
set_option linter.unusedVariables false
set_option maxRecDepth 100000
set_option linter.unusedSimpArgs false

set_option maxRecDepth 100000 in
set_option maxHeartbeats 1500000 in
theorem l7Or_any (s : KS) (ad : Option Addr) (cap : Nat) (a b : Int) (w : World) (hk : KOk s) (hi : KIn w s ad cap) (ha : Mk s a) (hb : Mk s b) :
    Calls Tryd.prog 101 #[.agg #[.int .i64 s.m, .slice ad s.n cap, .bool s.ok], .int .i64 a, .int .i64 b] w fun e w' => KPost (orK 1 s a b) ad w.heap.size e w' ∧ Below w.heap.size w w' := by
  have alo := ha.1
  have ahi := ha.2.1
  have blo := hb.1
  have bhi := hb.2.1
  have HI := hide hi
  have HK := hide hk
  clear hi hk
  obtain ⟨wz, hwz⟩ : ∃ wz, wz = (w.alloc (.cells #[.int .i64 s.m, .slice ad s.n cap, .bool s.ok] 70)).alloc (.cells #[.int .i64 0, .slice none 0 0, .bool false] 70) := ⟨_, rfl⟩
  have BL : Below w.heap.size w wz := by rw [hwz]; exact ((Below.refl _ _).alloc (Nat.le_refl _) _).alloc (by simp) _
  have K : KBox wz w.heap.size s ad cap := by rw [hwz]; exact ⟨by simp [go_sem], by simp [go_sem], by simp [go_sem]⟩
  have QF : Hid (∀ o, wz.frozen? ⟨w.heap.size, o, none⟩ = false) := fun o => by rw [hwz]; simp [go_sem]
  have s0 : wz.cell? ⟨w.heap.size + 1, 0, none⟩ = some (.int .i64 0) := by rw [hwz]; simp [go_sem]
  have s1 : wz.cell? ⟨w.heap.size + 1, 1, none⟩ = some (.slice none 0 0) := by rw [hwz]; simp [go_sem]
  have s2 : wz.cell? ⟨w.heap.size + 1, 2, none⟩ = some (.bool false) := by rw [hwz]; simp [go_sem]
  have f0 : wz.frozen? ⟨w.heap.size + 1, 0, none⟩ = false := by rw [hwz]; simp [go_sem]
  have f1 : wz.frozen? ⟨w.heap.size + 1, 1, none⟩ = false := by rw [hwz]; simp [go_sem]
  have f2 : wz.frozen? ⟨w.heap.size + 1, 2, none⟩ = false := by rw [hwz]; simp [go_sem]
  have lz : wz.heap.size = w.heap.size + 2 := by rw [hwz]; simp
  have HX := hide ((unhide HI).later BL)
  have PL : Hid (Pl ad ad (w.heap.size + 2)) := Pl.refl _ _
  have HZ := hide hwz
  clear hwz
  have lo : w.heap.size + 2 ≤ wz.heap.size := by omega
  go_enter Tryd.func101, Tryd.ntmps101
  obtain ⟨u1, hu1⟩ : ∃ p, p = andK 1 s (-a) (-b) := ⟨_, rfl⟩
  have hg1 := andK_good (z := 1) (by omega) (unhide HK) ha.neg hb.neg
  rw [← hu1] at hg1
  obtain ⟨kp0, kp1, kp2⟩ := id K
  have kq0 := unhide QF 0
  have kq1 := unhide QF 1
  have kq2 := unhide QF 2
  have lw := K.lt
  go_wp2_with fail
  clear kp0 kp1 kp2 kq0 kq1 kq2 lw
  rw [← unhide HZ]
  have hc := l7And_any s ad cap (-a) (-b) wz (unhide HK) (unhide HX) ha.neg hb.neg
  rw [← hu1] at hc
  refine hc.mono ?_
  clear hc
  rintro e w1 ⟨⟨ga1, gc1, rfl, hx, pl⟩, bl1⟩
  replace PL := hide ((unhide PL).trans pl lo)
  replace HX := hide hx
  clear pl hx
  replace K := K.later bl1
  replace QF : Hid (∀ o, w1.frozen? ⟨w.heap.size, o, none⟩ = false) := fun o => (bl1.frozen (p := ⟨w.heap.size, o, none⟩) (by have := BL.size; simp only; omega)).trans (unhide QF o)
  replace s0 := cell_later bl1 s0
  replace s1 := cell_later bl1 s1
  replace s2 := cell_later bl1 s2
  replace f0 := (bl1.frozen (p := ⟨w.heap.size + 1, 0, none⟩) (by have := BL.size; simp only; omega)).trans f0
  replace f1 := (bl1.frozen (p := ⟨w.heap.size + 1, 1, none⟩) (by have := BL.size; simp only; omega)).trans f1
  replace f2 := (bl1.frozen (p := ⟨w.heap.size + 1, 2, none⟩) (by have := BL.size; simp only; omega)).trans f2
  replace BL := BL.trans (bl1.mono BL.size)
  replace lo := Nat.le_trans lo bl1.size
  clear bl1
  replace HK := hide hg1.1
  have HL1 := hide hg1.2.2
  have HM1 := hide hg1.2.1
  have mb1 := hg1.2.1.1
  have mc1 := hg1.2.1.2.1
  have HP1 := hide hu1
  clear hg1 hu1
  obtain ⟨kp0, kp1, kp2⟩ := id K
  have kq0 := unhide QF 0
  have kq1 := unhide QF 1
  have kq2 := unhide QF 2
  have lw := K.lt
  have hap1 := hide ((unhide PL).apart (unhide HI).2.2.2 (show w.heap.size ≤ w.heap.size + 1 by omega) (by omega))
  have hap0 := hide ((unhide PL).apart (unhide HI).2.2.2 (Nat.le_refl w.heap.size) (by omega))
  go_wp2
  refine bodyPost_ret (v := .tuple #[.agg #[.int .i64 u1.1.m, .slice ga1 u1.1.n gc1, .bool u1.1.ok], .int .i64 (-u1.2)]) (by simp [results, Tryd.results101, go_sem, s0, s1, s2]) rfl ?_
  have e : orK 1 s a b = (u1.1, -u1.2) := by rw [unhide HP1]; rfl
  rw [e]
  exact ⟨⟨ga1, gc1, rfl, ((unhide HX).mov (unhide hap0) (mov3 _ _ _ _ _)).mov (unhide hap1) (mov3 _ _ _ _ _), (unhide PL).mono (by omega)⟩, bel3 (bel3 BL (Nat.le_refl _) _ _ _) (by omega) _ _ _⟩
set_option maxRecDepth 100000 in
set_option maxHeartbeats 1500000 in
theorem l7One_any (s : KS) (ad : Option Addr) (cap : Nat) (c a b : Int) (w : World) (hk : KOk s) (hi : KIn w s ad cap) (hc : Mk s c) (ha : Mk s a) (hb : Mk s b) :
    Calls Tryd.prog 84 #[.agg #[.int .i64 s.m, .slice ad s.n cap, .bool s.ok], .int .i64 c, .int .i64 a, .int .i64 b] w fun e w' => KPost (oneK 1 s c a b) ad w.heap.size e w' ∧ Below w.heap.size w w' := by
  have clo := hc.1
  have chi := hc.2.1
  have alo := ha.1
  have ahi := ha.2.1
  have blo := hb.1
  have bhi := hb.2.1
  have HI := hide hi
  have HK := hide hk
  clear hi hk
  obtain ⟨wz, hwz⟩ : ∃ wz, wz = (w.alloc (.cells #[.int .i64 s.m, .slice ad s.n cap, .bool s.ok] 70)).alloc (.cells #[.int .i64 0, .slice none 0 0, .bool false] 70) := ⟨_, rfl⟩
  have BL : Below w.heap.size w wz := by rw [hwz]; exact ((Below.refl _ _).alloc (Nat.le_refl _) _).alloc (by simp) _
  have K : KBox wz w.heap.size s ad cap := by rw [hwz]; exact ⟨by simp [go_sem], by simp [go_sem], by simp [go_sem]⟩
  have QF : Hid (∀ o, wz.frozen? ⟨w.heap.size, o, none⟩ = false) := fun o => by rw [hwz]; simp [go_sem]
  have s0 : wz.cell? ⟨w.heap.size + 1, 0, none⟩ = some (.int .i64 0) := by rw [hwz]; simp [go_sem]
  have s1 : wz.cell? ⟨w.heap.size + 1, 1, none⟩ = some (.slice none 0 0) := by rw [hwz]; simp [go_sem]
  have s2 : wz.cell? ⟨w.heap.size + 1, 2, none⟩ = some (.bool false) := by rw [hwz]; simp [go_sem]
  have f0 : wz.frozen? ⟨w.heap.size + 1, 0, none⟩ = false := by rw [hwz]; simp [go_sem]
  have f1 : wz.frozen? ⟨w.heap.size + 1, 1, none⟩ = false := by rw [hwz]; simp [go_sem]
  have f2 : wz.frozen? ⟨w.heap.size + 1, 2, none⟩ = false := by rw [hwz]; simp [go_sem]
  have lz : wz.heap.size = w.heap.size + 2 := by rw [hwz]; simp
  have HX := hide ((unhide HI).later BL)
  have PL : Hid (Pl ad ad (w.heap.size + 2)) := Pl.refl _ _
  have HZ := hide hwz
  clear hwz
  have lo : w.heap.size + 2 ≤ wz.heap.size := by omega
  go_enter Tryd.func84, Tryd.ntmps84
  obtain ⟨u1, hu1⟩ : ∃ p, p = andK 1 s c a := ⟨_, rfl⟩
  have hg1 := andK_good (z := 1) (by omega) (unhide HK) hc ha
  rw [← hu1] at hg1
  obtain ⟨kp0, kp1, kp2⟩ := id K
  have kq0 := unhide QF 0
  have kq1 := unhide QF 1
  have kq2 := unhide QF 2
  have lw := K.lt
  go_wp2_with fail
  clear kp0 kp1 kp2 kq0 kq1 kq2 lw
  rw [← unhide HZ]
  have hc := l7And_any s ad cap c a wz (unhide HK) (unhide HX) hc ha
  rw [← hu1] at hc
  refine hc.mono ?_
  clear hc
  rintro e w1 ⟨⟨ga1, gc1, rfl, hx, pl⟩, bl1⟩
  replace PL := hide ((unhide PL).trans pl lo)
  replace HX := hide hx
  clear pl hx
  replace K := K.later bl1
  replace QF : Hid (∀ o, w1.frozen? ⟨w.heap.size, o, none⟩ = false) := fun o => (bl1.frozen (p := ⟨w.heap.size, o, none⟩) (by have := BL.size; simp only; omega)).trans (unhide QF o)
  replace s0 := cell_later bl1 s0
  replace s1 := cell_later bl1 s1
  replace s2 := cell_later bl1 s2
  replace f0 := (bl1.frozen (p := ⟨w.heap.size + 1, 0, none⟩) (by have := BL.size; simp only; omega)).trans f0
  replace f1 := (bl1.frozen (p := ⟨w.heap.size + 1, 1, none⟩) (by have := BL.size; simp only; omega)).trans f1
  replace f2 := (bl1.frozen (p := ⟨w.heap.size + 1, 2, none⟩) (by have := BL.size; simp only; omega)).trans f2
  replace BL := BL.trans (bl1.mono BL.size)
  replace lo := Nat.le_trans lo bl1.size
  clear bl1
  replace HK := hide hg1.1
  have HL1 := hide hg1.2.2
  have HM1 := hide hg1.2.1
  have mb1 := hg1.2.1.1
  have mc1 := hg1.2.1.2.1
  have HP1 := hide hu1
  clear hg1 hu1
  obtain ⟨u2, hu2⟩ : ∃ p, p = andK 1 u1.1 (-c) b := ⟨_, rfl⟩
  have hg2 := andK_good (z := 1) (by omega) (unhide HK) (hc.le (unhide HL1)).neg (hb.le (unhide HL1))
  rw [← hu2] at hg2
  obtain ⟨kp0, kp1, kp2⟩ := id K
  have kq0 := unhide QF 0
  have kq1 := unhide QF 1
  have kq2 := unhide QF 2
  have lw := K.lt
  go_wp2_with fail
  clear kp0 kp1 kp2 kq0 kq1 kq2 lw
  obtain ⟨v1, hv1⟩ : ∃ v, v = ((w1.setCell ⟨w.heap.size, 0, none⟩ (.int .i64 u1.1.m)).setCell ⟨w.heap.size, 1, none⟩ (.slice ga1 u1.1.n gc1)).setCell ⟨w.heap.size, 2, none⟩ (.bool u1.1.ok) := ⟨_, rfl⟩
  have mv : Mov w.heap.size w1 v1 := by rw [hv1]; exact mov3 _ _ _ _ _
  replace K : KBox v1 w.heap.size u1.1 ga1 gc1 := by rw [hv1]; exact KBox.put K
  replace QF : Hid (∀ o, v1.frozen? ⟨w.heap.size, o, none⟩ = false) := fun o => by rw [hv1]; simp [go_sem]; exact unhide QF o
  have hap := (unhide PL).apart (unhide HI).2.2.2 (Nat.le_refl w.heap.size) (by omega)
  replace HX := hide ((unhide HX).mov hap mv)
  clear hap
  replace f0 := mv.frozen s0 (by simp only; omega) f0
  replace f1 := mv.frozen s1 (by simp only; omega) f1
  replace f2 := mv.frozen s2 (by simp only; omega) f2
  replace s0 := mv.cell s0 (by simp only; omega)
  replace s1 := mv.cell s1 (by simp only; omega)
  replace s2 := mv.cell s2 (by simp only; omega)
  replace BL := BL.trans (mv.below (Nat.le_refl _) BL.size)
  replace lo := Nat.le_trans lo mv.size
  rw [← hv1]
  clear hv1 mv
  have hc := l7And_any u1.1 ga1 gc1 (-c) b v1 (unhide HK) (unhide HX) (hc.le (unhide HL1)).neg (hb.le (unhide HL1))
  rw [← hu2] at hc
  refine hc.mono ?_
  clear hc
  rintro e w2 ⟨⟨ga2, gc2, rfl, hx, pl⟩, bl2⟩
  replace PL := hide ((unhide PL).trans pl lo)
  replace HX := hide hx
  clear pl hx
  replace K := K.later bl2
  replace QF : Hid (∀ o, w2.frozen? ⟨w.heap.size, o, none⟩ = false) := fun o => (bl2.frozen (p := ⟨w.heap.size, o, none⟩) (by have := BL.size; simp only; omega)).trans (unhide QF o)
  replace s0 := cell_later bl2 s0
  replace s1 := cell_later bl2 s1
  replace s2 := cell_later bl2 s2
  replace f0 := (bl2.frozen (p := ⟨w.heap.size + 1, 0, none⟩) (by have := BL.size; simp only; omega)).trans f0
  replace f1 := (bl2.frozen (p := ⟨w.heap.size + 1, 1, none⟩) (by have := BL.size; simp only; omega)).trans f1
  replace f2 := (bl2.frozen (p := ⟨w.heap.size + 1, 2, none⟩) (by have := BL.size; simp only; omega)).trans f2
  replace BL := BL.trans (bl2.mono BL.size)
  replace lo := Nat.le_trans lo bl2.size
  clear bl2
  replace HK := hide hg2.1
  have HL2 := hide hg2.2.2
  have HM2 := hide hg2.2.1
  have mb2 := hg2.2.1.1
  have mc2 := hg2.2.1.2.1
  have HP2 := hide hu2
  clear hg2 hu2
  obtain ⟨u3, hu3⟩ : ∃ p, p = orK 1 u2.1 u1.2 u2.2 := ⟨_, rfl⟩
  have hg3 := orK_good (z := 1) (by omega) (unhide HK) ((unhide HM1).le (unhide HL2)) (unhide HM2)
  rw [← hu3] at hg3
  obtain ⟨kp0, kp1, kp2⟩ := id K
  have kq0 := unhide QF 0
  have kq1 := unhide QF 1
  have kq2 := unhide QF 2
  have lw := K.lt
  go_wp2_with fail
  clear kp0 kp1 kp2 kq0 kq1 kq2 lw
  obtain ⟨v2, hv2⟩ : ∃ v, v = ((w2.setCell ⟨w.heap.size, 0, none⟩ (.int .i64 u2.1.m)).setCell ⟨w.heap.size, 1, none⟩ (.slice ga2 u2.1.n gc2)).setCell ⟨w.heap.size, 2, none⟩ (.bool u2.1.ok) := ⟨_, rfl⟩
  have mv : Mov w.heap.size w2 v2 := by rw [hv2]; exact mov3 _ _ _ _ _
  replace K : KBox v2 w.heap.size u2.1 ga2 gc2 := by rw [hv2]; exact KBox.put K
  replace QF : Hid (∀ o, v2.frozen? ⟨w.heap.size, o, none⟩ = false) := fun o => by rw [hv2]; simp [go_sem]; exact unhide QF o
  have hap := (unhide PL).apart (unhide HI).2.2.2 (Nat.le_refl w.heap.size) (by omega)
  replace HX := hide ((unhide HX).mov hap mv)
  clear hap
  replace f0 := mv.frozen s0 (by simp only; omega) f0
  replace f1 := mv.frozen s1 (by simp only; omega) f1
  replace f2 := mv.frozen s2 (by simp only; omega) f2
  replace s0 := mv.cell s0 (by simp only; omega)
  replace s1 := mv.cell s1 (by simp only; omega)
  replace s2 := mv.cell s2 (by simp only; omega)
  replace BL := BL.trans (mv.below (Nat.le_refl _) BL.size)
  replace lo := Nat.le_trans lo mv.size
  rw [← hv2]
  clear hv2 mv
  have hc := l7Or_any u2.1 ga2 gc2 u1.2 u2.2 v2 (unhide HK) (unhide HX) ((unhide HM1).le (unhide HL2)) (unhide HM2)
  rw [← hu3] at hc
  refine hc.mono ?_
  clear hc
  rintro e w3 ⟨⟨ga3, gc3, rfl, hx, pl⟩, bl3⟩
  replace PL := hide ((unhide PL).trans pl lo)
  replace HX := hide hx
  clear pl hx
  replace K := K.later bl3
  replace QF : Hid (∀ o, w3.frozen? ⟨w.heap.size, o, none⟩ = false) := fun o => (bl3.frozen (p := ⟨w.heap.size, o, none⟩) (by have := BL.size; simp only; omega)).trans (unhide QF o)
  replace s0 := cell_later bl3 s0
  replace s1 := cell_later bl3 s1
  replace s2 := cell_later bl3 s2
  replace f0 := (bl3.frozen (p := ⟨w.heap.size + 1, 0, none⟩) (by have := BL.size; simp only; omega)).trans f0
  replace f1 := (bl3.frozen (p := ⟨w.heap.size + 1, 1, none⟩) (by have := BL.size; simp only; omega)).trans f1
  replace f2 := (bl3.frozen (p := ⟨w.heap.size + 1, 2, none⟩) (by have := BL.size; simp only; omega)).trans f2
  replace BL := BL.trans (bl3.mono BL.size)
  replace lo := Nat.le_trans lo bl3.size
  clear bl3
  replace HK := hide hg3.1
  have HL3 := hide hg3.2.2
  have HM3 := hide hg3.2.1
  have mb3 := hg3.2.1.1
  have mc3 := hg3.2.1.2.1
  have HP3 := hide hu3
  clear hg3 hu3
  obtain ⟨kp0, kp1, kp2⟩ := id K
  have kq0 := unhide QF 0
  have kq1 := unhide QF 1
  have kq2 := unhide QF 2
  have lw := K.lt
  have hap1 := hide ((unhide PL).apart (unhide HI).2.2.2 (show w.heap.size ≤ w.heap.size + 1 by omega) (by omega))
  have hap0 := hide ((unhide PL).apart (unhide HI).2.2.2 (Nat.le_refl w.heap.size) (by omega))
  go_wp2
  refine bodyPost_ret (v := .tuple #[.agg #[.int .i64 u3.1.m, .slice ga3 u3.1.n gc3, .bool u3.1.ok], .int .i64 (u3.2)]) (by simp [results, Tryd.results84, go_sem, s0, s1, s2]) rfl ?_
  have e : oneK 1 s c a b = (u3.1, u3.2) := by rw [unhide HP3, unhide HP2, unhide HP1]; rfl
  rw [e]
  exact ⟨⟨ga3, gc3, rfl, (unhide HX).mov (unhide hap1) (mov3 _ _ _ _ _), (unhide PL).mono (by omega)⟩, bel3 BL (by omega) _ _ _⟩
end Go.Proofs.YtmpiiilkaadhfaaDoor
