/- Searches: how they lie in memory, their copies, counts and comparisons. -/
import Derived.Test.YtndebifmimbeaabCnfB
namespace Go.Proofs.Ytndebifmimbeaab
open Go.ChangeShapes Go.WideShapes Go.ChangeAt Go.RowKit Go.Joins
set_option linter.unusedVariables false

/-- What a search holds: two lists of numbers and a list of lists. -/
def SatIn (w : World) (p : Option Addr) (np : Nat) (P : Nat → Int) (q : Option Addr) (nq : Nat) (Q : Nat → Int) (a : Option Addr) (n : Nat) (A : Nat → Option Addr) (L C : Nat → Nat) (V : Nat → Nat → Int) : Prop :=
  IntsAt w p np P ∧ IntsAt w q nq Q ∧ RwsAt w a n A L C V
theorem SatIn.later {w w' : World} {p : Option Addr} {np : Nat} {P : Nat → Int} {q : Option Addr} {nq : Nat} {Q : Nat → Int} {a : Option Addr} {n : Nat} {A : Nat → Option Addr} {L C : Nat → Nat} {V : Nat → Nat → Int}
    (h : SatIn w p np P q nq Q a n A L C V) (hb : Below w.heap.size w w') : SatIn w' p np P q nq Q a n A L C V := ⟨h.1.later hb, h.2.1.later hb, h.2.2.later hb⟩
theorem SatIn.drew {w : World} {p : Option Addr} {np : Nat} {P : Nat → Int} {q : Option Addr} {nq : Nat} {Q : Nat → Int} {a : Option Addr} {n : Nat} {A : Nat → Option Addr} {L C : Nat → Nat} {V : Nat → Nat → Int}
    (h : SatIn w p np P q nq Q a n A L C V) : SatIn w.drew p np P q nq Q a n A L C V := h
/-- A search's numbers are of 64 bits, and its lists not too long. -/
def SFit (np : Nat) (P : Nat → Int) (nq : Nat) (Q : Nat → Int) (n : Nat) (L : Nat → Nat) (V : Nat → Nat → Int) (code : Int) : Prop :=
  np ≤ 1048576 ∧ nq ≤ 1048576 ∧ (∀ i, i < np → W64 (P i)) ∧ (∀ i, i < nq → W64 (Q i)) ∧ Fits n L V ∧ W64 code
/-- A copy of a search that a call has made. -/
def SCop (w : World) (lo B1 B2 B3 : Nat) (np : Nat) (P : Nat → Int) (nq : Nat) (Q : Nat → Int) (n : Nat) (bs L : Nat → Nat) (V : Nat → Nat → Int) : Prop :=
  (lo ≤ B1 ∧ Made w B1 np ∧ Ints w B1 0 np P) ∧ (lo ≤ B2 ∧ Made w B2 nq ∧ Ints w B2 0 nq Q) ∧ (lo ≤ B3 ∧ B1 < B3 ∧ B2 < B3) ∧ B3 < w.heap.size ∧ Cop w (B3 + 1) B3 n bs L V
theorem SCop.later {w w' : World} {lo B1 B2 B3 : Nat} {np : Nat} {P : Nat → Int} {nq : Nat} {Q : Nat → Int} {n : Nat} {bs L : Nat → Nat} {V : Nat → Nat → Int}
    (h : SCop w lo B1 B2 B3 np P nq Q n bs L V) (hb : Below w.heap.size w w') : SCop w' lo B1 B2 B3 np P nq Q n bs L V :=
  ⟨⟨h.1.1, h.1.2.1.later hb, h.1.2.2.later hb⟩, ⟨h.2.1.1, h.2.1.2.1.later hb, h.2.1.2.2.later hb⟩, h.2.2.1, Nat.lt_of_lt_of_le h.2.2.2.1 hb.size, h.2.2.2.2.later hb⟩
theorem SCop.drew {w : World} {lo B1 B2 B3 : Nat} {np : Nat} {P : Nat → Int} {nq : Nat} {Q : Nat → Int} {n : Nat} {bs L : Nat → Nat} {V : Nat → Nat → Int}
    (h : SCop w lo B1 B2 B3 np P nq Q n bs L V) : SCop w.drew lo B1 B2 B3 np P nq Q n bs L V := h
theorem SCop.in {w : World} {lo B1 B2 B3 : Nat} {np : Nat} {P : Nat → Int} {nq : Nat} {Q : Nat → Int} {n : Nat} {bs L : Nat → Nat} {V : Nat → Nat → Int}
    (h : SCop w lo B1 B2 B3 np P nq Q n bs L V) : SatIn w (some ⟨B1, 0, none⟩) np P (some ⟨B2, 0, none⟩) nq Q (some ⟨B3, 0, none⟩) n (fun i => some ⟨bs i, 0, none⟩) L L V :=
  ⟨h.1.2.2.at h.1.2.1.1, h.2.1.2.2.at h.2.1.2.1.1, h.2.2.2.2.rws.at h.2.2.2.1⟩
/-- A struct of a search in a block of its own. -/
def SBox (w : World) (b : Nat) (p : Option Addr) (np cp : Nat) (q : Option Addr) (nq cq : Nat) (a : Option Addr) (n cap : Nat) (code : Int) : Prop :=
  w.cell? ⟨b, 0, none⟩ = some (.slice p np cp) ∧ w.cell? ⟨b, 1, none⟩ = some (.slice q nq cq) ∧ w.cell? ⟨b, 2, none⟩ = some (.slice a n cap) ∧ w.cell? ⟨b, 3, none⟩ = some (.int .i64 code)
theorem SBox.later {w w' : World} {b : Nat} {p : Option Addr} {np cp : Nat} {q : Option Addr} {nq cq : Nat} {a : Option Addr} {n cap : Nat} {code : Int} (h : SBox w b p np cp q nq cq a n cap code) (hb : Below w.heap.size w w') : SBox w' b p np cp q nq cq a n cap code :=
  ⟨cell_later hb h.1, cell_later hb h.2.1, cell_later hb h.2.2.1, cell_later hb h.2.2.2⟩
theorem SBox.drew {w : World} {b : Nat} {p : Option Addr} {np cp : Nat} {q : Option Addr} {nq cq : Nat} {a : Option Addr} {n cap : Nat} {code : Int} (h : SBox w b p np cp q nq cq a n cap code) : SBox w.drew b p np cp q nq cq a n cap code := h
theorem SBox.new (w : World) (p : Option Addr) (np cp : Nat) (q : Option Addr) (nq cq : Nat) (a : Option Addr) (n cap : Nat) (code : Int) (t : TypeId) :
    SBox (w.alloc (.cells #[.slice p np cp, .slice q nq cq, .slice a n cap, .int .i64 code] t)) w.heap.size p np cp q nq cq a n cap code := ⟨by simp [go_sem], by simp [go_sem], by simp [go_sem], by simp [go_sem]⟩
theorem Ints.set {w : World} {b off n : Nat} {V : Nat → Int} (h : Ints w b off n V) (p : Addr) (v : Value) (hp : p.block ≠ b) : Ints (w.setCell p v) b off n V := fun i hi => by
  rw [World.cell?_setCell_other _ _ _ _ (by intro e; apply hp; rw [e])]; exact h i hi
theorem SCop.set {w : World} {lo B1 B2 B3 : Nat} {np : Nat} {P : Nat → Int} {nq : Nat} {Q : Nat → Int} {n : Nat} {bs L : Nat → Nat} {V : Nat → Nat → Int}
    (h : SCop w lo B1 B2 B3 np P nq Q n bs L V) {p : Addr} (v : Value) (hp : p.block < lo) : SCop (w.setCell p v) lo B1 B2 B3 np P nq Q n bs L V := by
  obtain ⟨⟨a1, a2, a3⟩, ⟨b1, b2, b3⟩, ⟨c1, c4⟩, c2, c3⟩ := h
  exact ⟨⟨a1, a2.set _ _, a3.set _ _ (by omega)⟩, ⟨b1, b2.set _ _, b3.set _ _ (by omega)⟩, ⟨c1, c4⟩, by simpa using c2, c3.set _ (by omega) (by omega)⟩
set_option maxHeartbeats 1000000 in
theorem szSat_any (p : Option Addr) (np cp : Nat) (P : Nat → Int) (q : Option Addr) (nq cq : Nat) (Q : Nat → Int) (a : Option Addr) (n cap : Nat) (A : Nat → Option Addr) (L C : Nat → Nat) (V : Nat → Nat → Int) (code left : Int) (w : World) (hd : SatIn w p np P q nq Q a n A L C V) (h0 : 0 ≤ left) (h1 : left ≤ 1048576) (hp : np ≤ maxLen) (hq : nq ≤ maxLen) (hn : n ≤ maxLen) (hs : ∀ i, i < n → L i ≤ maxLen) :
    Calls Try.prog 5 #[.agg #[.slice p np cp, .slice q nq cq, .slice a n cap, .int .i64 code], .int .i64 left] w fun e w' => (∃ z : Int, e = .returned (.int .i64 z) ∧ (z < 0 ∨ 0 ≤ z ∧ z ≤ left ∧ np ≤ left ∧ nq ≤ left ∧ n ≤ left ∧ ∀ i, i < n → L i ≤ left)) ∧ Below w.heap.size w w' := by
  have HD := hide hd.2.2
  have HS := hide hs
  clear hd hs
  go_enter Try.func5, Try.ntmps5
  go_wp2_with fail
  obtain ⟨w0, hw0⟩ : ∃ v, v = w.alloc (.cells #[.slice p np cp, .slice q nq cq, .slice a n cap, .int .i64 code] 25) := ⟨_, rfl⟩
  have BL : Below w.heap.size w w0 := by rw [hw0]; exact (Below.refl _ _).alloc (Nat.le_refl _) _
  obtain ⟨s0, s1, s2, s3⟩ : SBox w0 w.heap.size p np cp q nq cq a n cap code := by rw [hw0]; exact SBox.new _ _ _ _ _ _ _ _ _ _ _ _
  have HD0 := hide ((unhide HD).later BL)
  rw [← hw0]
  clear hw0
  refine (szIntS_any _ _ _ _ _ h0 h1 hp).mono ?_
  rintro e w1 ⟨⟨z1, rfl, hz1⟩, rfl⟩
  by_cases g1 : 0 ≤ z1
  · have k1 : z1 ≤ 1048576 := by omega
    go_wp2_with fail
    refine (szIntS_any _ _ _ _ _ g1 k1 hq).mono ?_
    rintro e w2 ⟨⟨z2, rfl, hz2⟩, rfl⟩
    by_cases g2 : 0 ≤ z2
    · have k2 : z2 ≤ 1048576 := by omega
      go_wp2_with fail
      refine (szIntSS_any _ _ _ _ _ _ _ _ _ (unhide HD0) g2 k2 hn (unhide HS)).mono ?_
      rintro e w3 ⟨⟨z3, rfl, hz3⟩, rfl⟩
      have HZ := hide hz3
      clear hz3
      by_cases g3 : 0 ≤ z3
      · go_wp2
        go_ret
        refine ⟨⟨_, rfl, Or.inr ?_⟩, BL⟩
        obtain ⟨_, y1, y2, y3⟩ := (unhide HZ).resolve_left (by omega)
        exact ⟨g3, by omega, by omega, by omega, by omega, fun i hi => by have := y3 i hi; omega⟩
      · go_wp2
        go_ret
        exact ⟨⟨_, rfl, Or.inl (by omega)⟩, BL⟩
    · go_wp2
      go_ret
      exact ⟨⟨_, rfl, Or.inl (by omega)⟩, BL⟩
  · go_wp2
    go_ret
    exact ⟨⟨_, rfl, Or.inl (by omega)⟩, BL⟩
set_option maxHeartbeats 1000000 in
theorem toSat_any (p : Option Addr) (np cp : Nat) (P : Nat → Int) (q : Option Addr) (nq cq : Nat) (Q : Nat → Int) (a : Option Addr) (n cap : Nat) (A : Nat → Option Addr) (L C : Nat → Nat) (V : Nat → Nat → Int) (code : Int) (w : World) (hd : SatIn w p np P q nq Q a n A L C V) (hf : SFit np P nq Q n L V code) :
    Calls Try.prog 7 #[.agg #[.slice p np cp, .slice q nq cq, .slice a n cap, .int .i64 code]] w fun e w' => ∃ (B1 B2 B3 : Nat) (bs : Nat → Nat), e = .returned (.agg #[.slice (some ⟨B1, 0, none⟩) np np, .slice (some ⟨B2, 0, none⟩) nq nq, .slice (some ⟨B3, 0, none⟩) n n, .int .i64 code]) ∧ SCop w' w.heap.size B1 B2 B3 np P nq Q n bs L V ∧ Below w.heap.size w w' := by
  have HD := hide hd
  have HF := hide hf
  clear hd hf
  go_enter Try.func7, Try.ntmps7
  go_wp2_with fail
  obtain ⟨w0, hw0⟩ : ∃ v, v = ((w.alloc (.cells #[.slice p np cp, .slice q nq cq, .slice a n cap, .int .i64 code] 25)).alloc (.cells #[.slice none 0 0, .slice none 0 0, .slice none 0 0, .int .i64 0] 28)).alloc (.cells #[.slice none 0 0, .slice none 0 0, .slice none 0 0, .int .i64 0] 28) := ⟨_, rfl⟩
  have BL : Below w.heap.size w w0 := by rw [hw0]; exact (((Below.refl w.heap.size w).alloc (by simp <;> omega) _).alloc (by simp <;> omega) _).alloc (by simp <;> omega) _
  have HSZ : Hid (w0.heap.size = w.heap.size + 3) := by show w0.heap.size = _; rw [hw0]; simp
  have s0 : w0.cell? ⟨w.heap.size, 0, none⟩ = some (.slice p np cp) := by rw [hw0]; simp [go_sem]
  have s1 : w0.cell? ⟨w.heap.size, 1, none⟩ = some (.slice q nq cq) := by rw [hw0]; simp [go_sem]
  have s2 : w0.cell? ⟨w.heap.size, 2, none⟩ = some (.slice a n cap) := by rw [hw0]; simp [go_sem]
  have s3 : w0.cell? ⟨w.heap.size, 3, none⟩ = some (.int .i64 code) := by rw [hw0]; simp [go_sem]
  have r10 : w0.cell? ⟨w.heap.size + 1, 0, none⟩ = some (.slice none 0 0) := by rw [hw0]; simp [go_sem]
  have f10 : w0.frozen? ⟨w.heap.size + 1, 0, none⟩ = false := by rw [hw0]; simp [go_sem]
  have r11 : w0.cell? ⟨w.heap.size + 1, 1, none⟩ = some (.slice none 0 0) := by rw [hw0]; simp [go_sem]
  have f11 : w0.frozen? ⟨w.heap.size + 1, 1, none⟩ = false := by rw [hw0]; simp [go_sem]
  have r12 : w0.cell? ⟨w.heap.size + 1, 2, none⟩ = some (.slice none 0 0) := by rw [hw0]; simp [go_sem]
  have f12 : w0.frozen? ⟨w.heap.size + 1, 2, none⟩ = false := by rw [hw0]; simp [go_sem]
  have r13 : w0.cell? ⟨w.heap.size + 1, 3, none⟩ = some (.int .i64 0) := by rw [hw0]; simp [go_sem]
  have f13 : w0.frozen? ⟨w.heap.size + 1, 3, none⟩ = false := by rw [hw0]; simp [go_sem]
  have r20 : w0.cell? ⟨w.heap.size + 2, 0, none⟩ = some (.slice none 0 0) := by rw [hw0]; simp [go_sem]
  have f20 : w0.frozen? ⟨w.heap.size + 2, 0, none⟩ = false := by rw [hw0]; simp [go_sem]
  have r21 : w0.cell? ⟨w.heap.size + 2, 1, none⟩ = some (.slice none 0 0) := by rw [hw0]; simp [go_sem]
  have f21 : w0.frozen? ⟨w.heap.size + 2, 1, none⟩ = false := by rw [hw0]; simp [go_sem]
  have r22 : w0.cell? ⟨w.heap.size + 2, 2, none⟩ = some (.slice none 0 0) := by rw [hw0]; simp [go_sem]
  have f22 : w0.frozen? ⟨w.heap.size + 2, 2, none⟩ = false := by rw [hw0]; simp [go_sem]
  have r23 : w0.cell? ⟨w.heap.size + 2, 3, none⟩ = some (.int .i64 0) := by rw [hw0]; simp [go_sem]
  have f23 : w0.frozen? ⟨w.heap.size + 2, 3, none⟩ = false := by rw [hw0]; simp [go_sem]
  rw [← hw0]
  clear hw0
  refine (toIntS_made _ _ _ _ _ ((unhide HD).1.later BL) (unhide HF).1).mono ?_
  rintro e w1 ⟨rfl, i1, m1, b1⟩
  have HI1 := hide i1
  have HM1 := hide m1
  have sz1 := m1.1
  clear i1 m1
  have BL1 := BL.trans (b1.mono BL.size)
  replace s0 := cell_later b1 s0
  replace s1 := cell_later b1 s1
  replace s2 := cell_later b1 s2
  replace s3 := cell_later b1 s3
  replace f10 : w1.frozen? ⟨w.heap.size + 1, 0, none⟩ = false := by rw [b1.frozen (World.block_lt_of_cell? _ _ r10)]; exact f10
  replace r10 := cell_later b1 r10
  replace f11 : w1.frozen? ⟨w.heap.size + 1, 1, none⟩ = false := by rw [b1.frozen (World.block_lt_of_cell? _ _ r11)]; exact f11
  replace r11 := cell_later b1 r11
  replace f12 : w1.frozen? ⟨w.heap.size + 1, 2, none⟩ = false := by rw [b1.frozen (World.block_lt_of_cell? _ _ r12)]; exact f12
  replace r12 := cell_later b1 r12
  replace f13 : w1.frozen? ⟨w.heap.size + 1, 3, none⟩ = false := by rw [b1.frozen (World.block_lt_of_cell? _ _ r13)]; exact f13
  replace r13 := cell_later b1 r13
  replace f20 : w1.frozen? ⟨w.heap.size + 2, 0, none⟩ = false := by rw [b1.frozen (World.block_lt_of_cell? _ _ r20)]; exact f20
  replace r20 := cell_later b1 r20
  replace f21 : w1.frozen? ⟨w.heap.size + 2, 1, none⟩ = false := by rw [b1.frozen (World.block_lt_of_cell? _ _ r21)]; exact f21
  replace r21 := cell_later b1 r21
  replace f22 : w1.frozen? ⟨w.heap.size + 2, 2, none⟩ = false := by rw [b1.frozen (World.block_lt_of_cell? _ _ r22)]; exact f22
  replace r22 := cell_later b1 r22
  replace f23 : w1.frozen? ⟨w.heap.size + 2, 3, none⟩ = false := by rw [b1.frozen (World.block_lt_of_cell? _ _ r23)]; exact f23
  replace r23 := cell_later b1 r23
  clear b1
  go_wp2_with fail
  obtain ⟨v1, hv1⟩ : ∃ v, v = w1.setCell ⟨w.heap.size + 2, 0, none⟩ (.slice (some ⟨w0.heap.size, 0, none⟩) np np) := ⟨_, rfl⟩
  replace s0 : v1.cell? ⟨w.heap.size, 0, none⟩ = some (.slice p np cp) := by rw [hv1, World.cell?_setCell_other _ _ _ _ (by simp)]; exact s0
  replace s1 : v1.cell? ⟨w.heap.size, 1, none⟩ = some (.slice q nq cq) := by rw [hv1, World.cell?_setCell_other _ _ _ _ (by simp)]; exact s1
  replace s2 : v1.cell? ⟨w.heap.size, 2, none⟩ = some (.slice a n cap) := by rw [hv1, World.cell?_setCell_other _ _ _ _ (by simp)]; exact s2
  replace s3 : v1.cell? ⟨w.heap.size, 3, none⟩ = some (.int .i64 code) := by rw [hv1, World.cell?_setCell_other _ _ _ _ (by simp)]; exact s3
  replace r10 : v1.cell? ⟨w.heap.size + 1, 0, none⟩ = some (.slice none 0 0) := by rw [hv1, World.cell?_setCell_other _ _ _ _ (by simp)]; exact r10
  replace r11 : v1.cell? ⟨w.heap.size + 1, 1, none⟩ = some (.slice none 0 0) := by rw [hv1, World.cell?_setCell_other _ _ _ _ (by simp)]; exact r11
  replace r12 : v1.cell? ⟨w.heap.size + 1, 2, none⟩ = some (.slice none 0 0) := by rw [hv1, World.cell?_setCell_other _ _ _ _ (by simp)]; exact r12
  replace r13 : v1.cell? ⟨w.heap.size + 1, 3, none⟩ = some (.int .i64 0) := by rw [hv1, World.cell?_setCell_other _ _ _ _ (by simp)]; exact r13
  replace r20 : v1.cell? ⟨w.heap.size + 2, 0, none⟩ = some (.slice (some ⟨w0.heap.size, 0, none⟩) np np) := by rw [hv1]; exact World.cell?_setCell_same _ _ _ r20
  replace r21 : v1.cell? ⟨w.heap.size + 2, 1, none⟩ = some (.slice none 0 0) := by rw [hv1, World.cell?_setCell_other _ _ _ _ (by simp)]; exact r21
  replace r22 : v1.cell? ⟨w.heap.size + 2, 2, none⟩ = some (.slice none 0 0) := by rw [hv1, World.cell?_setCell_other _ _ _ _ (by simp)]; exact r22
  replace r23 : v1.cell? ⟨w.heap.size + 2, 3, none⟩ = some (.int .i64 0) := by rw [hv1, World.cell?_setCell_other _ _ _ _ (by simp)]; exact r23
  replace f10 : v1.frozen? ⟨w.heap.size + 1, 0, none⟩ = false := by rw [hv1]; simp [go_sem, f10]
  replace f11 : v1.frozen? ⟨w.heap.size + 1, 1, none⟩ = false := by rw [hv1]; simp [go_sem, f11]
  replace f12 : v1.frozen? ⟨w.heap.size + 1, 2, none⟩ = false := by rw [hv1]; simp [go_sem, f12]
  replace f13 : v1.frozen? ⟨w.heap.size + 1, 3, none⟩ = false := by rw [hv1]; simp [go_sem, f13]
  replace f20 : v1.frozen? ⟨w.heap.size + 2, 0, none⟩ = false := by rw [hv1]; simp [go_sem, f20]
  replace f21 : v1.frozen? ⟨w.heap.size + 2, 1, none⟩ = false := by rw [hv1]; simp [go_sem, f21]
  replace f22 : v1.frozen? ⟨w.heap.size + 2, 2, none⟩ = false := by rw [hv1]; simp [go_sem, f22]
  replace f23 : v1.frozen? ⟨w.heap.size + 2, 3, none⟩ = false := by rw [hv1]; simp [go_sem, f23]
  replace HI1 := hide (show Ints v1 w0.heap.size 0 np P by rw [hv1]; exact (unhide HI1).set _ _ (by have := unhide HSZ; simp; omega))
  replace HM1 := hide (show Made v1 w0.heap.size np by rw [hv1]; exact (unhide HM1).set _ _)
  have BL2 : Below w.heap.size w v1 := by rw [hv1]; exact BL1.setCell (by simp) _
  have HS1 : Hid (v1.heap.size = w1.heap.size) := by show v1.heap.size = _; rw [hv1]; simp
  rw [← hv1]
  clear hv1 BL1
  refine (toIntS_made _ _ _ _ _ ((unhide HD).2.1.later BL2) (unhide HF).2.1).mono ?_
  rintro e w2 ⟨rfl, i2, m2, b2⟩
  have HI2 := hide i2
  have HM2 := hide m2
  have sz2 := m2.1
  clear i2 m2
  replace HI1 := hide ((unhide HI1).later b2)
  replace HM1 := hide ((unhide HM1).later b2)
  have BL3 := BL2.trans (b2.mono BL2.size)
  replace s0 := cell_later b2 s0
  replace s1 := cell_later b2 s1
  replace s2 := cell_later b2 s2
  replace s3 := cell_later b2 s3
  replace f10 : w2.frozen? ⟨w.heap.size + 1, 0, none⟩ = false := by rw [b2.frozen (World.block_lt_of_cell? _ _ r10)]; exact f10
  replace r10 := cell_later b2 r10
  replace f11 : w2.frozen? ⟨w.heap.size + 1, 1, none⟩ = false := by rw [b2.frozen (World.block_lt_of_cell? _ _ r11)]; exact f11
  replace r11 := cell_later b2 r11
  replace f12 : w2.frozen? ⟨w.heap.size + 1, 2, none⟩ = false := by rw [b2.frozen (World.block_lt_of_cell? _ _ r12)]; exact f12
  replace r12 := cell_later b2 r12
  replace f13 : w2.frozen? ⟨w.heap.size + 1, 3, none⟩ = false := by rw [b2.frozen (World.block_lt_of_cell? _ _ r13)]; exact f13
  replace r13 := cell_later b2 r13
  replace f20 : w2.frozen? ⟨w.heap.size + 2, 0, none⟩ = false := by rw [b2.frozen (World.block_lt_of_cell? _ _ r20)]; exact f20
  replace r20 := cell_later b2 r20
  replace f21 : w2.frozen? ⟨w.heap.size + 2, 1, none⟩ = false := by rw [b2.frozen (World.block_lt_of_cell? _ _ r21)]; exact f21
  replace r21 := cell_later b2 r21
  replace f22 : w2.frozen? ⟨w.heap.size + 2, 2, none⟩ = false := by rw [b2.frozen (World.block_lt_of_cell? _ _ r22)]; exact f22
  replace r22 := cell_later b2 r22
  replace f23 : w2.frozen? ⟨w.heap.size + 2, 3, none⟩ = false := by rw [b2.frozen (World.block_lt_of_cell? _ _ r23)]; exact f23
  replace r23 := cell_later b2 r23
  clear b2 BL2
  go_wp2_with fail
  obtain ⟨v2, hv2⟩ : ∃ v, v = w2.setCell ⟨w.heap.size + 2, 1, none⟩ (.slice (some ⟨v1.heap.size, 0, none⟩) nq nq) := ⟨_, rfl⟩
  replace s0 : v2.cell? ⟨w.heap.size, 0, none⟩ = some (.slice p np cp) := by rw [hv2, World.cell?_setCell_other _ _ _ _ (by simp)]; exact s0
  replace s1 : v2.cell? ⟨w.heap.size, 1, none⟩ = some (.slice q nq cq) := by rw [hv2, World.cell?_setCell_other _ _ _ _ (by simp)]; exact s1
  replace s2 : v2.cell? ⟨w.heap.size, 2, none⟩ = some (.slice a n cap) := by rw [hv2, World.cell?_setCell_other _ _ _ _ (by simp)]; exact s2
  replace s3 : v2.cell? ⟨w.heap.size, 3, none⟩ = some (.int .i64 code) := by rw [hv2, World.cell?_setCell_other _ _ _ _ (by simp)]; exact s3
  replace r10 : v2.cell? ⟨w.heap.size + 1, 0, none⟩ = some (.slice none 0 0) := by rw [hv2, World.cell?_setCell_other _ _ _ _ (by simp)]; exact r10
  replace r11 : v2.cell? ⟨w.heap.size + 1, 1, none⟩ = some (.slice none 0 0) := by rw [hv2, World.cell?_setCell_other _ _ _ _ (by simp)]; exact r11
  replace r12 : v2.cell? ⟨w.heap.size + 1, 2, none⟩ = some (.slice none 0 0) := by rw [hv2, World.cell?_setCell_other _ _ _ _ (by simp)]; exact r12
  replace r13 : v2.cell? ⟨w.heap.size + 1, 3, none⟩ = some (.int .i64 0) := by rw [hv2, World.cell?_setCell_other _ _ _ _ (by simp)]; exact r13
  replace r20 : v2.cell? ⟨w.heap.size + 2, 0, none⟩ = some (.slice (some ⟨w0.heap.size, 0, none⟩) np np) := by rw [hv2, World.cell?_setCell_other _ _ _ _ (by simp)]; exact r20
  replace r21 : v2.cell? ⟨w.heap.size + 2, 1, none⟩ = some (.slice (some ⟨v1.heap.size, 0, none⟩) nq nq) := by rw [hv2]; exact World.cell?_setCell_same _ _ _ r21
  replace r22 : v2.cell? ⟨w.heap.size + 2, 2, none⟩ = some (.slice none 0 0) := by rw [hv2, World.cell?_setCell_other _ _ _ _ (by simp)]; exact r22
  replace r23 : v2.cell? ⟨w.heap.size + 2, 3, none⟩ = some (.int .i64 0) := by rw [hv2, World.cell?_setCell_other _ _ _ _ (by simp)]; exact r23
  replace f10 : v2.frozen? ⟨w.heap.size + 1, 0, none⟩ = false := by rw [hv2]; simp [go_sem, f10]
  replace f11 : v2.frozen? ⟨w.heap.size + 1, 1, none⟩ = false := by rw [hv2]; simp [go_sem, f11]
  replace f12 : v2.frozen? ⟨w.heap.size + 1, 2, none⟩ = false := by rw [hv2]; simp [go_sem, f12]
  replace f13 : v2.frozen? ⟨w.heap.size + 1, 3, none⟩ = false := by rw [hv2]; simp [go_sem, f13]
  replace f20 : v2.frozen? ⟨w.heap.size + 2, 0, none⟩ = false := by rw [hv2]; simp [go_sem, f20]
  replace f21 : v2.frozen? ⟨w.heap.size + 2, 1, none⟩ = false := by rw [hv2]; simp [go_sem, f21]
  replace f22 : v2.frozen? ⟨w.heap.size + 2, 2, none⟩ = false := by rw [hv2]; simp [go_sem, f22]
  replace f23 : v2.frozen? ⟨w.heap.size + 2, 3, none⟩ = false := by rw [hv2]; simp [go_sem, f23]
  replace HI1 := hide (show Ints v2 w0.heap.size 0 np P by rw [hv2]; exact (unhide HI1).set _ _ (by have := unhide HSZ; simp; omega))
  replace HM1 := hide (show Made v2 w0.heap.size np by rw [hv2]; exact (unhide HM1).set _ _)
  replace HI2 := hide (show Ints v2 v1.heap.size 0 nq Q by rw [hv2]; exact (unhide HI2).set _ _ (by have := unhide HSZ; have := unhide HS1; simp; omega))
  replace HM2 := hide (show Made v2 v1.heap.size nq by rw [hv2]; exact (unhide HM2).set _ _)
  have BL4 : Below w.heap.size w v2 := by rw [hv2]; exact BL3.setCell (by simp) _
  have HS2 : Hid (v2.heap.size = w2.heap.size) := by show v2.heap.size = _; rw [hv2]; simp
  rw [← hv2]
  clear hv2 BL3
  refine (toIntSS_any _ _ _ _ _ _ _ _ ((unhide HD).2.2.later BL4) (unhide HF).2.2.2.2.1.1 (fun i hi => ((unhide HF).2.2.2.2.1.2 i hi).1)).mono ?_
  rintro e w3 ⟨bs, rfl, hc, hl, b3⟩
  have HC := hide hc
  clear hc
  replace HI1 := hide ((unhide HI1).later b3)
  replace HM1 := hide ((unhide HM1).later b3)
  replace HI2 := hide ((unhide HI2).later b3)
  replace HM2 := hide ((unhide HM2).later b3)
  have BL5 := BL4.trans (b3.mono BL4.size)
  replace s0 := cell_later b3 s0
  replace s1 := cell_later b3 s1
  replace s2 := cell_later b3 s2
  replace s3 := cell_later b3 s3
  replace f10 : w3.frozen? ⟨w.heap.size + 1, 0, none⟩ = false := by rw [b3.frozen (World.block_lt_of_cell? _ _ r10)]; exact f10
  replace r10 := cell_later b3 r10
  replace f11 : w3.frozen? ⟨w.heap.size + 1, 1, none⟩ = false := by rw [b3.frozen (World.block_lt_of_cell? _ _ r11)]; exact f11
  replace r11 := cell_later b3 r11
  replace f12 : w3.frozen? ⟨w.heap.size + 1, 2, none⟩ = false := by rw [b3.frozen (World.block_lt_of_cell? _ _ r12)]; exact f12
  replace r12 := cell_later b3 r12
  replace f13 : w3.frozen? ⟨w.heap.size + 1, 3, none⟩ = false := by rw [b3.frozen (World.block_lt_of_cell? _ _ r13)]; exact f13
  replace r13 := cell_later b3 r13
  replace f20 : w3.frozen? ⟨w.heap.size + 2, 0, none⟩ = false := by rw [b3.frozen (World.block_lt_of_cell? _ _ r20)]; exact f20
  replace r20 := cell_later b3 r20
  replace f21 : w3.frozen? ⟨w.heap.size + 2, 1, none⟩ = false := by rw [b3.frozen (World.block_lt_of_cell? _ _ r21)]; exact f21
  replace r21 := cell_later b3 r21
  replace f22 : w3.frozen? ⟨w.heap.size + 2, 2, none⟩ = false := by rw [b3.frozen (World.block_lt_of_cell? _ _ r22)]; exact f22
  replace r22 := cell_later b3 r22
  replace f23 : w3.frozen? ⟨w.heap.size + 2, 3, none⟩ = false := by rw [b3.frozen (World.block_lt_of_cell? _ _ r23)]; exact f23
  replace r23 := cell_later b3 r23
  clear b3 BL4
  have hsz := unhide HSZ
  have hs1 := unhide HS1
  have hs2 := unhide HS2
  have HH : Hid (SCop w3 (w.heap.size + 3) w0.heap.size v1.heap.size v2.heap.size np P nq Q n bs L V) := ⟨⟨by omega, unhide HM1, unhide HI1⟩, ⟨by omega, unhide HM2, unhide HI2⟩, ⟨by omega, by omega, by omega⟩, hl, unhide HC⟩
  clear HI1 HM1 HI2 HM2 HC HD HF hsz hs1 hs2
  have n0 : w.heap.size + 2 ≠ w.heap.size + 1 := by omega
  have n1 : w.heap.size + 1 ≠ w.heap.size + 2 := by omega
  have n2 : w.heap.size ≠ w.heap.size + 2 := by omega
  go_wp2
  refine bodyPost_ret (v := .agg #[.slice (some ⟨w0.heap.size, 0, none⟩) np np, .slice (some ⟨v1.heap.size, 0, none⟩) nq nq, .slice (some ⟨v2.heap.size, 0, none⟩) n n, .int .i64 code]) (by simp [results, Try.results7, go_sem, r10, r11, r12, r13]) rfl ⟨_, _, _, bs, rfl, ?_, ?_⟩
  · have HG := ((((((unhide HH).set (.slice (some ⟨v2.heap.size, 0, none⟩) n n) (p := ⟨w.heap.size + 2, 2, none⟩) (by simp)).set (.int .i64 code) (p := ⟨w.heap.size + 2, 3, none⟩) (by simp)).set (.slice (some ⟨w0.heap.size, 0, none⟩) np np) (p := ⟨w.heap.size + 1, 0, none⟩) (by simp)).set (.slice (some ⟨v1.heap.size, 0, none⟩) nq nq) (p := ⟨w.heap.size + 1, 1, none⟩) (by simp)).set (.slice (some ⟨v2.heap.size, 0, none⟩) n n) (p := ⟨w.heap.size + 1, 2, none⟩) (by simp)).set (.int .i64 code) (p := ⟨w.heap.size + 1, 3, none⟩) (by simp)
    obtain ⟨⟨a1, a2⟩, ⟨c1, c2⟩, d1, d2⟩ := HG
    exact ⟨⟨by omega, a2⟩, ⟨by omega, c2⟩, ⟨by omega, by omega, by omega⟩, d2⟩
  · exact (((((BL5.setCell (by simp <;> omega) _).setCell (by simp <;> omega) _).setCell (by simp <;> omega) _).setCell (by simp <;> omega) _).setCell (by simp <;> omega) _).setCell (by simp <;> omega) _
set_option maxHeartbeats 1000000 in
theorem eqSat_same (B1 B2 B3 D1 D2 D3 np nq n lo lo' : Nat) (P Q : Nat → Int) (bs ds L : Nat → Nat) (V : Nat → Nat → Int) (code : Int) (w : World) (hd : SCop w lo B1 B2 B3 np P nq Q n bs L V) (hd' : SCop w lo' D1 D2 D3 np P nq Q n ds L V) (hf : SFit np P nq Q n L V code) :
    Calls Try.prog 9 #[.agg #[.slice (some ⟨B1, 0, none⟩) np np, .slice (some ⟨B2, 0, none⟩) nq nq, .slice (some ⟨B3, 0, none⟩) n n, .int .i64 code], .agg #[.slice (some ⟨D1, 0, none⟩) np np, .slice (some ⟨D2, 0, none⟩) nq nq, .slice (some ⟨D3, 0, none⟩) n n, .int .i64 code]] w fun e w' => e = .returned (.bool true) ∧ Below w.heap.size w w' := by
  have HD := hide hd
  have HE := hide hd'
  have HF := hide hf
  clear hd hd' hf
  have kb : (code != code) = false := by simp
  go_enter Try.func9, Try.ntmps9
  go_wp2_with fail
  obtain ⟨w0, hw0⟩ : ∃ v, v = (w.alloc (.cells #[.slice (some ⟨B1, 0, none⟩) np np, .slice (some ⟨B2, 0, none⟩) nq nq, .slice (some ⟨B3, 0, none⟩) n n, .int .i64 code] 28)).alloc (.cells #[.slice (some ⟨D1, 0, none⟩) np np, .slice (some ⟨D2, 0, none⟩) nq nq, .slice (some ⟨D3, 0, none⟩) n n, .int .i64 code] 28) := ⟨_, rfl⟩
  have BL : Below w.heap.size w w0 := by rw [hw0]; exact ((Below.refl w.heap.size w).alloc (by simp <;> omega) _).alloc (by simp <;> omega) _
  have S : SBox w0 w.heap.size (some ⟨B1, 0, none⟩) np np (some ⟨B2, 0, none⟩) nq nq (some ⟨B3, 0, none⟩) n n code := by rw [hw0]; exact ⟨by simp [go_sem], by simp [go_sem], by simp [go_sem], by simp [go_sem]⟩
  have T : SBox w0 (w.heap.size + 1) (some ⟨D1, 0, none⟩) np np (some ⟨D2, 0, none⟩) nq nq (some ⟨D3, 0, none⟩) n n code := by rw [hw0]; exact ⟨by simp [go_sem], by simp [go_sem], by simp [go_sem], by simp [go_sem]⟩
  rw [← hw0]
  clear hw0
  replace HD := hide ((unhide HD).later BL)
  replace HE := hide ((unhide HE).later BL)
  refine (eqIntS_same _ _ _ _ _ _ _ _ _ (unhide HD).1.2.1.1 (unhide HE).1.2.1.1 (unhide HD).1.2.2 (unhide HE).1.2.2 (unhide HF).1).mono ?_
  rintro e w1 ⟨rfl, b1⟩
  replace HD := hide ((unhide HD).later b1)
  replace HE := hide ((unhide HE).later b1)
  replace S := S.later b1
  replace T := T.later b1
  replace BL := BL.trans (b1.mono BL.size)
  clear b1
  obtain ⟨s0, s1, s2, s3⟩ := id S
  obtain ⟨t0, t1, t2, t3⟩ := id T
  go_wp2_with fail
  clear s0 s1 s2 s3 t0 t1 t2 t3
  refine (eqIntS_same _ _ _ _ _ _ _ _ _ (unhide HD).2.1.2.1.1 (unhide HE).2.1.2.1.1 (unhide HD).2.1.2.2 (unhide HE).2.1.2.2 (unhide HF).2.1).mono ?_
  rintro e w2 ⟨rfl, b1⟩
  replace HD := hide ((unhide HD).later b1)
  replace HE := hide ((unhide HE).later b1)
  replace S := S.later b1
  replace T := T.later b1
  replace BL := BL.trans (b1.mono BL.size)
  clear b1
  obtain ⟨s0, s1, s2, s3⟩ := id S
  obtain ⟨t0, t1, t2, t3⟩ := id T
  go_wp2_with fail
  clear s0 s1 s2 s3 t0 t1 t2 t3
  refine (eqIntSS_same _ _ _ _ _ _ _ _ _ _ _ _ _ _ (unhide HD).2.2.2.1 (unhide HE).2.2.2.1 (unhide HD).2.2.2.2.rws (unhide HE).2.2.2.2.rws (unhide HF).2.2.2.2.1.1 (fun i hi => ((unhide HF).2.2.2.2.1.2 i hi).1)).mono ?_
  rintro e w3 ⟨rfl, b1⟩
  replace S := S.later b1
  replace T := T.later b1
  replace BL := BL.trans (b1.mono BL.size)
  clear b1
  obtain ⟨s0, s1, s2, s3⟩ := id S
  obtain ⟨t0, t1, t2, t3⟩ := id T
  go_wp2
  go_ret
  exact ⟨rfl, BL⟩
theorem cellsSat : Try.prog.cellsOf 25 = 4 := by kernel_rfl
theorem intsOf {H : Type} {enc : TypeId × Value → H} {w : World} {m : Nat} {cs : List Value} {sp : Nat → Bool} {held : Bool} {y : DataW H × List MemPlace}
    (h : DataW.trod enc Try.prog w 0 sp held m 22 cs = some y) : ∃ (a : Option Addr) (len cap : Nat) (V : Nat → Int), cs = [.slice a len cap] ∧ len ≤ maxLen ∧ IntsAt w a len V ∧ ∀ i, i < len → W64 (V i) := by
  rcases open_ints Try.underlying22 Try.underlying3 (by kernel_rfl) h with ⟨hcs, _⟩ | ⟨x, l, c, zs, hcs, _, hl, hm, hz, _, hcell, hwz⟩
  · exact ⟨none, 0, 0, fun _ => 0, hcs, by unfold maxLen; omega, Or.inl rfl, fun i hi => by omega⟩
  · have hlz : l ≤ zs.length := by rw [hz]; split <;> omega
    refine ⟨some x, l, c, fun i => zs.getD i 0, hcs, by omega, ?_, fun i hi => ?_⟩
    · by_cases h0 : l = 0
      · exact Or.inl h0
      · obtain ⟨b, off, rfl, hc⟩ := ints_at hcell (by omega)
        exact Or.inr ⟨b, off, rfl, World.block_lt_of_cell? _ _ (hc 0 (by omega)), fun i hi => hc i (by omega)⟩
    · apply W64.of
      apply hwz
      show zs.getD i 0 ∈ zs
      rw [List.getD_eq_getElem?_getD, List.getElem?_eq_getElem (by omega)]
      exact List.getElem_mem _
theorem rowsOf {H : Type} {enc : TypeId × Value → H} {w : World} {m : Nat} {cs : List Value} {held : Bool} {y : DataW H × List MemPlace}
    (h : DataW.trod enc Try.prog w 0 (fun _ => true) held m 23 cs = some y) : ∃ (a : Option Addr) (n cap : Nat) (A : Nat → Option Addr) (L C : Nat → Nat) (V : Nat → Nat → Int), cs = [.slice a n cap] ∧ n ≤ maxLen ∧ RwsAt w a n A L C V ∧ ∀ i, i < n → L i ≤ maxLen ∧ ∀ j, j < L i → W64 (V i j) := by
  rcases Go.Deep.open_int_rows Try.underlying23 Try.underlying22 Try.underlying3 (by kernel_rfl) (by kernel_rfl) h with ⟨hcs, _⟩ | ⟨a, len, cap, A, L, C, Z, hcs, _, hl, hm, _, hr⟩
  · exact ⟨none, 0, 0, fun _ => none, fun _ => 0, fun _ => 0, fun _ _ => 0, hcs, by unfold maxLen; omega, Or.inl rfl, fun i hi => by omega⟩
  · refine ⟨some a, len, cap, A, L, C, fun i j => (Z i).getD j 0, hcs, by omega, ?_, fun i hi => ?_⟩
    · by_cases h0 : len = 0
      · exact Or.inl h0
      · obtain ⟨b, off, spot⟩ := a
        have hspot : spot = none := by simpa [Addr.add] using World.cell?_spot (hr 0 (by omega)).1
        subst hspot
        refine Or.inr ⟨b, off, rfl, World.block_lt_of_cell? _ _ (hr 0 (by omega)).1, fun i hi => ?_⟩
        obtain ⟨h1, h2, h3, h4, h5, h6, h7⟩ := hr i (by omega)
        rw [Go.WideShapes.add_plain] at h1
        refine ⟨h1, ?_⟩
        by_cases hz : L i = 0
        · exact Or.inl hz
        · cases hA : A i with
          | none => have := h6 hA; omega
          | some a' =>
            obtain ⟨b', off', spot'⟩ := a'
            have h8 := (h7 _ hA).2
            have hs' : spot' = none := by simpa [Addr.add] using World.cell?_spot (h8 0 (by omega))
            subst hs'
            refine Or.inr ⟨b', off', rfl, World.block_lt_of_cell? _ _ (h8 0 (by omega)), fun j hj => ?_⟩
            have := h8 j (by omega)
            rw [Go.WideShapes.add_plain] at this
            exact this
    · obtain ⟨h1, h2, h3, h4, h5, h6, h7⟩ := hr i (by omega)
      refine ⟨by omega, fun j hj => ?_⟩
      apply W64.of
      apply h5
      show (Z i).getD j 0 ∈ Z i
      rw [List.getD_eq_getElem?_getD, List.getElem?_eq_getElem (by omega)]
      exact List.getElem_mem _
theorem sat_in {H : Type} {enc : TypeId × Value → H} {w : World} {base : Nat} {v : Value} {d : DataW H} {p : List MemPlace} {held : Bool} (hv : Value.okWide Try.prog w .any base 25 v)
    (h : DataW.Trod enc Try.prog w 0 (fun _ => true) held 25 v d p) : ∃ (p : Option Addr) (np cp : Nat) (P : Nat → Int) (q : Option Addr) (nq cq : Nat) (Q : Nat → Int) (a : Option Addr) (n cap : Nat) (A : Nat → Option Addr) (L C : Nat → Nat) (V : Nat → Nat → Int) (code : Int),
      v = .agg #[.slice p np cp, .slice q nq cq, .slice a n cap, .int .i64 code] ∧ W64 code ∧ np ≤ maxLen ∧ nq ≤ maxLen ∧ n ≤ maxLen ∧ SatIn w p np P q nq Q a n A L C V ∧ (∀ i, i < np → W64 (P i)) ∧ (∀ i, i < nq → W64 (Q i)) ∧ ∀ i, i < n → L i ≤ maxLen ∧ ∀ j, j < L i → W64 (V i j) := by
  obtain ⟨c0, c1, c2, c3, y0, y1, y2, y3, m, rfl, rfl, rfl, hy0, hy1, hy2, hy3⟩ := open_agg4 Try.underlying25 (by kernel_rfl) cellsSat hv h
  obtain ⟨a0, n0, k0, V0, e0, l0, d0, x0⟩ := intsOf hy0
  obtain ⟨a1, n1, k1, V1, e1, l1, d1, x1⟩ := intsOf hy1
  obtain ⟨a2, n2, k2, A2, L2, C2, V2, e2, l2, d2, x2⟩ := rowsOf hy2
  obtain ⟨x3, e3, _, wx3⟩ := DataW.trod_int Try.underlying3 hy3
  simp at e0 e1 e2 e3
  subst e0 e1 e2 e3
  exact ⟨a0, n0, k0, V0, a1, n1, k1, V1, a2, n2, k2, A2, L2, C2, V2, x3, rfl, W64.of wx3, l0, l1, l2, ⟨d0, d1, d2⟩, x0, x1, x2⟩
end Go.Proofs.Ytndebifmimbeaab
