/- What the laws write into searches to see whose memory they are. -/
import Derived.Test.YtndebifmimbeaabMrkA
import Derived.Test.YtndebifmimbeaabSatA
namespace Go.Proofs.Ytndebifmimbeaab
open Go.ChangeShapes Go.WideShapes Go.ChangeAt Go.RowKit Go.Joins
set_option linter.unusedVariables false

theorem SBox.rng {w w' : World} {b lo hi : Nat} {p : Option Addr} {np cp : Nat} {q : Option Addr} {nq cq : Nat} {a : Option Addr} {n cap : Nat} {code : Int} (h : SBox w b p np cp q nq cq a n cap code) (hm : Rng lo hi w w') (hb : b < lo ∨ hi ≤ b) : SBox w' b p np cp q nq cq a n cap code :=
  ⟨hm.cell h.1 hb, hm.cell h.2.1 hb, hm.cell h.2.2.1 hb, hm.cell h.2.2.2 hb⟩
/-- Lists in blocks of their own, whatever is in them. -/
def Cop0 (w : World) (lo B n : Nat) (bs : Nat → Nat) (L : Nat → Nat) : Prop := ∀ i, i < n → w.cell? ⟨B, i, none⟩ = some (.slice (some ⟨bs i, 0, none⟩) (L i) (L i)) ∧ lo ≤ bs i ∧ Made w (bs i) (L i)
theorem Cop.zero {w : World} {lo B n : Nat} {bs L : Nat → Nat} {V : Nat → Nat → Int} (h : Cop w lo B n bs L V) : Cop0 w lo B n bs L := fun i hi => ⟨(h i hi).1, (h i hi).2.1, (h i hi).2.2.1⟩
theorem Cop0.mov {w w' : World} {lo B n R : Nat} {bs L : Nat → Nat} (h : Cop0 w lo B n bs L) (hm : Mov R w w') (hB : B ≠ R) (ha : ∀ b m, Made w b m → Made w' b m) : Cop0 w' lo B n bs L := fun i hi => ⟨hm.cell (h i hi).1 hB, (h i hi).2.1, ha _ _ (h i hi).2.2⟩
theorem Ints.rng {w w' : World} {b off n lo hi : Nat} {V : Nat → Int} (h : Ints w b off n V) (hr : Rng lo hi w w') (hb : b < lo ∨ hi ≤ b) : Ints w' b off n V := fun i hi => hr.cell (h i hi) hb
theorem SCop.high {w w' : World} {lo B1 B2 B3 : Nat} {np : Nat} {P : Nat → Int} {nq : Nat} {Q : Nat → Int} {n : Nat} {bs L : Nat → Nat} {V : Nat → Nat → Int} {lo' hi : Nat}
    (h : SCop w lo B1 B2 B3 np P nq Q n bs L V) (hr : Rng lo' hi w w') (hh : hi ≤ lo) : SCop w' lo B1 B2 B3 np P nq Q n bs L V := by
  obtain ⟨⟨a1, a2, a3⟩, ⟨b1, b2, b3⟩, ⟨c1, c4⟩, c2, c3⟩ := h
  refine ⟨⟨a1, a2.rng hr (Or.inr (by omega)), a3.rng hr (Or.inr (by omega))⟩, ⟨b1, b2.rng hr (Or.inr (by omega)), b3.rng hr (Or.inr (by omega))⟩, ⟨c1, c4⟩, Nat.lt_of_lt_of_le c2 hr.size, fun i hi => ?_⟩
  obtain ⟨d1, d2, d3, d4⟩ := c3 i hi
  exact ⟨hr.cell d1 (Or.inr (by simp only; omega)), d2, d3.rng hr (Or.inr (by omega)), d4.rng hr (Or.inr (by omega))⟩
set_option maxHeartbeats 1000000 in
theorem markIntSS_from (lo hi B n cap : Nat) (bs L : Nat → Nat) (k0 : Int) (w : World) (hc : Cop0 w lo B n bs L) (hB : B < lo) (hn : n ≤ 1048576) (hL : ∀ i, i < n → L i ≤ 1048576) (hh : ∀ i, i < n → bs i < hi) (h0 : 0 ≤ k0) (h1 : k0 ≤ 35184372088832) :
    Calls Try.prog 34 #[.slice (some ⟨B, 0, none⟩) n cap, .int .i64 k0] w fun e w' => (∃ z : Int, e = .returned (.int .i64 z) ∧ 0 ≤ z ∧ z ≤ k0 + (n : Int) * 1048576) ∧ Rng lo hi w w' := by
  have HC := hide hc
  have HL := hide hL
  have HH := hide hh
  clear hc hL hh
  go_enter Try.func34, Try.ntmps34
  go_wp2
  go_loopw [5, 1] (fun i s wr => ∃ (k : Nat) (z : Int), k ≤ n ∧ i = .int .i64 k ∧ s = .int .i64 z ∧ 0 ≤ z ∧ z ≤ k0 + (k : Int) * 1048576 ∧ (∀ b m, Made w b m → Made wr b m) ∧ Rng lo hi w wr) (fun i _ _ => n - (intOf i).toNat)
  case atStart => exact ⟨0, k0, by omega, rfl, rfl, by omega, by omega, fun _ _ h => h, Rng.refl _ _ _⟩
  case round =>
    obtain ⟨k, z, hk, rfl, rfl, z0, z1, hmd, hr⟩ := hrel
    have HA := hide hmd
    have HR := hide hr
    clear hmd hr
    by_cases hlt : k < n
    · obtain ⟨c0, c1, c2⟩ := unhide HC k hlt
      have d0 := (unhide HR).cell c0 (Or.inl hB)
      have hLk := unhide HL k hlt
      have HM := hide (unhide HA _ _ c2)
      clear c0 c2
      go_wp2_with fail
      refine (markIntS_any _ _ _ _ _ (unhide HM) hLk z0 (by omega)).mono ?_
      rintro e w1 ⟨rfl, mv, ma⟩
      have HR1 := hide ((unhide HR).trans (Rng.mov mv c1 (unhide HH k hlt)))
      have HA1 : Hid (∀ b m, Made w b m → Made w1 b m) := fun b m h => ma b m (unhide HA b m h)
      clear mv ma
      go_wp2
      go_roundw
      case rel => exact ⟨k + 1, z + L k, by omega, by go_num, by go_num, by omega, by omega, unhide HA1, unhide HR1⟩
      case measure => simp [intOf]; omega
    · have e : k = n := by omega
      subst e
      go_wp2
      go_ret
      exact ⟨⟨_, rfl, z0, z1⟩, unhide HR⟩
set_option maxHeartbeats 1000000 in
theorem markCnf_from (m : Int) (lo hi B n cap : Nat) (bs L : Nat → Nat) (V : Nat → Nat → Int) (w : World) (hc : Cop w lo B n bs L V) (hB : B < lo) (hBw : B < w.heap.size) (hn : n ≤ 1048576) (hL : ∀ i, i < n → L i ≤ 1048576) (hh : ∀ i, i < n → bs i < hi) :
    Calls Try.prog 16 #[.agg #[.int .i64 m, .slice (some ⟨B, 0, none⟩) n cap], .int .i64 1] w fun e w' => (∃ z : Int, e = .returned (.int .i64 z) ∧ 0 ≤ z ∧ z ≤ 1 + (n : Int) * 1048576) ∧ Rng lo hi w w' := by
  have HC := hide hc
  have HL := hide hL
  have HH := hide hh
  clear hc hL hh
  go_enter Try.func16, Try.ntmps16
  go_wp2_with fail
  have BZ : Below w.heap.size w (w.alloc (.cells #[.int .i64 m, .slice (some ⟨B, 0, none⟩) n cap] 36)) := (Below.refl _ _).alloc (Nat.le_refl _) _
  refine (markIntSS_from lo hi _ _ _ bs L 1 _ ((unhide HC).later BZ).zero hB hn (unhide HL) (unhide HH) (by omega) (by omega)).mono ?_
  rintro e w1 ⟨⟨z, rfl, hz, hz1⟩, hr⟩
  have HR := hide ((Rng.of BZ).trans hr)
  clear hr BZ
  go_wp2
  go_ret
  exact ⟨⟨_, rfl, hz, hz1⟩, unhide HR⟩
set_option maxHeartbeats 1000000 in
theorem markSat_from (lo hi B1 B2 B3 np nq n : Nat) (P Q : Nat → Int) (bs L : Nat → Nat) (V : Nat → Nat → Int) (code k0 : Int) (w : World) (hd : SCop w lo B1 B2 B3 np P nq Q n bs L V) (hf : SFit np P nq Q n L V code) (h1 : B1 < hi) (h2 : B2 < hi) (h3 : ∀ i, i < n → bs i < hi) (k1 : 0 ≤ k0) (k2 : k0 ≤ 17592186044416) :
    Calls Try.prog 17 #[.agg #[.slice (some ⟨B1, 0, none⟩) np np, .slice (some ⟨B2, 0, none⟩) nq nq, .slice (some ⟨B3, 0, none⟩) n n, .int .i64 code], .int .i64 k0] w fun e w' => (∃ z : Int, e = .returned (.int .i64 z) ∧ 0 ≤ z) ∧ Rng lo hi w w' := by
  obtain ⟨⟨a1, a2, a3⟩, ⟨b1, b2, b3⟩, ⟨c1, c4, c5⟩, c2, c3⟩ := hd
  have hnp := hf.1
  have hnq := hf.2.1
  have hn := hf.2.2.2.2.1.1
  have HL : Hid (∀ i, i < n → L i ≤ 1048576) := fun i hi => (hf.2.2.2.2.1.2 i hi).1
  have H3 := hide h3
  have HM1 := hide a2
  have HM2 := hide b2
  have HC := hide c3.zero
  clear a2 a3 b2 b3 c3 hf h3
  go_enter Try.func17, Try.ntmps17
  go_wp2_with fail
  obtain ⟨w0, hw0⟩ : ∃ v, v = w.alloc (.cells #[.slice (some ⟨B1, 0, none⟩) np np, .slice (some ⟨B2, 0, none⟩) nq nq, .slice (some ⟨B3, 0, none⟩) n n, .int .i64 code] 28) := ⟨_, rfl⟩
  have b0 : Below w.heap.size w w0 := by rw [hw0]; exact (Below.refl _ _).alloc (Nat.le_refl _) _
  have S : SBox w0 w.heap.size (some ⟨B1, 0, none⟩) np np (some ⟨B2, 0, none⟩) nq nq (some ⟨B3, 0, none⟩) n n code := by rw [hw0]; exact SBox.new _ _ _ _ _ _ _ _ _ _ _ _
  rw [← hw0]
  clear hw0
  have l1 := (unhide HM1).1
  have l2 := (unhide HM2).1
  replace HM1 := hide ((unhide HM1).later b0)
  replace HM2 := hide ((unhide HM2).later b0)
  replace HC : Hid (Cop0 w0 (B3 + 1) B3 n bs L) := fun i hi => ⟨cell_later b0 (unhide HC i hi).1, (unhide HC i hi).2.1, (unhide HC i hi).2.2.later b0⟩
  have R0 : Rng lo hi w w0 := Rng.of b0
  clear b0
  refine (markIntS_any _ _ _ _ _ (unhide HM1) hnp k1 (by omega)).mono ?_
  rintro e w1 ⟨rfl, mv, ma⟩
  replace R0 := R0.trans (Rng.mov mv a1 h1)
  replace HM2 := hide (ma _ _ (unhide HM2))
  replace HC := hide ((unhide HC).mov mv (by omega) ma)
  replace S : SBox w1 w.heap.size (some ⟨B1, 0, none⟩) np np (some ⟨B2, 0, none⟩) nq nq (some ⟨B3, 0, none⟩) n n code := ⟨mv.cell S.1 (by simp only; omega), mv.cell S.2.1 (by simp only; omega), mv.cell S.2.2.1 (by simp only; omega), mv.cell S.2.2.2 (by simp only; omega)⟩
  clear mv ma HM1
  obtain ⟨s0, s1, s2, s3⟩ := id S
  go_wp2_with fail
  clear s0 s1 s2 s3
  refine (markIntS_any _ _ _ _ _ (unhide HM2) hnq (by omega) (by omega)).mono ?_
  rintro e w2 ⟨rfl, mv, ma⟩
  replace R0 := R0.trans (Rng.mov mv b1 h2)
  replace HC := hide ((unhide HC).mov mv (by omega) ma)
  replace S : SBox w2 w.heap.size (some ⟨B1, 0, none⟩) np np (some ⟨B2, 0, none⟩) nq nq (some ⟨B3, 0, none⟩) n n code := ⟨mv.cell S.1 (by simp only; omega), mv.cell S.2.1 (by simp only; omega), mv.cell S.2.2.1 (by simp only; omega), mv.cell S.2.2.2 (by simp only; omega)⟩
  clear mv ma HM2
  obtain ⟨s0, s1, s2, s3⟩ := id S
  go_wp2_with fail
  clear s0 s1 s2 s3
  refine (markIntSS_from (B3 + 1) hi _ _ _ bs L _ _ (unhide HC) (by omega) hn (unhide HL) (unhide H3) (by omega) (by omega)).mono ?_
  rintro e w3 ⟨⟨z, rfl, z0, z1⟩, hr⟩
  have R1 : Rng lo hi w w3 := R0.trans ⟨hr.1, hr.2.1, hr.2.2.1, hr.2.2.2.1, fun i hi' hR => hr.2.2.2.2 i hi' (by omega)⟩
  clear hr R0
  go_wp2
  go_ret
  exact ⟨⟨_, rfl, z0⟩, R1⟩
end Go.Proofs.Ytndebifmimbeaab
