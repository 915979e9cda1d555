/- Both so: the mark, of the program. -/
import Derived.Test.YtbfijmijhfbkdaaNrE
import Derived.Test.YtbfijmijhfbkdaaMrkN
namespace Go.Proofs.Ytbfijmijhfbkdaa
open Go.ChangeShapes Go.WideShapes Go.ChangeAt Go.RowKit Go.Joins
set_option linter.unusedVariables false
set_option linter.unusedSimpArgs false

theorem own_made {w : World} {base g n c : Nat} {e : TypeId} {G : Nat → Gt} (h : w.ownsRow base e 3 (.slice (some ⟨g, 0, none⟩) n c) n (gcells G n)) : Made w g (n * 3) := by
  refine ⟨(own_cap h).2, fun j hj => ⟨⟨gcel G j, ?_⟩, h.frozenAt j⟩⟩
  have := h.cells (g := g) rfl j _ (gcells_get G n j hj)
  rwa [Go.WideShapes.add_plain, Nat.zero_add] at this
theorem putR_ways (m : Int) (n : Nat) (G : Nat → Gt) (g : Gt) (hm0 : 0 ≤ m) : (putR m n G g).k = 0 ∧ (putR m n G g).m = 0 ∧ (putR m n G g).n = 0 ∨ (putR m n G g).k ≠ 0 ∧ (putR m n G g).m = m := by
  rcases firstO_ways (fun i => geq (G i) g) n with ⟨_, h⟩ | ⟨i, hi, _, hg, hj⟩
  · by_cases h6 : 600 ≤ n
    · rw [putR_full (fun j hj => geq_no.1 (h j hj)) h6]; exact Or.inl ⟨rfl, rfl, rfl⟩
    · rw [putR_new (fun j hj => geq_no.1 (h j hj)) (by omega)]; exact Or.inr ⟨by simp only; omega, rfl⟩
  · rw [putR_at hi (geq_iff.1 hg) (fun j h => geq_no.1 (hj j h))]; exact Or.inr ⟨by simp only; omega, rfl⟩
theorem andR_ways (m : Int) (n : Nat) (G : Nat → Gt) (a b : Int) (hm0 : 0 ≤ m) (ha : a ≠ 0) (hb : b ≠ 0) : (andR m n G a b).k = 0 ∧ (andR m n G a b).m = 0 ∧ (andR m n G a b).n = 0 ∨ (andR m n G a b).k ≠ 0 ∧ (andR m n G a b).m = m := by
  unfold andR
  split
  · exact Or.inr ⟨by simp, rfl⟩
  · split
    · exact Or.inr ⟨hb, rfl⟩
    · split
      · exact Or.inr ⟨ha, rfl⟩
      · split
        · exact Or.inr ⟨by simp, rfl⟩
        · split
          · exact putR_ways m n G _ hm0
          · exact putR_ways m n G _ hm0
theorem netP_dist {m : Int} {n : Nat} {G : Nat → Gt} (h : netB m n G = true) : ∀ i j, i < j → j < n → G i ≠ G j := fun i j h1 h2 => ((netB_iff.1 h).2.2.2 j h2).2 i h1
set_option maxHeartbeats 2000000 in
theorem and_any (gb g n c B base : Nat) (m : Int) (G : Nat → Gt) (a b : Int) (w : World) (h : Grow w base gb m g n c B G) (hbase : base ≤ w.heap.size) (hP : netB m n G = true) (ha : mkP m n a = true) (hb : mkP m n b = true) :
    Calls Try.prog 43 #[.pointer (some ⟨gb, 0, none⟩), .int .i64 a, .int .i64 b] w fun e w' => e = .returned (.int .i64 (andR m n G a b).k) ∧ ((andR m n G a b).k ≠ 0 → ∃ g', (∃ c', Grow w' base gb m g' (andR m n G a b).n c' B (andR m n G a b).G) ∧ (g' = g ∨ w.heap.size ≤ g')) ∧ Out3 gb B g w w' := by
  have HU := hide (netP_dist hP)
  obtain ⟨hm0, hm1, hn, _⟩ := netB_iff.1 hP
  obtain ⟨a0, a1, a2⟩ := mkP_bd ha
  obtain ⟨b0, b1, b2⟩ := mkP_bd hb
  have HG := hide h
  clear h ha hb hP
  by_cases c1 : a = -1
  · subst c1
    have HR := hide (show andR m n G (-1) b = ⟨m, n, G, -1⟩ by simp [andR])
    go_enter Try.func43, Try.ntmps43
    go_wp2
    go_ret
    rw [unhide HR]
    exact ⟨rfl, fun _ => ⟨g, ⟨c, unhide HG⟩, Or.inl rfl⟩, Out3.refl _ _ _ _⟩
  · have k1 : (a == -1) = false := by simp [c1]
    by_cases c2 : b = -1
    · subst c2
      have HR := hide (show andR m n G a (-1) = ⟨m, n, G, -1⟩ by simp [andR])
      go_enter Try.func43, Try.ntmps43
      go_wp2
      go_ret
      rw [unhide HR]
      exact ⟨rfl, fun _ => ⟨g, ⟨c, unhide HG⟩, Or.inl rfl⟩, Out3.refl _ _ _ _⟩
    · have k2 : (b == -1) = false := by simp [c2]
      by_cases c4 : a = 1
      · subst c4
        have HR := hide (show andR m n G 1 b = ⟨m, n, G, b⟩ by simp [andR, c2])
        go_enter Try.func43, Try.ntmps43
        go_wp2
        go_ret
        rw [unhide HR]
        exact ⟨rfl, fun _ => ⟨g, ⟨c, unhide HG⟩, Or.inl rfl⟩, Out3.refl _ _ _ _⟩
      · have k4 : (a == 1) = false := by simp [c4]
        by_cases c6 : b = 1
        · subst c6
          have HR := hide (show andR m n G a 1 = ⟨m, n, G, a⟩ by simp [andR, c1, c4])
          go_enter Try.func43, Try.ntmps43
          go_wp2
          go_ret
          rw [unhide HR]
          exact ⟨rfl, fun _ => ⟨g, ⟨c, unhide HG⟩, Or.inl rfl⟩, Out3.refl _ _ _ _⟩
        · have k6 : (b == 1) = false := by simp [c6]
          by_cases c5 : a = b
          · subst c5
            have k5 : (a == a) = true := by simp
            have HR := hide (show andR m n G a a = ⟨m, n, G, a⟩ by simp [andR, c1, c4])
            go_enter Try.func43, Try.ntmps43
            go_wp2
            go_ret
            rw [unhide HR]
            exact ⟨rfl, fun _ => ⟨g, ⟨c, unhide HG⟩, Or.inl rfl⟩, Out3.refl _ _ _ _⟩
          · have k5 : (a == b) = false := by simp [c5]
            by_cases c3 : a = -b
            · have k3 : (a == -b) = true := by simp [c3]
              have HR := hide (show andR m n G a b = ⟨m, n, G, -1⟩ by simp only [andR, c1, c2, c4, c5, c6, or_self, if_false]; simp [c3])
              have HC := hide c3
              clear c3
              go_enter Try.func43, Try.ntmps43
              go_wp2
              go_ret
              rw [unhide HR]
              exact ⟨rfl, fun _ => ⟨g, ⟨c, unhide HG⟩, Or.inl rfl⟩, Out3.refl _ _ _ _⟩
            · have k3 : (a == -b) = false := by simp [c3]
              have HR := hide (show andR m n G a b = putR m n G (gat false a b) by simp only [andR, gat, c1, c2, c3, c4, c5, c6, or_self, if_false]; split <;> rfl)
              go_enter Try.func43, Try.ntmps43
              go_wp2_with fail
              refine (gate_any gb g n c B base m G false a b _ (unhide HG) hbase hm0 hm1 hn (unhide HU) (by omega) (by omega) (by omega) (by omega)).mono ?_
              rintro e w1 ⟨rfl, h1, h2⟩
              have H1 := hide h1
              have H2 := hide h2
              clear h1 h2
              generalize hr : putR m n G (gat false a b) = r at *
              go_wp2
              go_ret
              rw [unhide HR]
              exact ⟨rfl, unhide H1, unhide H2⟩
set_option maxHeartbeats 1000000 in
theorem told_zero (gb : Nat) (w : World) :
    Calls Try.prog 42 #[.pointer (some ⟨gb, 0, none⟩), .int .i64 0] w fun e w' => e = .returned (.tuple #[.agg #[.int .i64 0, .slice none 0 0], .int .i64 0]) ∧ Below w.heap.size w w' := by
  go_enter Try.func42, Try.ntmps42
  go_wp2
  refine bodyPost_ret (v := .tuple #[.agg #[.int .i64 0, .slice none 0 0], .int .i64 0]) (by simp [results, Try.results42, go_sem]) rfl ⟨rfl, (by repeat (first | exact Below.refl _ _ | assumption | refine below_drewN ?_ _ | refine Below.drew ?_ | refine Below.alloc ?_ (by first | exact Nat.le_refl _ | exact Below.size (by assumption) | (simp; done) | (simp; omega)) _ | refine Below.setCell ?_ (by first | exact Nat.le_refl _ | exact Below.size (by assumption) | (simp; done) | (simp; omega)) _ | refine Below.trans ?_ (by assumption)))⟩
/-- What NetAnd or NetXor hands back, in memory of its own. -/
def RPost (r : NR) (base : Nat) (e : Ending) (w' : World) : Prop := ∃ a' cap', e = .returned (.tuple #[.agg #[.int .i64 r.m, .slice a' r.n cap'], .int .i64 r.k]) ∧ GtsAt w' a' r.n r.G ∧ OwnG w' base a' r.n ∧ (r.k ≠ 0 → ∃ p, a' = some p ∧ p.spot = none)
set_option maxRecDepth 100000 in
set_option maxHeartbeats 2000000 in
theorem iNetAnd_any (m : Int) (ad : Option Addr) (n cap : Nat) (G : Nat → Gt) (a b : Int) (w : World) (hd : GtsAt w ad n G) (hw : WG n G) (hs : ∃ p, ad = some p ∧ p.spot = none) (ha : W64 a) (hb : W64 b) (hn : n ≤ 1048576) :
    Calls Try.prog 16 #[.agg #[.int .i64 m, .slice ad n cap], .int .i64 a, .int .i64 b] w fun e w' => RPost (netAndR m n G a b) w.heap.size e w' ∧ Below w.heap.size w w' := by
  obtain ⟨wz, hwz⟩ : ∃ wz, wz = ((w.alloc (.cells #[.int .i64 m, .slice ad n cap] 25)).alloc (.cells #[.int .i64 0, .slice none 0 0] 25)).alloc (.cells #[.int .i64 a, .int .i64 b] 3) := ⟨_, rfl⟩
  have BZ : Below w.heap.size w wz := by rw [hwz]; exact (((Below.refl _ _).alloc (Nat.le_refl _) _).alloc (by simp) _).alloc (by simp; omega) _
  have s0 : wz.cell? ⟨w.heap.size + 1, 0, none⟩ = some (.int .i64 0) := by rw [hwz]; simp [go_sem]
  have s1 : wz.cell? ⟨w.heap.size + 1, 1, none⟩ = some (.slice none 0 0) := by rw [hwz]; simp [go_sem]
  have f0 : wz.frozen? ⟨w.heap.size + 1, 0, none⟩ = false := by rw [hwz]; simp [go_sem]
  have f1 : wz.frozen? ⟨w.heap.size + 1, 1, none⟩ = false := by rw [hwz]; simp [go_sem]
  have hT : Hid (Ints wz (w.heap.size + 2) 0 2 (V2 a b)) := by
    intro i hi
    have : i = 0 ∨ i = 1 := by omega
    rcases this with rfl | rfl <;> (rw [hwz]; simp [go_sem, V2])
  have lz : w.heap.size + 2 < wz.heap.size := by rw [hwz]; simp
  have HD := hide hd
  have HW := hide hw
  have HZ := hide hwz
  have HS := hide hs
  clear hd hwz hw hs
  go_enter Try.func16, Try.ntmps16
  go_wp2_with fail
  rw [← unhide HZ]
  refine (grow_any _ _ _ _ _ (w.heap.size + 2) a b _ ((unhide HD).later BZ) (unhide HW) (unhide HS) (unhide hT) lz ha hb hn).mono ?_
  rintro e w1 ⟨⟨hI, gb, g, c, B, rfl, hG⟩ | ⟨hI, rfl⟩, b1⟩
  · have HN := hide (netAndR_yes hI)
    have aa := (mkP_bd hI.2.1).1
    have bb := (mkP_bd hI.2.2).1
    have hm0 := (netB_iff.1 hI.1).1
    have hway := andR_ways m n G a b hm0 aa bb
    have l1 := b1.size
    replace s0 := cell_later b1 s0
    replace s1 := cell_later b1 s1
    replace f0 := (b1.frozen (p := ⟨w.heap.size + 1, 0, none⟩) (by simp only; omega)).trans f0
    replace f1 := (b1.frozen (p := ⟨w.heap.size + 1, 1, none⟩) (by simp only; omega)).trans f1
    have BL := BZ.trans (b1.mono BZ.size)
    clear b1 BZ
    go_wp2_with fail
    refine (and_any gb g n c B wz.heap.size m G a b _ hG l1 hI.1 hI.2.1 hI.2.2).mono ?_
    rintro e w2 ⟨rfl, h1, b2⟩
    replace b2 := b2.lower hG
    have H1 := hide h1
    have HI := hide hI
    have l2 := b2.size
    replace s0 := (b2.cell (p := ⟨w.heap.size + 1, 0, none⟩) (by simp only; omega)).trans s0
    replace s1 := (b2.cell (p := ⟨w.heap.size + 1, 1, none⟩) (by simp only; omega)).trans s1
    replace f0 := (b2.frozen (p := ⟨w.heap.size + 1, 0, none⟩) (by simp only; omega)).trans f0
    replace f1 := (b2.frozen (p := ⟨w.heap.size + 1, 1, none⟩) (by simp only; omega)).trans f1
    replace BL := BL.trans (b2.mono (by omega))
    clear h1 b2 hG hI
    generalize andR m n G a b = r at *
    have l12 : w.heap.size + 1 < w2.heap.size := by omega
    rcases hway with ⟨z1, z2, z3⟩ | ⟨z1, z2⟩
    · rw [z1]
      go_wp2_with fail
      refine (told_zero _ _).mono ?_
      rintro e w3 ⟨rfl, b3⟩
      replace s0 := cell_later b3 s0
      replace s1 := cell_later b3 s1
      replace f0 := (b3.frozen (p := ⟨w.heap.size + 1, 0, none⟩) (by simp only; omega)).trans f0
      replace f1 := (b3.frozen (p := ⟨w.heap.size + 1, 1, none⟩) (by simp only; omega)).trans f1
      replace BL := BL.trans (b3.mono BL.size)
      have Z := hide (And.intro z1 (And.intro z2 z3))
      clear b3 z1 z2 z3
      go_wp2
      refine bodyPost_ret (v := .tuple #[.agg #[.int .i64 0, .slice none 0 0], .int .i64 0]) (by simp [results, Try.results16, go_sem, s0, s1]) rfl ?_
      obtain ⟨z1, z2, z3⟩ := unhide Z
      rw [unhide HN]
      exact ⟨⟨none, 0, by rw [z1, z2, z3], Or.inl z3, Or.inl z3, fun h => absurd z1 h⟩, (by repeat (first | exact Below.refl _ _ | assumption | refine below_drewN ?_ _ | refine Below.drew ?_ | refine Below.alloc ?_ (by first | exact Nat.le_refl _ | exact Below.size (by assumption) | (simp; done) | (simp; omega)) _ | refine Below.setCell ?_ (by first | exact Nat.le_refl _ | exact Below.size (by assumption) | (simp; done) | (simp; omega)) _ | refine Below.trans ?_ (by assumption)))⟩
    · obtain ⟨g', ⟨c', hG'⟩, _⟩ := unhide H1 z1
      have HG' := hide hG'
      have gl' := own_base hG'.2.1
      clear hG'
      go_wp2_with fail
      refine (told_any gb m g' r.n c' B r.k _ (unhide HG').1).mono ?_
      rintro e w3 ⟨⟨hk, _⟩ | ⟨_, rfl⟩, b3⟩
      · exact absurd hk z1
      have HG3 := hide ((unhide HG').later b3)
      replace s0 := cell_later b3 s0
      replace s1 := cell_later b3 s1
      replace f0 := (b3.frozen (p := ⟨w.heap.size + 1, 0, none⟩) (by simp only; omega)).trans f0
      replace f1 := (b3.frozen (p := ⟨w.heap.size + 1, 1, none⟩) (by simp only; omega)).trans f1
      replace BL := BL.trans (b3.mono BL.size)
      have Z := hide z2
      clear b3 z1 z2
      go_wp2
      refine bodyPost_ret (v := .tuple #[.agg #[.int .i64 m, .slice (some ⟨g', 0, none⟩) r.n c'], .int .i64 r.k]) (by simp [results, Try.results16, go_sem, s0, s1]) rfl ?_
      rw [unhide HN]
      exact ⟨⟨some ⟨g', 0, none⟩, c', by rw [unhide Z], (own_gtsAt (unhide HG3).2.1).mov2 (B := w.heap.size + 1) (by omega) ((Mov.set _ _ _).trans (Mov.set _ _ _)), Or.inr ⟨g', rfl, by omega, (own_made (unhide HG3).2.1).mov ((Mov.set _ _ _).trans (Mov.set _ _ _)) (by omega : g' ≠ w.heap.size + 1)⟩, fun _ => ⟨_, rfl, rfl⟩⟩, (by repeat (first | exact Below.refl _ _ | assumption | refine below_drewN ?_ _ | refine Below.drew ?_ | refine Below.alloc ?_ (by first | exact Nat.le_refl _ | exact Below.size (by assumption) | (simp; done) | (simp; omega)) _ | refine Below.setCell ?_ (by first | exact Nat.le_refl _ | exact Below.size (by assumption) | (simp; done) | (simp; omega)) _ | refine Below.trans ?_ (by assumption)))⟩
  · have HN := hide (netAndR_no hI)
    replace s0 := cell_later b1 s0
    replace s1 := cell_later b1 s1
    replace f0 := (b1.frozen (p := ⟨w.heap.size + 1, 0, none⟩) (by simp only; omega)).trans f0
    replace f1 := (b1.frozen (p := ⟨w.heap.size + 1, 1, none⟩) (by simp only; omega)).trans f1
    have BL := BZ.trans (b1.mono BZ.size)
    clear b1 BZ hI
    go_wp2
    refine bodyPost_ret (v := .tuple #[.agg #[.int .i64 0, .slice none 0 0], .int .i64 0]) (by simp [results, Try.results16, go_sem, s0, s1]) rfl ?_
    rw [unhide HN]
    exact ⟨⟨_, _, rfl, Or.inl rfl, Or.inl rfl, fun h => absurd rfl h⟩, (by repeat (first | exact Below.refl _ _ | assumption | refine below_drewN ?_ _ | refine Below.drew ?_ | refine Below.alloc ?_ (by first | exact Nat.le_refl _ | exact Below.size (by assumption) | (simp; done) | (simp; omega)) _ | refine Below.setCell ?_ (by first | exact Nat.le_refl _ | exact Below.size (by assumption) | (simp; done) | (simp; omega)) _ | refine Below.trans ?_ (by assumption)))⟩
end Go.Proofs.Ytbfijmijhfbkdaa
