/- Whether they are unlike: the mark, of the program. -/
import Derived.Test.YtbfijmijhfbkdaaNrX
import Derived.Test.YtbfijmijhfbkdaaNrF
namespace Go.Proofs.Ytbfijmijhfbkdaa
open Go.ChangeShapes Go.WideShapes Go.ChangeAt Go.RowKit Go.Joins
set_option linter.unusedVariables false
set_option linter.unusedSimpArgs false

theorem abs_abs (x : Int) : absI (absI x) = absI x := by
  have h : 0 ≤ absI x := by unfold absI; split <;> omega
  exact absI_pos h
theorem gat_abs (a b : Int) : gat true (absI a) (absI b) = if absI b < absI a then ⟨true, absI b, absI a⟩ else ⟨true, absI a, absI b⟩ := by unfold gat; rw [abs_abs, abs_abs]
theorem xorR_ways (m : Int) (n : Nat) (G : Nat → Gt) (a b : Int) (hm0 : 0 ≤ m) (ha : a ≠ 0) (hb : b ≠ 0) : (xorR m n G a b).k = 0 ∧ (xorR m n G a b).m = 0 ∧ (xorR m n G a b).n = 0 ∨ (xorR m n G a b).k ≠ 0 ∧ (xorR m n G a b).m = m := by
  unfold xorR
  split
  · exact Or.inr ⟨by simp only; split <;> omega, rfl⟩
  · split
    · exact Or.inr ⟨by simp only; split <;> omega, rfl⟩
    · split
      · exact Or.inr ⟨by simp, rfl⟩
      · split
        · exact Or.inr ⟨by simp, rfl⟩
        · rcases putR_ways m n G (if absI b < absI a then ⟨true, absI b, absI a⟩ else ⟨true, absI a, absI b⟩) hm0 with ⟨h1, h2, h3⟩ | ⟨h1, h2⟩
          · exact Or.inl ⟨by simp [turnR, h1], h2, h3⟩
          · exact Or.inr ⟨by simp only [turnR]; split <;> omega, h2⟩
def tif (k : Int) (t : Bool) : Int := if t then -k else k
set_option maxHeartbeats 400000 in
theorem turnedIf_any (k : Int) (t : Bool) (w : World) (h1 : -1000 ≤ k) (h2 : k ≤ 1000) :
    Calls Try.prog 61 #[.int .i64 k, .bool t] w fun e w' => e = .returned (.int .i64 (tif k t)) ∧ w' = w := by
  cases t
  all_goals
    go_enter Try.func61, Try.ntmps61
    go_wp2
    go_ret
    exact ⟨rfl, rfl⟩
set_option maxHeartbeats 2000000 in
theorem xor_any (gb g n c B base : Nat) (m : Int) (G : Nat → Gt) (a b : Int) (w : World) (h : Grow w base gb m g n c B G) (hbase : base ≤ w.heap.size) (hP : netB m n G = true) (ha : mkP m n a = true) (hb : mkP m n b = true) :
    Calls Try.prog 47 #[.pointer (some ⟨gb, 0, none⟩), .int .i64 a, .int .i64 b] w fun e w' => e = .returned (.int .i64 (xorR m n G a b).k) ∧ ((xorR m n G a b).k ≠ 0 → ∃ g', (∃ c', Grow w' base gb m g' (xorR m n G a b).n c' B (xorR m n G a b).G) ∧ (g' = g ∨ w.heap.size ≤ g')) ∧ Out3 gb B g w w' := by
  have HU := hide (netP_dist hP)
  obtain ⟨hm0, hm1, hn, _⟩ := netB_iff.1 hP
  obtain ⟨a0, a1, a2⟩ := mkP_bd ha
  obtain ⟨b0, b1, b2⟩ := mkP_bd hb
  have HG := hide h
  have ha' : W64 a := by unfold W64; omega
  have hb' : W64 b := by unfold W64; omega
  have ea : bareI a = absI a := bare_abs (N := 700) (by omega) (by omega) (by omega)
  have eb : bareI b = absI b := bare_abs (N := 700) (by omega) (by omega) (by omega)
  have aa := absI_bd a 700 (by omega) (by omega)
  have bb := absI_bd b 700 (by omega) (by omega)
  clear h ha hb hP
  by_cases c1 : a = 1
  · subst c1
    have HR := hide (show xorR m n G 1 b = ⟨m, n, G, -b⟩ by simp [xorR, absI])
    have e1 : bareI 1 = 1 := by decide
    go_enter Try.func47, Try.ntmps47
    go_wp2_with fail
    refine (bare_any _ _ ha').mono ?_
    rintro e w ⟨rfl, rfl⟩
    rw [e1]
    go_wp2_with fail
    refine (turnedIf_any (b) true _ (by omega) (by omega)).mono ?_
    rintro e w ⟨rfl, rfl⟩
    go_wp2
    go_ret
    rw [unhide HR]
    exact ⟨rfl, fun _ => ⟨g, ⟨c, unhide HG⟩, Or.inl rfl⟩, Out3.refl _ _ _ _⟩
  · have k1 : (a == 1) = false := by simp [c1]
    by_cases c1' : a = -1
    · subst c1'
      have HR := hide (show xorR m n G (-1) b = ⟨m, n, G, b⟩ by simp [xorR, absI])
      have e1 : bareI (-1) = 1 := by decide
      go_enter Try.func47, Try.ntmps47
      go_wp2_with fail
      refine (bare_any _ _ ha').mono ?_
      rintro e w ⟨rfl, rfl⟩
      rw [e1]
      go_wp2_with fail
      refine (turnedIf_any (b) false _ (by omega) (by omega)).mono ?_
      rintro e w ⟨rfl, rfl⟩
      go_wp2
      go_ret
      rw [unhide HR]
      exact ⟨rfl, fun _ => ⟨g, ⟨c, unhide HG⟩, Or.inl rfl⟩, Out3.refl _ _ _ _⟩
    · have o1 : ¬ absI a = 1 := by rw [abs_one]; omega
      have ko1 : (absI a == 1) = false := by simp [o1]
      by_cases c2 : b = 1
      · subst c2
        have HR := hide (show xorR m n G a 1 = ⟨m, n, G, -a⟩ by simp [xorR, o1]; simp [absI])
        have e1 : bareI 1 = 1 := by decide
        go_enter Try.func47, Try.ntmps47
        go_wp2_with fail
        refine (bare_any _ _ ha').mono ?_
        rintro e w ⟨rfl, rfl⟩
        (try rw [ea])
        go_wp2_with fail
        refine (bare_any _ _ hb').mono ?_
        rintro e w ⟨rfl, rfl⟩
        rw [e1]
        go_wp2_with fail
        refine (turnedIf_any (a) true _ (by omega) (by omega)).mono ?_
        rintro e w ⟨rfl, rfl⟩
        go_wp2
        go_ret
        rw [unhide HR]
        exact ⟨rfl, fun _ => ⟨g, ⟨c, unhide HG⟩, Or.inl rfl⟩, Out3.refl _ _ _ _⟩
      · have k2 : (b == 1) = false := by simp [c2]
        by_cases c2' : b = -1
        · subst c2'
          have HR := hide (show xorR m n G a (-1) = ⟨m, n, G, a⟩ by simp [xorR, o1]; simp [absI])
          have e1 : bareI (-1) = 1 := by decide
          go_enter Try.func47, Try.ntmps47
          go_wp2_with fail
          refine (bare_any _ _ ha').mono ?_
          rintro e w ⟨rfl, rfl⟩
          (try rw [ea])
          go_wp2_with fail
          refine (bare_any _ _ hb').mono ?_
          rintro e w ⟨rfl, rfl⟩
          rw [e1]
          go_wp2_with fail
          refine (turnedIf_any (a) false _ (by omega) (by omega)).mono ?_
          rintro e w ⟨rfl, rfl⟩
          go_wp2
          go_ret
          rw [unhide HR]
          exact ⟨rfl, fun _ => ⟨g, ⟨c, unhide HG⟩, Or.inl rfl⟩, Out3.refl _ _ _ _⟩
        · have o2 : ¬ absI b = 1 := by rw [abs_one]; omega
          have ko2 : (absI b == 1) = false := by simp [o2]
          by_cases c3 : a = b
          · subst c3
            have k3 : (a == a) = true := by simp
            have HR := hide (show xorR m n G a a = ⟨m, n, G, -1⟩ by simp [xorR, o1])
            go_enter Try.func47, Try.ntmps47
            go_wp2_with fail
            refine (bare_any _ _ ha').mono ?_
            rintro e w ⟨rfl, rfl⟩
            (try rw [ea])
            go_wp2_with fail
            refine (bare_any _ _ hb').mono ?_
            rintro e w ⟨rfl, rfl⟩
            (try rw [eb])
            go_wp2
            go_ret
            rw [unhide HR]
            exact ⟨rfl, fun _ => ⟨g, ⟨c, unhide HG⟩, Or.inl rfl⟩, Out3.refl _ _ _ _⟩
          · have k3 : (a == b) = false := by simp [c3]
            by_cases c4 : a = -b
            · have k4 : (a == -b) = true := by simp [c4]
              have HR := hide (show xorR m n G a b = ⟨m, n, G, 1⟩ by simp only [xorR, o1, o2, c3, if_false]; simp [c4])
              have HC4 := hide c4
              clear c4
              go_enter Try.func47, Try.ntmps47
              go_wp2_with fail
              refine (bare_any _ _ ha').mono ?_
              rintro e w ⟨rfl, rfl⟩
              (try rw [ea])
              go_wp2_with fail
              refine (bare_any _ _ hb').mono ?_
              rintro e w ⟨rfl, rfl⟩
              (try rw [eb])
              go_wp2
              go_ret
              rw [unhide HR]
              exact ⟨rfl, fun _ => ⟨g, ⟨c, unhide HG⟩, Or.inl rfl⟩, Out3.refl _ _ _ _⟩
            · have k4 : (a == -b) = false := by simp [c4]
              have HP := hide (gat_abs a b)
              by_cases sa : a < 0
              · by_cases sb : b < 0
                · have DA := hide (show decide (a < 0) = true by simp; omega)
                  have DB := hide (show decide (b < 0) = true by simp; omega)
                  have HR := hide (show xorR m n G a b = turnR (putR m n G (gat true (absI a) (absI b))) false by rw [unhide HP]; simp [xorR, o1, o2, c3, c4, sa, sb])
                  obtain ⟨_, _, _, q4, q5⟩ := putR_n m n G (gat true (absI a) (absI b)) hn hm0 hm1
                  go_enter Try.func47, Try.ntmps47
                  go_wp2_with fail
                  refine (bare_any _ _ ha').mono ?_
                  rintro e w ⟨rfl, rfl⟩
                  (try rw [ea])
                  go_wp2_with fail
                  refine (bare_any _ _ hb').mono ?_
                  rintro e w ⟨rfl, rfl⟩
                  (try rw [eb])
                  go_wp2_with fail
                  refine (bare_any _ _ ha').mono ?_
                  rintro e w ⟨rfl, rfl⟩
                  (try rw [ea])
                  go_wp2_with fail
                  refine (bare_any _ _ hb').mono ?_
                  rintro e w ⟨rfl, rfl⟩
                  (try rw [eb])
                  go_wp2_with fail
                  refine (gate_any gb g n c B base m G true (absI a) (absI b) _ (unhide HG) hbase hm0 hm1 hn (unhide HU) (by omega) (by omega) (by omega) (by omega)).mono ?_
                  rintro e w1 ⟨rfl, h1, h2⟩
                  have H1 := hide h1
                  have H2 := hide h2
                  clear h1 h2
                  generalize putR m n G (gat true (absI a) (absI b)) = r at *
                  go_wp2_with fail
                  refine (turnedIf_any r.k _ _ (by omega) (by omega)).mono ?_
                  rintro e w2 ⟨rfl, rfl⟩
                  go_wp2
                  go_ret
                  rw [unhide HR]
                  exact ⟨by simp [turnR, tif, unhide DA, unhide DB], fun h => unhide H1 (fun h0 => h (by simp [turnR, h0])), unhide H2⟩
                · have DA := hide (show decide (a < 0) = true by simp; omega)
                  have DB := hide (show decide (b < 0) = false by simp; omega)
                  have HR := hide (show xorR m n G a b = turnR (putR m n G (gat true (absI a) (absI b))) true by rw [unhide HP]; simp [xorR, o1, o2, c3, c4, sa, sb])
                  obtain ⟨_, _, _, q4, q5⟩ := putR_n m n G (gat true (absI a) (absI b)) hn hm0 hm1
                  go_enter Try.func47, Try.ntmps47
                  go_wp2_with fail
                  refine (bare_any _ _ ha').mono ?_
                  rintro e w ⟨rfl, rfl⟩
                  (try rw [ea])
                  go_wp2_with fail
                  refine (bare_any _ _ hb').mono ?_
                  rintro e w ⟨rfl, rfl⟩
                  (try rw [eb])
                  go_wp2_with fail
                  refine (bare_any _ _ ha').mono ?_
                  rintro e w ⟨rfl, rfl⟩
                  (try rw [ea])
                  go_wp2_with fail
                  refine (bare_any _ _ hb').mono ?_
                  rintro e w ⟨rfl, rfl⟩
                  (try rw [eb])
                  go_wp2_with fail
                  refine (gate_any gb g n c B base m G true (absI a) (absI b) _ (unhide HG) hbase hm0 hm1 hn (unhide HU) (by omega) (by omega) (by omega) (by omega)).mono ?_
                  rintro e w1 ⟨rfl, h1, h2⟩
                  have H1 := hide h1
                  have H2 := hide h2
                  clear h1 h2
                  generalize putR m n G (gat true (absI a) (absI b)) = r at *
                  go_wp2_with fail
                  refine (turnedIf_any r.k _ _ (by omega) (by omega)).mono ?_
                  rintro e w2 ⟨rfl, rfl⟩
                  go_wp2
                  go_ret
                  rw [unhide HR]
                  exact ⟨by simp [turnR, tif, unhide DA, unhide DB], fun h => unhide H1 (fun h0 => h (by simp [turnR, h0])), unhide H2⟩
              · by_cases sb : b < 0
                · have DA := hide (show decide (a < 0) = false by simp; omega)
                  have DB := hide (show decide (b < 0) = true by simp; omega)
                  have HR := hide (show xorR m n G a b = turnR (putR m n G (gat true (absI a) (absI b))) true by rw [unhide HP]; simp [xorR, o1, o2, c3, c4, sa, sb])
                  obtain ⟨_, _, _, q4, q5⟩ := putR_n m n G (gat true (absI a) (absI b)) hn hm0 hm1
                  go_enter Try.func47, Try.ntmps47
                  go_wp2_with fail
                  refine (bare_any _ _ ha').mono ?_
                  rintro e w ⟨rfl, rfl⟩
                  (try rw [ea])
                  go_wp2_with fail
                  refine (bare_any _ _ hb').mono ?_
                  rintro e w ⟨rfl, rfl⟩
                  (try rw [eb])
                  go_wp2_with fail
                  refine (bare_any _ _ ha').mono ?_
                  rintro e w ⟨rfl, rfl⟩
                  (try rw [ea])
                  go_wp2_with fail
                  refine (bare_any _ _ hb').mono ?_
                  rintro e w ⟨rfl, rfl⟩
                  (try rw [eb])
                  go_wp2_with fail
                  refine (gate_any gb g n c B base m G true (absI a) (absI b) _ (unhide HG) hbase hm0 hm1 hn (unhide HU) (by omega) (by omega) (by omega) (by omega)).mono ?_
                  rintro e w1 ⟨rfl, h1, h2⟩
                  have H1 := hide h1
                  have H2 := hide h2
                  clear h1 h2
                  generalize putR m n G (gat true (absI a) (absI b)) = r at *
                  go_wp2_with fail
                  refine (turnedIf_any r.k _ _ (by omega) (by omega)).mono ?_
                  rintro e w2 ⟨rfl, rfl⟩
                  go_wp2
                  go_ret
                  rw [unhide HR]
                  exact ⟨by simp [turnR, tif, unhide DA, unhide DB], fun h => unhide H1 (fun h0 => h (by simp [turnR, h0])), unhide H2⟩
                · have DA := hide (show decide (a < 0) = false by simp; omega)
                  have DB := hide (show decide (b < 0) = false by simp; omega)
                  have HR := hide (show xorR m n G a b = turnR (putR m n G (gat true (absI a) (absI b))) false by rw [unhide HP]; simp [xorR, o1, o2, c3, c4, sa, sb])
                  obtain ⟨_, _, _, q4, q5⟩ := putR_n m n G (gat true (absI a) (absI b)) hn hm0 hm1
                  go_enter Try.func47, Try.ntmps47
                  go_wp2_with fail
                  refine (bare_any _ _ ha').mono ?_
                  rintro e w ⟨rfl, rfl⟩
                  (try rw [ea])
                  go_wp2_with fail
                  refine (bare_any _ _ hb').mono ?_
                  rintro e w ⟨rfl, rfl⟩
                  (try rw [eb])
                  go_wp2_with fail
                  refine (bare_any _ _ ha').mono ?_
                  rintro e w ⟨rfl, rfl⟩
                  (try rw [ea])
                  go_wp2_with fail
                  refine (bare_any _ _ hb').mono ?_
                  rintro e w ⟨rfl, rfl⟩
                  (try rw [eb])
                  go_wp2_with fail
                  refine (gate_any gb g n c B base m G true (absI a) (absI b) _ (unhide HG) hbase hm0 hm1 hn (unhide HU) (by omega) (by omega) (by omega) (by omega)).mono ?_
                  rintro e w1 ⟨rfl, h1, h2⟩
                  have H1 := hide h1
                  have H2 := hide h2
                  clear h1 h2
                  generalize putR m n G (gat true (absI a) (absI b)) = r at *
                  go_wp2_with fail
                  refine (turnedIf_any r.k _ _ (by omega) (by omega)).mono ?_
                  rintro e w2 ⟨rfl, rfl⟩
                  go_wp2
                  go_ret
                  rw [unhide HR]
                  exact ⟨by simp [turnR, tif, unhide DA, unhide DB], fun h => unhide H1 (fun h0 => h (by simp [turnR, h0])), unhide H2⟩
set_option maxRecDepth 100000 in
set_option maxHeartbeats 2000000 in
theorem iNetXor_any (m : Int) (ad : Option Addr) (n cap : Nat) (G : Nat → Gt) (a b : Int) (w : World) (hd : GtsAt w ad n G) (hw : WG n G) (hs : ∃ p, ad = some p ∧ p.spot = none) (ha : W64 a) (hb : W64 b) (hn : n ≤ 1048576) :
    Calls Try.prog 18 #[.agg #[.int .i64 m, .slice ad n cap], .int .i64 a, .int .i64 b] w fun e w' => RPost (netXorR m n G a b) w.heap.size e w' ∧ Below w.heap.size w w' := by
  obtain ⟨wz, hwz⟩ : ∃ wz, wz = ((w.alloc (.cells #[.int .i64 m, .slice ad n cap] 25)).alloc (.cells #[.int .i64 0, .slice none 0 0] 25)).alloc (.cells #[.int .i64 a, .int .i64 b] 3) := ⟨_, rfl⟩
  have BZ : Below w.heap.size w wz := by rw [hwz]; exact (((Below.refl _ _).alloc (Nat.le_refl _) _).alloc (by simp) _).alloc (by simp; omega) _
  have s0 : wz.cell? ⟨w.heap.size + 1, 0, none⟩ = some (.int .i64 0) := by rw [hwz]; simp [go_sem]
  have s1 : wz.cell? ⟨w.heap.size + 1, 1, none⟩ = some (.slice none 0 0) := by rw [hwz]; simp [go_sem]
  have f0 : wz.frozen? ⟨w.heap.size + 1, 0, none⟩ = false := by rw [hwz]; simp [go_sem]
  have f1 : wz.frozen? ⟨w.heap.size + 1, 1, none⟩ = false := by rw [hwz]; simp [go_sem]
  have hT : Hid (Ints wz (w.heap.size + 2) 0 2 (V2 a b)) := by
    intro i hi
    have : i = 0 ∨ i = 1 := by omega
    rcases this with rfl | rfl <;> (rw [hwz]; simp [go_sem, V2])
  have lz : w.heap.size + 2 < wz.heap.size := by rw [hwz]; simp
  have HD := hide hd
  have HW := hide hw
  have HZ := hide hwz
  have HS := hide hs
  clear hd hwz hw hs
  go_enter Try.func18, Try.ntmps18
  go_wp2_with fail
  rw [← unhide HZ]
  refine (grow_any _ _ _ _ _ (w.heap.size + 2) a b _ ((unhide HD).later BZ) (unhide HW) (unhide HS) (unhide hT) lz ha hb hn).mono ?_
  rintro e w1 ⟨⟨hI, gb, g, c, B, rfl, hG⟩ | ⟨hI, rfl⟩, b1⟩
  · have HN := hide (netXorR_yes hI)
    have aa := (mkP_bd hI.2.1).1
    have bb := (mkP_bd hI.2.2).1
    have hm0 := (netB_iff.1 hI.1).1
    have hway := xorR_ways m n G a b hm0 aa bb
    have l1 := b1.size
    replace s0 := cell_later b1 s0
    replace s1 := cell_later b1 s1
    replace f0 := (b1.frozen (p := ⟨w.heap.size + 1, 0, none⟩) (by simp only; omega)).trans f0
    replace f1 := (b1.frozen (p := ⟨w.heap.size + 1, 1, none⟩) (by simp only; omega)).trans f1
    have BL := BZ.trans (b1.mono BZ.size)
    clear b1 BZ
    go_wp2_with fail
    refine (xor_any gb g n c B wz.heap.size m G a b _ hG l1 hI.1 hI.2.1 hI.2.2).mono ?_
    rintro e w2 ⟨rfl, h1, b2⟩
    replace b2 := b2.lower hG
    have H1 := hide h1
    have HI := hide hI
    have l2 := b2.size
    replace s0 := (b2.cell (p := ⟨w.heap.size + 1, 0, none⟩) (by simp only; omega)).trans s0
    replace s1 := (b2.cell (p := ⟨w.heap.size + 1, 1, none⟩) (by simp only; omega)).trans s1
    replace f0 := (b2.frozen (p := ⟨w.heap.size + 1, 0, none⟩) (by simp only; omega)).trans f0
    replace f1 := (b2.frozen (p := ⟨w.heap.size + 1, 1, none⟩) (by simp only; omega)).trans f1
    replace BL := BL.trans (b2.mono (by omega))
    clear h1 b2 hG hI
    generalize xorR m n G a b = r at *
    have l12 : w.heap.size + 1 < w2.heap.size := by omega
    rcases hway with ⟨z1, z2, z3⟩ | ⟨z1, z2⟩
    · rw [z1]
      go_wp2_with fail
      refine (told_zero _ _).mono ?_
      rintro e w3 ⟨rfl, b3⟩
      replace s0 := cell_later b3 s0
      replace s1 := cell_later b3 s1
      replace f0 := (b3.frozen (p := ⟨w.heap.size + 1, 0, none⟩) (by simp only; omega)).trans f0
      replace f1 := (b3.frozen (p := ⟨w.heap.size + 1, 1, none⟩) (by simp only; omega)).trans f1
      replace BL := BL.trans (b3.mono BL.size)
      have Z := hide (And.intro z1 (And.intro z2 z3))
      clear b3 z1 z2 z3
      go_wp2
      refine bodyPost_ret (v := .tuple #[.agg #[.int .i64 0, .slice none 0 0], .int .i64 0]) (by simp [results, Try.results18, go_sem, s0, s1]) rfl ?_
      obtain ⟨z1, z2, z3⟩ := unhide Z
      rw [unhide HN]
      exact ⟨⟨none, 0, by rw [z1, z2, z3], Or.inl z3, Or.inl z3, fun h => absurd z1 h⟩, (by repeat (first | exact Below.refl _ _ | assumption | refine below_drewN ?_ _ | refine Below.drew ?_ | refine Below.alloc ?_ (by first | exact Nat.le_refl _ | exact Below.size (by assumption) | (simp; done) | (simp; omega)) _ | refine Below.setCell ?_ (by first | exact Nat.le_refl _ | exact Below.size (by assumption) | (simp; done) | (simp; omega)) _ | refine Below.trans ?_ (by assumption)))⟩
    · obtain ⟨g', ⟨c', hG'⟩, _⟩ := unhide H1 z1
      have HG' := hide hG'
      have gl' := own_base hG'.2.1
      clear hG'
      go_wp2_with fail
      refine (told_any gb m g' r.n c' B r.k _ (unhide HG').1).mono ?_
      rintro e w3 ⟨⟨hk, _⟩ | ⟨_, rfl⟩, b3⟩
      · exact absurd hk z1
      have HG3 := hide ((unhide HG').later b3)
      replace s0 := cell_later b3 s0
      replace s1 := cell_later b3 s1
      replace f0 := (b3.frozen (p := ⟨w.heap.size + 1, 0, none⟩) (by simp only; omega)).trans f0
      replace f1 := (b3.frozen (p := ⟨w.heap.size + 1, 1, none⟩) (by simp only; omega)).trans f1
      replace BL := BL.trans (b3.mono BL.size)
      have Z := hide z2
      clear b3 z1 z2
      go_wp2
      refine bodyPost_ret (v := .tuple #[.agg #[.int .i64 m, .slice (some ⟨g', 0, none⟩) r.n c'], .int .i64 r.k]) (by simp [results, Try.results18, go_sem, s0, s1]) rfl ?_
      rw [unhide HN]
      exact ⟨⟨some ⟨g', 0, none⟩, c', by rw [unhide Z], (own_gtsAt (unhide HG3).2.1).mov2 (B := w.heap.size + 1) (by omega) ((Mov.set _ _ _).trans (Mov.set _ _ _)), Or.inr ⟨g', rfl, by omega, (own_made (unhide HG3).2.1).mov ((Mov.set _ _ _).trans (Mov.set _ _ _)) (by omega : g' ≠ w.heap.size + 1)⟩, fun _ => ⟨_, rfl, rfl⟩⟩, (by repeat (first | exact Below.refl _ _ | assumption | refine below_drewN ?_ _ | refine Below.drew ?_ | refine Below.alloc ?_ (by first | exact Nat.le_refl _ | exact Below.size (by assumption) | (simp; done) | (simp; omega)) _ | refine Below.setCell ?_ (by first | exact Nat.le_refl _ | exact Below.size (by assumption) | (simp; done) | (simp; omega)) _ | refine Below.trans ?_ (by assumption)))⟩
  · have HN := hide (netXorR_no hI)
    replace s0 := cell_later b1 s0
    replace s1 := cell_later b1 s1
    replace f0 := (b1.frozen (p := ⟨w.heap.size + 1, 0, none⟩) (by simp only; omega)).trans f0
    replace f1 := (b1.frozen (p := ⟨w.heap.size + 1, 1, none⟩) (by simp only; omega)).trans f1
    have BL := BZ.trans (b1.mono BZ.size)
    clear b1 BZ hI
    go_wp2
    refine bodyPost_ret (v := .tuple #[.agg #[.int .i64 0, .slice none 0 0], .int .i64 0]) (by simp [results, Try.results18, go_sem, s0, s1]) rfl ?_
    rw [unhide HN]
    exact ⟨⟨_, _, rfl, Or.inl rfl, Or.inl rfl, fun h => absurd rfl h⟩, (by repeat (first | exact Below.refl _ _ | assumption | refine below_drewN ?_ _ | refine Below.drew ?_ | refine Below.alloc ?_ (by first | exact Nat.le_refl _ | exact Below.size (by assumption) | (simp; done) | (simp; omega)) _ | refine Below.setCell ?_ (by first | exact Nat.le_refl _ | exact Below.size (by assumption) | (simp; done) | (simp; omega)) _ | refine Below.trans ?_ (by assumption)))⟩
end Go.Proofs.Ytbfijmijhfbkdaa
