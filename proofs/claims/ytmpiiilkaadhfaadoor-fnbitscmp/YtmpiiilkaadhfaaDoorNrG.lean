/- Whether they are unlike: the mark, of the program. -/
import Derived.Test.YtmpiiilkaadhfaaDoorNrX
import Derived.Test.YtmpiiilkaadhfaaDoorNrF
namespace Go.Proofs.YtmpiiilkaadhfaaDoor
open Go.ChangeShapes Go.WideShapes Go.ChangeAt Go.RowKit Go.Joins
set_option linter.unusedVariables false
set_option maxRecDepth 100000
set_option linter.unusedSimpArgs false

theorem abs_abs (x : Int) : absI (absI x) = absI x := by
  have h : 0 ≤ absI x := by unfold absI; split <;> omega
  exact absI_pos h
theorem gat_abs (a b : Int) : gat true (absI a) (absI b) = if absI b < absI a then ⟨true, absI b, absI a⟩ else ⟨true, absI a, absI b⟩ := by unfold gat; rw [abs_abs, abs_abs]
theorem xorR_ways (m : Int) (n : Nat) (G : Nat → Gt) (a b : Int) (hm0 : 0 ≤ m) (ha : a ≠ 0) (hb : b ≠ 0) : (xorR m n G a b).k = 0 ∧ (xorR m n G a b).m = 0 ∧ (xorR m n G a b).n = 0 ∨ (xorR m n G a b).k ≠ 0 ∧ (xorR m n G a b).m = m := by
  unfold xorR
  split
  · exact Or.inr ⟨by simp only; split <;> omega, rfl⟩
  · split
    · exact Or.inr ⟨by simp only; split <;> omega, rfl⟩
    · split
      · exact Or.inr ⟨by simp, rfl⟩
      · split
        · exact Or.inr ⟨by simp, rfl⟩
        · rcases putR_ways m n G (if absI b < absI a then ⟨true, absI b, absI a⟩ else ⟨true, absI a, absI b⟩) hm0 with ⟨h1, h2, h3⟩ | ⟨h1, h2⟩
          · exact Or.inl ⟨by simp [turnR, h1], h2, h3⟩
          · exact Or.inr ⟨by simp only [turnR]; split <;> omega, h2⟩
def tif (k : Int) (t : Bool) : Int := if t then -k else k
set_option maxRecDepth 100000 in
set_option maxHeartbeats 400000 in
theorem turnedIf_any (k : Int) (t : Bool) (w : World) (h1 : -1000 ≤ k) (h2 : k ≤ 1000) :
    Calls Tryd.prog 111 #[.int .i64 k, .bool t] w fun e w' => e = .returned (.int .i64 (tif k t)) ∧ w' = w := by
  cases t
  all_goals
    go_enter Tryd.func111, Tryd.ntmps111
    go_wp2
    go_ret
    exact ⟨rfl, rfl⟩
set_option maxRecDepth 100000 in
set_option maxHeartbeats 2000000 in
theorem xor_any (gb g n c B base : Nat) (m : Int) (G : Nat → Gt) (a b : Int) (w : World) (h : Grow w base gb m g n c B G) (hbase : base ≤ w.heap.size) (hP : netB m n G = true) (ha : mkP m n a = true) (hb : mkP m n b = true) :
    Calls Tryd.prog 106 #[.pointer (some ⟨gb, 0, none⟩), .int .i64 a, .int .i64 b] w fun e w' => e = .returned (.int .i64 (xorR m n G a b).k) ∧ ((xorR m n G a b).k ≠ 0 → ∃ g', (∃ c', Grow w' base gb m g' (xorR m n G a b).n c' B (xorR m n G a b).G) ∧ (g' = g ∨ w.heap.size ≤ g')) ∧ Out3 gb B g w w' := by
  have HU := hide (netP_dist hP)
  obtain ⟨hm0, hm1, hn, _⟩ := netB_iff.1 hP
  obtain ⟨a0, a1, a2⟩ := mkP_bd ha
  obtain ⟨b0, b1, b2⟩ := mkP_bd hb
  have HG := hide h
  have ha' : W64 a := by unfold W64; omega
  have hb' : W64 b := by unfold W64; omega
  have ea : bareI a = absI a := bare_abs (N := 700) (by omega) (by omega) (by omega)
  have eb : bareI b = absI b := bare_abs (N := 700) (by omega) (by omega) (by omega)
  have aa := absI_bd a 700 (by omega) (by omega)
  have bb := absI_bd b 700 (by omega) (by omega)
  clear h ha hb hP
  by_cases c1 : a = 1
  · subst c1
    have HR := hide (show xorR m n G 1 b = ⟨m, n, G, -b⟩ by simp [xorR, absI])
    have e1 : bareI 1 = 1 := by decide
    go_enter Tryd.func106, Tryd.ntmps106
    go_wp2_with fail
    refine (bare_any _ _ ha').mono ?_
    rintro e w ⟨rfl, rfl⟩
    rw [e1]
    go_wp2_with fail
    refine (turnedIf_any (b) true _ (by omega) (by omega)).mono ?_
    rintro e w ⟨rfl, rfl⟩
    go_wp2
    go_ret
    rw [unhide HR]
    exact ⟨rfl, fun _ => ⟨g, ⟨c, unhide HG⟩, Or.inl rfl⟩, Out3.refl _ _ _ _⟩
  · have k1 : (a == 1) = false := by simp [c1]
    by_cases c1' : a = -1
    · subst c1'
      have HR := hide (show xorR m n G (-1) b = ⟨m, n, G, b⟩ by simp [xorR, absI])
      have e1 : bareI (-1) = 1 := by decide
      go_enter Tryd.func106, Tryd.ntmps106
      go_wp2_with fail
      refine (bare_any _ _ ha').mono ?_
      rintro e w ⟨rfl, rfl⟩
      rw [e1]
      go_wp2_with fail
      refine (turnedIf_any (b) false _ (by omega) (by omega)).mono ?_
      rintro e w ⟨rfl, rfl⟩
      go_wp2
      go_ret
      rw [unhide HR]
      exact ⟨rfl, fun _ => ⟨g, ⟨c, unhide HG⟩, Or.inl rfl⟩, Out3.refl _ _ _ _⟩
    · have o1 : ¬ absI a = 1 := by rw [abs_one]; omega
      have ko1 : (absI a == 1) = false := by simp [o1]
      by_cases c2 : b = 1
      · subst c2
        have HR := hide (show xorR m n G a 1 = ⟨m, n, G, -a⟩ by simp [xorR, o1]; simp [absI])
        have e1 : bareI 1 = 1 := by decide
        go_enter Tryd.func106, Tryd.ntmps106
        go_wp2_with fail
        refine (bare_any _ _ ha').mono ?_
        rintro e w ⟨rfl, rfl⟩
        (try rw [ea])
        go_wp2_with fail
        refine (bare_any _ _ hb').mono ?_
        rintro e w ⟨rfl, rfl⟩
        rw [e1]
        go_wp2_with fail
        refine (turnedIf_any (a) true _ (by omega) (by omega)).mono ?_
        rintro e w ⟨rfl, rfl⟩
        go_wp2
        go_ret
        rw [unhide HR]
        exact ⟨rfl, fun _ => ⟨g, ⟨c, unhide HG⟩, Or.inl rfl⟩, Out3.refl _ _ _ _⟩
      · have k2 : (b == 1) = false := by simp [c2]
        by_cases c2' : b = -1
        · subst c2'
          have HR := hide (show xorR m n G a (-1) = ⟨m, n, G, a⟩ by simp [xorR, o1]; simp [absI])
          have e1 : bareI (-1) = 1 := by decide
          go_enter Tryd.func106, Tryd.ntmps106
          go_wp2_with fail
          refine (bare_any _ _ ha').mono ?_
          rintro e w ⟨rfl, rfl⟩
          (try rw [ea])
          go_wp2_with fail
          refine (bare_any _ _ hb').mono ?_
          rintro e w ⟨rfl, rfl⟩
          rw [e1]
          go_wp2_with fail
          refine (turnedIf_any (a) false _ (by omega) (by omega)).mono ?_
          rintro e w ⟨rfl, rfl⟩
          go_wp2
          go_ret
          rw [unhide HR]
          exact ⟨rfl, fun _ => ⟨g, ⟨c, unhide HG⟩, Or.inl rfl⟩, Out3.refl _ _ _ _⟩
        · have o2 : ¬ absI b = 1 := by rw [abs_one]; omega
          have ko2 : (absI b == 1) = false := by simp [o2]
          by_cases c3 : a = b
          · subst c3
            have k3 : (a == a) = true := by simp
            have HR := hide (show xorR m n G a a = ⟨m, n, G, -1⟩ by simp [xorR, o1])
            go_enter Tryd.func106, Tryd.ntmps106
            go_wp2_with fail
            refine (bare_any _ _ ha').mono ?_
            rintro e w ⟨rfl, rfl⟩
            (try rw [ea])
            go_wp2_with fail
            refine (bare_any _ _ hb').mono ?_
            rintro e w ⟨rfl, rfl⟩
            (try rw [eb])
            go_wp2
            go_ret
            rw [unhide HR]
            exact ⟨rfl, fun _ => ⟨g, ⟨c, unhide HG⟩, Or.inl rfl⟩, Out3.refl _ _ _ _⟩
          · have k3 : (a == b) = false := by simp [c3]
            by_cases c4 : a = -b
            · have k4 : (a == -b) = true := by simp [c4]
              have HR := hide (show xorR m n G a b = ⟨m, n, G, 1⟩ by simp only [xorR, o1, o2, c3, if_false]; simp [c4])
              have HC4 := hide c4
              clear c4
              go_enter Tryd.func106, Tryd.ntmps106
              go_wp2_with fail
              refine (bare_any _ _ ha').mono ?_
              rintro e w ⟨rfl, rfl⟩
              (try rw [ea])
              go_wp2_with fail
              refine (bare_any _ _ hb').mono ?_
              rintro e w ⟨rfl, rfl⟩
              (try rw [eb])
              go_wp2
              go_ret
              rw [unhide HR]
              exact ⟨rfl, fun _ => ⟨g, ⟨c, unhide HG⟩, Or.inl rfl⟩, Out3.refl _ _ _ _⟩
            · have k4 : (a == -b) = false := by simp [c4]
              have HP := hide (gat_abs a b)
              by_cases sa : a < 0
              · by_cases sb : b < 0
                · have DA := hide (show decide (a < 0) = true by simp; omega)
                  have DB := hide (show decide (b < 0) = true by simp; omega)
                  have HR := hide (show xorR m n G a b = turnR (putR m n G (gat true (absI a) (absI b))) false by rw [unhide HP]; simp [xorR, o1, o2, c3, c4, sa, sb])
                  obtain ⟨_, _, _, q4, q5⟩ := putR_n m n G (gat true (absI a) (absI b)) hn hm0 hm1
                  go_enter Tryd.func106, Tryd.ntmps106
                  go_wp2_with fail
                  refine (bare_any _ _ ha').mono ?_
                  rintro e w ⟨rfl, rfl⟩
                  (try rw [ea])
                  go_wp2_with fail
                  refine (bare_any _ _ hb').mono ?_
                  rintro e w ⟨rfl, rfl⟩
                  (try rw [eb])
                  go_wp2_with fail
                  refine (bare_any _ _ ha').mono ?_
                  rintro e w ⟨rfl, rfl⟩
                  (try rw [ea])
                  go_wp2_with fail
                  refine (bare_any _ _ hb').mono ?_
                  rintro e w ⟨rfl, rfl⟩
                  (try rw [eb])
                  go_wp2_with fail
                  refine (gate_any gb g n c B base m G true (absI a) (absI b) _ (unhide HG) hbase hm0 hm1 hn (unhide HU) (by omega) (by omega) (by omega) (by omega)).mono ?_
                  rintro e w1 ⟨rfl, h1, h2⟩
                  have H1 := hide h1
                  have H2 := hide h2
                  clear h1 h2
                  generalize putR m n G (gat true (absI a) (absI b)) = r at *
                  go_wp2_with fail
                  refine (turnedIf_any r.k _ _ (by omega) (by omega)).mono ?_
                  rintro e w2 ⟨rfl, rfl⟩
                  go_wp2
                  go_ret
                  rw [unhide HR]
                  exact ⟨by simp [turnR, tif, unhide DA, unhide DB], fun h => unhide H1 (fun h0 => h (by simp [turnR, h0])), unhide H2⟩
                · have DA := hide (show decide (a < 0) = true by simp; omega)
                  have DB := hide (show decide (b < 0) = false by simp; omega)
                  have HR := hide (show xorR m n G a b = turnR (putR m n G (gat true (absI a) (absI b))) true by rw [unhide HP]; simp [xorR, o1, o2, c3, c4, sa, sb])
                  obtain ⟨_, _, _, q4, q5⟩ := putR_n m n G (gat true (absI a) (absI b)) hn hm0 hm1
                  go_enter Tryd.func106, Tryd.ntmps106
                  go_wp2_with fail
                  refine (bare_any _ _ ha').mono ?_
                  rintro e w ⟨rfl, rfl⟩
                  (try rw [ea])
                  go_wp2_with fail
                  refine (bare_any _ _ hb').mono ?_
                  rintro e w ⟨rfl, rfl⟩
                  (try rw [eb])
                  go_wp2_with fail
                  refine (bare_any _ _ ha').mono ?_
                  rintro e w ⟨rfl, rfl⟩
                  (try rw [ea])
                  go_wp2_with fail
                  refine (bare_any _ _ hb').mono ?_
                  rintro e w ⟨rfl, rfl⟩
                  (try rw [eb])
                  go_wp2_with fail
                  refine (gate_any gb g n c B base m G true (absI a) (absI b) _ (unhide HG) hbase hm0 hm1 hn (unhide HU) (by omega) (by omega) (by omega) (by omega)).mono ?_
                  rintro e w1 ⟨rfl, h1, h2⟩
                  have H1 := hide h1
                  have H2 := hide h2
                  clear h1 h2
                  generalize putR m n G (gat true (absI a) (absI b)) = r at *
                  go_wp2_with fail
                  refine (turnedIf_any r.k _ _ (by omega) (by omega)).mono ?_
                  rintro e w2 ⟨rfl, rfl⟩
                  go_wp2
                  go_ret
                  rw [unhide HR]
                  exact ⟨by simp [turnR, tif, unhide DA, unhide DB], fun h => unhide H1 (fun h0 => h (by simp [turnR, h0])), unhide H2⟩
              · by_cases sb : b < 0
                · have DA := hide (show decide (a < 0) = false by simp; omega)
                  have DB := hide (show decide (b < 0) = true by simp; omega)
                  have HR := hide (show xorR m n G a b = turnR (putR m n G (gat true (absI a) (absI b))) true by rw [unhide HP]; simp [xorR, o1, o2, c3, c4, sa, sb])
                  obtain ⟨_, _, _, q4, q5⟩ := putR_n m n G (gat true (absI a) (absI b)) hn hm0 hm1
                  go_enter Tryd.func106, Tryd.ntmps106
                  go_wp2_with fail
                  refine (bare_any _ _ ha').mono ?_
                  rintro e w ⟨rfl, rfl⟩
                  (try rw [ea])
                  go_wp2_with fail
                  refine (bare_any _ _ hb').mono ?_
                  rintro e w ⟨rfl, rfl⟩
                  (try rw [eb])
                  go_wp2_with fail
                  refine (bare_any _ _ ha').mono ?_
                  rintro e w ⟨rfl, rfl⟩
                  (try rw [ea])
                  go_wp2_with fail
                  refine (bare_any _ _ hb').mono ?_
                  rintro e w ⟨rfl, rfl⟩
                  (try rw [eb])
                  go_wp2_with fail
                  refine (gate_any gb g n c B base m G true (absI a) (absI b) _ (unhide HG) hbase hm0 hm1 hn (unhide HU) (by omega) (by omega) (by omega) (by omega)).mono ?_
                  rintro e w1 ⟨rfl, h1, h2⟩
                  have H1 := hide h1
                  have H2 := hide h2
                  clear h1 h2
                  generalize putR m n G (gat true (absI a) (absI b)) = r at *
                  go_wp2_with fail
                  refine (turnedIf_any r.k _ _ (by omega) (by omega)).mono ?_
                  rintro e w2 ⟨rfl, rfl⟩
                  go_wp2
                  go_ret
                  rw [unhide HR]
                  exact ⟨by simp [turnR, tif, unhide DA, unhide DB], fun h => unhide H1 (fun h0 => h (by simp [turnR, h0])), unhide H2⟩
                · have DA := hide (show decide (a < 0) = false by simp; omega)
                  have DB := hide (show decide (b < 0) = false by simp; omega)
                  have HR := hide (show xorR m n G a b = turnR (putR m n G (gat true (absI a) (absI b))) false by rw [unhide HP]; simp [xorR, o1, o2, c3, c4, sa, sb])
                  obtain ⟨_, _, _, q4, q5⟩ := putR_n m n G (gat true (absI a) (absI b)) hn hm0 hm1
                  go_enter Tryd.func106, Tryd.ntmps106
                  go_wp2_with fail
                  refine (bare_any _ _ ha').mono ?_
                  rintro e w ⟨rfl, rfl⟩
                  (try rw [ea])
                  go_wp2_with fail
                  refine (bare_any _ _ hb').mono ?_
                  rintro e w ⟨rfl, rfl⟩
                  (try rw [eb])
                  go_wp2_with fail
                  refine (bare_any _ _ ha').mono ?_
                  rintro e w ⟨rfl, rfl⟩
                  (try rw [ea])
                  go_wp2_with fail
                  refine (bare_any _ _ hb').mono ?_
                  rintro e w ⟨rfl, rfl⟩
                  (try rw [eb])
                  go_wp2_with fail
                  refine (gate_any gb g n c B base m G true (absI a) (absI b) _ (unhide HG) hbase hm0 hm1 hn (unhide HU) (by omega) (by omega) (by omega) (by omega)).mono ?_
                  rintro e w1 ⟨rfl, h1, h2⟩
                  have H1 := hide h1
                  have H2 := hide h2
                  clear h1 h2
                  generalize putR m n G (gat true (absI a) (absI b)) = r at *
                  go_wp2_with fail
                  refine (turnedIf_any r.k _ _ (by omega) (by omega)).mono ?_
                  rintro e w2 ⟨rfl, rfl⟩
                  go_wp2
                  go_ret
                  rw [unhide HR]
                  exact ⟨by simp [turnR, tif, unhide DA, unhide DB], fun h => unhide H1 (fun h0 => h (by simp [turnR, h0])), unhide H2⟩
end Go.Proofs.YtmpiiilkaadhfaaDoor
