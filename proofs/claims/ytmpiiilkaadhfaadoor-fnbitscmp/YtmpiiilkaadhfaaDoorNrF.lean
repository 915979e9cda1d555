/- Both so: the mark, of the program. -/
import Derived.Test.YtmpiiilkaadhfaaDoorNrE
import Derived.Test.YtmpiiilkaadhfaaDoorMrkN
namespace Go.Proofs.YtmpiiilkaadhfaaDoor
open Go.ChangeShapes Go.WideShapes Go.ChangeAt Go.RowKit Go.Joins
set_option linter.unusedVariables false
set_option maxRecDepth 100000
set_option linter.unusedSimpArgs false

theorem own_made {w : World} {base g n c : Nat} {e : TypeId} {G : Nat → Gt} (h : w.ownsRow base e 3 (.slice (some ⟨g, 0, none⟩) n c) n (gcells G n)) : Made w g (n * 3) := by
  refine ⟨(own_cap h).2, fun j hj => ⟨⟨gcel G j, ?_⟩, h.frozenAt j⟩⟩
  have := h.cells (g := g) rfl j _ (gcells_get G n j hj)
  rwa [Go.WideShapes.add_plain, Nat.zero_add] at this
theorem putR_ways (m : Int) (n : Nat) (G : Nat → Gt) (g : Gt) (hm0 : 0 ≤ m) : (putR m n G g).k = 0 ∧ (putR m n G g).m = 0 ∧ (putR m n G g).n = 0 ∨ (putR m n G g).k ≠ 0 ∧ (putR m n G g).m = m := by
  rcases firstO_ways (fun i => geq (G i) g) n with ⟨_, h⟩ | ⟨i, hi, _, hg, hj⟩
  · by_cases h6 : 600 ≤ n
    · rw [putR_full (fun j hj => geq_no.1 (h j hj)) h6]; exact Or.inl ⟨rfl, rfl, rfl⟩
    · rw [putR_new (fun j hj => geq_no.1 (h j hj)) (by omega)]; exact Or.inr ⟨by simp only; omega, rfl⟩
  · rw [putR_at hi (geq_iff.1 hg) (fun j h => geq_no.1 (hj j h))]; exact Or.inr ⟨by simp only; omega, rfl⟩
theorem andR_ways (m : Int) (n : Nat) (G : Nat → Gt) (a b : Int) (hm0 : 0 ≤ m) (ha : a ≠ 0) (hb : b ≠ 0) : (andR m n G a b).k = 0 ∧ (andR m n G a b).m = 0 ∧ (andR m n G a b).n = 0 ∨ (andR m n G a b).k ≠ 0 ∧ (andR m n G a b).m = m := by
  unfold andR
  split
  · exact Or.inr ⟨by simp, rfl⟩
  · split
    · exact Or.inr ⟨hb, rfl⟩
    · split
      · exact Or.inr ⟨ha, rfl⟩
      · split
        · exact Or.inr ⟨by simp, rfl⟩
        · split
          · exact putR_ways m n G _ hm0
          · exact putR_ways m n G _ hm0
theorem netP_dist {m : Int} {n : Nat} {G : Nat → Gt} (h : netB m n G = true) : ∀ i j, i < j → j < n → G i ≠ G j := fun i j h1 h2 => ((netB_iff.1 h).2.2.2 j h2).2 i h1
set_option maxRecDepth 100000 in
set_option maxHeartbeats 2000000 in
theorem and_any (gb g n c B base : Nat) (m : Int) (G : Nat → Gt) (a b : Int) (w : World) (h : Grow w base gb m g n c B G) (hbase : base ≤ w.heap.size) (hP : netB m n G = true) (ha : mkP m n a = true) (hb : mkP m n b = true) :
    Calls Tryd.prog 105 #[.pointer (some ⟨gb, 0, none⟩), .int .i64 a, .int .i64 b] w fun e w' => e = .returned (.int .i64 (andR m n G a b).k) ∧ ((andR m n G a b).k ≠ 0 → ∃ g', (∃ c', Grow w' base gb m g' (andR m n G a b).n c' B (andR m n G a b).G) ∧ (g' = g ∨ w.heap.size ≤ g')) ∧ Out3 gb B g w w' := by
  have HU := hide (netP_dist hP)
  obtain ⟨hm0, hm1, hn, _⟩ := netB_iff.1 hP
  obtain ⟨a0, a1, a2⟩ := mkP_bd ha
  obtain ⟨b0, b1, b2⟩ := mkP_bd hb
  have HG := hide h
  clear h ha hb hP
  by_cases c1 : a = -1
  · subst c1
    have HR := hide (show andR m n G (-1) b = ⟨m, n, G, -1⟩ by simp [andR])
    go_enter Tryd.func105, Tryd.ntmps105
    go_wp2
    go_ret
    rw [unhide HR]
    exact ⟨rfl, fun _ => ⟨g, ⟨c, unhide HG⟩, Or.inl rfl⟩, Out3.refl _ _ _ _⟩
  · have k1 : (a == -1) = false := by simp [c1]
    by_cases c2 : b = -1
    · subst c2
      have HR := hide (show andR m n G a (-1) = ⟨m, n, G, -1⟩ by simp [andR])
      go_enter Tryd.func105, Tryd.ntmps105
      go_wp2
      go_ret
      rw [unhide HR]
      exact ⟨rfl, fun _ => ⟨g, ⟨c, unhide HG⟩, Or.inl rfl⟩, Out3.refl _ _ _ _⟩
    · have k2 : (b == -1) = false := by simp [c2]
      by_cases c4 : a = 1
      · subst c4
        have HR := hide (show andR m n G 1 b = ⟨m, n, G, b⟩ by simp [andR, c2])
        go_enter Tryd.func105, Tryd.ntmps105
        go_wp2
        go_ret
        rw [unhide HR]
        exact ⟨rfl, fun _ => ⟨g, ⟨c, unhide HG⟩, Or.inl rfl⟩, Out3.refl _ _ _ _⟩
      · have k4 : (a == 1) = false := by simp [c4]
        by_cases c6 : b = 1
        · subst c6
          have HR := hide (show andR m n G a 1 = ⟨m, n, G, a⟩ by simp [andR, c1, c4])
          go_enter Tryd.func105, Tryd.ntmps105
          go_wp2
          go_ret
          rw [unhide HR]
          exact ⟨rfl, fun _ => ⟨g, ⟨c, unhide HG⟩, Or.inl rfl⟩, Out3.refl _ _ _ _⟩
        · have k6 : (b == 1) = false := by simp [c6]
          by_cases c5 : a = b
          · subst c5
            have k5 : (a == a) = true := by simp
            have HR := hide (show andR m n G a a = ⟨m, n, G, a⟩ by simp [andR, c1, c4])
            go_enter Tryd.func105, Tryd.ntmps105
            go_wp2
            go_ret
            rw [unhide HR]
            exact ⟨rfl, fun _ => ⟨g, ⟨c, unhide HG⟩, Or.inl rfl⟩, Out3.refl _ _ _ _⟩
          · have k5 : (a == b) = false := by simp [c5]
            by_cases c3 : a = -b
            · have k3 : (a == -b) = true := by simp [c3]
              have HR := hide (show andR m n G a b = ⟨m, n, G, -1⟩ by simp only [andR, c1, c2, c4, c5, c6, or_self, if_false]; simp [c3])
              have HC := hide c3
              clear c3
              go_enter Tryd.func105, Tryd.ntmps105
              go_wp2
              go_ret
              rw [unhide HR]
              exact ⟨rfl, fun _ => ⟨g, ⟨c, unhide HG⟩, Or.inl rfl⟩, Out3.refl _ _ _ _⟩
            · have k3 : (a == -b) = false := by simp [c3]
              have HR := hide (show andR m n G a b = putR m n G (gat false a b) by simp only [andR, gat, c1, c2, c3, c4, c5, c6, or_self, if_false]; split <;> rfl)
              go_enter Tryd.func105, Tryd.ntmps105
              go_wp2_with fail
              refine (gate_any gb g n c B base m G false a b _ (unhide HG) hbase hm0 hm1 hn (unhide HU) (by omega) (by omega) (by omega) (by omega)).mono ?_
              rintro e w1 ⟨rfl, h1, h2⟩
              have H1 := hide h1
              have H2 := hide h2
              clear h1 h2
              generalize hr : putR m n G (gat false a b) = r at *
              go_wp2
              go_ret
              rw [unhide HR]
              exact ⟨rfl, unhide H1, unhide H2⟩
end Go.Proofs.YtmpiiilkaadhfaaDoor
