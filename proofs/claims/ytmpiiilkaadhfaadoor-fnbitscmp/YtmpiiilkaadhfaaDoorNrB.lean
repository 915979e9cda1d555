/- Both so, and unlike: marks of gates, of the model. -/
import Derived.Test.YtmpiiilkaadhfaaDoorNrA
namespace Go.Proofs.YtmpiiilkaadhfaaDoor
open Go.ChangeShapes Go.WideShapes Go.ChangeAt Go.RowKit Go.Joins
set_option linter.unusedVariables false
set_option maxRecDepth 100000
set_option linter.unusedSimpArgs false

/-- The mark of whether both are so. -/
def andR (m : Int) (n : Nat) (G : Nat → Gt) (a b : Int) : NR :=
  if a = -1 ∨ b = -1 then ⟨m, n, G, -1⟩ else if a = 1 then ⟨m, n, G, b⟩ else if b = 1 ∨ a = b then ⟨m, n, G, a⟩ else if a = -b then ⟨m, n, G, -1⟩ else
  if absI b < absI a then putR m n G ⟨false, b, a⟩ else putR m n G ⟨false, a, b⟩
def turnR (r : NR) (t : Bool) : NR := ⟨r.m, r.n, r.G, if t then -r.k else r.k⟩
/-- The mark of whether they are unlike. -/
def xorR (m : Int) (n : Nat) (G : Nat → Gt) (a b : Int) : NR :=
  if absI a = 1 then ⟨m, n, G, if a = 1 then -b else b⟩ else if absI b = 1 then ⟨m, n, G, if b = 1 then -a else a⟩ else if a = b then ⟨m, n, G, -1⟩ else if a = -b then ⟨m, n, G, 1⟩ else
  turnR (putR m n G (if absI b < absI a then ⟨true, absI b, absI a⟩ else ⟨true, absI a, absI b⟩)) (decide (a < 0) != decide (b < 0))
theorem mkP_bd {m : Int} {n : Nat} {k : Int} (h : mkP m n k = true) : k ≠ 0 ∧ -(1 + m + n) ≤ k ∧ k ≤ 1 + m + n := by
  unfold mkP at h
  simp at h
  exact h
theorem abs_one {a : Int} : absI a = 1 ↔ a = 1 ∨ a = -1 := by unfold absI; split <;> omega
theorem putR_n (m : Int) (n : Nat) (G : Nat → Gt) (g : Gt) (hn : n ≤ 600) (hm0 : 0 ≤ m) (hm1 : m ≤ 8) : (putR m n G g).n ≤ 600 ∧ 0 ≤ (putR m n G g).m ∧ (putR m n G g).m ≤ 8 ∧ 0 ≤ (putR m n G g).k ∧ (putR m n G g).k ≤ 700 := by
  rcases firstO_ways (fun i => geq (G i) g) n with ⟨_, h⟩ | ⟨i, hi, _, hg, hj⟩
  · by_cases h6 : 600 ≤ n
    · rw [putR_full (fun j hj => geq_no.1 (h j hj)) h6]; simp
    · rw [putR_new (fun j hj => geq_no.1 (h j hj)) (by omega)]; refine ⟨?_, hm0, hm1, ?_, ?_⟩ <;> simp only <;> omega
  · rw [putR_at hi (geq_iff.1 hg) (fun j h => geq_no.1 (hj j h))]; refine ⟨hn, hm0, hm1, ?_, ?_⟩ <;> simp only <;> omega
set_option maxRecDepth 100000 in
set_option maxHeartbeats 4000000 in
theorem l6And_any (m : Int) (ad : Option Addr) (n cap : Nat) (G : Nat → Gt) (a b : Int) (w : World) (hd : GtsAt w ad n G) (hnn : ad = none → n = 0 ∧ cap = 0) (hspot : ∀ p, ad = some p → p.spot = none) (hlow : ∀ p, ad = some p → p.block < w.heap.size) (hm0 : 0 ≤ m) (hm1 : m ≤ 8) (hn : n ≤ 600) (ha : mkP m n a = true) (hb : mkP m n b = true) :
    Calls Tryd.prog 87 #[.agg #[.int .i64 m, .slice ad n cap], .int .i64 a, .int .i64 b] w fun e w' => NPost (andR m n G a b) ad w.heap.size e w' ∧ Below w.heap.size w w' := by
  obtain ⟨a0, a1, a2⟩ := mkP_bd ha
  obtain ⟨b0, b1, b2⟩ := mkP_bd hb
  have HD := hide hd
  clear hd ha hb
  by_cases c1 : a = -1
  · subst c1
    have HR := hide (show andR m n G (-1) b = ⟨m, n, G, -1⟩ by simp [andR])
    go_enter Tryd.func87, Tryd.ntmps87
    go_wp2
    refine bodyPost_ret (v := .tuple #[.agg #[.int .i64 m, .slice ad n cap], .int .i64 (-1)]) (by simp [results, Tryd.results87, go_sem]; try omega) rfl ?_
    rw [unhide HR]
    exact ⟨⟨_, _, rfl, (unhide HD).later (by repeat (first | exact Below.refl _ _ | assumption | refine below_drewN ?_ _ | refine Below.drew ?_ | refine Below.alloc ?_ (by first | exact Nat.le_refl _ | exact Below.size (by assumption) | (simp; done) | (simp; omega)) _ | refine Below.setCell ?_ (by first | exact Nat.le_refl _ | exact Below.size (by assumption) | (simp; done) | (simp; omega)) _ | refine Below.trans ?_ (by assumption))), hnn, hspot, Or.inr (Or.inl rfl)⟩, (by repeat (first | exact Below.refl _ _ | assumption | refine below_drewN ?_ _ | refine Below.drew ?_ | refine Below.alloc ?_ (by first | exact Nat.le_refl _ | exact Below.size (by assumption) | (simp; done) | (simp; omega)) _ | refine Below.setCell ?_ (by first | exact Nat.le_refl _ | exact Below.size (by assumption) | (simp; done) | (simp; omega)) _ | refine Below.trans ?_ (by assumption)))⟩
  · have k1 : (a == -1) = false := by simp [c1]
    by_cases c2 : b = -1
    · subst c2
      have HR := hide (show andR m n G a (-1) = ⟨m, n, G, -1⟩ by simp [andR])
      go_enter Tryd.func87, Tryd.ntmps87
      go_wp2
      refine bodyPost_ret (v := .tuple #[.agg #[.int .i64 m, .slice ad n cap], .int .i64 (-1)]) (by simp [results, Tryd.results87, go_sem]; try omega) rfl ?_
      rw [unhide HR]
      exact ⟨⟨_, _, rfl, (unhide HD).later (by repeat (first | exact Below.refl _ _ | assumption | refine below_drewN ?_ _ | refine Below.drew ?_ | refine Below.alloc ?_ (by first | exact Nat.le_refl _ | exact Below.size (by assumption) | (simp; done) | (simp; omega)) _ | refine Below.setCell ?_ (by first | exact Nat.le_refl _ | exact Below.size (by assumption) | (simp; done) | (simp; omega)) _ | refine Below.trans ?_ (by assumption))), hnn, hspot, Or.inr (Or.inl rfl)⟩, (by repeat (first | exact Below.refl _ _ | assumption | refine below_drewN ?_ _ | refine Below.drew ?_ | refine Below.alloc ?_ (by first | exact Nat.le_refl _ | exact Below.size (by assumption) | (simp; done) | (simp; omega)) _ | refine Below.setCell ?_ (by first | exact Nat.le_refl _ | exact Below.size (by assumption) | (simp; done) | (simp; omega)) _ | refine Below.trans ?_ (by assumption)))⟩
    · have k2 : (b == -1) = false := by simp [c2]
      by_cases c3 : a = -b
      · have k3 : (a == -b) = true := by simp [c3]
        have k1' : ¬ a = 1 := by omega
        have k2' : ¬ b = 1 := by omega
        have k3' : ¬ a = b := by omega
        have HR := hide (show andR m n G a b = ⟨m, n, G, -1⟩ by simp only [andR, c1, c2, k1', k2', k3', or_self, if_false]; simp [c3])
        go_enter Tryd.func87, Tryd.ntmps87
        go_wp2
        refine bodyPost_ret (v := .tuple #[.agg #[.int .i64 m, .slice ad n cap], .int .i64 (-1)]) (by simp [results, Tryd.results87, go_sem]; try omega) rfl ?_
        rw [unhide HR]
        exact ⟨⟨_, _, rfl, (unhide HD).later (by repeat (first | exact Below.refl _ _ | assumption | refine below_drewN ?_ _ | refine Below.drew ?_ | refine Below.alloc ?_ (by first | exact Nat.le_refl _ | exact Below.size (by assumption) | (simp; done) | (simp; omega)) _ | refine Below.setCell ?_ (by first | exact Nat.le_refl _ | exact Below.size (by assumption) | (simp; done) | (simp; omega)) _ | refine Below.trans ?_ (by assumption))), hnn, hspot, Or.inr (Or.inl rfl)⟩, (by repeat (first | exact Below.refl _ _ | assumption | refine below_drewN ?_ _ | refine Below.drew ?_ | refine Below.alloc ?_ (by first | exact Nat.le_refl _ | exact Below.size (by assumption) | (simp; done) | (simp; omega)) _ | refine Below.setCell ?_ (by first | exact Nat.le_refl _ | exact Below.size (by assumption) | (simp; done) | (simp; omega)) _ | refine Below.trans ?_ (by assumption)))⟩
      · have k3 : (a == -b) = false := by simp [c3]
        by_cases c4 : a = 1
        · subst c4
          have HR := hide (show andR m n G 1 b = ⟨m, n, G, b⟩ by simp [andR, c2])
          go_enter Tryd.func87, Tryd.ntmps87
          go_wp2
          refine bodyPost_ret (v := .tuple #[.agg #[.int .i64 m, .slice ad n cap], .int .i64 (b)]) (by simp [results, Tryd.results87, go_sem]; try omega) rfl ?_
          rw [unhide HR]
          exact ⟨⟨_, _, rfl, (unhide HD).later (by repeat (first | exact Below.refl _ _ | assumption | refine below_drewN ?_ _ | refine Below.drew ?_ | refine Below.alloc ?_ (by first | exact Nat.le_refl _ | exact Below.size (by assumption) | (simp; done) | (simp; omega)) _ | refine Below.setCell ?_ (by first | exact Nat.le_refl _ | exact Below.size (by assumption) | (simp; done) | (simp; omega)) _ | refine Below.trans ?_ (by assumption))), hnn, hspot, Or.inr (Or.inl rfl)⟩, (by repeat (first | exact Below.refl _ _ | assumption | refine below_drewN ?_ _ | refine Below.drew ?_ | refine Below.alloc ?_ (by first | exact Nat.le_refl _ | exact Below.size (by assumption) | (simp; done) | (simp; omega)) _ | refine Below.setCell ?_ (by first | exact Nat.le_refl _ | exact Below.size (by assumption) | (simp; done) | (simp; omega)) _ | refine Below.trans ?_ (by assumption)))⟩
        · have k4 : (a == 1) = false := by simp [c4]
          by_cases c5 : a = b
          · subst c5
            have k5 : (a == a) = true := by simp
            have HR := hide (show andR m n G a a = ⟨m, n, G, a⟩ by simp [andR, c1, c4])
            go_enter Tryd.func87, Tryd.ntmps87
            go_wp2
            refine bodyPost_ret (v := .tuple #[.agg #[.int .i64 m, .slice ad n cap], .int .i64 (a)]) (by simp [results, Tryd.results87, go_sem]; try omega) rfl ?_
            rw [unhide HR]
            exact ⟨⟨_, _, rfl, (unhide HD).later (by repeat (first | exact Below.refl _ _ | assumption | refine below_drewN ?_ _ | refine Below.drew ?_ | refine Below.alloc ?_ (by first | exact Nat.le_refl _ | exact Below.size (by assumption) | (simp; done) | (simp; omega)) _ | refine Below.setCell ?_ (by first | exact Nat.le_refl _ | exact Below.size (by assumption) | (simp; done) | (simp; omega)) _ | refine Below.trans ?_ (by assumption))), hnn, hspot, Or.inr (Or.inl rfl)⟩, (by repeat (first | exact Below.refl _ _ | assumption | refine below_drewN ?_ _ | refine Below.drew ?_ | refine Below.alloc ?_ (by first | exact Nat.le_refl _ | exact Below.size (by assumption) | (simp; done) | (simp; omega)) _ | refine Below.setCell ?_ (by first | exact Nat.le_refl _ | exact Below.size (by assumption) | (simp; done) | (simp; omega)) _ | refine Below.trans ?_ (by assumption)))⟩
          · have k5 : (a == b) = false := by simp [c5]
            by_cases c6 : b = 1
            · subst c6
              have HR := hide (show andR m n G a 1 = ⟨m, n, G, a⟩ by simp [andR, c1, c4])
              go_enter Tryd.func87, Tryd.ntmps87
              go_wp2
              refine bodyPost_ret (v := .tuple #[.agg #[.int .i64 m, .slice ad n cap], .int .i64 (a)]) (by simp [results, Tryd.results87, go_sem]; try omega) rfl ?_
              rw [unhide HR]
              exact ⟨⟨_, _, rfl, (unhide HD).later (by repeat (first | exact Below.refl _ _ | assumption | refine below_drewN ?_ _ | refine Below.drew ?_ | refine Below.alloc ?_ (by first | exact Nat.le_refl _ | exact Below.size (by assumption) | (simp; done) | (simp; omega)) _ | refine Below.setCell ?_ (by first | exact Nat.le_refl _ | exact Below.size (by assumption) | (simp; done) | (simp; omega)) _ | refine Below.trans ?_ (by assumption))), hnn, hspot, Or.inr (Or.inl rfl)⟩, (by repeat (first | exact Below.refl _ _ | assumption | refine below_drewN ?_ _ | refine Below.drew ?_ | refine Below.alloc ?_ (by first | exact Nat.le_refl _ | exact Below.size (by assumption) | (simp; done) | (simp; omega)) _ | refine Below.setCell ?_ (by first | exact Nat.le_refl _ | exact Below.size (by assumption) | (simp; done) | (simp; omega)) _ | refine Below.trans ?_ (by assumption)))⟩
            · have k6 : (b == 1) = false := by simp [c6]
              by_cases c7 : absI b < absI a
              · have HR := hide (show andR m n G a b = putR m n G ⟨false, b, a⟩ by simp only [andR, c1, c2, c3, c4, c5, c6, or_self, if_false, if_true, c7])
                have BZ : Below w.heap.size w ((w.alloc (.cells #[.int .i64 m, .slice ad n cap] 25)).alloc (.cells #[.int .i64 0, .slice none 0 0] 25)) := ((Below.refl _ _).alloc (Nat.le_refl _) _).alloc (by simp) _
                go_enter Tryd.func87, Tryd.ntmps87
                go_wp2_with fail
                refine (l4Abs_any _ _ (by omega) (by omega)).mono ?_
                rintro e w1 ⟨rfl, rfl⟩
                go_wp2_with fail
                refine (l4Abs_any _ _ (by omega) (by omega)).mono ?_
                rintro e w1 ⟨rfl, rfl⟩
                go_wp2_with fail
                refine (l6Put_any m ad n cap G ⟨false, b, a⟩ _ ((unhide HD).later BZ) hnn hspot hm0 hm1 hn).mono ?_
                rintro e w1 ⟨⟨ad', cap', rfl, hg, hn1, hs1, hx⟩, b1⟩
                have r0 : w1.cell? ⟨w.heap.size + 1, 0, none⟩ = some (.int .i64 0) := cell_later b1 (by simp [go_sem])
                have r1 : w1.cell? ⟨w.heap.size + 1, 1, none⟩ = some (.slice none 0 0) := cell_later b1 (by simp [go_sem])
                have f0 : w1.frozen? ⟨w.heap.size + 1, 0, none⟩ = false := by rw [b1.frozen (by simp)]; simp [go_sem]
                have f1 : w1.frozen? ⟨w.heap.size + 1, 1, none⟩ = false := by rw [b1.frozen (by simp)]; simp [go_sem]
                have bl := b1.size
                simp only [World.size_alloc] at bl hx
                have BL := BZ.trans (b1.mono BZ.size)
                have HA : Hid ((putR m n G ⟨false, b, a⟩).n = 0 ∨ ∀ b off, ad' = some ⟨b, off, none⟩ → b ≠ w.heap.size + 1) := by
                  rcases hx with h | rfl | ⟨b, rfl, h, _⟩
                  · exact Or.inl (hn1 h).1
                  · exact Or.inr (fun b off e => by have := hlow _ e; simp only at this; omega)
                  · exact Or.inr (fun b' off e => by cases e; omega)
                have HX : Hid (ad' = none ∨ ad' = ad ∨ ∃ b, ad' = some ⟨b, 0, none⟩ ∧ w.heap.size ≤ b ∧ b < w1.heap.size) := by
                  rcases hx with h | h | ⟨b, h, h', h3⟩
                  · exact Or.inl h
                  · exact Or.inr (Or.inl h)
                  · exact Or.inr (Or.inr ⟨b, h, by omega, h3⟩)
                have HG := hide hg
                have HN1 := hide hn1
                have HS1 := hide hs1
                clear hg b1 BZ hx hn1 hs1
                generalize hr : putR m n G ⟨false, b, a⟩ = r at *
                have HRR := hide hr
                clear hr
                go_wp2
                refine bodyPost_ret (v := .tuple #[.agg #[.int .i64 r.m, .slice ad' r.n cap'], .int .i64 r.k]) (by simp [results, Tryd.results87, go_sem, r0, r1]) rfl ?_
                rw [unhide HR]
                exact ⟨⟨_, _, rfl, (unhide HG).apart (unhide HA) ((Mov.set _ _ _).trans (Mov.set _ _ _)), unhide HN1, unhide HS1, (unhide HX).imp id (Or.imp id (fun ⟨b, h1, h2, h3⟩ => ⟨b, h1, h2, by simp; omega⟩))⟩, (by repeat (first | exact Below.refl _ _ | assumption | refine below_drewN ?_ _ | refine Below.drew ?_ | refine Below.alloc ?_ (by first | exact Nat.le_refl _ | exact Below.size (by assumption) | (simp; done) | (simp; omega)) _ | refine Below.setCell ?_ (by first | exact Nat.le_refl _ | exact Below.size (by assumption) | (simp; done) | (simp; omega)) _ | refine Below.trans ?_ (by assumption)))⟩
              · have HR := hide (show andR m n G a b = putR m n G ⟨false, a, b⟩ by simp only [andR, c1, c2, c3, c4, c5, c6, or_self, if_false, if_true, c7])
                have BZ : Below w.heap.size w ((w.alloc (.cells #[.int .i64 m, .slice ad n cap] 25)).alloc (.cells #[.int .i64 0, .slice none 0 0] 25)) := ((Below.refl _ _).alloc (Nat.le_refl _) _).alloc (by simp) _
                go_enter Tryd.func87, Tryd.ntmps87
                go_wp2_with fail
                refine (l4Abs_any _ _ (by omega) (by omega)).mono ?_
                rintro e w1 ⟨rfl, rfl⟩
                go_wp2_with fail
                refine (l4Abs_any _ _ (by omega) (by omega)).mono ?_
                rintro e w1 ⟨rfl, rfl⟩
                go_wp2_with fail
                refine (l6Put_any m ad n cap G ⟨false, a, b⟩ _ ((unhide HD).later BZ) hnn hspot hm0 hm1 hn).mono ?_
                rintro e w1 ⟨⟨ad', cap', rfl, hg, hn1, hs1, hx⟩, b1⟩
                have r0 : w1.cell? ⟨w.heap.size + 1, 0, none⟩ = some (.int .i64 0) := cell_later b1 (by simp [go_sem])
                have r1 : w1.cell? ⟨w.heap.size + 1, 1, none⟩ = some (.slice none 0 0) := cell_later b1 (by simp [go_sem])
                have f0 : w1.frozen? ⟨w.heap.size + 1, 0, none⟩ = false := by rw [b1.frozen (by simp)]; simp [go_sem]
                have f1 : w1.frozen? ⟨w.heap.size + 1, 1, none⟩ = false := by rw [b1.frozen (by simp)]; simp [go_sem]
                have bl := b1.size
                simp only [World.size_alloc] at bl hx
                have BL := BZ.trans (b1.mono BZ.size)
                have HA : Hid ((putR m n G ⟨false, a, b⟩).n = 0 ∨ ∀ b off, ad' = some ⟨b, off, none⟩ → b ≠ w.heap.size + 1) := by
                  rcases hx with h | rfl | ⟨b, rfl, h, _⟩
                  · exact Or.inl (hn1 h).1
                  · exact Or.inr (fun b off e => by have := hlow _ e; simp only at this; omega)
                  · exact Or.inr (fun b' off e => by cases e; omega)
                have HX : Hid (ad' = none ∨ ad' = ad ∨ ∃ b, ad' = some ⟨b, 0, none⟩ ∧ w.heap.size ≤ b ∧ b < w1.heap.size) := by
                  rcases hx with h | h | ⟨b, h, h', h3⟩
                  · exact Or.inl h
                  · exact Or.inr (Or.inl h)
                  · exact Or.inr (Or.inr ⟨b, h, by omega, h3⟩)
                have HG := hide hg
                have HN1 := hide hn1
                have HS1 := hide hs1
                clear hg b1 BZ hx hn1 hs1
                generalize hr : putR m n G ⟨false, a, b⟩ = r at *
                have HRR := hide hr
                clear hr
                go_wp2
                refine bodyPost_ret (v := .tuple #[.agg #[.int .i64 r.m, .slice ad' r.n cap'], .int .i64 r.k]) (by simp [results, Tryd.results87, go_sem, r0, r1]) rfl ?_
                rw [unhide HR]
                exact ⟨⟨_, _, rfl, (unhide HG).apart (unhide HA) ((Mov.set _ _ _).trans (Mov.set _ _ _)), unhide HN1, unhide HS1, (unhide HX).imp id (Or.imp id (fun ⟨b, h1, h2, h3⟩ => ⟨b, h1, h2, by simp; omega⟩))⟩, (by repeat (first | exact Below.refl _ _ | assumption | refine below_drewN ?_ _ | refine Below.drew ?_ | refine Below.alloc ?_ (by first | exact Nat.le_refl _ | exact Below.size (by assumption) | (simp; done) | (simp; omega)) _ | refine Below.setCell ?_ (by first | exact Nat.le_refl _ | exact Below.size (by assumption) | (simp; done) | (simp; omega)) _ | refine Below.trans ?_ (by assumption)))⟩
end Go.Proofs.YtmpiiilkaadhfaaDoor
