/- Whether they are unlike: marks of gates, of the model. -/
import Derived.Test.YtmpiiilkaadhfaaDoorNrC
namespace Go.Proofs.YtmpiiilkaadhfaaDoor
open Go.ChangeShapes Go.WideShapes Go.ChangeAt Go.RowKit Go.Joins
set_option linter.unusedVariables false
set_option maxRecDepth 100000
set_option linter.unusedSimpArgs false

set_option maxRecDepth 100000 in
set_option maxHeartbeats 4000000 in
theorem l6Xor_any (m : Int) (ad : Option Addr) (n cap : Nat) (G : Nat → Gt) (a b : Int) (w : World) (hd : GtsAt w ad n G) (hnn : ad = none → n = 0 ∧ cap = 0) (hspot : ∀ p, ad = some p → p.spot = none) (hlow : ∀ p, ad = some p → p.block < w.heap.size) (hm0 : 0 ≤ m) (hm1 : m ≤ 8) (hn : n ≤ 600) (ha : mkP m n a = true) (hb : mkP m n b = true) :
    Calls Tryd.prog 108 #[.agg #[.int .i64 m, .slice ad n cap], .int .i64 a, .int .i64 b] w fun e w' => NPost (xorR m n G a b) ad w.heap.size e w' ∧ Below w.heap.size w w' := by
  obtain ⟨a0, a1, a2⟩ := mkP_bd ha
  obtain ⟨b0, b1, b2⟩ := mkP_bd hb
  have HD := hide hd
  clear hd ha hb
  by_cases c1 : a = 1
  · subst c1
    have HR := hide (show xorR m n G 1 b = ⟨m, n, G, -b⟩ by simp [xorR, absI])
    go_enter Tryd.func108, Tryd.ntmps108
    go_wp2
    refine bodyPost_ret (v := .tuple #[.agg #[.int .i64 m, .slice ad n cap], .int .i64 (-b)]) (by simp [results, Tryd.results108, go_sem] <;> omega) rfl ?_
    rw [unhide HR]
    exact ⟨⟨_, _, rfl, (unhide HD).later (by repeat (first | exact Below.refl _ _ | assumption | refine below_drewN ?_ _ | refine Below.drew ?_ | refine Below.alloc ?_ (by first | exact Nat.le_refl _ | exact Below.size (by assumption) | (simp; done) | (simp; omega)) _ | refine Below.setCell ?_ (by first | exact Nat.le_refl _ | exact Below.size (by assumption) | (simp; done) | (simp; omega)) _ | refine Below.trans ?_ (by assumption))), hnn, hspot, Or.inr (Or.inl rfl)⟩, (by repeat (first | exact Below.refl _ _ | assumption | refine below_drewN ?_ _ | refine Below.drew ?_ | refine Below.alloc ?_ (by first | exact Nat.le_refl _ | exact Below.size (by assumption) | (simp; done) | (simp; omega)) _ | refine Below.setCell ?_ (by first | exact Nat.le_refl _ | exact Below.size (by assumption) | (simp; done) | (simp; omega)) _ | refine Below.trans ?_ (by assumption)))⟩
  · have k1 : (a == 1) = false := by simp [c1]
    by_cases c1' : a = -1
    · subst c1'
      have HR := hide (show xorR m n G (-1) b = ⟨m, n, G, b⟩ by simp [xorR, absI])
      go_enter Tryd.func108, Tryd.ntmps108
      go_wp2
      refine bodyPost_ret (v := .tuple #[.agg #[.int .i64 m, .slice ad n cap], .int .i64 (b)]) (by simp [results, Tryd.results108, go_sem] <;> omega) rfl ?_
      rw [unhide HR]
      exact ⟨⟨_, _, rfl, (unhide HD).later (by repeat (first | exact Below.refl _ _ | assumption | refine below_drewN ?_ _ | refine Below.drew ?_ | refine Below.alloc ?_ (by first | exact Nat.le_refl _ | exact Below.size (by assumption) | (simp; done) | (simp; omega)) _ | refine Below.setCell ?_ (by first | exact Nat.le_refl _ | exact Below.size (by assumption) | (simp; done) | (simp; omega)) _ | refine Below.trans ?_ (by assumption))), hnn, hspot, Or.inr (Or.inl rfl)⟩, (by repeat (first | exact Below.refl _ _ | assumption | refine below_drewN ?_ _ | refine Below.drew ?_ | refine Below.alloc ?_ (by first | exact Nat.le_refl _ | exact Below.size (by assumption) | (simp; done) | (simp; omega)) _ | refine Below.setCell ?_ (by first | exact Nat.le_refl _ | exact Below.size (by assumption) | (simp; done) | (simp; omega)) _ | refine Below.trans ?_ (by assumption)))⟩
    · have k1' : (a == -1) = false := by simp [c1']
      have o1 : ¬ absI a = 1 := by rw [abs_one]; omega
      by_cases c2 : b = 1
      · subst c2
        have HR := hide (show xorR m n G a 1 = ⟨m, n, G, -a⟩ by simp [xorR, o1]; simp [absI])
        go_enter Tryd.func108, Tryd.ntmps108
        go_wp2
        refine bodyPost_ret (v := .tuple #[.agg #[.int .i64 m, .slice ad n cap], .int .i64 (-a)]) (by simp [results, Tryd.results108, go_sem] <;> omega) rfl ?_
        rw [unhide HR]
        exact ⟨⟨_, _, rfl, (unhide HD).later (by repeat (first | exact Below.refl _ _ | assumption | refine below_drewN ?_ _ | refine Below.drew ?_ | refine Below.alloc ?_ (by first | exact Nat.le_refl _ | exact Below.size (by assumption) | (simp; done) | (simp; omega)) _ | refine Below.setCell ?_ (by first | exact Nat.le_refl _ | exact Below.size (by assumption) | (simp; done) | (simp; omega)) _ | refine Below.trans ?_ (by assumption))), hnn, hspot, Or.inr (Or.inl rfl)⟩, (by repeat (first | exact Below.refl _ _ | assumption | refine below_drewN ?_ _ | refine Below.drew ?_ | refine Below.alloc ?_ (by first | exact Nat.le_refl _ | exact Below.size (by assumption) | (simp; done) | (simp; omega)) _ | refine Below.setCell ?_ (by first | exact Nat.le_refl _ | exact Below.size (by assumption) | (simp; done) | (simp; omega)) _ | refine Below.trans ?_ (by assumption)))⟩
      · have k2 : (b == 1) = false := by simp [c2]
        by_cases c2' : b = -1
        · subst c2'
          have HR := hide (show xorR m n G a (-1) = ⟨m, n, G, a⟩ by simp [xorR, o1]; simp [absI])
          go_enter Tryd.func108, Tryd.ntmps108
          go_wp2
          refine bodyPost_ret (v := .tuple #[.agg #[.int .i64 m, .slice ad n cap], .int .i64 (a)]) (by simp [results, Tryd.results108, go_sem] <;> omega) rfl ?_
          rw [unhide HR]
          exact ⟨⟨_, _, rfl, (unhide HD).later (by repeat (first | exact Below.refl _ _ | assumption | refine below_drewN ?_ _ | refine Below.drew ?_ | refine Below.alloc ?_ (by first | exact Nat.le_refl _ | exact Below.size (by assumption) | (simp; done) | (simp; omega)) _ | refine Below.setCell ?_ (by first | exact Nat.le_refl _ | exact Below.size (by assumption) | (simp; done) | (simp; omega)) _ | refine Below.trans ?_ (by assumption))), hnn, hspot, Or.inr (Or.inl rfl)⟩, (by repeat (first | exact Below.refl _ _ | assumption | refine below_drewN ?_ _ | refine Below.drew ?_ | refine Below.alloc ?_ (by first | exact Nat.le_refl _ | exact Below.size (by assumption) | (simp; done) | (simp; omega)) _ | refine Below.setCell ?_ (by first | exact Nat.le_refl _ | exact Below.size (by assumption) | (simp; done) | (simp; omega)) _ | refine Below.trans ?_ (by assumption)))⟩
        · have k2' : (b == -1) = false := by simp [c2']
          have o2 : ¬ absI b = 1 := by rw [abs_one]; omega
          by_cases c3 : a = b
          · subst c3
            have k3 : (a == a) = true := by simp
            have HR := hide (show xorR m n G a a = ⟨m, n, G, -1⟩ by simp [xorR, o1])
            go_enter Tryd.func108, Tryd.ntmps108
            go_wp2
            refine bodyPost_ret (v := .tuple #[.agg #[.int .i64 m, .slice ad n cap], .int .i64 (-1)]) (by simp [results, Tryd.results108, go_sem] <;> omega) rfl ?_
            rw [unhide HR]
            exact ⟨⟨_, _, rfl, (unhide HD).later (by repeat (first | exact Below.refl _ _ | assumption | refine below_drewN ?_ _ | refine Below.drew ?_ | refine Below.alloc ?_ (by first | exact Nat.le_refl _ | exact Below.size (by assumption) | (simp; done) | (simp; omega)) _ | refine Below.setCell ?_ (by first | exact Nat.le_refl _ | exact Below.size (by assumption) | (simp; done) | (simp; omega)) _ | refine Below.trans ?_ (by assumption))), hnn, hspot, Or.inr (Or.inl rfl)⟩, (by repeat (first | exact Below.refl _ _ | assumption | refine below_drewN ?_ _ | refine Below.drew ?_ | refine Below.alloc ?_ (by first | exact Nat.le_refl _ | exact Below.size (by assumption) | (simp; done) | (simp; omega)) _ | refine Below.setCell ?_ (by first | exact Nat.le_refl _ | exact Below.size (by assumption) | (simp; done) | (simp; omega)) _ | refine Below.trans ?_ (by assumption)))⟩
          · have k3 : (a == b) = false := by simp [c3]
            by_cases c4 : a = -b
            · have k4 : (a == -b) = true := by simp [c4]
              have HR := hide (show xorR m n G a b = ⟨m, n, G, 1⟩ by simp only [xorR, o1, o2, c3, if_false]; simp [c4])
              have HC4 := hide c4
              clear c4
              go_enter Tryd.func108, Tryd.ntmps108
              go_wp2
              refine bodyPost_ret (v := .tuple #[.agg #[.int .i64 m, .slice ad n cap], .int .i64 (1)]) (by simp [results, Tryd.results108, go_sem] <;> omega) rfl ?_
              rw [unhide HR]
              exact ⟨⟨_, _, rfl, (unhide HD).later (by repeat (first | exact Below.refl _ _ | assumption | refine below_drewN ?_ _ | refine Below.drew ?_ | refine Below.alloc ?_ (by first | exact Nat.le_refl _ | exact Below.size (by assumption) | (simp; done) | (simp; omega)) _ | refine Below.setCell ?_ (by first | exact Nat.le_refl _ | exact Below.size (by assumption) | (simp; done) | (simp; omega)) _ | refine Below.trans ?_ (by assumption))), hnn, hspot, Or.inr (Or.inl rfl)⟩, (by repeat (first | exact Below.refl _ _ | assumption | refine below_drewN ?_ _ | refine Below.drew ?_ | refine Below.alloc ?_ (by first | exact Nat.le_refl _ | exact Below.size (by assumption) | (simp; done) | (simp; omega)) _ | refine Below.setCell ?_ (by first | exact Nat.le_refl _ | exact Below.size (by assumption) | (simp; done) | (simp; omega)) _ | refine Below.trans ?_ (by assumption)))⟩
            · have k4 : (a == -b) = false := by simp [c4]
              by_cases sa : a < 0
              · by_cases sb : b < 0
                · by_cases c7 : absI b < absI a
                  · have HR := hide (show xorR m n G a b = turnR (putR m n G ⟨true, absI b, absI a⟩) false by simp [xorR, o1, o2, c3, c4, c7, sa, sb])
                    have BZ : Below w.heap.size w ((w.alloc (.cells #[.int .i64 m, .slice ad n cap] 25)).alloc (.cells #[.int .i64 0, .slice none 0 0] 25)) := ((Below.refl _ _).alloc (Nat.le_refl _) _).alloc (by simp) _
                    obtain ⟨_, _, _, q4, q5⟩ := putR_n m n G ⟨true, absI b, absI a⟩ hn hm0 hm1
                    go_enter Tryd.func108, Tryd.ntmps108
                    go_wp2_with fail
                    refine (l4Abs_any _ _ (by omega) (by omega)).mono ?_
                    rintro e w1 ⟨rfl, rfl⟩
                    go_wp2_with fail
                    refine (l4Abs_any _ _ (by omega) (by omega)).mono ?_
                    rintro e w1 ⟨rfl, rfl⟩
                    go_wp2_with fail
                    refine (l4Abs_any _ _ (by omega) (by omega)).mono ?_
                    rintro e w1 ⟨rfl, rfl⟩
                    go_wp2_with fail
                    refine (l4Abs_any _ _ (by omega) (by omega)).mono ?_
                    rintro e w1 ⟨rfl, rfl⟩
                    go_wp2_with fail
                    refine (l6Put_any m ad n cap G ⟨true, absI b, absI a⟩ _ ((unhide HD).later BZ) hnn hspot hm0 hm1 hn).mono ?_
                    rintro e w1 ⟨⟨ad', cap', rfl, hg, hn1, hs1, hx⟩, b1⟩
                    have r0 : w1.cell? ⟨w.heap.size + 1, 0, none⟩ = some (.int .i64 0) := cell_later b1 (by simp [go_sem])
                    have r1 : w1.cell? ⟨w.heap.size + 1, 1, none⟩ = some (.slice none 0 0) := cell_later b1 (by simp [go_sem])
                    have f0 : w1.frozen? ⟨w.heap.size + 1, 0, none⟩ = false := by rw [b1.frozen (by simp)]; simp [go_sem]
                    have f1 : w1.frozen? ⟨w.heap.size + 1, 1, none⟩ = false := by rw [b1.frozen (by simp)]; simp [go_sem]
                    have bl := b1.size
                    simp only [World.size_alloc] at bl hx
                    have BL := BZ.trans (b1.mono BZ.size)
                    have HA : Hid ((putR m n G ⟨true, absI b, absI a⟩).n = 0 ∨ ∀ b off, ad' = some ⟨b, off, none⟩ → b ≠ w.heap.size + 1) := by
                      rcases hx with h | rfl | ⟨b, rfl, h, _⟩
                      · exact Or.inl (hn1 h).1
                      · exact Or.inr (fun b off e => by have := hlow _ e; simp only at this; omega)
                      · exact Or.inr (fun b' off e => by cases e; omega)
                    have HX : Hid (ad' = none ∨ ad' = ad ∨ ∃ b, ad' = some ⟨b, 0, none⟩ ∧ w.heap.size ≤ b ∧ b < w1.heap.size) := by
                      rcases hx with h | h | ⟨b, h, h', h3⟩
                      · exact Or.inl h
                      · exact Or.inr (Or.inl h)
                      · exact Or.inr (Or.inr ⟨b, h, by omega, h3⟩)
                    have HG := hide hg
                    have HN1 := hide hn1
                    have HS1 := hide hs1
                    clear hg b1 BZ hx hn1 hs1
                    generalize putR m n G ⟨true, absI b, absI a⟩ = r at *
                    have bl1 : w.heap.size + 1 < w1.heap.size := by omega
                    go_wp2
                    refine bodyPost_ret (v := .tuple #[.agg #[.int .i64 r.m, .slice ad' r.n cap'], .int .i64 (r.k)]) (by simp [results, Tryd.results108, go_sem, r0, r1, bl1] <;> omega) rfl ?_
                    rw [unhide HR]
                    exact ⟨⟨ad', cap', by simp [turnR], (unhide HG).apart (unhide HA) (((Mov.set _ _ _).trans (Mov.set _ _ _)).alloc _), unhide HN1, unhide HS1, (unhide HX).imp id (Or.imp id (fun ⟨b, h1, h2, h3⟩ => ⟨b, h1, h2, by simp; omega⟩))⟩, (by repeat (first | exact Below.refl _ _ | assumption | refine below_drewN ?_ _ | refine Below.drew ?_ | refine Below.alloc ?_ (by first | exact Nat.le_refl _ | exact Below.size (by assumption) | (simp; done) | (simp; omega)) _ | refine Below.setCell ?_ (by first | exact Nat.le_refl _ | exact Below.size (by assumption) | (simp; done) | (simp; omega)) _ | refine Below.trans ?_ (by assumption)))⟩
                  · have HR := hide (show xorR m n G a b = turnR (putR m n G ⟨true, absI a, absI b⟩) false by simp [xorR, o1, o2, c3, c4, c7, sa, sb])
                    have BZ : Below w.heap.size w ((w.alloc (.cells #[.int .i64 m, .slice ad n cap] 25)).alloc (.cells #[.int .i64 0, .slice none 0 0] 25)) := ((Below.refl _ _).alloc (Nat.le_refl _) _).alloc (by simp) _
                    obtain ⟨_, _, _, q4, q5⟩ := putR_n m n G ⟨true, absI a, absI b⟩ hn hm0 hm1
                    go_enter Tryd.func108, Tryd.ntmps108
                    go_wp2_with fail
                    refine (l4Abs_any _ _ (by omega) (by omega)).mono ?_
                    rintro e w1 ⟨rfl, rfl⟩
                    go_wp2_with fail
                    refine (l4Abs_any _ _ (by omega) (by omega)).mono ?_
                    rintro e w1 ⟨rfl, rfl⟩
                    go_wp2_with fail
                    refine (l6Put_any m ad n cap G ⟨true, absI a, absI b⟩ _ ((unhide HD).later BZ) hnn hspot hm0 hm1 hn).mono ?_
                    rintro e w1 ⟨⟨ad', cap', rfl, hg, hn1, hs1, hx⟩, b1⟩
                    have r0 : w1.cell? ⟨w.heap.size + 1, 0, none⟩ = some (.int .i64 0) := cell_later b1 (by simp [go_sem])
                    have r1 : w1.cell? ⟨w.heap.size + 1, 1, none⟩ = some (.slice none 0 0) := cell_later b1 (by simp [go_sem])
                    have f0 : w1.frozen? ⟨w.heap.size + 1, 0, none⟩ = false := by rw [b1.frozen (by simp)]; simp [go_sem]
                    have f1 : w1.frozen? ⟨w.heap.size + 1, 1, none⟩ = false := by rw [b1.frozen (by simp)]; simp [go_sem]
                    have bl := b1.size
                    simp only [World.size_alloc] at bl hx
                    have BL := BZ.trans (b1.mono BZ.size)
                    have HA : Hid ((putR m n G ⟨true, absI a, absI b⟩).n = 0 ∨ ∀ b off, ad' = some ⟨b, off, none⟩ → b ≠ w.heap.size + 1) := by
                      rcases hx with h | rfl | ⟨b, rfl, h, _⟩
                      · exact Or.inl (hn1 h).1
                      · exact Or.inr (fun b off e => by have := hlow _ e; simp only at this; omega)
                      · exact Or.inr (fun b' off e => by cases e; omega)
                    have HX : Hid (ad' = none ∨ ad' = ad ∨ ∃ b, ad' = some ⟨b, 0, none⟩ ∧ w.heap.size ≤ b ∧ b < w1.heap.size) := by
                      rcases hx with h | h | ⟨b, h, h', h3⟩
                      · exact Or.inl h
                      · exact Or.inr (Or.inl h)
                      · exact Or.inr (Or.inr ⟨b, h, by omega, h3⟩)
                    have HG := hide hg
                    have HN1 := hide hn1
                    have HS1 := hide hs1
                    clear hg b1 BZ hx hn1 hs1
                    generalize putR m n G ⟨true, absI a, absI b⟩ = r at *
                    have bl1 : w.heap.size + 1 < w1.heap.size := by omega
                    go_wp2
                    refine bodyPost_ret (v := .tuple #[.agg #[.int .i64 r.m, .slice ad' r.n cap'], .int .i64 (r.k)]) (by simp [results, Tryd.results108, go_sem, r0, r1, bl1] <;> omega) rfl ?_
                    rw [unhide HR]
                    exact ⟨⟨ad', cap', by simp [turnR], (unhide HG).apart (unhide HA) (((Mov.set _ _ _).trans (Mov.set _ _ _)).alloc _), unhide HN1, unhide HS1, (unhide HX).imp id (Or.imp id (fun ⟨b, h1, h2, h3⟩ => ⟨b, h1, h2, by simp; omega⟩))⟩, (by repeat (first | exact Below.refl _ _ | assumption | refine below_drewN ?_ _ | refine Below.drew ?_ | refine Below.alloc ?_ (by first | exact Nat.le_refl _ | exact Below.size (by assumption) | (simp; done) | (simp; omega)) _ | refine Below.setCell ?_ (by first | exact Nat.le_refl _ | exact Below.size (by assumption) | (simp; done) | (simp; omega)) _ | refine Below.trans ?_ (by assumption)))⟩
                · by_cases c7 : absI b < absI a
                  · have HR := hide (show xorR m n G a b = turnR (putR m n G ⟨true, absI b, absI a⟩) true by simp [xorR, o1, o2, c3, c4, c7, sa, sb])
                    have BZ : Below w.heap.size w ((w.alloc (.cells #[.int .i64 m, .slice ad n cap] 25)).alloc (.cells #[.int .i64 0, .slice none 0 0] 25)) := ((Below.refl _ _).alloc (Nat.le_refl _) _).alloc (by simp) _
                    obtain ⟨_, _, _, q4, q5⟩ := putR_n m n G ⟨true, absI b, absI a⟩ hn hm0 hm1
                    go_enter Tryd.func108, Tryd.ntmps108
                    go_wp2_with fail
                    refine (l4Abs_any _ _ (by omega) (by omega)).mono ?_
                    rintro e w1 ⟨rfl, rfl⟩
                    go_wp2_with fail
                    refine (l4Abs_any _ _ (by omega) (by omega)).mono ?_
                    rintro e w1 ⟨rfl, rfl⟩
                    go_wp2_with fail
                    refine (l4Abs_any _ _ (by omega) (by omega)).mono ?_
                    rintro e w1 ⟨rfl, rfl⟩
                    go_wp2_with fail
                    refine (l4Abs_any _ _ (by omega) (by omega)).mono ?_
                    rintro e w1 ⟨rfl, rfl⟩
                    go_wp2_with fail
                    refine (l6Put_any m ad n cap G ⟨true, absI b, absI a⟩ _ ((unhide HD).later BZ) hnn hspot hm0 hm1 hn).mono ?_
                    rintro e w1 ⟨⟨ad', cap', rfl, hg, hn1, hs1, hx⟩, b1⟩
                    have r0 : w1.cell? ⟨w.heap.size + 1, 0, none⟩ = some (.int .i64 0) := cell_later b1 (by simp [go_sem])
                    have r1 : w1.cell? ⟨w.heap.size + 1, 1, none⟩ = some (.slice none 0 0) := cell_later b1 (by simp [go_sem])
                    have f0 : w1.frozen? ⟨w.heap.size + 1, 0, none⟩ = false := by rw [b1.frozen (by simp)]; simp [go_sem]
                    have f1 : w1.frozen? ⟨w.heap.size + 1, 1, none⟩ = false := by rw [b1.frozen (by simp)]; simp [go_sem]
                    have bl := b1.size
                    simp only [World.size_alloc] at bl hx
                    have BL := BZ.trans (b1.mono BZ.size)
                    have HA : Hid ((putR m n G ⟨true, absI b, absI a⟩).n = 0 ∨ ∀ b off, ad' = some ⟨b, off, none⟩ → b ≠ w.heap.size + 1) := by
                      rcases hx with h | rfl | ⟨b, rfl, h, _⟩
                      · exact Or.inl (hn1 h).1
                      · exact Or.inr (fun b off e => by have := hlow _ e; simp only at this; omega)
                      · exact Or.inr (fun b' off e => by cases e; omega)
                    have HX : Hid (ad' = none ∨ ad' = ad ∨ ∃ b, ad' = some ⟨b, 0, none⟩ ∧ w.heap.size ≤ b ∧ b < w1.heap.size) := by
                      rcases hx with h | h | ⟨b, h, h', h3⟩
                      · exact Or.inl h
                      · exact Or.inr (Or.inl h)
                      · exact Or.inr (Or.inr ⟨b, h, by omega, h3⟩)
                    have HG := hide hg
                    have HN1 := hide hn1
                    have HS1 := hide hs1
                    clear hg b1 BZ hx hn1 hs1
                    generalize putR m n G ⟨true, absI b, absI a⟩ = r at *
                    have bl1 : w.heap.size + 1 < w1.heap.size := by omega
                    go_wp2
                    refine bodyPost_ret (v := .tuple #[.agg #[.int .i64 r.m, .slice ad' r.n cap'], .int .i64 (-r.k)]) (by simp [results, Tryd.results108, go_sem, r0, r1, bl1] <;> omega) rfl ?_
                    rw [unhide HR]
                    exact ⟨⟨ad', cap', by simp [turnR], (unhide HG).apart (unhide HA) (((Mov.set _ _ _).trans (Mov.set _ _ _)).alloc _), unhide HN1, unhide HS1, (unhide HX).imp id (Or.imp id (fun ⟨b, h1, h2, h3⟩ => ⟨b, h1, h2, by simp; omega⟩))⟩, (by repeat (first | exact Below.refl _ _ | assumption | refine below_drewN ?_ _ | refine Below.drew ?_ | refine Below.alloc ?_ (by first | exact Nat.le_refl _ | exact Below.size (by assumption) | (simp; done) | (simp; omega)) _ | refine Below.setCell ?_ (by first | exact Nat.le_refl _ | exact Below.size (by assumption) | (simp; done) | (simp; omega)) _ | refine Below.trans ?_ (by assumption)))⟩
                  · have HR := hide (show xorR m n G a b = turnR (putR m n G ⟨true, absI a, absI b⟩) true by simp [xorR, o1, o2, c3, c4, c7, sa, sb])
                    have BZ : Below w.heap.size w ((w.alloc (.cells #[.int .i64 m, .slice ad n cap] 25)).alloc (.cells #[.int .i64 0, .slice none 0 0] 25)) := ((Below.refl _ _).alloc (Nat.le_refl _) _).alloc (by simp) _
                    obtain ⟨_, _, _, q4, q5⟩ := putR_n m n G ⟨true, absI a, absI b⟩ hn hm0 hm1
                    go_enter Tryd.func108, Tryd.ntmps108
                    go_wp2_with fail
                    refine (l4Abs_any _ _ (by omega) (by omega)).mono ?_
                    rintro e w1 ⟨rfl, rfl⟩
                    go_wp2_with fail
                    refine (l4Abs_any _ _ (by omega) (by omega)).mono ?_
                    rintro e w1 ⟨rfl, rfl⟩
                    go_wp2_with fail
                    refine (l6Put_any m ad n cap G ⟨true, absI a, absI b⟩ _ ((unhide HD).later BZ) hnn hspot hm0 hm1 hn).mono ?_
                    rintro e w1 ⟨⟨ad', cap', rfl, hg, hn1, hs1, hx⟩, b1⟩
                    have r0 : w1.cell? ⟨w.heap.size + 1, 0, none⟩ = some (.int .i64 0) := cell_later b1 (by simp [go_sem])
                    have r1 : w1.cell? ⟨w.heap.size + 1, 1, none⟩ = some (.slice none 0 0) := cell_later b1 (by simp [go_sem])
                    have f0 : w1.frozen? ⟨w.heap.size + 1, 0, none⟩ = false := by rw [b1.frozen (by simp)]; simp [go_sem]
                    have f1 : w1.frozen? ⟨w.heap.size + 1, 1, none⟩ = false := by rw [b1.frozen (by simp)]; simp [go_sem]
                    have bl := b1.size
                    simp only [World.size_alloc] at bl hx
                    have BL := BZ.trans (b1.mono BZ.size)
                    have HA : Hid ((putR m n G ⟨true, absI a, absI b⟩).n = 0 ∨ ∀ b off, ad' = some ⟨b, off, none⟩ → b ≠ w.heap.size + 1) := by
                      rcases hx with h | rfl | ⟨b, rfl, h, _⟩
                      · exact Or.inl (hn1 h).1
                      · exact Or.inr (fun b off e => by have := hlow _ e; simp only at this; omega)
                      · exact Or.inr (fun b' off e => by cases e; omega)
                    have HX : Hid (ad' = none ∨ ad' = ad ∨ ∃ b, ad' = some ⟨b, 0, none⟩ ∧ w.heap.size ≤ b ∧ b < w1.heap.size) := by
                      rcases hx with h | h | ⟨b, h, h', h3⟩
                      · exact Or.inl h
                      · exact Or.inr (Or.inl h)
                      · exact Or.inr (Or.inr ⟨b, h, by omega, h3⟩)
                    have HG := hide hg
                    have HN1 := hide hn1
                    have HS1 := hide hs1
                    clear hg b1 BZ hx hn1 hs1
                    generalize putR m n G ⟨true, absI a, absI b⟩ = r at *
                    have bl1 : w.heap.size + 1 < w1.heap.size := by omega
                    go_wp2
                    refine bodyPost_ret (v := .tuple #[.agg #[.int .i64 r.m, .slice ad' r.n cap'], .int .i64 (-r.k)]) (by simp [results, Tryd.results108, go_sem, r0, r1, bl1] <;> omega) rfl ?_
                    rw [unhide HR]
                    exact ⟨⟨ad', cap', by simp [turnR], (unhide HG).apart (unhide HA) (((Mov.set _ _ _).trans (Mov.set _ _ _)).alloc _), unhide HN1, unhide HS1, (unhide HX).imp id (Or.imp id (fun ⟨b, h1, h2, h3⟩ => ⟨b, h1, h2, by simp; omega⟩))⟩, (by repeat (first | exact Below.refl _ _ | assumption | refine below_drewN ?_ _ | refine Below.drew ?_ | refine Below.alloc ?_ (by first | exact Nat.le_refl _ | exact Below.size (by assumption) | (simp; done) | (simp; omega)) _ | refine Below.setCell ?_ (by first | exact Nat.le_refl _ | exact Below.size (by assumption) | (simp; done) | (simp; omega)) _ | refine Below.trans ?_ (by assumption)))⟩
              · by_cases sb : b < 0
                · by_cases c7 : absI b < absI a
                  · have HR := hide (show xorR m n G a b = turnR (putR m n G ⟨true, absI b, absI a⟩) true by simp [xorR, o1, o2, c3, c4, c7, sa, sb])
                    have BZ : Below w.heap.size w ((w.alloc (.cells #[.int .i64 m, .slice ad n cap] 25)).alloc (.cells #[.int .i64 0, .slice none 0 0] 25)) := ((Below.refl _ _).alloc (Nat.le_refl _) _).alloc (by simp) _
                    obtain ⟨_, _, _, q4, q5⟩ := putR_n m n G ⟨true, absI b, absI a⟩ hn hm0 hm1
                    go_enter Tryd.func108, Tryd.ntmps108
                    go_wp2_with fail
                    refine (l4Abs_any _ _ (by omega) (by omega)).mono ?_
                    rintro e w1 ⟨rfl, rfl⟩
                    go_wp2_with fail
                    refine (l4Abs_any _ _ (by omega) (by omega)).mono ?_
                    rintro e w1 ⟨rfl, rfl⟩
                    go_wp2_with fail
                    refine (l4Abs_any _ _ (by omega) (by omega)).mono ?_
                    rintro e w1 ⟨rfl, rfl⟩
                    go_wp2_with fail
                    refine (l4Abs_any _ _ (by omega) (by omega)).mono ?_
                    rintro e w1 ⟨rfl, rfl⟩
                    go_wp2_with fail
                    refine (l6Put_any m ad n cap G ⟨true, absI b, absI a⟩ _ ((unhide HD).later BZ) hnn hspot hm0 hm1 hn).mono ?_
                    rintro e w1 ⟨⟨ad', cap', rfl, hg, hn1, hs1, hx⟩, b1⟩
                    have r0 : w1.cell? ⟨w.heap.size + 1, 0, none⟩ = some (.int .i64 0) := cell_later b1 (by simp [go_sem])
                    have r1 : w1.cell? ⟨w.heap.size + 1, 1, none⟩ = some (.slice none 0 0) := cell_later b1 (by simp [go_sem])
                    have f0 : w1.frozen? ⟨w.heap.size + 1, 0, none⟩ = false := by rw [b1.frozen (by simp)]; simp [go_sem]
                    have f1 : w1.frozen? ⟨w.heap.size + 1, 1, none⟩ = false := by rw [b1.frozen (by simp)]; simp [go_sem]
                    have bl := b1.size
                    simp only [World.size_alloc] at bl hx
                    have BL := BZ.trans (b1.mono BZ.size)
                    have HA : Hid ((putR m n G ⟨true, absI b, absI a⟩).n = 0 ∨ ∀ b off, ad' = some ⟨b, off, none⟩ → b ≠ w.heap.size + 1) := by
                      rcases hx with h | rfl | ⟨b, rfl, h, _⟩
                      · exact Or.inl (hn1 h).1
                      · exact Or.inr (fun b off e => by have := hlow _ e; simp only at this; omega)
                      · exact Or.inr (fun b' off e => by cases e; omega)
                    have HX : Hid (ad' = none ∨ ad' = ad ∨ ∃ b, ad' = some ⟨b, 0, none⟩ ∧ w.heap.size ≤ b ∧ b < w1.heap.size) := by
                      rcases hx with h | h | ⟨b, h, h', h3⟩
                      · exact Or.inl h
                      · exact Or.inr (Or.inl h)
                      · exact Or.inr (Or.inr ⟨b, h, by omega, h3⟩)
                    have HG := hide hg
                    have HN1 := hide hn1
                    have HS1 := hide hs1
                    clear hg b1 BZ hx hn1 hs1
                    generalize putR m n G ⟨true, absI b, absI a⟩ = r at *
                    have bl1 : w.heap.size + 1 < w1.heap.size := by omega
                    go_wp2
                    refine bodyPost_ret (v := .tuple #[.agg #[.int .i64 r.m, .slice ad' r.n cap'], .int .i64 (-r.k)]) (by simp [results, Tryd.results108, go_sem, r0, r1, bl1] <;> omega) rfl ?_
                    rw [unhide HR]
                    exact ⟨⟨ad', cap', by simp [turnR], (unhide HG).apart (unhide HA) (((Mov.set _ _ _).trans (Mov.set _ _ _)).alloc _), unhide HN1, unhide HS1, (unhide HX).imp id (Or.imp id (fun ⟨b, h1, h2, h3⟩ => ⟨b, h1, h2, by simp; omega⟩))⟩, (by repeat (first | exact Below.refl _ _ | assumption | refine below_drewN ?_ _ | refine Below.drew ?_ | refine Below.alloc ?_ (by first | exact Nat.le_refl _ | exact Below.size (by assumption) | (simp; done) | (simp; omega)) _ | refine Below.setCell ?_ (by first | exact Nat.le_refl _ | exact Below.size (by assumption) | (simp; done) | (simp; omega)) _ | refine Below.trans ?_ (by assumption)))⟩
                  · have HR := hide (show xorR m n G a b = turnR (putR m n G ⟨true, absI a, absI b⟩) true by simp [xorR, o1, o2, c3, c4, c7, sa, sb])
                    have BZ : Below w.heap.size w ((w.alloc (.cells #[.int .i64 m, .slice ad n cap] 25)).alloc (.cells #[.int .i64 0, .slice none 0 0] 25)) := ((Below.refl _ _).alloc (Nat.le_refl _) _).alloc (by simp) _
                    obtain ⟨_, _, _, q4, q5⟩ := putR_n m n G ⟨true, absI a, absI b⟩ hn hm0 hm1
                    go_enter Tryd.func108, Tryd.ntmps108
                    go_wp2_with fail
                    refine (l4Abs_any _ _ (by omega) (by omega)).mono ?_
                    rintro e w1 ⟨rfl, rfl⟩
                    go_wp2_with fail
                    refine (l4Abs_any _ _ (by omega) (by omega)).mono ?_
                    rintro e w1 ⟨rfl, rfl⟩
                    go_wp2_with fail
                    refine (l6Put_any m ad n cap G ⟨true, absI a, absI b⟩ _ ((unhide HD).later BZ) hnn hspot hm0 hm1 hn).mono ?_
                    rintro e w1 ⟨⟨ad', cap', rfl, hg, hn1, hs1, hx⟩, b1⟩
                    have r0 : w1.cell? ⟨w.heap.size + 1, 0, none⟩ = some (.int .i64 0) := cell_later b1 (by simp [go_sem])
                    have r1 : w1.cell? ⟨w.heap.size + 1, 1, none⟩ = some (.slice none 0 0) := cell_later b1 (by simp [go_sem])
                    have f0 : w1.frozen? ⟨w.heap.size + 1, 0, none⟩ = false := by rw [b1.frozen (by simp)]; simp [go_sem]
                    have f1 : w1.frozen? ⟨w.heap.size + 1, 1, none⟩ = false := by rw [b1.frozen (by simp)]; simp [go_sem]
                    have bl := b1.size
                    simp only [World.size_alloc] at bl hx
                    have BL := BZ.trans (b1.mono BZ.size)
                    have HA : Hid ((putR m n G ⟨true, absI a, absI b⟩).n = 0 ∨ ∀ b off, ad' = some ⟨b, off, none⟩ → b ≠ w.heap.size + 1) := by
                      rcases hx with h | rfl | ⟨b, rfl, h, _⟩
                      · exact Or.inl (hn1 h).1
                      · exact Or.inr (fun b off e => by have := hlow _ e; simp only at this; omega)
                      · exact Or.inr (fun b' off e => by cases e; omega)
                    have HX : Hid (ad' = none ∨ ad' = ad ∨ ∃ b, ad' = some ⟨b, 0, none⟩ ∧ w.heap.size ≤ b ∧ b < w1.heap.size) := by
                      rcases hx with h | h | ⟨b, h, h', h3⟩
                      · exact Or.inl h
                      · exact Or.inr (Or.inl h)
                      · exact Or.inr (Or.inr ⟨b, h, by omega, h3⟩)
                    have HG := hide hg
                    have HN1 := hide hn1
                    have HS1 := hide hs1
                    clear hg b1 BZ hx hn1 hs1
                    generalize putR m n G ⟨true, absI a, absI b⟩ = r at *
                    have bl1 : w.heap.size + 1 < w1.heap.size := by omega
                    go_wp2
                    refine bodyPost_ret (v := .tuple #[.agg #[.int .i64 r.m, .slice ad' r.n cap'], .int .i64 (-r.k)]) (by simp [results, Tryd.results108, go_sem, r0, r1, bl1] <;> omega) rfl ?_
                    rw [unhide HR]
                    exact ⟨⟨ad', cap', by simp [turnR], (unhide HG).apart (unhide HA) (((Mov.set _ _ _).trans (Mov.set _ _ _)).alloc _), unhide HN1, unhide HS1, (unhide HX).imp id (Or.imp id (fun ⟨b, h1, h2, h3⟩ => ⟨b, h1, h2, by simp; omega⟩))⟩, (by repeat (first | exact Below.refl _ _ | assumption | refine below_drewN ?_ _ | refine Below.drew ?_ | refine Below.alloc ?_ (by first | exact Nat.le_refl _ | exact Below.size (by assumption) | (simp; done) | (simp; omega)) _ | refine Below.setCell ?_ (by first | exact Nat.le_refl _ | exact Below.size (by assumption) | (simp; done) | (simp; omega)) _ | refine Below.trans ?_ (by assumption)))⟩
                · by_cases c7 : absI b < absI a
                  · have HR := hide (show xorR m n G a b = turnR (putR m n G ⟨true, absI b, absI a⟩) false by simp [xorR, o1, o2, c3, c4, c7, sa, sb])
                    have BZ : Below w.heap.size w ((w.alloc (.cells #[.int .i64 m, .slice ad n cap] 25)).alloc (.cells #[.int .i64 0, .slice none 0 0] 25)) := ((Below.refl _ _).alloc (Nat.le_refl _) _).alloc (by simp) _
                    obtain ⟨_, _, _, q4, q5⟩ := putR_n m n G ⟨true, absI b, absI a⟩ hn hm0 hm1
                    go_enter Tryd.func108, Tryd.ntmps108
                    go_wp2_with fail
                    refine (l4Abs_any _ _ (by omega) (by omega)).mono ?_
                    rintro e w1 ⟨rfl, rfl⟩
                    go_wp2_with fail
                    refine (l4Abs_any _ _ (by omega) (by omega)).mono ?_
                    rintro e w1 ⟨rfl, rfl⟩
                    go_wp2_with fail
                    refine (l4Abs_any _ _ (by omega) (by omega)).mono ?_
                    rintro e w1 ⟨rfl, rfl⟩
                    go_wp2_with fail
                    refine (l4Abs_any _ _ (by omega) (by omega)).mono ?_
                    rintro e w1 ⟨rfl, rfl⟩
                    go_wp2_with fail
                    refine (l6Put_any m ad n cap G ⟨true, absI b, absI a⟩ _ ((unhide HD).later BZ) hnn hspot hm0 hm1 hn).mono ?_
                    rintro e w1 ⟨⟨ad', cap', rfl, hg, hn1, hs1, hx⟩, b1⟩
                    have r0 : w1.cell? ⟨w.heap.size + 1, 0, none⟩ = some (.int .i64 0) := cell_later b1 (by simp [go_sem])
                    have r1 : w1.cell? ⟨w.heap.size + 1, 1, none⟩ = some (.slice none 0 0) := cell_later b1 (by simp [go_sem])
                    have f0 : w1.frozen? ⟨w.heap.size + 1, 0, none⟩ = false := by rw [b1.frozen (by simp)]; simp [go_sem]
                    have f1 : w1.frozen? ⟨w.heap.size + 1, 1, none⟩ = false := by rw [b1.frozen (by simp)]; simp [go_sem]
                    have bl := b1.size
                    simp only [World.size_alloc] at bl hx
                    have BL := BZ.trans (b1.mono BZ.size)
                    have HA : Hid ((putR m n G ⟨true, absI b, absI a⟩).n = 0 ∨ ∀ b off, ad' = some ⟨b, off, none⟩ → b ≠ w.heap.size + 1) := by
                      rcases hx with h | rfl | ⟨b, rfl, h, _⟩
                      · exact Or.inl (hn1 h).1
                      · exact Or.inr (fun b off e => by have := hlow _ e; simp only at this; omega)
                      · exact Or.inr (fun b' off e => by cases e; omega)
                    have HX : Hid (ad' = none ∨ ad' = ad ∨ ∃ b, ad' = some ⟨b, 0, none⟩ ∧ w.heap.size ≤ b ∧ b < w1.heap.size) := by
                      rcases hx with h | h | ⟨b, h, h', h3⟩
                      · exact Or.inl h
                      · exact Or.inr (Or.inl h)
                      · exact Or.inr (Or.inr ⟨b, h, by omega, h3⟩)
                    have HG := hide hg
                    have HN1 := hide hn1
                    have HS1 := hide hs1
                    clear hg b1 BZ hx hn1 hs1
                    generalize putR m n G ⟨true, absI b, absI a⟩ = r at *
                    have bl1 : w.heap.size + 1 < w1.heap.size := by omega
                    go_wp2
                    refine bodyPost_ret (v := .tuple #[.agg #[.int .i64 r.m, .slice ad' r.n cap'], .int .i64 (r.k)]) (by simp [results, Tryd.results108, go_sem, r0, r1, bl1] <;> omega) rfl ?_
                    rw [unhide HR]
                    exact ⟨⟨ad', cap', by simp [turnR], (unhide HG).apart (unhide HA) (((Mov.set _ _ _).trans (Mov.set _ _ _)).alloc _), unhide HN1, unhide HS1, (unhide HX).imp id (Or.imp id (fun ⟨b, h1, h2, h3⟩ => ⟨b, h1, h2, by simp; omega⟩))⟩, (by repeat (first | exact Below.refl _ _ | assumption | refine below_drewN ?_ _ | refine Below.drew ?_ | refine Below.alloc ?_ (by first | exact Nat.le_refl _ | exact Below.size (by assumption) | (simp; done) | (simp; omega)) _ | refine Below.setCell ?_ (by first | exact Nat.le_refl _ | exact Below.size (by assumption) | (simp; done) | (simp; omega)) _ | refine Below.trans ?_ (by assumption)))⟩
                  · have HR := hide (show xorR m n G a b = turnR (putR m n G ⟨true, absI a, absI b⟩) false by simp [xorR, o1, o2, c3, c4, c7, sa, sb])
                    have BZ : Below w.heap.size w ((w.alloc (.cells #[.int .i64 m, .slice ad n cap] 25)).alloc (.cells #[.int .i64 0, .slice none 0 0] 25)) := ((Below.refl _ _).alloc (Nat.le_refl _) _).alloc (by simp) _
                    obtain ⟨_, _, _, q4, q5⟩ := putR_n m n G ⟨true, absI a, absI b⟩ hn hm0 hm1
                    go_enter Tryd.func108, Tryd.ntmps108
                    go_wp2_with fail
                    refine (l4Abs_any _ _ (by omega) (by omega)).mono ?_
                    rintro e w1 ⟨rfl, rfl⟩
                    go_wp2_with fail
                    refine (l4Abs_any _ _ (by omega) (by omega)).mono ?_
                    rintro e w1 ⟨rfl, rfl⟩
                    go_wp2_with fail
                    refine (l6Put_any m ad n cap G ⟨true, absI a, absI b⟩ _ ((unhide HD).later BZ) hnn hspot hm0 hm1 hn).mono ?_
                    rintro e w1 ⟨⟨ad', cap', rfl, hg, hn1, hs1, hx⟩, b1⟩
                    have r0 : w1.cell? ⟨w.heap.size + 1, 0, none⟩ = some (.int .i64 0) := cell_later b1 (by simp [go_sem])
                    have r1 : w1.cell? ⟨w.heap.size + 1, 1, none⟩ = some (.slice none 0 0) := cell_later b1 (by simp [go_sem])
                    have f0 : w1.frozen? ⟨w.heap.size + 1, 0, none⟩ = false := by rw [b1.frozen (by simp)]; simp [go_sem]
                    have f1 : w1.frozen? ⟨w.heap.size + 1, 1, none⟩ = false := by rw [b1.frozen (by simp)]; simp [go_sem]
                    have bl := b1.size
                    simp only [World.size_alloc] at bl hx
                    have BL := BZ.trans (b1.mono BZ.size)
                    have HA : Hid ((putR m n G ⟨true, absI a, absI b⟩).n = 0 ∨ ∀ b off, ad' = some ⟨b, off, none⟩ → b ≠ w.heap.size + 1) := by
                      rcases hx with h | rfl | ⟨b, rfl, h, _⟩
                      · exact Or.inl (hn1 h).1
                      · exact Or.inr (fun b off e => by have := hlow _ e; simp only at this; omega)
                      · exact Or.inr (fun b' off e => by cases e; omega)
                    have HX : Hid (ad' = none ∨ ad' = ad ∨ ∃ b, ad' = some ⟨b, 0, none⟩ ∧ w.heap.size ≤ b ∧ b < w1.heap.size) := by
                      rcases hx with h | h | ⟨b, h, h', h3⟩
                      · exact Or.inl h
                      · exact Or.inr (Or.inl h)
                      · exact Or.inr (Or.inr ⟨b, h, by omega, h3⟩)
                    have HG := hide hg
                    have HN1 := hide hn1
                    have HS1 := hide hs1
                    clear hg b1 BZ hx hn1 hs1
                    generalize putR m n G ⟨true, absI a, absI b⟩ = r at *
                    have bl1 : w.heap.size + 1 < w1.heap.size := by omega
                    go_wp2
                    refine bodyPost_ret (v := .tuple #[.agg #[.int .i64 r.m, .slice ad' r.n cap'], .int .i64 (r.k)]) (by simp [results, Tryd.results108, go_sem, r0, r1, bl1] <;> omega) rfl ?_
                    rw [unhide HR]
                    exact ⟨⟨ad', cap', by simp [turnR], (unhide HG).apart (unhide HA) (((Mov.set _ _ _).trans (Mov.set _ _ _)).alloc _), unhide HN1, unhide HS1, (unhide HX).imp id (Or.imp id (fun ⟨b, h1, h2, h3⟩ => ⟨b, h1, h2, by simp; omega⟩))⟩, (by repeat (first | exact Below.refl _ _ | assumption | refine below_drewN ?_ _ | refine Below.drew ?_ | refine Below.alloc ?_ (by first | exact Nat.le_refl _ | exact Below.size (by assumption) | (simp; done) | (simp; omega)) _ | refine Below.setCell ?_ (by first | exact Nat.le_refl _ | exact Below.size (by assumption) | (simp; done) | (simp; omega)) _ | refine Below.trans ?_ (by assumption)))⟩
noncomputable def netXorR (m : Int) (n : Nat) (G : Nat → Gt) (a b : Int) : NR := @ite _ (inB m n G a b) (Classical.propDecidable _) (xorR m n G a b) (nilR G)
theorem netXorR_no {m : Int} {n : Nat} {G : Nat → Gt} {a b : Int} (h : ¬ inB m n G a b) : netXorR m n G a b = nilR G := if_neg h
theorem netXorR_yes {m : Int} {n : Nat} {G : Nat → Gt} {a b : Int} (h : inB m n G a b) : netXorR m n G a b = xorR m n G a b := if_pos h
theorem xorR_n {m : Int} {n : Nat} {G : Nat → Gt} {a b : Int} (hn : n ≤ 600) (hm0 : 0 ≤ m) (hm1 : m ≤ 8) : (xorR m n G a b).n ≤ 600 := by
  unfold xorR
  split
  · exact hn
  · split
    · exact hn
    · split
      · exact hn
      · split
        · exact hn
        · exact (putR_n m n G _ hn hm0 hm1).1
end Go.Proofs.YtmpiiilkaadhfaaDoor
