/- Whether two nets are one, of the model and of the program. -/
import Derived.Test.YtbfijmijhfbkdaaGtB
namespace Go.Proofs.Ytbfijmijhfbkdaa
open Go.ChangeShapes Go.WideShapes Go.ChangeAt Go.RowKit Go.Joins
set_option linter.unusedVariables false

/-- Two nets are one. -/
noncomputable def nsB (m m' : Int) (n n' : Nat) (G G' : Nat → Gt) : Bool := m == m' && geB n n' G G'
set_option maxHeartbeats 2000000 in
theorem sNetSame_any (m m' : Int) (a c : Option Addr) (n n' cap cap' : Nat) (G G' : Nat → Gt) (w : World) (hd : GtsAt w a n G) (hd' : GtsAt w c n' G') (hn : n ≤ 1048576) (hn' : n' ≤ 1048576) :
    Calls Try.prog 24 #[.agg #[.int .i64 m, .slice a n cap], .agg #[.int .i64 m', .slice c n' cap']] w fun e w' => e = .returned (.bool (nsB m m' n n' G G')) ∧ Below w.heap.size w w' := by
  have HD := hide hd
  have HE := hide hd'
  clear hd hd'
  unfold nsB
  by_cases hm : m = m'
  · subst hm
    have kb0 : (m != m) = false := by simp
    simp only [BEq.rfl, Bool.true_and]
    by_cases hnn : n = n'
    · subst hnn
      have kb1 : ((n : Int) != (n : Int)) = false := by simp
      go_enter Try.func24, Try.ntmps24
      go_wp2
      go_loopw [5] (fun i wr => ∃ k : Nat, k ≤ n ∧ i = .int .i64 k ∧ (∀ j, j < k → G j = G' j) ∧ wr.cell? ⟨w.heap.size, 1, none⟩ = some (.slice a n cap) ∧ wr.cell? ⟨w.heap.size + 1, 1, none⟩ = some (.slice c n cap') ∧ Below w.heap.size w wr) (fun i _ => n - (intOf i).toNat)
      case atStart => exact ⟨0, by omega, rfl, fun j hj => by omega, by simp [go_sem], by simp [go_sem], (by repeat (first | exact Below.refl _ _ | assumption | refine below_drewN ?_ _ | refine Below.drew ?_ | refine Below.alloc ?_ (by first | exact Nat.le_refl _ | exact Below.size (by assumption) | (simp; done) | (simp; omega)) _ | refine Below.setCell ?_ (by first | exact Nat.le_refl _ | exact Below.size (by assumption) | (simp; done) | (simp; omega)) _ | refine Below.trans ?_ (by assumption)))⟩
      case round =>
        obtain ⟨k, hk, rfl, hok, p1, q1, hbel⟩ := hrel
        have HK := hide hok
        clear hok
        by_cases hlt : k < n
        · obtain ⟨b, off, rfl, hb, hd⟩ := (unhide HD).ok hlt
          obtain ⟨c, off', rfl, hc, hd'⟩ := (unhide HE).ok hlt
          obtain ⟨c0, c1, c2⟩ := hd k hlt
          obtain ⟨e0, e1, e2⟩ := hd' k hlt
          have d0 := (hbel.cell (p := ⟨b, off + k * 3, none⟩) hb).trans c0
          have d1 := (hbel.cell (p := ⟨b, off + k * 3 + 1, none⟩) hb).trans c1
          have d2 := (hbel.cell (p := ⟨b, off + k * 3 + 2, none⟩) hb).trans c2
          have g0 := (hbel.cell (p := ⟨c, off' + k * 3, none⟩) hc).trans e0
          have g1 := (hbel.cell (p := ⟨c, off' + k * 3 + 1, none⟩) hc).trans e1
          have g2 := (hbel.cell (p := ⟨c, off' + k * 3 + 2, none⟩) hc).trans e2
          clear c0 c1 c2 e0 e1 e2 hd hd'
          have hne := eqGate_neq (G k) (G' k)
          by_cases he : G k = G' k
          · have HK1 : Hid (∀ j, j < k + 1 → G j = G' j) := fun j hj => by
              by_cases e : j = k
              · subst e; exact he
              · exact unhide HK j (by omega)
            rw [geq_iff.2 he] at hne
            clear he
            go_wp2
            go_region
            all_goals go_wp2
            all_goals go_roundw
            all_goals first | exact ⟨k + 1, by omega, by go_num, unhide HK1, p1, q1, (by first | exact hbel | exact hbel.drew)⟩ | (simp [intOf]; omega)
          · have HN := hide (geB_no (l := n) (l' := n) (G := G) (G' := G') (fun h => he (h.2 k hlt)))
            rw [geq_no.2 he] at hne
            clear he
            go_wp2
            go_region
            all_goals go_wp2
            all_goals rw [unhide HN]
            all_goals go_ret
            all_goals exact ⟨rfl, (by first | exact hbel | exact hbel.drew)⟩
        · have e : k = n := by omega
          subst e
          have HN := hide (geB_yes (l := k) (l' := k) (G := G) (G' := G') ⟨rfl, unhide HK⟩)
          go_wp2
          rw [unhide HN]
          go_ret
          exact ⟨rfl, hbel⟩
    · have HN := hide (geB_no (l := n) (l' := n') (G := G) (G' := G') (fun h => hnn h.1))
      have kb : ((n : Int) != (n' : Int)) = true := by simp; omega
      go_enter Try.func24, Try.ntmps24
      go_wp2
      rw [unhide HN]
      go_ret
      exact ⟨rfl, (by repeat (first | exact Below.refl _ _ | assumption | refine below_drewN ?_ _ | refine Below.drew ?_ | refine Below.alloc ?_ (by first | exact Nat.le_refl _ | exact Below.size (by assumption) | (simp; done) | (simp; omega)) _ | refine Below.setCell ?_ (by first | exact Nat.le_refl _ | exact Below.size (by assumption) | (simp; done) | (simp; omega)) _ | refine Below.trans ?_ (by assumption)))⟩
  · have kb : (m != m') = true := by simp [hm]
    have kc : (m == m') = false := by simp [hm]
    rw [kc, Bool.false_and]
    clear kc
    go_enter Try.func24, Try.ntmps24
    go_wp2
    go_ret
    exact ⟨rfl, (by repeat (first | exact Below.refl _ _ | assumption | refine below_drewN ?_ _ | refine Below.drew ?_ | refine Below.alloc ?_ (by first | exact Nat.le_refl _ | exact Below.size (by assumption) | (simp; done) | (simp; omega)) _ | refine Below.setCell ?_ (by first | exact Nat.le_refl _ | exact Below.size (by assumption) | (simp; done) | (simp; omega)) _ | refine Below.trans ?_ (by assumption)))⟩
set_option maxHeartbeats 1000000 in
theorem iNetSame_any (m m' : Int) (a c : Option Addr) (n n' cap cap' : Nat) (G G' : Nat → Gt) (w : World) (hd : GtsAt w a n G) (hd' : GtsAt w c n' G') (hn : n ≤ 1048576) (hn' : n' ≤ 1048576) :
    Calls Try.prog 20 #[.agg #[.int .i64 m, .slice a n cap], .agg #[.int .i64 m', .slice c n' cap']] w fun e w' => e = .returned (.bool (nsB m m' n n' G G')) ∧ Below w.heap.size w w' := by
  have HD := hide hd
  have HE := hide hd'
  clear hd hd'
  unfold nsB
  by_cases hm : m = m'
  · subst hm
    have kb0 : (m == m) = true := by simp
    simp only [BEq.rfl, Bool.true_and]
    go_enter Try.func20, Try.ntmps20
    go_wp2_with fail
    obtain ⟨wz, hwz⟩ : ∃ wz, wz = (w.alloc (.cells #[.int .i64 m, .slice a n cap] 25)).alloc (.cells #[.int .i64 m, .slice c n' cap'] 25) := ⟨_, rfl⟩
    have BZ : Below w.heap.size w wz := by rw [hwz]; exact ((Below.refl _ _).alloc (Nat.le_refl _) _).alloc (by simp) _
    rw [← hwz]
    refine (gequal_any _ _ _ _ _ _ _ _ wz ((unhide HD).later BZ) ((unhide HE).later BZ) hn hn').mono ?_
    rintro e wq ⟨rfl, bq⟩
    go_wp2
    go_ret
    exact ⟨rfl, BZ.trans (bq.mono BZ.size)⟩
  · have kc : (m == m') = false := by simp [hm]
    rw [kc, Bool.false_and]
    go_enter Try.func20, Try.ntmps20
    go_wp2
    go_ret
    exact ⟨rfl, (by repeat (first | exact Below.refl _ _ | assumption | refine below_drewN ?_ _ | refine Below.drew ?_ | refine Below.alloc ?_ (by first | exact Nat.le_refl _ | exact Below.size (by assumption) | (simp; done) | (simp; omega)) _ | refine Below.setCell ?_ (by first | exact Nat.le_refl _ | exact Below.size (by assumption) | (simp; done) | (simp; omega)) _ | refine Below.trans ?_ (by assumption)))⟩
end Go.Proofs.Ytbfijmijhfbkdaa
