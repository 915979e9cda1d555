/- Whether two terms are one, of the model. -/
import Derived.Test.YtbcojkadfbpmgaaSamM
namespace Go.Proofs.Ytbcojkadfbpmgaa
open Go.ChangeShapes Go.WideShapes Go.ChangeAt Go.RowKit Go.Joins
set_option linter.unusedVariables false

set_option maxHeartbeats 8000000 in
theorem sSame_any (hi : Nat) (t : TT) : ∀ (u : TT) (ad ad' : Option Addr) (cp cp' : Nat) (w : World), t.In w 0 hi ad → u.In w 0 hi ad' → t.Fit 1048576 → hi ≤ w.heap.size →
    Calls Try.prog 29 #[.agg #[.int .i64 t.op, .int .i64 t.a, .int .i64 t.b, .string t.s, .slice ad t.n cp], .agg #[.int .i64 u.op, .int .i64 u.a, .int .i64 u.b, .string u.s, .slice ad' u.n cp']] w fun e w' => e = .returned (.bool (sameB t u)) ∧ Below w.heap.size w w' := by
  induction t with
  | nil => intro u ad ad' cp cp' w hin; exact hin.elim
  | node op a b s n kid ih =>
    intro u ad ad' cp cp' w hin hin' hft hhi
    cases u with
    | nil => exact hin'.elim
    | node op' a' b' s' n' kid' =>
    show Calls Try.prog 29 #[.agg #[.int .i64 op, .int .i64 a, .int .i64 b, .string s, .slice ad n cp], .agg #[.int .i64 op', .int .i64 a', .int .i64 b', .string s', .slice ad' n' cp']] w _
    obtain ⟨fn, fs, fk⟩ := hft
    have SI := hide (same_iff (TT.node op a b s n kid) (TT.node op' a' b' s' n' kid'))
    by_cases h1 : op = op'
    · have k1 : (op != op') = false := by simp [h1]
      by_cases h2 : a = a'
      · have k2 : (a != a') = false := by simp [h2]
        by_cases h3 : b = b'
        · have k3 : (b != b') = false := by simp [h3]
          by_cases h4 : s.toList = s'.toList
          · have k4 : (s.toList == s'.toList) = true := by simp [h4]
            by_cases h5 : n = n'
            · subst h5
              have k5 : ((n : Int) != (n : Int)) = false := by simp
              have SI' : Hid (sameB (TT.node op a b s n kid) (TT.node op' a' b' s' n kid') = true ↔ LSame (TT.node op a b s n kid) (TT.node op' a' b' s' n kid')) := by
                show _ ↔ _
                rw [sameB_iff, unhide SI]
                exact ⟨fun h => h.2.2.2.2.2, fun h => ⟨h1, h2, h3, h4, rfl, h⟩⟩
              clear h1 h2 h3 h4 SI
              have IH := hide ih
              have FK := hide fk
              clear ih fk
              go_enter Try.func29, Try.ntmps29
              go_wp2
              have e1 : Below w.heap.size w ((w.alloc (.cells #[.int .i64 op, .int .i64 a, .int .i64 b, .string s, .slice ad n cp] 51)).alloc (.cells #[.int .i64 op', .int .i64 a', .int .i64 b', .string s', .slice ad' n cp'] 51)) := ((Below.refl w.heap.size w).alloc (by simp <;> omega) _).alloc (by simp <;> omega) _
              obtain ⟨A1, hA1⟩ : ∃ x, x = w.heap.size := ⟨_, rfl⟩
              obtain ⟨A2, hA2⟩ : ∃ x, x = w.heap.size + 1 := ⟨_, rfl⟩
              rw [← hA2, ← hA1]
              have HA1 := hide hA1
              have HA2 := hide hA2
              clear hA1 hA2
              go_loopw [5] (fun i wr => ∃ k : Nat, k ≤ n ∧ i = .int .i64 k ∧ (∀ j, j < k → (kid j).Same (kid' j)) ∧ wr.cell? ⟨A1, 4, none⟩ = some (.slice ad n cp) ∧ wr.cell? ⟨A2, 4, none⟩ = some (.slice ad' n cp') ∧ Below w.heap.size w wr) (fun i _ => n - (intOf i).toNat)
              case atStart => exact ⟨0, by omega, rfl, fun j hj => by omega, by rw [unhide HA1]; simp [go_sem], by rw [unhide HA2]; simp [go_sem], e1⟩
              case round =>
                obtain ⟨k, hk, rfl, hsm, c4, d4, hbel⟩ := hrel
                have HK := hide hsm
                clear hsm e1
                by_cases hlt : k < n
                · rcases hin with hin | ⟨bl, off, rfl, hlo, hbl, AD, CP, hd⟩
                  · omega
                  rcases hin' with hin' | ⟨bl', off', rfl, hlo', hbl', AD', CP', hd'⟩
                  · omega
                  obtain ⟨h5, hcp, hi1⟩ := hd k hlt
                  obtain ⟨h5', hcp', hi2⟩ := hd' k hlt
                  have c := h5.keep (w' := wr) (fun o => hbel.cell (p := ⟨bl, o, none⟩) (Nat.lt_of_lt_of_le hbl hhi))
                  have d := h5'.keep (w' := wr) (fun o => hbel.cell (p := ⟨bl', o, none⟩) (Nat.lt_of_lt_of_le hbl' hhi))
                  have H1 := hide (hi1.later (hbel.mono hhi))
                  have H2 := hide (hi2.later (hbel.mono hhi))
                  have lb := Nat.lt_of_lt_of_le (Nat.lt_of_lt_of_le hbl hhi) hbel.size
                  have lb' := Nat.lt_of_lt_of_le (Nat.lt_of_lt_of_le hbl' hhi) hbel.size
                  have HD := hide hd
                  have HD' := hide hd'
                  have la := World.block_lt_of_cell? _ _ c4
                  have lb2 := World.block_lt_of_cell? _ _ d4
                  clear hi1 hi2 h5 h5' hd hd'
                  cases hv : sameB (kid k) (kid' k)
                  · have HN : Hid (sameB (TT.node op a b s n kid) (TT.node op' a' b' s' n kid') = false) := by
                      show _ = _
                      cases hx : sameB (TT.node op a b s n kid) (TT.node op' a' b' s' n kid')
                      · rfl
                      · have : (kid k).Same (kid' k) := (unhide SI').1 hx k hlt
                        rw [sameB_yes this] at hv
                        cases hv
                    obtain ⟨c0, c1, c2, c3, c5⟩ := id c
                    obtain ⟨d0, d1, d2, d3, d5⟩ := id d
                    go_wp2
                    go_region_held3 (fun w' => w'.cell? ⟨A1, 4, none⟩ = some (.slice (some ⟨bl, off, none⟩) n cp) ∧ w'.cell? ⟨A2, 4, none⟩ = some (.slice (some ⟨bl', off', none⟩) n cp') ∧ w'.cell? ⟨bl, off + k * 5, none⟩ = some (.int .i64 (kid k).op) ∧ w'.cell? ⟨bl, off + k * 5 + 1, none⟩ = some (.int .i64 (kid k).a) ∧ w'.cell? ⟨bl, off + k * 5 + 2, none⟩ = some (.int .i64 (kid k).b) ∧ w'.cell? ⟨bl, off + k * 5 + 3, none⟩ = some (.string (kid k).s) ∧ w'.cell? ⟨bl, off + k * 5 + 4, none⟩ = some (.slice (AD k) (kid k).n (CP k)) ∧ w'.cell? ⟨bl', off' + k * 5, none⟩ = some (.int .i64 (kid' k).op) ∧ w'.cell? ⟨bl', off' + k * 5 + 1, none⟩ = some (.int .i64 (kid' k).a) ∧ w'.cell? ⟨bl', off' + k * 5 + 2, none⟩ = some (.int .i64 (kid' k).b) ∧ w'.cell? ⟨bl', off' + k * 5 + 3, none⟩ = some (.string (kid' k).s) ∧ w'.cell? ⟨bl', off' + k * 5 + 4, none⟩ = some (.slice (AD' k) (kid' k).n (CP' k))) (first | go_keep | exact ⟨c4, d4, c.1, c.2.1, c.2.2.1, c.2.2.2.1, c.2.2.2.2, d.1, d.2.1, d.2.2.1, d.2.2.2.1, d.2.2.2.2⟩ | (refine ⟨?_, ?_, ?_, ?_, ?_, ?_, ?_, ?_, ?_, ?_, ?_, ?_⟩ <;> assumption))
                      (first | (go_at_call 29; refine (unhide IH k _ _ _ _ _ _ (by first | exact unhide H1 | exact (unhide H1).drew) (by first | exact unhide H2 | exact (unhide H2).drew) (unhide FK k hlt) (by exact Nat.le_trans hhi hbel.size)).mono ?_; rintro e wq ⟨rfl, bq⟩; have BL := (by first | exact hbel.trans (bq.mono hbel.size) | exact hbel.drew.trans (bq.mono hbel.size)); have c4 : wq.cell? ⟨A1, 4, none⟩ = some (.slice (some ⟨bl, off, none⟩) n cp) := cell_later bq (by exact c4); have d4 : wq.cell? ⟨A2, 4, none⟩ = some (.slice (some ⟨bl', off', none⟩) n cp') := cell_later bq (by exact d4); have c := c.keep (w' := wq) (fun o => bq.cell (p := ⟨bl, o, none⟩) lb); have d := d.keep (w' := wq) (fun o => bq.cell (p := ⟨bl', o, none⟩) lb'); obtain ⟨c0, c1, c2, c3, c5⟩ := id c; obtain ⟨d0, d1, d2, d3, d5⟩ := id d))
                    all_goals go_wp2
                    all_goals rw [unhide HN]
                    all_goals go_ret
                    all_goals exact ⟨rfl, (by first | exact BL | exact BL.drew)⟩
                  · have HK1 : Hid (∀ j, j < k + 1 → (kid j).Same (kid' j)) := fun j hj => by
                      by_cases e : j = k
                      · subst e; exact (sameB_iff _ _).1 hv
                      · exact unhide HK j (by omega)
                    obtain ⟨c0, c1, c2, c3, c5⟩ := id c
                    obtain ⟨d0, d1, d2, d3, d5⟩ := id d
                    go_wp2
                    go_region_held3 (fun w' => w'.cell? ⟨A1, 4, none⟩ = some (.slice (some ⟨bl, off, none⟩) n cp) ∧ w'.cell? ⟨A2, 4, none⟩ = some (.slice (some ⟨bl', off', none⟩) n cp') ∧ w'.cell? ⟨bl, off + k * 5, none⟩ = some (.int .i64 (kid k).op) ∧ w'.cell? ⟨bl, off + k * 5 + 1, none⟩ = some (.int .i64 (kid k).a) ∧ w'.cell? ⟨bl, off + k * 5 + 2, none⟩ = some (.int .i64 (kid k).b) ∧ w'.cell? ⟨bl, off + k * 5 + 3, none⟩ = some (.string (kid k).s) ∧ w'.cell? ⟨bl, off + k * 5 + 4, none⟩ = some (.slice (AD k) (kid k).n (CP k)) ∧ w'.cell? ⟨bl', off' + k * 5, none⟩ = some (.int .i64 (kid' k).op) ∧ w'.cell? ⟨bl', off' + k * 5 + 1, none⟩ = some (.int .i64 (kid' k).a) ∧ w'.cell? ⟨bl', off' + k * 5 + 2, none⟩ = some (.int .i64 (kid' k).b) ∧ w'.cell? ⟨bl', off' + k * 5 + 3, none⟩ = some (.string (kid' k).s) ∧ w'.cell? ⟨bl', off' + k * 5 + 4, none⟩ = some (.slice (AD' k) (kid' k).n (CP' k))) (first | go_keep | exact ⟨c4, d4, c.1, c.2.1, c.2.2.1, c.2.2.2.1, c.2.2.2.2, d.1, d.2.1, d.2.2.1, d.2.2.2.1, d.2.2.2.2⟩ | (refine ⟨?_, ?_, ?_, ?_, ?_, ?_, ?_, ?_, ?_, ?_, ?_, ?_⟩ <;> assumption))
                      (first | (go_at_call 29; refine (unhide IH k _ _ _ _ _ _ (by first | exact unhide H1 | exact (unhide H1).drew) (by first | exact unhide H2 | exact (unhide H2).drew) (unhide FK k hlt) (by exact Nat.le_trans hhi hbel.size)).mono ?_; rintro e wq ⟨rfl, bq⟩; have BL := (by first | exact hbel.trans (bq.mono hbel.size) | exact hbel.drew.trans (bq.mono hbel.size)); have c4 : wq.cell? ⟨A1, 4, none⟩ = some (.slice (some ⟨bl, off, none⟩) n cp) := cell_later bq (by exact c4); have d4 : wq.cell? ⟨A2, 4, none⟩ = some (.slice (some ⟨bl', off', none⟩) n cp') := cell_later bq (by exact d4); have c := c.keep (w' := wq) (fun o => bq.cell (p := ⟨bl, o, none⟩) lb); have d := d.keep (w' := wq) (fun o => bq.cell (p := ⟨bl', o, none⟩) lb'); obtain ⟨c0, c1, c2, c3, c5⟩ := id c; obtain ⟨d0, d1, d2, d3, d5⟩ := id d))
                    all_goals go_wp2
                    all_goals go_roundw
                    all_goals first | exact ⟨k + 1, by omega, by go_num, unhide HK1, (by exact c4), (by exact d4), (by first | exact BL | exact BL.drew)⟩ | (simp [intOf]; omega)
                · have e : k = n := by omega
                  subst e
                  have HN := hide ((unhide SI').2 (unhide HK))
                  go_wp2
                  rw [unhide HN]
                  go_ret
                  exact ⟨rfl, hbel⟩
            · have k5 : ((n : Int) != (n' : Int)) = true := by simp; omega
              have HN := hide (sameB_no (fun h => h5 ((unhide SI).1 h).2.2.2.2.1))
              clear h1 h2 h3 h4 ih fk
              go_enter Try.func29, Try.ntmps29
              go_wp2
              rw [unhide HN]
              go_ret
              exact ⟨rfl, (by repeat (first | exact Below.refl _ _ | assumption | refine below_drewN ?_ _ | refine Below.drew ?_ | refine Below.alloc ?_ (by first | exact Nat.le_refl _ | exact Below.size (by assumption) | (simp; done) | (simp; omega)) _ | refine Below.setCell ?_ (by first | exact Nat.le_refl _ | exact Below.size (by assumption) | (simp; done) | (simp; omega)) _ | refine Below.trans ?_ (by assumption)))⟩
          · have k4 : (s.toList == s'.toList) = false := by simp [h4]
            have HN := hide (sameB_no (fun h => h4 ((unhide SI).1 h).2.2.2.1))
            clear h1 h2 h3 h4 ih fk
            go_enter Try.func29, Try.ntmps29
            go_wp2
            rw [unhide HN]
            go_ret
            exact ⟨rfl, (by repeat (first | exact Below.refl _ _ | assumption | refine below_drewN ?_ _ | refine Below.drew ?_ | refine Below.alloc ?_ (by first | exact Nat.le_refl _ | exact Below.size (by assumption) | (simp; done) | (simp; omega)) _ | refine Below.setCell ?_ (by first | exact Nat.le_refl _ | exact Below.size (by assumption) | (simp; done) | (simp; omega)) _ | refine Below.trans ?_ (by assumption)))⟩
        · have k3 : (b != b') = true := by simp [h3]
          have HN := hide (sameB_no (fun h => h3 ((unhide SI).1 h).2.2.1))
          clear h1 h2 h3 ih fk
          go_enter Try.func29, Try.ntmps29
          go_wp2
          rw [unhide HN]
          go_ret
          exact ⟨rfl, (by repeat (first | exact Below.refl _ _ | assumption | refine below_drewN ?_ _ | refine Below.drew ?_ | refine Below.alloc ?_ (by first | exact Nat.le_refl _ | exact Below.size (by assumption) | (simp; done) | (simp; omega)) _ | refine Below.setCell ?_ (by first | exact Nat.le_refl _ | exact Below.size (by assumption) | (simp; done) | (simp; omega)) _ | refine Below.trans ?_ (by assumption)))⟩
      · have k2 : (a != a') = true := by simp [h2]
        have HN := hide (sameB_no (fun h => h2 ((unhide SI).1 h).2.1))
        clear h1 h2 ih fk
        go_enter Try.func29, Try.ntmps29
        go_wp2
        rw [unhide HN]
        go_ret
        exact ⟨rfl, (by repeat (first | exact Below.refl _ _ | assumption | refine below_drewN ?_ _ | refine Below.drew ?_ | refine Below.alloc ?_ (by first | exact Nat.le_refl _ | exact Below.size (by assumption) | (simp; done) | (simp; omega)) _ | refine Below.setCell ?_ (by first | exact Nat.le_refl _ | exact Below.size (by assumption) | (simp; done) | (simp; omega)) _ | refine Below.trans ?_ (by assumption)))⟩
    · have k1 : (op != op') = true := by simp [h1]
      have HN := hide (sameB_no (fun h => h1 ((unhide SI).1 h).1))
      clear h1 ih fk
      go_enter Try.func29, Try.ntmps29
      go_wp2
      rw [unhide HN]
      go_ret
      exact ⟨rfl, (by repeat (first | exact Below.refl _ _ | assumption | refine below_drewN ?_ _ | refine Below.drew ?_ | refine Below.alloc ?_ (by first | exact Nat.le_refl _ | exact Below.size (by assumption) | (simp; done) | (simp; omega)) _ | refine Below.setCell ?_ (by first | exact Nat.le_refl _ | exact Below.size (by assumption) | (simp; done) | (simp; omega)) _ | refine Below.trans ?_ (by assumption)))⟩
end Go.Proofs.Ytbcojkadfbpmgaa
