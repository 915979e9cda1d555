/- Which nets are right, of the program. -/
import Derived.Test.YtmpiiilkaadhfaaDoorNokB
import Derived.Carry
namespace Go.Proofs.YtmpiiilkaadhfaaDoor
open Go.ChangeShapes Go.WideShapes Go.ChangeAt Go.RowKit Go.Joins
set_option linter.unusedVariables false
set_option maxRecDepth 100000
set_option linter.unusedSimpArgs false

theorem bare_may {own p q : Int} (hp : W64 p) (hq : W64 q) (ho : own ≤ 1000) : (2 ≤ bareI p ∧ bareI p < bareI q ∧ bareI q < own) ↔ 2 ≤ absI p ∧ absI p < absI q ∧ absI q < own := by
  unfold W64 at hp hq
  unfold bareI absI
  by_cases h1 : p < 0
  · by_cases h2 : p = -9223372036854775808
    · by_cases h3 : q < 0
      · by_cases h4 : q = -9223372036854775808
        · simp only [h1, h2, h3, h4, if_true]; omega
        · simp only [h1, h2, h3, h4, if_true, if_false]; omega
      · simp only [h1, h2, h3, if_true, if_false]; omega
    · by_cases h3 : q < 0
      · by_cases h4 : q = -9223372036854775808
        · simp only [h1, h2, h3, h4, if_true, if_false]; omega
        · simp only [h1, h2, h3, h4, if_true, if_false]
      · simp only [h1, h2, h3, if_true, if_false]
  · by_cases h3 : q < 0
    · by_cases h4 : q = -9223372036854775808
      · simp only [h1, h3, h4, if_true, if_false]; omega
      · simp only [h1, h3, h4, if_true, if_false]
    · simp only [h1, h3, if_false]
set_option maxRecDepth 100000 in
set_option maxHeartbeats 2000000 in
theorem mayTell_any (own : Int) (x : Bool) (p q : Int) (w : World) (hp : W64 p) (hq : W64 q) (ho : own ≤ 1000) :
    Calls Tryd.prog 96 #[.int .i64 own, .agg #[.bool x, .int .i64 p, .int .i64 q]] w fun e w' => e = .returned (.bool (gmB own ⟨x, p, q⟩)) ∧ Below w.heap.size w w' := by
  have HM := hide (bare_may hp hq ho)
  by_cases c : x = true ∧ (p < 0 ∨ q < 0)
  · have e : gmB own ⟨x, p, q⟩ = false := gmB_no (fun h => by have := h.2.2.2 c.1; simp at this; omega)
    rw [e]
    clear e
    obtain ⟨rfl, c⟩ := c
    by_cases c8 : p < 0
    · go_enter Tryd.func96, Tryd.ntmps96
      go_wp2
      go_quiet (fail)
      go_wp2
      go_ret
      exact ⟨rfl, (by repeat (first | exact Below.refl _ _ | assumption | refine below_drewN ?_ _ | refine Below.drew ?_ | refine Below.alloc ?_ (by first | exact Nat.le_refl _ | exact Below.size (by assumption) | (simp; done) | (simp; omega)) _ | refine Below.setCell ?_ (by first | exact Nat.le_refl _ | exact Below.size (by assumption) | (simp; done) | (simp; omega)) _ | refine Below.trans ?_ (by assumption)))⟩
    · have c9 : q < 0 := by omega
      go_enter Tryd.func96, Tryd.ntmps96
      go_wp2
      go_quiet (fail)
      go_wp2
      go_ret
      exact ⟨rfl, (by repeat (first | exact Below.refl _ _ | assumption | refine below_drewN ?_ _ | refine Below.drew ?_ | refine Below.alloc ?_ (by first | exact Nat.le_refl _ | exact Below.size (by assumption) | (simp; done) | (simp; omega)) _ | refine Below.setCell ?_ (by first | exact Nat.le_refl _ | exact Below.size (by assumption) | (simp; done) | (simp; omega)) _ | refine Below.trans ?_ (by assumption)))⟩
  · have c8 : x = false ∨ x = true ∧ ¬ p < 0 ∧ ¬ q < 0 := by cases x <;> simp at * <;> omega
    have HE : Hid (gmB own ⟨x, p, q⟩ = (decide (2 ≤ bareI p) && (decide (bareI p < bareI q) && decide (bareI q < own)))) := by
      rw [Bool.eq_iff_iff, gmB_iff]
      have := unhide HM
      simp only [Bool.and_eq_true, decide_eq_true_eq]
      rw [this]
      exact ⟨fun h => ⟨h.1, h.2.1, h.2.2.1⟩, fun h => ⟨h.1, h.2.1, h.2.2, fun hx => by simp at *; have := c hx; omega⟩⟩
    clear c
    by_cases h1 : 2 ≤ bareI p
    · by_cases h2 : bareI p < bareI q
      · rcases c8 with rfl | ⟨rfl, c8, c9⟩
        all_goals
          go_enter Tryd.func96, Tryd.ntmps96
          go_wp2
          go_quiet (fail)
          go_wp2_with fail
          refine (bare_any _ _ hp).mono ?_
          rintro e w1 ⟨rfl, rfl⟩
          go_wp2_with fail
          refine (bare_any _ _ hq).mono ?_
          rintro e w1 ⟨rfl, rfl⟩
          go_wp2_with fail
          refine (bare_any _ _ hp).mono ?_
          rintro e w1 ⟨rfl, rfl⟩
          go_wp2_with fail
          refine (bare_any _ _ hq).mono ?_
          rintro e w1 ⟨rfl, rfl⟩
          go_wp2
          go_ret
          refine ⟨ret_bool ?_, (by repeat (first | exact Below.refl _ _ | assumption | refine below_drewN ?_ _ | refine Below.drew ?_ | refine Below.alloc ?_ (by first | exact Nat.le_refl _ | exact Below.size (by assumption) | (simp; done) | (simp; omega)) _ | refine Below.setCell ?_ (by first | exact Nat.le_refl _ | exact Below.size (by assumption) | (simp; done) | (simp; omega)) _ | refine Below.trans ?_ (by assumption)))⟩
          rw [unhide HE]; simp [h1, h2]
      · rcases c8 with rfl | ⟨rfl, c8, c9⟩
        all_goals
          go_enter Tryd.func96, Tryd.ntmps96
          go_wp2
          go_quiet (fail)
          go_wp2_with fail
          refine (bare_any _ _ hp).mono ?_
          rintro e w1 ⟨rfl, rfl⟩
          go_wp2_with fail
          refine (bare_any _ _ hq).mono ?_
          rintro e w1 ⟨rfl, rfl⟩
          go_wp2_with fail
          refine (bare_any _ _ hp).mono ?_
          rintro e w1 ⟨rfl, rfl⟩
          go_wp2
          go_ret
          exact ⟨ret_bool (by rw [unhide HE]; simp; omega), (by repeat (first | exact Below.refl _ _ | assumption | refine below_drewN ?_ _ | refine Below.drew ?_ | refine Below.alloc ?_ (by first | exact Nat.le_refl _ | exact Below.size (by assumption) | (simp; done) | (simp; omega)) _ | refine Below.setCell ?_ (by first | exact Nat.le_refl _ | exact Below.size (by assumption) | (simp; done) | (simp; omega)) _ | refine Below.trans ?_ (by assumption)))⟩
    · rcases c8 with rfl | ⟨rfl, c8, c9⟩
      all_goals
        go_enter Tryd.func96, Tryd.ntmps96
        go_wp2
        go_quiet (fail)
        go_wp2_with fail
        refine (bare_any _ _ hp).mono ?_
        rintro e w1 ⟨rfl, rfl⟩
        go_wp2
        go_ret
        exact ⟨ret_bool (by rw [unhide HE]; simp; omega), (by repeat (first | exact Below.refl _ _ | assumption | refine below_drewN ?_ _ | refine Below.drew ?_ | refine Below.alloc ?_ (by first | exact Nat.le_refl _ | exact Below.size (by assumption) | (simp; done) | (simp; omega)) _ | refine Below.setCell ?_ (by first | exact Nat.le_refl _ | exact Below.size (by assumption) | (simp; done) | (simp; omega)) _ | refine Below.trans ?_ (by assumption)))⟩
set_option maxRecDepth 100000 in
set_option maxHeartbeats 400000 in
theorem firstGate_any (m : Int) (a : Option Addr) (n cap : Nat) (w : World) (hm0 : 0 ≤ m) (hm1 : m ≤ 8) :
    Calls Tryd.prog 44 #[.agg #[.int .i64 m, .slice a n cap]] w fun e w' => e = .returned (.int .i64 (2 + m)) ∧ Below w.heap.size w w' := by
  go_enter Tryd.func44, Tryd.ntmps44
  go_wp2
  go_ret
  exact ⟨rfl, (by repeat (first | exact Below.refl _ _ | assumption | refine below_drewN ?_ _ | refine Below.drew ?_ | refine Below.alloc ?_ (by first | exact Nat.le_refl _ | exact Below.size (by assumption) | (simp; done) | (simp; omega)) _ | refine Below.setCell ?_ (by first | exact Nat.le_refl _ | exact Below.size (by assumption) | (simp; done) | (simp; omega)) _ | refine Below.trans ?_ (by assumption)))⟩
set_option maxRecDepth 100000 in
set_option maxHeartbeats 4000000 in
theorem gateTable_any (m : Int) (a : Option Addr) (n cap : Nat) (G : Nat → Gt) (w : World) (hd : GtsAt w a n G) (hw : WG n G) (hn : n ≤ 1048576) :
    Calls Tryd.prog 74 #[.agg #[.int .i64 m, .slice a n cap]] w fun e w' => (NetP m n G ∧ (∃ B, e = .returned (.tuple #[.map (some B), .bool true]) ∧ w.heap.size ≤ B ∧ Tab w' B n G m) ∨ ¬ NetP m n G ∧ e = .returned (.tuple #[.map none, .bool false])) ∧ Below w.heap.size w w' := by
  have hmm := @run_makeMap Tryd.prog
  have HD := hide hd
  have HW := hide hw
  clear hd hw
  by_cases h1 : m < 0
  · go_enter Tryd.func74, Tryd.ntmps74
    go_wp2
    go_ret2
    exact ⟨Or.inr ⟨fun h => by have := h.1; omega, rfl⟩, (by repeat (first | exact Below.refl _ _ | assumption | refine below_drewN ?_ _ | refine Below.drew ?_ | refine Below.alloc ?_ (by first | exact Nat.le_refl _ | exact Below.size (by assumption) | (simp; done) | (simp; omega)) _ | refine Below.setCell ?_ (by first | exact Nat.le_refl _ | exact Below.size (by assumption) | (simp; done) | (simp; omega)) _ | refine Below.trans ?_ (by assumption)))⟩
  · by_cases h2 : 8 < m
    · go_enter Tryd.func74, Tryd.ntmps74
      go_wp2
      go_ret2
      exact ⟨Or.inr ⟨fun h => by have := h.2.1; omega, rfl⟩, (by repeat (first | exact Below.refl _ _ | assumption | refine below_drewN ?_ _ | refine Below.drew ?_ | refine Below.alloc ?_ (by first | exact Nat.le_refl _ | exact Below.size (by assumption) | (simp; done) | (simp; omega)) _ | refine Below.setCell ?_ (by first | exact Nat.le_refl _ | exact Below.size (by assumption) | (simp; done) | (simp; omega)) _ | refine Below.trans ?_ (by assumption)))⟩
    · by_cases h3 : 600 < n
      · go_enter Tryd.func74, Tryd.ntmps74
        go_wp2
        go_ret2
        exact ⟨Or.inr ⟨fun h => by have := h.2.2.1; omega, rfl⟩, (by repeat (first | exact Below.refl _ _ | assumption | refine below_drewN ?_ _ | refine Below.drew ?_ | refine Below.alloc ?_ (by first | exact Nat.le_refl _ | exact Below.size (by assumption) | (simp; done) | (simp; omega)) _ | refine Below.setCell ?_ (by first | exact Nat.le_refl _ | exact Below.size (by assumption) | (simp; done) | (simp; omega)) _ | refine Below.trans ?_ (by assumption)))⟩
      · go_enter Tryd.func74, Tryd.ntmps74
        go_wp2
        go_loopw [26] (fun i wr => ∃ j : Nat, j ≤ n ∧ i = .int .i64 j ∧ (∀ i, i < j → GateP m G i) ∧ NBox wr w.heap.size m a n cap ∧ Tab wr (w.heap.size + 1) j G m ∧ Below w.heap.size w wr) (fun i _ => n - (intOf i).toNat)
        case atStart =>
          refine ⟨0, by omega, rfl, fun i hi => by omega, ⟨by simp [go_sem], by simp [go_sem]⟩, ?_, (by repeat (first | exact Below.refl _ _ | assumption | refine below_drewN ?_ _ | refine Below.drew ?_ | refine Below.alloc ?_ (by first | exact Nat.le_refl _ | exact Below.size (by assumption) | (simp; done) | (simp; omega)) _ | refine Below.setCell ?_ (by first | exact Nat.le_refl _ | exact Below.size (by assumption) | (simp; done) | (simp; omega)) _ | refine Below.trans ?_ (by assumption)))⟩
          have := Tab.new (w.alloc (.cells #[.int .i64 m, .slice a n cap] 25)) G m
          simpa using this
        case round =>
          obtain ⟨j, hj, rfl, hok, ⟨p0, p1⟩, hT, hbel⟩ := hrel
          have HK := hide hok
          have HT := hide hT
          clear hok hT
          by_cases hlt : j < n
          · obtain ⟨b, off, rfl, hb, hd⟩ := (unhide HD).ok hlt
            obtain ⟨c0, c1, c2⟩ := hd j hlt
            have d0 := (hbel.cell (p := ⟨b, off + j * 3, none⟩) hb).trans c0
            have d1 := (hbel.cell (p := ⟨b, off + j * 3 + 1, none⟩) hb).trans c1
            have d2 := (hbel.cell (p := ⟨b, off + j * 3 + 2, none⟩) hb).trans c2
            clear c0 c1 c2 hd
            obtain ⟨wa, wb⟩ := unhide HW j hlt
            have hwl : w.heap.size < wr.heap.size := World.block_lt_of_cell? _ _ p0
            go_wp2_with fail
            obtain ⟨wz, hwz⟩ : ∃ wz, wz = wr.alloc (.cells #[.bool (G j).x, .int .i64 (G j).a, .int .i64 (G j).b] 76) := ⟨_, rfl⟩
            have BZ : Below wr.heap.size wr wz := by rw [hwz]; exact (Below.refl _ _).alloc (Nat.le_refl _) _
            have q0 : wz.cell? ⟨wr.heap.size, 0, none⟩ = some (.bool (G j).x) := by rw [hwz]; simp [go_sem]
            have q1 : wz.cell? ⟨wr.heap.size, 1, none⟩ = some (.int .i64 (G j).a) := by rw [hwz]; simp [go_sem]
            have q2 : wz.cell? ⟨wr.heap.size, 2, none⟩ = some (.int .i64 (G j).b) := by rw [hwz]; simp [go_sem]
            rw [← hwz]
            clear hwz
            refine (firstGate_any _ _ _ _ _ (by omega) (by omega)).mono ?_
            rintro e w1 ⟨rfl, b1⟩
            have b1' := BZ.trans (b1.mono BZ.size)
            have p0 := cell_later b1' p0
            have p1 := cell_later b1' p1
            have q0 := cell_later b1 q0
            have q1 := cell_later b1 q1
            have q2 := cell_later b1 q2
            have hbel1 := hbel.trans (b1'.mono hbel.size)
            have HT1 := hide ((unhide HT).later b1')
            have hsz1 := b1'.size
            clear BZ b1 b1' d0 d1 d2
            rcases tab_look (unhide HT1) (G j) with ⟨hl, hne⟩ | ⟨i, hi, he, hl⟩
            · have HNE := hide hne
              clear hne
              go_wp2_with fail
              refine (mayTell_any _ _ _ _ _ wa wb (by omega)).mono ?_
              rintro e w2 ⟨rfl, b2⟩
              have p0 := cell_later b2 p0
              have p1 := cell_later b2 p1
              have q0 := cell_later b2 q0
              have q1 := cell_later b2 q1
              have q2 := cell_later b2 q2
              have hbel2 := hbel1.trans (b2.mono hbel1.size)
              have HT2 := hide ((unhide HT1).later b2)
              clear b2 hl
              cases hg : gmB (2 + m + (j : Int)) ⟨(G j).x, (G j).a, (G j).b⟩
              · go_wp2
                go_ret2
                refine ⟨Or.inr ⟨fun h => ?_, rfl⟩, hbel2⟩
                have := gmB_iff.2 (h.2.2.2 j hlt).1
                rw [hg] at this
                cases this
              · have hG : GateP m G j := ⟨gmB_iff.1 hg, unhide HNE⟩
                have HK1 : Hid (∀ i, i < j + 1 → GateP m G i) := fun i hi => by
                  by_cases e : i = j
                  · subst e; exact hG
                  · exact unhide HK i (by omega)
                obtain ⟨w3, hput, hT3, g3⟩ := tab_put (unhide HT2) (unhide HNE)
                have HT3 := hide hT3
                have HG3 := hide g3
                clear hG hT3 g3
                go_wp2
                go_roundw
                case rel =>
                  have lB := (unhide HT2).lt
                  have kc : ∀ o, w3.cell? ⟨w.heap.size, o, none⟩ = w2.cell? ⟨w.heap.size, o, none⟩ := fun o => World.cell?_of_block (w := w2) ((unhide HG3).block w.heap.size (by omega) (by simp))
                  exact ⟨j + 1, by omega, by go_num, unhide HK1, ⟨(kc 0).trans p0, (kc 1).trans p1⟩, unhide HT3, hbel2.grown (unhide HG3) hbel2.size (fun k hk => by simp at hk; omega)⟩
                case measure => simp [intOf]; omega
            · have hnz : ((2 + m + (i : Int)) != 0) = true := by simp; omega
              have HE := hide he
              clear he
              go_wp2
              go_ret2
              exact ⟨Or.inr ⟨fun h => (h.2.2.2 j hlt).2 i hi (unhide HE), rfl⟩, hbel1⟩
          · have e : j = n := by omega
            subst e
            go_wp2
            go_ret2
            exact ⟨Or.inl ⟨⟨by omega, by omega, by omega, unhide HK⟩, _, rfl, by omega, unhide HT⟩, hbel⟩
set_option maxRecDepth 100000 in
set_option maxHeartbeats 1000000 in
theorem iNetOk_any (m : Int) (a : Option Addr) (n cap : Nat) (G : Nat → Gt) (w : World) (hd : GtsAt w a n G) (hw : WG n G) (hn : n ≤ 1048576) :
    Calls Tryd.prog 41 #[.agg #[.int .i64 m, .slice a n cap]] w fun e w' => e = .returned (.bool (netB m n G)) ∧ Below w.heap.size w w' := by
  have HD := hide hd
  have HW := hide hw
  clear hd hw
  go_enter Tryd.func41, Tryd.ntmps41
  go_wp2_with fail
  have BZ : Below w.heap.size w (w.alloc (.cells #[.int .i64 m, .slice a n cap] 25)) := (Below.refl _ _).alloc (Nat.le_refl _) _
  refine (gateTable_any _ _ _ _ _ _ ((unhide HD).later BZ) (unhide HW) hn).mono ?_
  rintro e w1 ⟨⟨hP, B, rfl, hB, hT⟩ | ⟨hP, rfl⟩, b1⟩
  · have HN := hide (netB_yes hP)
    have BL := BZ.trans (b1.mono BZ.size)
    clear hP hT BZ b1
    go_wp2
    rw [unhide HN]
    go_ret
    exact ⟨rfl, BL⟩
  · have HN := hide (netB_no hP)
    have BL := BZ.trans (b1.mono BZ.size)
    clear hP BZ b1
    go_wp2
    rw [unhide HN]
    go_ret
    exact ⟨rfl, BL⟩
end Go.Proofs.YtmpiiilkaadhfaaDoor
