/- Which nets are right, of the model. -/
import Derived.Test.YtmpiiilkaadhfaaDoorGtB
import Derived.Test.YtmpiiilkaadhfaaDoorAbsA
namespace Go.Proofs.YtmpiiilkaadhfaaDoor
open Go.ChangeShapes Go.WideShapes Go.ChangeAt Go.RowKit Go.Joins
set_option linter.unusedVariables false
set_option maxRecDepth 100000

/-- A gate is of marks that it may be of, if its own mark is this one. -/
def GmP (own : Int) (g : Gt) : Prop := 2 ≤ absI g.a ∧ absI g.a < absI g.b ∧ absI g.b < own ∧ (g.x = true → 0 ≤ g.a ∧ 0 ≤ g.b)
noncomputable def gmB (own : Int) (g : Gt) : Bool := @decide (GmP own g) (Classical.propDecidable _)
theorem gmB_iff {own : Int} {g : Gt} : gmB own g = true ↔ GmP own g := by simp [gmB]
theorem gmB_no {own : Int} {g : Gt} (h : ¬ GmP own g) : gmB own g = false := by simpa [gmB] using h
/-- The gate at a place is none of those ahead of it. -/
def NewP (G : Nat → Gt) (k : Nat) : Prop := ∀ i, i < k → G i ≠ G k
def GateP (m : Int) (G : Nat → Gt) (k : Nat) : Prop := GmP (2 + m + k) (G k) ∧ NewP G k
noncomputable def gateB (m : Int) (G : Nat → Gt) (k : Nat) : Bool := @decide (GateP m G k) (Classical.propDecidable _)
theorem gateB_iff {m : Int} {G : Nat → Gt} {k : Nat} : gateB m G k = true ↔ GateP m G k := by simp [gateB]
theorem gateB_no {m : Int} {G : Nat → Gt} {k : Nat} (h : ¬ GateP m G k) : gateB m G k = false := by simpa [gateB] using h
/-- A net is right. -/
def NetP (m : Int) (n : Nat) (G : Nat → Gt) : Prop := 0 ≤ m ∧ m ≤ 8 ∧ n ≤ 600 ∧ ∀ k, k < n → GateP m G k
noncomputable def netB (m : Int) (n : Nat) (G : Nat → Gt) : Bool := @decide (NetP m n G) (Classical.propDecidable _)
theorem netB_iff {m : Int} {n : Nat} {G : Nat → Gt} : netB m n G = true ↔ NetP m n G := by simp [netB]
theorem netB_yes {m : Int} {n : Nat} {G : Nat → Gt} (h : NetP m n G) : netB m n G = true := netB_iff.2 h
theorem netB_no {m : Int} {n : Nat} {G : Nat → Gt} (h : ¬ NetP m n G) : netB m n G = false := by simpa [netB] using h
theorem absI_lt {v N : Int} : absI v < N ↔ -N < v ∧ v < N := by unfold absI; split <;> omega
theorem GmP.bd {own : Int} {g : Gt} (h : GmP own g) : -own < g.a ∧ g.a < own ∧ -own < g.b ∧ g.b < own := by
  obtain ⟨h1, h2, h3, h4⟩ := h
  have h5 := absI_lt.1 h3
  have h6 := absI_lt.1 (Int.lt_trans h2 h3)
  omega
set_option maxRecDepth 100000 in
set_option maxHeartbeats 8000000 in
theorem l6Gate_any (m : Int) (a : Option Addr) (n cap : Nat) (G : Nat → Gt) (k : Nat) (w : World) (hd : GtsAt w a n G) (hw : WG n G) (hn : n ≤ 600) (hm0 : 0 ≤ m) (hm1 : m ≤ 8) (hk : k < n) :
    Calls Tryd.prog 71 #[.agg #[.int .i64 m, .slice a n cap], .int .i64 k] w fun e w' => e = .returned (.bool (gateB m G k)) ∧ Below w.heap.size w w' := by
  obtain ⟨b, off, rfl, hb, hd⟩ := hd.ok hk
  obtain ⟨d0, d1, d2⟩ := hd k hk
  obtain ⟨wa, wb⟩ := hw k hk
  have HD := hide hd
  have HG : Hid (gateB m G k = true ↔ GmP (2 + m + k) ⟨(G k).x, (G k).a, (G k).b⟩ ∧ NewP G k) := gateB_iff
  have hq := eqGate_eql
  have HQ : Hid (∀ (g : Gt) (w : World), (binOp .eql 76 (.agg #[.bool g.x, .int .i64 g.a, .int .i64 g.b]) (.agg #[.bool (G k).x, .int .i64 (G k).a, .int .i64 (G k).b])).run Tryd.prog w = .ok (.bool (geq g (G k))) w) := fun g w => eqGate_eql g (G k) w
  clear hd hw hq
  unfold W64 at wa wb
  generalize (G k).x = x at *
  generalize (G k).a = p at *
  generalize (G k).b = q at *
  have no : ∀ (h : ¬ GmP (2 + m + k) ⟨x, p, q⟩), gateB m G k = false := fun h => by
    cases e : gateB m G k
    · rfl
    · exact absurd ((unhide HG).1 e).1 h
  have NO := hide no
  clear no
  by_cases c1 : p < -(1 + m + (k : Int))
  · have e := unhide NO (fun h => by have := h.bd; simp at this; omega)
    rw [e]
    clear e
    go_enter Tryd.func71, Tryd.ntmps71
    go_wp2
    go_quiet (fail)
    go_wp2
    go_ret
    exact ⟨rfl, (by repeat (first | exact Below.refl _ _ | assumption | refine below_drewN ?_ _ | refine Below.drew ?_ | refine Below.alloc ?_ (by first | exact Nat.le_refl _ | exact Below.size (by assumption) | (simp; done) | (simp; omega)) _ | refine Below.setCell ?_ (by first | exact Nat.le_refl _ | exact Below.size (by assumption) | (simp; done) | (simp; omega)) _ | refine Below.trans ?_ (by assumption)))⟩
  · have f1 : decide (p < -(1 + m + (k : Int))) = false := by simp; omega
    by_cases c2 : 1 + m + (k : Int) < p
    · have e := unhide NO (fun h => by have := h.bd; simp at this; omega)
      rw [e]
      clear e
      go_enter Tryd.func71, Tryd.ntmps71
      go_wp2
      go_quiet (fail)
      go_wp2
      go_ret
      exact ⟨rfl, (by repeat (first | exact Below.refl _ _ | assumption | refine below_drewN ?_ _ | refine Below.drew ?_ | refine Below.alloc ?_ (by first | exact Nat.le_refl _ | exact Below.size (by assumption) | (simp; done) | (simp; omega)) _ | refine Below.setCell ?_ (by first | exact Nat.le_refl _ | exact Below.size (by assumption) | (simp; done) | (simp; omega)) _ | refine Below.trans ?_ (by assumption)))⟩
    · have f2 : decide (1 + m + (k : Int) < p) = false := by simp; omega
      by_cases c3 : q < -(1 + m + (k : Int))
      · have e := unhide NO (fun h => by have := h.bd; simp at this; omega)
        rw [e]
        clear e
        go_enter Tryd.func71, Tryd.ntmps71
        go_wp2
        go_quiet (fail)
        go_wp2
        go_ret
        exact ⟨rfl, (by repeat (first | exact Below.refl _ _ | assumption | refine below_drewN ?_ _ | refine Below.drew ?_ | refine Below.alloc ?_ (by first | exact Nat.le_refl _ | exact Below.size (by assumption) | (simp; done) | (simp; omega)) _ | refine Below.setCell ?_ (by first | exact Nat.le_refl _ | exact Below.size (by assumption) | (simp; done) | (simp; omega)) _ | refine Below.trans ?_ (by assumption)))⟩
      · have f3 : decide (q < -(1 + m + (k : Int))) = false := by simp; omega
        by_cases c4 : 1 + m + (k : Int) < q
        · have e := unhide NO (fun h => by have := h.bd; simp at this; omega)
          rw [e]
          clear e
          go_enter Tryd.func71, Tryd.ntmps71
          go_wp2
          go_quiet (fail)
          go_wp2
          go_ret
          exact ⟨rfl, (by repeat (first | exact Below.refl _ _ | assumption | refine below_drewN ?_ _ | refine Below.drew ?_ | refine Below.alloc ?_ (by first | exact Nat.le_refl _ | exact Below.size (by assumption) | (simp; done) | (simp; omega)) _ | refine Below.setCell ?_ (by first | exact Nat.le_refl _ | exact Below.size (by assumption) | (simp; done) | (simp; omega)) _ | refine Below.trans ?_ (by assumption)))⟩
        · have f4 : decide (1 + m + (k : Int) < q) = false := by simp; omega
          by_cases c5 : absI p < 2
          · have e := unhide NO (fun h => by have := h.1; simp at this; omega)
            rw [e]
            clear e
            go_enter Tryd.func71, Tryd.ntmps71
            go_wp2
            go_quiet (((go_at_call 93; exact Calls.quiet_of_same (l4Abs_any _ _ (by omega) (by omega)))))
            go_wp2
            go_ret
            exact ⟨rfl, (by repeat (first | exact Below.refl _ _ | assumption | refine below_drewN ?_ _ | refine Below.drew ?_ | refine Below.alloc ?_ (by first | exact Nat.le_refl _ | exact Below.size (by assumption) | (simp; done) | (simp; omega)) _ | refine Below.setCell ?_ (by first | exact Nat.le_refl _ | exact Below.size (by assumption) | (simp; done) | (simp; omega)) _ | refine Below.trans ?_ (by assumption)))⟩
          · have f5 : decide (absI p < 2) = false := by simp; omega
            by_cases c6 : absI q ≤ absI p
            · have e := unhide NO (fun h => by have := h.2.1; simp at this; omega)
              rw [e]
              clear e
              go_enter Tryd.func71, Tryd.ntmps71
              go_wp2
              go_quiet (((go_at_call 93; exact Calls.quiet_of_same (l4Abs_any _ _ (by omega) (by omega)))))
              go_wp2
              go_ret
              exact ⟨rfl, (by repeat (first | exact Below.refl _ _ | assumption | refine below_drewN ?_ _ | refine Below.drew ?_ | refine Below.alloc ?_ (by first | exact Nat.le_refl _ | exact Below.size (by assumption) | (simp; done) | (simp; omega)) _ | refine Below.setCell ?_ (by first | exact Nat.le_refl _ | exact Below.size (by assumption) | (simp; done) | (simp; omega)) _ | refine Below.trans ?_ (by assumption)))⟩
            · have f6 : decide (absI q ≤ absI p) = false := by simp; omega
              have hM : absI q < 2 + m + k := absI_lt.2 (by omega)
              by_cases c7 : x = true ∧ (p < 0 ∨ q < 0)
              · have e := unhide NO (fun h => by have := h.2.2.2 c7.1; simp at this; omega)
                rw [e]
                clear e
                obtain ⟨rfl, c7⟩ := c7
                by_cases c8 : p < 0
                · go_enter Tryd.func71, Tryd.ntmps71
                  go_wp2
                  go_quiet (((go_at_call 93; exact Calls.quiet_of_same (l4Abs_any _ _ (by omega) (by omega)))))
                  go_wp2
                  go_ret
                  exact ⟨rfl, (by repeat (first | exact Below.refl _ _ | assumption | refine below_drewN ?_ _ | refine Below.drew ?_ | refine Below.alloc ?_ (by first | exact Nat.le_refl _ | exact Below.size (by assumption) | (simp; done) | (simp; omega)) _ | refine Below.setCell ?_ (by first | exact Nat.le_refl _ | exact Below.size (by assumption) | (simp; done) | (simp; omega)) _ | refine Below.trans ?_ (by assumption)))⟩
                · have c9 : q < 0 := by omega
                  go_enter Tryd.func71, Tryd.ntmps71
                  go_wp2
                  go_quiet (((go_at_call 93; exact Calls.quiet_of_same (l4Abs_any _ _ (by omega) (by omega)))))
                  go_wp2
                  go_ret
                  exact ⟨rfl, (by repeat (first | exact Below.refl _ _ | assumption | refine below_drewN ?_ _ | refine Below.drew ?_ | refine Below.alloc ?_ (by first | exact Nat.le_refl _ | exact Below.size (by assumption) | (simp; done) | (simp; omega)) _ | refine Below.setCell ?_ (by first | exact Nat.le_refl _ | exact Below.size (by assumption) | (simp; done) | (simp; omega)) _ | refine Below.trans ?_ (by assumption)))⟩
              · have HY : Hid (gateB m G k = true ↔ NewP G k) := by
                  rw [unhide HG]
                  exact ⟨fun h => h.2, fun h => ⟨⟨by simp; omega, by simp; omega, hM, fun hx => by simp at *; have := c7 hx; omega⟩, h⟩⟩
                have c8 : x = false ∨ x = true ∧ ¬ p < 0 ∧ ¬ q < 0 := by cases x <;> simp at * <;> omega
                clear c7
                rcases c8 with rfl | ⟨rfl, c8, c9⟩
                · go_enter Tryd.func71, Tryd.ntmps71
                  go_wp2
                  go_quiet (((go_at_call 93; exact Calls.quiet_of_same (l4Abs_any _ _ (by omega) (by omega)))))
                  go_wp2
                  go_loopw [7] (fun i wr => ∃ j : Nat, j ≤ k ∧ i = .int .i64 j ∧ (∀ i, i < j → G i ≠ G k) ∧ wr.cell? ⟨w.heap.size, 1, none⟩ = some (.slice (some ⟨b, off, none⟩) n cap) ∧ wr.cell? ⟨w.heap.size + 1, 0, none⟩ = some (.bool false) ∧ wr.cell? ⟨w.heap.size + 1, 1, none⟩ = some (.int .i64 p) ∧ wr.cell? ⟨w.heap.size + 1, 2, none⟩ = some (.int .i64 q) ∧ Below w.heap.size w wr) (fun i _ => k - (intOf i).toNat)
                  case atStart => exact ⟨0, by omega, rfl, fun i hi => by omega, by simp [go_sem], by simp [go_sem], by simp [go_sem], by simp [go_sem], (by repeat (first | exact Below.refl _ _ | assumption | refine below_drewN ?_ _ | refine Below.drew ?_ | refine Below.alloc ?_ (by first | exact Nat.le_refl _ | exact Below.size (by assumption) | (simp; done) | (simp; omega)) _ | refine Below.setCell ?_ (by first | exact Nat.le_refl _ | exact Below.size (by assumption) | (simp; done) | (simp; omega)) _ | refine Below.trans ?_ (by assumption)))⟩
                  case round =>
                    obtain ⟨j, hj, rfl, hok, p1, r0, r1, r2, hbel⟩ := hrel
                    have HK := hide hok
                    clear hok
                    by_cases hlt : j < k
                    · obtain ⟨c0, c1, c2⟩ := unhide HD j (by omega)
                      have g0 := (hbel.cell (p := ⟨b, off + j * 3, none⟩) hb).trans c0
                      have g1 := (hbel.cell (p := ⟨b, off + j * 3 + 1, none⟩) hb).trans c1
                      have g2 := (hbel.cell (p := ⟨b, off + j * 3 + 2, none⟩) hb).trans c2
                      have hqq := unhide HQ (G j)
                      have hjn : j < n := by omega
                      clear c0 c1 c2
                      by_cases he : G j = G k
                      · have e : gateB m G k = false := by
                          cases e : gateB m G k
                          · rfl
                          · exact absurd he ((unhide HY).1 e j hlt)
                        rw [geq_iff.2 he] at hqq
                        clear he
                        have HN := hide e
                        clear e
                        go_wp2
                        go_region
                        all_goals go_wp2
                        all_goals rw [unhide HN]
                        all_goals go_ret
                        all_goals exact ⟨rfl, (by first | exact hbel | exact hbel.drew)⟩
                      · have HK1 : Hid (∀ i, i < j + 1 → G i ≠ G k) := fun i hi => by
                          by_cases e : i = j
                          · subst e; exact he
                          · exact unhide HK i (by omega)
                        rw [geq_no.2 he] at hqq
                        clear he
                        go_wp2
                        go_region
                        all_goals go_wp2
                        all_goals go_roundw
                        all_goals first | exact ⟨j + 1, by omega, by go_num, unhide HK1, p1, r0, r1, r2, (by first | exact hbel | exact hbel.drew)⟩ | (simp [intOf]; omega)
                    · have e : j = k := by omega
                      subst e
                      have e := (unhide HY).2 (unhide HK)
                      have HN := hide e
                      clear e
                      go_wp2
                      rw [unhide HN]
                      go_ret
                      exact ⟨rfl, hbel⟩
                · go_enter Tryd.func71, Tryd.ntmps71
                  go_wp2
                  go_quiet (((go_at_call 93; exact Calls.quiet_of_same (l4Abs_any _ _ (by omega) (by omega)))))
                  go_wp2
                  go_loopw [7] (fun i wr => ∃ j : Nat, j ≤ k ∧ i = .int .i64 j ∧ (∀ i, i < j → G i ≠ G k) ∧ wr.cell? ⟨w.heap.size, 1, none⟩ = some (.slice (some ⟨b, off, none⟩) n cap) ∧ wr.cell? ⟨w.heap.size + 1, 0, none⟩ = some (.bool true) ∧ wr.cell? ⟨w.heap.size + 1, 1, none⟩ = some (.int .i64 p) ∧ wr.cell? ⟨w.heap.size + 1, 2, none⟩ = some (.int .i64 q) ∧ Below w.heap.size w wr) (fun i _ => k - (intOf i).toNat)
                  case atStart => exact ⟨0, by omega, rfl, fun i hi => by omega, by simp [go_sem], by simp [go_sem], by simp [go_sem], by simp [go_sem], (by repeat (first | exact Below.refl _ _ | assumption | refine below_drewN ?_ _ | refine Below.drew ?_ | refine Below.alloc ?_ (by first | exact Nat.le_refl _ | exact Below.size (by assumption) | (simp; done) | (simp; omega)) _ | refine Below.setCell ?_ (by first | exact Nat.le_refl _ | exact Below.size (by assumption) | (simp; done) | (simp; omega)) _ | refine Below.trans ?_ (by assumption)))⟩
                  case round =>
                    obtain ⟨j, hj, rfl, hok, p1, r0, r1, r2, hbel⟩ := hrel
                    have HK := hide hok
                    clear hok
                    by_cases hlt : j < k
                    · obtain ⟨c0, c1, c2⟩ := unhide HD j (by omega)
                      have g0 := (hbel.cell (p := ⟨b, off + j * 3, none⟩) hb).trans c0
                      have g1 := (hbel.cell (p := ⟨b, off + j * 3 + 1, none⟩) hb).trans c1
                      have g2 := (hbel.cell (p := ⟨b, off + j * 3 + 2, none⟩) hb).trans c2
                      have hqq := unhide HQ (G j)
                      have hjn : j < n := by omega
                      clear c0 c1 c2
                      by_cases he : G j = G k
                      · have e : gateB m G k = false := by
                          cases e : gateB m G k
                          · rfl
                          · exact absurd he ((unhide HY).1 e j hlt)
                        rw [geq_iff.2 he] at hqq
                        clear he
                        have HN := hide e
                        clear e
                        go_wp2
                        go_region
                        all_goals go_wp2
                        all_goals rw [unhide HN]
                        all_goals go_ret
                        all_goals exact ⟨rfl, (by first | exact hbel | exact hbel.drew)⟩
                      · have HK1 : Hid (∀ i, i < j + 1 → G i ≠ G k) := fun i hi => by
                          by_cases e : i = j
                          · subst e; exact he
                          · exact unhide HK i (by omega)
                        rw [geq_no.2 he] at hqq
                        clear he
                        go_wp2
                        go_region
                        all_goals go_wp2
                        all_goals go_roundw
                        all_goals first | exact ⟨j + 1, by omega, by go_num, unhide HK1, p1, r0, r1, r2, (by first | exact hbel | exact hbel.drew)⟩ | (simp [intOf]; omega)
                    · have e : j = k := by omega
                      subst e
                      have e := (unhide HY).2 (unhide HK)
                      have HN := hide e
                      clear e
                      go_wp2
                      rw [unhide HN]
                      go_ret
                      exact ⟨rfl, hbel⟩
set_option maxRecDepth 100000 in
set_option maxHeartbeats 2000000 in
theorem sNetOk_any (m : Int) (a : Option Addr) (n cap : Nat) (G : Nat → Gt) (w : World) (hd : GtsAt w a n G) (hw : WG n G) (hn : n ≤ 1048576) :
    Calls Tryd.prog 36 #[.agg #[.int .i64 m, .slice a n cap]] w fun e w' => e = .returned (.bool (netB m n G)) ∧ Below w.heap.size w w' := by
  have HD := hide hd
  have HW := hide hw
  clear hd hw
  by_cases h1 : m < 0
  · have e : netB m n G = false := netB_no (fun h => by have := h.1; omega)
    rw [e]
    clear e
    go_enter Tryd.func36, Tryd.ntmps36
    go_wp2
    go_ret
    exact ⟨rfl, (by repeat (first | exact Below.refl _ _ | assumption | refine below_drewN ?_ _ | refine Below.drew ?_ | refine Below.alloc ?_ (by first | exact Nat.le_refl _ | exact Below.size (by assumption) | (simp; done) | (simp; omega)) _ | refine Below.setCell ?_ (by first | exact Nat.le_refl _ | exact Below.size (by assumption) | (simp; done) | (simp; omega)) _ | refine Below.trans ?_ (by assumption)))⟩
  · by_cases h2 : 8 < m
    · have e : netB m n G = false := netB_no (fun h => by have := h.2.1; omega)
      rw [e]
      clear e
      go_enter Tryd.func36, Tryd.ntmps36
      go_wp2
      go_ret
      exact ⟨rfl, (by repeat (first | exact Below.refl _ _ | assumption | refine below_drewN ?_ _ | refine Below.drew ?_ | refine Below.alloc ?_ (by first | exact Nat.le_refl _ | exact Below.size (by assumption) | (simp; done) | (simp; omega)) _ | refine Below.setCell ?_ (by first | exact Nat.le_refl _ | exact Below.size (by assumption) | (simp; done) | (simp; omega)) _ | refine Below.trans ?_ (by assumption)))⟩
    · by_cases h3 : 600 < n
      · have e : netB m n G = false := netB_no (fun h => by have := h.2.2.1; omega)
        rw [e]
        clear e
        go_enter Tryd.func36, Tryd.ntmps36
        go_wp2
        go_ret
        exact ⟨rfl, (by repeat (first | exact Below.refl _ _ | assumption | refine below_drewN ?_ _ | refine Below.drew ?_ | refine Below.alloc ?_ (by first | exact Nat.le_refl _ | exact Below.size (by assumption) | (simp; done) | (simp; omega)) _ | refine Below.setCell ?_ (by first | exact Nat.le_refl _ | exact Below.size (by assumption) | (simp; done) | (simp; omega)) _ | refine Below.trans ?_ (by assumption)))⟩
      · go_enter Tryd.func36, Tryd.ntmps36
        go_wp2
        go_loopw [3] (fun i wr => ∃ j : Nat, j ≤ n ∧ i = .int .i64 j ∧ (∀ i, i < j → GateP m G i) ∧ NBox wr w.heap.size m a n cap ∧ Below w.heap.size w wr) (fun i _ => n - (intOf i).toNat)
        case atStart => exact ⟨0, by omega, rfl, fun i hi => by omega, ⟨by simp [go_sem], by simp [go_sem]⟩, (by repeat (first | exact Below.refl _ _ | assumption | refine below_drewN ?_ _ | refine Below.drew ?_ | refine Below.alloc ?_ (by first | exact Nat.le_refl _ | exact Below.size (by assumption) | (simp; done) | (simp; omega)) _ | refine Below.setCell ?_ (by first | exact Nat.le_refl _ | exact Below.size (by assumption) | (simp; done) | (simp; omega)) _ | refine Below.trans ?_ (by assumption)))⟩
        case round =>
          obtain ⟨j, hj, rfl, hok, ⟨p0, p1⟩, hbel⟩ := hrel
          have HK := hide hok
          clear hok
          by_cases hlt : j < n
          · go_wp2_with fail
            refine (l6Gate_any _ _ _ _ _ _ _ ((unhide HD).later hbel) (unhide HW) (by omega) (by omega) (by omega) hlt).mono ?_
            rintro e w1 ⟨rfl, b1⟩
            have p0 := cell_later b1 p0
            have p1 := cell_later b1 p1
            have hbel := hbel.trans (b1.mono hbel.size)
            cases hg : gateB m G j
            · have e : netB m n G = false := netB_no (fun h => by have := gateB_iff.2 (h.2.2.2 j hlt); rw [hg] at this; cases this)
              have HN := hide e
              clear e
              go_wp2
              rw [unhide HN]
              go_ret
              exact ⟨rfl, hbel⟩
            · have HK1 : Hid (∀ i, i < j + 1 → GateP m G i) := fun i hi => by
                by_cases e : i = j
                · subst e; exact gateB_iff.1 hg
                · exact unhide HK i (by omega)
              go_wp2
              go_roundw
              case rel => exact ⟨j + 1, by omega, by go_num, unhide HK1, ⟨p0, p1⟩, hbel⟩
              case measure => simp [intOf]; omega
          · have e : j = n := by omega
            subst e
            have e := netB_yes (m := m) (n := j) (G := G) ⟨by omega, by omega, by omega, unhide HK⟩
            have HN := hide e
            clear e
            go_wp2
            rw [unhide HN]
            go_ret
            exact ⟨rfl, hbel⟩
end Go.Proofs.YtmpiiilkaadhfaaDoor
