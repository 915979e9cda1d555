/- Numbers that are marks, each at most once: the model's own. -/
import Derived.Test.YtndebifmimbeaabPutA
import Derived.Laws.OwnMore
namespace Go.Proofs.Ytndebifmimbeaab
open Go.ChangeShapes Go.WideShapes Go.ChangeAt Go.RowKit Go.Joins
set_option linter.unusedVariables false

theorem made_cell (w : World) (z : Value) (n i : Nat) (e : TypeId) (hi : i < n) : (w.alloc (.cells (madeCells #[z] n) e)).cell? ⟨w.heap.size, i, none⟩ = some z := by
  rw [World.cell?_alloc_new]
  have h : (madeCells #[z] n).toList = List.replicate n z := toList_madeCells_one z n
  rw [← Array.getElem?_toList, h, List.getElem?_replicate, if_pos hi]
/-- Which marks the first k numbers are. -/
def seenB (P : Nat → Int) : Nat → Nat → Bool
  | 0, _ => false
  | k + 1, m => decide (absI (P k) = (m : Int)) || seenB P k m
theorem seenB_iff (P : Nat → Int) (k m : Nat) : seenB P k m = true ↔ ∃ j, j < k ∧ absI (P j) = m := by
  induction k with
  | zero => simp [seenB]
  | succ k ih =>
    rw [seenB, Bool.or_eq_true, ih]
    constructor
    · rintro (h | ⟨j, hj, e⟩)
      · exact ⟨k, by omega, by simpa using h⟩
      · exact ⟨j, by omega, e⟩
    · rintro ⟨j, hj, e⟩
      by_cases ej : j = k
      · subst ej; left; simpa using e
      · right; exact ⟨j, by omega, e⟩
theorem seen_next {w : World} {B N k m : Nat} {P : Nat → Int} {u0 : Value} (h : Bls w B 0 (N + 1) (seenB P k)) (hm : absI (P k) = (m : Int)) (q0 : w.cell? ⟨B, m, none⟩ = some u0) :
    Bls (w.setCell ⟨B, m, none⟩ (.bool true)) B 0 (N + 1) (seenB P (k + 1)) := by
  intro i hi
  by_cases e : i = m
  · subst e
    rw [Nat.zero_add]
    have : seenB P (k + 1) i = true := by rw [seenB, hm]; simp
    rw [this]
    exact World.cell?_setCell_same _ _ _ q0
  · have : seenB P (k + 1) i = seenB P k i := by
      rw [seenB, hm]
      have : decide ((m : Int) = (i : Int)) = false := by simp; omega
      rw [this]; simp
    rw [this, World.cell?_setCell_other _ _ _ _ (by simp <;> omega)]
    exact h i hi
theorem infoBool2 : (Try.prog.info? 4).map (fun i => (i.zero, i.size, i.bytes)) = some (some (.bool false), 1, 1) := by kernel_rfl
set_option maxHeartbeats 2000000 in
theorem l5Marks_any (a0 : Option Addr) (n0 cap0 : Nat) (a : Option Addr) (n cap : Nat) (P : Nat → Int) (N : Nat) (w : World) (hd : IntsAt w a n P) (hn : n ≤ 1048576) (hW : ∀ i, i < n → W64 (P i)) (hN : N ≤ 700) :
    Calls Try.prog 37 #[.agg #[.int .i64 N, .slice a0 n0 cap0], .slice a n cap] w fun e w' => e = .returned (.bool (markB n P N)) ∧ Below w.heap.size w w' := by
  have hmk := run_make_wide (P := Try.prog) 34 4 _ 1 1 Try.underlying34 infoBool2 .i64 .i64 (N + 1) (by omega) (by omega)
  simp only [Nat.mul_one, Int.natCast_add, Int.natCast_one] at hmk
  have HD := hide hd
  have HW := hide hW
  clear hd hW
  go_enter Try.func37, Try.ntmps37
  go_wp2
  go_loopw [6] (fun i wr => ∃ k : Nat, k ≤ n ∧ i = .int .i64 k ∧ (∀ j, j < k → OneM P N j) ∧ Bls wr (w.heap.size + 1) 0 (N + 1) (seenB P k) ∧ Made wr (w.heap.size + 1) (N + 1) ∧ wr.cell? ⟨w.heap.size, 0, none⟩ = some (.int .i64 N) ∧ Below w.heap.size w wr) (fun i _ => n - (intOf i).toNat)
  case atStart =>
    refine ⟨0, by omega, rfl, fun j hj => by omega, fun i hi => ?_, ?_, by simp [go_sem], (by repeat (first | exact Below.refl _ _ | assumption | refine below_drewN ?_ _ | refine Below.drew ?_ | refine Below.alloc ?_ (by first | exact Nat.le_refl _ | exact Below.size (by assumption) | (simp; done) | (simp; omega)) _ | refine Below.setCell ?_ (by first | exact Nat.le_refl _ | exact Below.size (by assumption) | (simp; done) | (simp; omega)) _ | refine Below.trans ?_ (by assumption)))⟩
    · rw [Nat.zero_add]
      have := made_cell (w.alloc (.cells #[.int .i64 N, .slice a0 n0 cap0] 36)) (.bool false) (N + 1) i 4 hi
      simpa [World.size_alloc, seenB] using this
    · have := Made.new (w.alloc (.cells #[.int .i64 N, .slice a0 n0 cap0] 36)) #[.bool false] (N + 1) 4
      simpa [World.size_alloc] using this
  case round =>
    obtain ⟨k, hk, rfl, hok, hbl, hmd, p0, hbel⟩ := hrel
    have HK := hide hok
    have HB := hide hbl
    have HM := hide hmd
    clear hok hbl hmd
    by_cases hlt : k < n
    · obtain ⟨b, off, rfl, hb, hd⟩ := (unhide HD).ok hlt
      have d0 := (hbel.cell (p := ⟨b, off + k, none⟩) hb).trans (hd k hlt)
      have hw := unhide HW k hlt
      unfold W64 at hw
      clear hd
      by_cases h0 : P k = 0
      · have HN := hide (markB_no (np := n) (P := P) (N := N) (fun h => (h k hlt).1.2.2 h0))
        have kb : (P k == 0) = true := by simp [h0]
        clear h0
        go_wp2
        go_quiet (fail)
        go_wp2
        rw [unhide HN]
        go_ret
        exact ⟨rfl, below_drewN hbel _⟩
      · have kb : (P k == 0) = false := by simp [h0]
        by_cases h1 : -(N : Int) ≤ P k
        · have k1 : decide (P k < -(N : Int)) = false := by simp; omega
          by_cases h2 : P k ≤ N
          · have k2 : decide ((N : Int) < P k) = false := by simp; omega
            obtain ⟨a1, a2⟩ := absI_bd _ _ h1 h2
            obtain ⟨m, hm⟩ := Int.eq_ofNat_of_zero_le a1
            have hmN : m < N + 1 := by omega
            have hmI : (m : Int) < (N : Int) + 1 := by omega
            have s0 := unhide HB m hmN
            rw [Nat.zero_add] at s0
            have f0 := ((unhide HM).2 m hmN).2
            have hb4 : ∀ v, Calls Try.prog 44 #[.int .i64 (P k)] v fun e w' => e = .returned (.int .i64 (m : Int)) ∧ w' = v := fun v => by
              rw [show (m : Int) = absI (P k) from hm.symm]
              exact l4Abs_any _ _ (by omega) (by omega)
            have HB4 := hide hb4
            clear hb4
            cases hs : seenB P k m
            · rw [hs] at s0
              have HN1 : Hid (∀ j, j < k + 1 → OneM P N j) := fun j hj => by
                by_cases e : j = k
                · subst e
                  exact ⟨⟨h1, h2, h0⟩, fun i hi he => by
                    have := (seenB_iff P j m).2 ⟨i, hi, by omega⟩
                    rw [hs] at this; cases this⟩
                · exact unhide HK j (by omega)
              have HS1 := hide (seen_next (unhide HB) hm s0)
              have HQ := hide hm
              clear h0 hm
              go_wp2
              go_quiet ((go_at_call 44; exact Calls.quiet_of_same (unhide HB4 _)))
              go_wp2_with fail
              refine (unhide HB4 _).mono ?_
              rintro e w1 ⟨rfl, rfl⟩
              go_wp2
              go_roundw
              case rel => exact ⟨k + 1, by omega, by go_num, unhide HN1, unhide HS1, (unhide HM).set _ _, (World.cell?_setCell_other _ _ _ _ (by simp)).trans p0, (below_drewN hbel _).setCell (by simp) _⟩
              case measure => simp [intOf]; omega
            · rw [hs] at s0
              have HN := hide (markB_no (np := n) (P := P) (N := N) (fun h => by
                obtain ⟨j, hj, e⟩ := (seenB_iff P k m).1 hs
                exact (h k hlt).2 j hj (by omega)))
              clear h0 hm
              go_wp2
              go_quiet ((go_at_call 44; exact Calls.quiet_of_same (unhide HB4 _)))
              go_wp2
              rw [unhide HN]
              go_ret
              exact ⟨rfl, below_drewN hbel _⟩
          · have HN := hide (markB_no (np := n) (P := P) (N := N) (fun h => h2 (h k hlt).1.2.1))
            clear h0
            go_wp2
            go_quiet (fail)
            go_wp2
            rw [unhide HN]
            go_ret
            exact ⟨rfl, below_drewN hbel _⟩
        · have HN := hide (markB_no (np := n) (P := P) (N := N) (fun h => h1 (h k hlt).1.1))
          clear h0
          go_wp2
          go_quiet (fail)
          go_wp2
          rw [unhide HN]
          go_ret
          exact ⟨rfl, below_drewN hbel _⟩
    · have e : k = n := by omega
      subst e
      have HN := hide (markB_yes (np := k) (P := P) (N := N) (unhide HK))
      go_wp2
      rw [unhide HN]
      go_ret
      exact ⟨rfl, hbel⟩
end Go.Proofs.Ytndebifmimbeaab
