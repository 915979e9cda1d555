/- Numbers that are marks, each at most once: of the model and of the program. -/
import Derived.Test.YtndebifmimbeaabBitA
namespace Go.Proofs.Ytndebifmimbeaab
open Go.ChangeShapes Go.WideShapes Go.ChangeAt Go.RowKit Go.Joins
set_option linter.unusedVariables false

/-- A number is a mark, and none ahead of it is the same mark. -/
def OneM (P : Nat → Int) (N k : Nat) : Prop := (-(N : Int) ≤ P k ∧ P k ≤ N ∧ P k ≠ 0) ∧ ∀ j, j < k → absI (P j) ≠ absI (P k)
/-- Numbers are marks, each at most once. -/
def MarkP (np : Nat) (P : Nat → Int) (N : Nat) : Prop := ∀ i, i < np → OneM P N i
noncomputable def markB (np : Nat) (P : Nat → Int) (N : Nat) : Bool := @decide (MarkP np P N) (Classical.propDecidable _)
theorem markB_iff {np : Nat} {P : Nat → Int} {N : Nat} : markB np P N = true ↔ MarkP np P N := by simp [markB]
theorem markB_yes {np : Nat} {P : Nat → Int} {N : Nat} (h : MarkP np P N) : markB np P N = true := markB_iff.2 h
theorem markB_no {np : Nat} {P : Nat → Int} {N : Nat} (h : ¬ MarkP np P N) : markB np P N = false := by simpa [markB] using h
/-- A set holds the marks of the first k numbers. -/
def SetOf (X : Nat → Nat) (P : Nat → Int) (k : Nat) : Prop := ∀ m : Nat, inW X m = true ↔ ∃ j, j < k ∧ absI (P j) = m
theorem SetOf.zero (P : Nat → Int) : SetOf (fun _ => 0) P 0 := fun m => by
  rw [inW_zero]
  constructor
  · intro h; cases h
  · rintro ⟨j, hj, _⟩; omega
theorem SetOf.next {X : Nat → Nat} {P : Nat → Int} {k : Nat} (h : SetOf X P k) : SetOf (addW X (absI (P k)).toNat) P (k + 1) := fun m => by
  rw [inW_addW, Bool.or_eq_true, h m]
  have hn : 0 ≤ absI (P k) := by unfold absI; split <;> omega
  constructor
  · rintro (⟨j, hj, e⟩ | e)
    · exact ⟨j, by omega, e⟩
    · simp at e
      exact ⟨k, by omega, by omega⟩
  · rintro ⟨j, hj, e⟩
    by_cases ej : j = k
    · subst ej
      right; simp; omega
    · left; exact ⟨j, by omega, e⟩
theorem WSet.new (w : World) (e : TypeId) : WSet (w.alloc (.cells #[.int .u64 0, .int .u64 0, .int .u64 0, .int .u64 0, .int .u64 0, .int .u64 0, .int .u64 0, .int .u64 0, .int .u64 0, .int .u64 0, .int .u64 0] e)) w.heap.size 0 11 (fun _ => 0) := by
  refine ⟨fun i hi => ⟨by show 0 < _; omega, ?_⟩, fun i hi => by simp [go_sem]⟩
  rw [World.cell?_alloc_new]
  have : i = 0 ∨ i = 1 ∨ i = 2 ∨ i = 3 ∨ i = 4 ∨ i = 5 ∨ i = 6 ∨ i = 7 ∨ i = 8 ∨ i = 9 ∨ i = 10 := by omega
  rcases this with rfl | rfl | rfl | rfl | rfl | rfl | rfl | rfl | rfl | rfl | rfl <;> rfl
set_option maxHeartbeats 2000000 in
theorem putRight_any (a : Option Addr) (n cap : Nat) (P : Nat → Int) (N : Nat) (w : World) (hd : IntsAt w a n P) (hn : n ≤ 1048576) (hW : ∀ i, i < n → W64 (P i)) (hN : N ≤ 700) :
    Calls Try.prog 42 #[.slice a n cap, .int .i64 N] w fun e w' => e = .returned (.bool (markB n P N)) ∧ Below w.heap.size w w' := by
  have HD := hide hd
  have HW := hide hW
  clear hd hW
  go_enter Try.func42, Try.ntmps42
  go_wp2
  go_loopw [12] (fun i wr => ∃ (k : Nat) (X : Nat → Nat), k ≤ n ∧ i = .int .i64 k ∧ (∀ j, j < k → OneM P N j) ∧ SetOf X P k ∧ WSet wr w.heap.size 0 11 X ∧ Below w.heap.size w wr) (fun i _ => n - (intOf i).toNat)
  case atStart => exact ⟨0, fun _ => 0, by omega, rfl, fun j hj => by omega, SetOf.zero P, WSet.new _ _, (by repeat (first | exact Below.refl _ _ | assumption | refine below_drewN ?_ _ | refine Below.drew ?_ | refine Below.alloc ?_ (by first | exact Nat.le_refl _ | exact Below.size (by assumption) | (simp; done) | (simp; omega)) _ | refine Below.setCell ?_ (by first | exact Nat.le_refl _ | exact Below.size (by assumption) | (simp; done) | (simp; omega)) _ | refine Below.trans ?_ (by assumption)))⟩
  case round =>
    obtain ⟨k, X, hk, rfl, hok, hset, hws, hbel⟩ := hrel
    have HK := hide hok
    have HS := hide hset
    have HX := hide hws
    clear hok hset hws
    by_cases hlt : k < n
    · obtain ⟨b, off, rfl, hb, hd⟩ := (unhide HD).ok hlt
      have d0 := (hbel.cell (p := ⟨b, off + k, none⟩) hb).trans (hd k hlt)
      have hw := unhide HW k hlt
      clear hd
      cases hA : amongB (P k) N
      · have HN := hide (markB_no (np := n) (P := P) (N := N) (fun h => by
          have hz := (among_iff hw (by omega)).2 (h k hlt).1
          rw [hA] at hz; cases hz))
        go_wp2_with fail
        refine (among_any _ _ _ hw).mono ?_
        rintro e w1 ⟨rfl, rfl⟩
        rw [hA]
        go_wp2
        rw [unhide HN]
        go_ret
        exact ⟨rfl, hbel⟩
      · obtain ⟨h1, h2, h0⟩ := (among_iff hw (by omega)).1 hA
        have hba := bare_abs h1 h2 (by omega)
        obtain ⟨a1, a2⟩ := absI_bd _ _ h1 h2
        go_wp2_with fail
        refine (among_any _ _ _ hw).mono ?_
        rintro e w1 ⟨rfl, rfl⟩
        rw [hA]
        go_wp2_with fail
        refine (has_any _ _ X _ _ (unhide HX).1 hw (by rw [hba]; omega) (by rw [hba]; omega)).mono ?_
        rintro e w1 ⟨rfl, nn, rfl⟩
        rw [hba]
        cases hI : inW X (absI (P k)).toNat
        · have HN1 : Hid (∀ j, j < k + 1 → OneM P N j) := fun j hj => by
            by_cases e : j = k
            · subst e
              exact ⟨⟨h1, h2, h0⟩, fun i hi he => by
                have := (unhide HS (absI (P j)).toNat).2 ⟨i, hi, by omega⟩
                rw [hI] at this; cases this⟩
            · exact unhide HK j (by omega)
          have HS1 := hide ((unhide HS).next)
          go_wp2_with fail
          refine (add_any _ _ X _ _ ((unhide HX).drewN nn) hw (by rw [hba]; omega) (by rw [hba]; omega)).mono ?_
          rintro e w2 ⟨rfl, hx2, hz2, mv2⟩
          rw [hba] at hx2
          have HX2 := hide hx2
          have BL2 : Below w.heap.size w w2 := (below_drewN hbel nn).trans (mv2.below (Nat.le_refl _) hbel.size)
          clear hx2 mv2
          go_wp2
          go_roundw
          case rel => exact ⟨k + 1, _, by omega, by go_num, unhide HN1, unhide HS1, unhide HX2, BL2⟩
          case measure => simp [intOf]; omega
        · have HN := hide (markB_no (np := n) (P := P) (N := N) (fun h => by
            obtain ⟨j, hj, e⟩ := (unhide HS _).1 hI
            exact (h k hlt).2 j hj (by omega)))
          go_wp2
          rw [unhide HN]
          go_ret
          exact ⟨rfl, below_drewN hbel nn⟩
    · have e : k = n := by omega
      subst e
      have HN := hide (markB_yes (np := k) (P := P) (N := N) (unhide HK))
      go_wp2
      rw [unhide HN]
      go_ret
      exact ⟨rfl, hbel⟩
end Go.Proofs.Ytndebifmimbeaab
