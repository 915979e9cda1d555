/- The sorts of terms, of the model. -/
import Derived.Test.YtfopmobopmdahaaGreatTrmC
namespace Go.Proofs.YtfopmobopmdahaaGreat
open Go.ChangeShapes Go.WideShapes Go.ChangeAt Go.RowKit Go.Joins
set_option linter.unusedVariables false

/-- How many terms a kind is of. -/
def arity (op : Int) : Int := if op = 20 ∨ op = 21 ∨ op = 24 then 0 else if op = 1 ∨ op = 2 ∨ op = 22 ∨ op = 25 then 1 else if op = 23 then 3 else if op = 26 ∨ op = 27 then 2 else if 3 ≤ op ∧ op ≤ 17 then 2 else -1
theorem arity_cases (op : Int) : (op = 20 ∨ op = 21 ∨ op = 24) ∧ arity op = 0 ∨ (op = 1 ∨ op = 2 ∨ op = 22 ∨ op = 25) ∧ arity op = 1 ∨ op = 23 ∧ arity op = 3 ∨ (op = 26 ∨ op = 27) ∧ arity op = 2 ∨ (3 ≤ op ∧ op ≤ 17) ∧ arity op = 2 ∨ (op < 1 ∨ 27 < op ∨ op = 18 ∨ op = 19) ∧ arity op = -1 := by
  unfold arity
  repeat' split
  all_goals first | omega | (simp only [and_true] at *; omega)
set_option maxRecDepth 100000 in
set_option maxHeartbeats 1000000 in
theorem arity_any (op : Int) (w : World) : Calls Tryz.prog 83 #[.int .i64 op] w fun e w' => e = .returned (.int .i64 (arity op)) ∧ w' = w := by
  rcases arity_cases op with ⟨h, e⟩ | ⟨h, e⟩ | ⟨h, e⟩ | ⟨h, e⟩ | ⟨h, e⟩ | ⟨h, e⟩
  · rw [e]
    rcases h with rfl | rfl | rfl
    all_goals
      go_enter Tryz.func83, Tryz.ntmps83
      go_wp2
      go_ret
      exact ⟨rfl, rfl⟩
  · rw [e]
    rcases h with rfl | rfl | rfl | rfl
    all_goals
      go_enter Tryz.func83, Tryz.ntmps83
      go_wp2
      go_ret
      exact ⟨rfl, rfl⟩
  · rw [e]
    subst h
    go_enter Tryz.func83, Tryz.ntmps83
    go_wp2
    go_ret
    exact ⟨rfl, rfl⟩
  · rw [e]
    rcases h with rfl | rfl
    all_goals
      go_enter Tryz.func83, Tryz.ntmps83
      go_wp2
      go_ret
      exact ⟨rfl, rfl⟩
  · rw [e]
    have n1 : (op == 20) = false := by simp; omega
    have n2 : (op == 21) = false := by simp; omega
    have n3 : (op == 24) = false := by simp; omega
    have n6 : (op == 22) = false := by simp; omega
    have n7 : (op == 25) = false := by simp; omega
    have n8 : (op == 23) = false := by simp; omega
    have n9 : (op == 26) = false := by simp; omega
    have n10 : (op == 27) = false := by simp; omega
    have n4 : (op == 1) = false := by simp; omega
    have n5 : (op == 2) = false := by simp; omega
    have d1 : decide (3 ≤ op) = true := by simp; omega
    have d2 : decide (op ≤ 17) = true := by simp; omega
    obtain ⟨h1, h2⟩ := h
    go_enter Tryz.func83, Tryz.ntmps83
    go_wp2
    go_ret
    exact ⟨rfl, rfl⟩
  · rw [e]
    have n1 : (op == 20) = false := by simp; omega
    have n2 : (op == 21) = false := by simp; omega
    have n3 : (op == 24) = false := by simp; omega
    have n6 : (op == 22) = false := by simp; omega
    have n7 : (op == 25) = false := by simp; omega
    have n8 : (op == 23) = false := by simp; omega
    have n9 : (op == 26) = false := by simp; omega
    have n10 : (op == 27) = false := by simp; omega
    have n4 : (op == 1) = false := by simp; omega
    have n5 : (op == 2) = false := by simp; omega
    by_cases h3 : 3 ≤ op
    · have h17 : ¬ op ≤ 17 := by omega
      go_enter Tryz.func83, Tryz.ntmps83
      go_wp2
      go_ret
      exact ⟨rfl, rfl⟩
    · go_enter Tryz.func83, Tryz.ntmps83
      go_wp2
      go_ret
      exact ⟨rfl, rfl⟩
/-- A term has nothing that its kind has not. -/
def PlainP (op a b : Int) (s : ByteArray) (n : Nat) : Prop := (op ≠ 21 → s.toList = []) ∧ (op ≠ 20 → op ≠ 22 → a = 0 ∧ b = 0) ∧ (n : Int) = arity op
noncomputable def plainB (op a b : Int) (s : ByteArray) (n : Nat) : Bool := @decide (PlainP op a b s n) (Classical.propDecidable _)
theorem plainB_iff (op a b : Int) (s : ByteArray) (n : Nat) : plainB op a b s n = true ↔ PlainP op a b s n := by simp [plainB]
theorem plainB_yes {op a b : Int} {s : ByteArray} {n : Nat} (h : PlainP op a b s n) : plainB op a b s n = true := (plainB_iff _ _ _ _ _).2 h
theorem plainB_no {op a b : Int} {s : ByteArray} {n : Nat} (h : ¬ PlainP op a b s n) : plainB op a b s n = false := by simpa [plainB] using h
set_option maxRecDepth 100000 in
set_option maxHeartbeats 2000000 in
theorem plain_any (op a b : Int) (s : ByteArray) (n : Nat) (ad : Option Addr) (cp : Nat) (w : World) :
    Calls Tryz.prog 74 #[.agg #[.int .i64 op, .int .i64 a, .int .i64 b, .string s, .slice ad n cp]] w fun e w' => e = .returned (.bool (plainB op a b s n)) ∧ Below w.heap.size w w' := by
  have pe : (op ≠ 21 → s.toList = []) ∧ (op ≠ 20 → op ≠ 22 → a = 0 ∧ b = 0) → plainB op a b s n = ((n : Int) == arity op) := by
    intro k
    by_cases h : (n : Int) = arity op
    · rw [plainB_yes ⟨k.1, k.2, h⟩]; simp [h]
    · rw [plainB_no (fun k => h k.2.2)]; simp [h]
  by_cases h21 : op = 21
  · have n21 : (op != 21) = false := by simp; omega
    have n20 : (op != 20) = true := by simp; omega
    have n22 : (op != 22) = true := by simp; omega
    by_cases ha : a = 0
    · by_cases hb : b = 0
      · have za : (a != 0) = false := by simp; omega
        have zb : (b != 0) = false := by simp; omega
        have HE := hide (pe ⟨fun k => (k h21).elim, fun _ _ => ⟨ha, hb⟩⟩)
        clear pe
        go_enter Tryz.func74, Tryz.ntmps74
        go_wp2
        go_quiet ((go_at_call 83; exact Calls.quiet_of_same (arity_any _ _)))
        go_wp2
        rw [unhide HE]
        go_ret
        exact ⟨by first | rfl | (rw [h21]; rfl) | (rw [h20]; rfl) | (rw [h22]; rfl), (by repeat (first | exact Below.refl _ _ | assumption | refine below_drewN ?_ _ | refine Below.drew ?_ | refine Below.alloc ?_ (by first | exact Nat.le_refl _ | exact Below.size (by assumption) | (simp; done) | (simp; omega)) _ | refine Below.setCell ?_ (by first | exact Nat.le_refl _ | exact Below.size (by assumption) | (simp; done) | (simp; omega)) _ | refine Below.trans ?_ (by assumption)))⟩
      · have za : (a != 0) = false := by simp; omega
        have zb : (b != 0) = true := by simp; omega
        have HN := hide (plainB_no (op := op) (a := a) (b := b) (s := s) (n := n) (fun h => hb (h.2.1 (by omega) (by omega)).2))
        go_enter Tryz.func74, Tryz.ntmps74
        go_wp2
        rw [unhide HN]
        go_ret
        exact ⟨rfl, (by repeat (first | exact Below.refl _ _ | assumption | refine below_drewN ?_ _ | refine Below.drew ?_ | refine Below.alloc ?_ (by first | exact Nat.le_refl _ | exact Below.size (by assumption) | (simp; done) | (simp; omega)) _ | refine Below.setCell ?_ (by first | exact Nat.le_refl _ | exact Below.size (by assumption) | (simp; done) | (simp; omega)) _ | refine Below.trans ?_ (by assumption)))⟩
    · have za : (a != 0) = true := by simp; omega
      have HN := hide (plainB_no (op := op) (a := a) (b := b) (s := s) (n := n) (fun h => ha (h.2.1 (by omega) (by omega)).1))
      go_enter Tryz.func74, Tryz.ntmps74
      go_wp2
      rw [unhide HN]
      go_ret
      exact ⟨rfl, (by repeat (first | exact Below.refl _ _ | assumption | refine below_drewN ?_ _ | refine Below.drew ?_ | refine Below.alloc ?_ (by first | exact Nat.le_refl _ | exact Below.size (by assumption) | (simp; done) | (simp; omega)) _ | refine Below.setCell ?_ (by first | exact Nat.le_refl _ | exact Below.size (by assumption) | (simp; done) | (simp; omega)) _ | refine Below.trans ?_ (by assumption)))⟩
  · have n21 : (op != 21) = true := by simp; omega
    by_cases hs : s.toList = []
    · have se : s.toList.isEmpty = true := by simp [hs]
      have HSE := hide hs
      clear hs
      by_cases h20 : op = 20
      · have n20 : (op != 20) = false := by simp; omega
        have HE := hide (pe ⟨fun _ => unhide HSE, fun k => (k h20).elim⟩)
        clear pe
        go_enter Tryz.func74, Tryz.ntmps74
        go_wp2
        go_quiet ((go_at_call 83; exact Calls.quiet_of_same (arity_any _ _)))
        go_wp2
        rw [unhide HE]
        go_ret
        exact ⟨by first | rfl | (rw [h21]; rfl) | (rw [h20]; rfl) | (rw [h22]; rfl), (by repeat (first | exact Below.refl _ _ | assumption | refine below_drewN ?_ _ | refine Below.drew ?_ | refine Below.alloc ?_ (by first | exact Nat.le_refl _ | exact Below.size (by assumption) | (simp; done) | (simp; omega)) _ | refine Below.setCell ?_ (by first | exact Nat.le_refl _ | exact Below.size (by assumption) | (simp; done) | (simp; omega)) _ | refine Below.trans ?_ (by assumption)))⟩
      · by_cases h22 : op = 22
        · have n20 : (op != 20) = true := by simp; omega
          have n22 : (op != 22) = false := by simp; omega
          have HE := hide (pe ⟨fun _ => unhide HSE, fun _ k => (k h22).elim⟩)
          clear pe
          go_enter Tryz.func74, Tryz.ntmps74
          go_wp2
          go_quiet ((go_at_call 83; exact Calls.quiet_of_same (arity_any _ _)))
          go_wp2
          rw [unhide HE]
          go_ret
          exact ⟨by first | rfl | (rw [h21]; rfl) | (rw [h20]; rfl) | (rw [h22]; rfl), (by repeat (first | exact Below.refl _ _ | assumption | refine below_drewN ?_ _ | refine Below.drew ?_ | refine Below.alloc ?_ (by first | exact Nat.le_refl _ | exact Below.size (by assumption) | (simp; done) | (simp; omega)) _ | refine Below.setCell ?_ (by first | exact Nat.le_refl _ | exact Below.size (by assumption) | (simp; done) | (simp; omega)) _ | refine Below.trans ?_ (by assumption)))⟩
        · have n20 : (op != 20) = true := by simp; omega
          have n22 : (op != 22) = true := by simp; omega
          by_cases ha : a = 0
          · by_cases hb : b = 0
            · have za : (a != 0) = false := by simp; omega
              have zb : (b != 0) = false := by simp; omega
              have HE := hide (pe ⟨fun _ => unhide HSE, fun _ _ => ⟨ha, hb⟩⟩)
              clear pe
              go_enter Tryz.func74, Tryz.ntmps74
              go_wp2
              go_quiet ((go_at_call 83; exact Calls.quiet_of_same (arity_any _ _)))
              go_wp2
              rw [unhide HE]
              go_ret
              exact ⟨by first | rfl | (rw [h21]; rfl) | (rw [h20]; rfl) | (rw [h22]; rfl), (by repeat (first | exact Below.refl _ _ | assumption | refine below_drewN ?_ _ | refine Below.drew ?_ | refine Below.alloc ?_ (by first | exact Nat.le_refl _ | exact Below.size (by assumption) | (simp; done) | (simp; omega)) _ | refine Below.setCell ?_ (by first | exact Nat.le_refl _ | exact Below.size (by assumption) | (simp; done) | (simp; omega)) _ | refine Below.trans ?_ (by assumption)))⟩
            · have za : (a != 0) = false := by simp; omega
              have zb : (b != 0) = true := by simp; omega
              have HN := hide (plainB_no (op := op) (a := a) (b := b) (s := s) (n := n) (fun h => hb (h.2.1 (by omega) (by omega)).2))
              go_enter Tryz.func74, Tryz.ntmps74
              go_wp2
              rw [unhide HN]
              go_ret
              exact ⟨rfl, (by repeat (first | exact Below.refl _ _ | assumption | refine below_drewN ?_ _ | refine Below.drew ?_ | refine Below.alloc ?_ (by first | exact Nat.le_refl _ | exact Below.size (by assumption) | (simp; done) | (simp; omega)) _ | refine Below.setCell ?_ (by first | exact Nat.le_refl _ | exact Below.size (by assumption) | (simp; done) | (simp; omega)) _ | refine Below.trans ?_ (by assumption)))⟩
          · have za : (a != 0) = true := by simp; omega
            have HN := hide (plainB_no (op := op) (a := a) (b := b) (s := s) (n := n) (fun h => ha (h.2.1 (by omega) (by omega)).1))
            go_enter Tryz.func74, Tryz.ntmps74
            go_wp2
            rw [unhide HN]
            go_ret
            exact ⟨rfl, (by repeat (first | exact Below.refl _ _ | assumption | refine below_drewN ?_ _ | refine Below.drew ?_ | refine Below.alloc ?_ (by first | exact Nat.le_refl _ | exact Below.size (by assumption) | (simp; done) | (simp; omega)) _ | refine Below.setCell ?_ (by first | exact Nat.le_refl _ | exact Below.size (by assumption) | (simp; done) | (simp; omega)) _ | refine Below.trans ?_ (by assumption)))⟩
    · have se : s.toList.isEmpty = false := by simp [hs]
      have HN := hide (plainB_no (op := op) (a := a) (b := b) (s := s) (n := n) (fun h => hs (h.1 h21)))
      go_enter Tryz.func74, Tryz.ntmps74
      go_wp2
      rw [unhide HN]
      go_ret
      exact ⟨rfl, (by repeat (first | exact Below.refl _ _ | assumption | refine below_drewN ?_ _ | refine Below.drew ?_ | refine Below.alloc ?_ (by first | exact Nat.le_refl _ | exact Below.size (by assumption) | (simp; done) | (simp; omega)) _ | refine Below.setCell ?_ (by first | exact Nat.le_refl _ | exact Below.size (by assumption) | (simp; done) | (simp; omega)) _ | refine Below.trans ?_ (by assumption)))⟩
end Go.Proofs.YtfopmobopmdahaaGreat
