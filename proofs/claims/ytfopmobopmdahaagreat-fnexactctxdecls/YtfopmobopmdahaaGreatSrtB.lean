/- The sorts of terms of one and of two, and of all terms, of the model. -/
import Derived.Test.YtfopmobopmdahaaGreatSrtA
namespace Go.Proofs.YtfopmobopmdahaaGreat
open Go.ChangeShapes Go.WideShapes Go.ChangeAt Go.RowKit Go.Joins
set_option linter.unusedVariables false

def oneS (op A B a : Int) : Int := if op = 25 then (if a = 0 then 0 else -1) else if a < 1 then -1 else if op = 22 then (if 0 ≤ B ∧ B ≤ A ∧ A < a then A - B + 1 else -1) else a
def bothS (op a b : Int) : Int := if op = 26 ∨ op = 27 then (if a = 0 ∧ b = 0 then 0 else -1) else if a < 1 ∨ b < 1 then -1 else if op = 14 then (if a + b ≤ 4 then a + b else -1) else if a ≠ b then -1 else if 15 ≤ op then 0 else a
set_option maxRecDepth 100000 in
set_option maxHeartbeats 2000000 in
theorem one_any (op A B : Int) (s : ByteArray) (n : Nat) (ad : Option Addr) (cp : Nat) (a : Int) (w : World) (ha : -1 ≤ a) (ha4 : a ≤ 4) :
    Calls Tryz.prog 76 #[.agg #[.int .i64 op, .int .i64 A, .int .i64 B, .string s, .slice ad n cp], .int .i64 a] w fun e w' => e = .returned (.int .i64 (oneS op A B a)) ∧ Below w.heap.size w w' := by
  have key : ∀ z : Int, oneS op A B a = z → (Calls Tryz.prog 76 #[.agg #[.int .i64 op, .int .i64 A, .int .i64 B, .string s, .slice ad n cp], .int .i64 a] w fun e w' => e = .returned (.int .i64 z) ∧ Below w.heap.size w w') → Calls Tryz.prog 76 #[.agg #[.int .i64 op, .int .i64 A, .int .i64 B, .string s, .slice ad n cp], .int .i64 a] w fun e w' => e = .returned (.int .i64 (oneS op A B a)) ∧ Below w.heap.size w w' := by
    intro z hz h
    rw [hz]
    exact h
  by_cases h25 : op = 25
  · have q : (op == 25) = true := by simp [h25]
    by_cases h0 : a = 0
    · have q0 : (a == 0) = true := by simp [h0]
      refine key (0) (by simp [oneS, h25, h0]) ?_
      clear key
      go_enter Tryz.func76, Tryz.ntmps76
      go_wp2
      go_ret
      exact ⟨rfl, (by repeat (first | exact Below.refl _ _ | assumption | refine below_drewN ?_ _ | refine Below.drew ?_ | refine Below.alloc ?_ (by first | exact Nat.le_refl _ | exact Below.size (by assumption) | (simp; done) | (simp; omega)) _ | refine Below.setCell ?_ (by first | exact Nat.le_refl _ | exact Below.size (by assumption) | (simp; done) | (simp; omega)) _ | refine Below.trans ?_ (by assumption)))⟩
    · have q0 : (a == 0) = false := by simp [h0]
      refine key (-1) (by simp [oneS, h25, h0]) ?_
      clear key
      go_enter Tryz.func76, Tryz.ntmps76
      go_wp2
      go_ret
      exact ⟨rfl, (by repeat (first | exact Below.refl _ _ | assumption | refine below_drewN ?_ _ | refine Below.drew ?_ | refine Below.alloc ?_ (by first | exact Nat.le_refl _ | exact Below.size (by assumption) | (simp; done) | (simp; omega)) _ | refine Below.setCell ?_ (by first | exact Nat.le_refl _ | exact Below.size (by assumption) | (simp; done) | (simp; omega)) _ | refine Below.trans ?_ (by assumption)))⟩
  · have q : (op == 25) = false := by simp [h25]
    by_cases h1 : a < 1
    · have d1 : decide (a < 1) = true := by simp [h1]
      refine key (-1) (by simp [oneS, h25, h1]) ?_
      clear key
      go_enter Tryz.func76, Tryz.ntmps76
      go_wp2
      go_ret
      exact ⟨rfl, (by repeat (first | exact Below.refl _ _ | assumption | refine below_drewN ?_ _ | refine Below.drew ?_ | refine Below.alloc ?_ (by first | exact Nat.le_refl _ | exact Below.size (by assumption) | (simp; done) | (simp; omega)) _ | refine Below.setCell ?_ (by first | exact Nat.le_refl _ | exact Below.size (by assumption) | (simp; done) | (simp; omega)) _ | refine Below.trans ?_ (by assumption)))⟩
    · have d1 : decide (a < 1) = false := by simp; omega
      by_cases h22 : op = 22
      · have q2 : (op == 22) = true := by simp [h22]
        by_cases hB : 0 ≤ B
        · have e1 : decide (0 ≤ B) = true := by simp [hB]
          by_cases hA : B ≤ A
          · have e2 : decide (B ≤ A) = true := by simp [hA]
            by_cases hC : A < a
            · have e3 : decide (A < a) = true := by simp [hC]
              refine key (A - B + 1) (by simp [oneS, h1, h22, hB, hA, hC]) ?_
              clear key
              go_enter Tryz.func76, Tryz.ntmps76
              go_wp2
              go_ret
              exact ⟨by first | rfl | go_num, (by repeat (first | exact Below.refl _ _ | assumption | refine below_drewN ?_ _ | refine Below.drew ?_ | refine Below.alloc ?_ (by first | exact Nat.le_refl _ | exact Below.size (by assumption) | (simp; done) | (simp; omega)) _ | refine Below.setCell ?_ (by first | exact Nat.le_refl _ | exact Below.size (by assumption) | (simp; done) | (simp; omega)) _ | refine Below.trans ?_ (by assumption)))⟩
            · have e3 : decide (A < a) = false := by simp; omega
              refine key (-1) (by simp [oneS, h1, h22, hB, hA, hC]) ?_
              clear key
              go_enter Tryz.func76, Tryz.ntmps76
              go_wp2
              go_ret
              exact ⟨rfl, (by repeat (first | exact Below.refl _ _ | assumption | refine below_drewN ?_ _ | refine Below.drew ?_ | refine Below.alloc ?_ (by first | exact Nat.le_refl _ | exact Below.size (by assumption) | (simp; done) | (simp; omega)) _ | refine Below.setCell ?_ (by first | exact Nat.le_refl _ | exact Below.size (by assumption) | (simp; done) | (simp; omega)) _ | refine Below.trans ?_ (by assumption)))⟩
          · have e2 : decide (B ≤ A) = false := by simp; omega
            refine key (-1) (by simp [oneS, h1, h22, hB, hA]) ?_
            clear key
            go_enter Tryz.func76, Tryz.ntmps76
            go_wp2
            go_ret
            exact ⟨rfl, (by repeat (first | exact Below.refl _ _ | assumption | refine below_drewN ?_ _ | refine Below.drew ?_ | refine Below.alloc ?_ (by first | exact Nat.le_refl _ | exact Below.size (by assumption) | (simp; done) | (simp; omega)) _ | refine Below.setCell ?_ (by first | exact Nat.le_refl _ | exact Below.size (by assumption) | (simp; done) | (simp; omega)) _ | refine Below.trans ?_ (by assumption)))⟩
        · have e1 : decide (0 ≤ B) = false := by simp; omega
          refine key (-1) (by simp [oneS, h1, h22, hB]) ?_
          clear key
          go_enter Tryz.func76, Tryz.ntmps76
          go_wp2
          go_ret
          exact ⟨rfl, (by repeat (first | exact Below.refl _ _ | assumption | refine below_drewN ?_ _ | refine Below.drew ?_ | refine Below.alloc ?_ (by first | exact Nat.le_refl _ | exact Below.size (by assumption) | (simp; done) | (simp; omega)) _ | refine Below.setCell ?_ (by first | exact Nat.le_refl _ | exact Below.size (by assumption) | (simp; done) | (simp; omega)) _ | refine Below.trans ?_ (by assumption)))⟩
      · have q2 : (op == 22) = false := by simp [h22]
        refine key (a) (by simp [oneS, h25, h1, h22]) ?_
        clear key
        go_enter Tryz.func76, Tryz.ntmps76
        go_wp2
        go_ret
        exact ⟨rfl, (by repeat (first | exact Below.refl _ _ | assumption | refine below_drewN ?_ _ | refine Below.drew ?_ | refine Below.alloc ?_ (by first | exact Nat.le_refl _ | exact Below.size (by assumption) | (simp; done) | (simp; omega)) _ | refine Below.setCell ?_ (by first | exact Nat.le_refl _ | exact Below.size (by assumption) | (simp; done) | (simp; omega)) _ | refine Below.trans ?_ (by assumption)))⟩
set_option maxRecDepth 100000 in
set_option maxHeartbeats 2000000 in
theorem both_any (op a b : Int) (w : World) (ha : -1 ≤ a) (ha4 : a ≤ 4) (hb : -1 ≤ b) (hb4 : b ≤ 4) :
    Calls Tryz.prog 77 #[.int .i64 op, .int .i64 a, .int .i64 b] w fun e w' => e = .returned (.int .i64 (bothS op a b)) ∧ Below w.heap.size w w' := by
  have key : ∀ z : Int, bothS op a b = z → (Calls Tryz.prog 77 #[.int .i64 op, .int .i64 a, .int .i64 b] w fun e w' => e = .returned (.int .i64 z) ∧ Below w.heap.size w w') → Calls Tryz.prog 77 #[.int .i64 op, .int .i64 a, .int .i64 b] w fun e w' => e = .returned (.int .i64 (bothS op a b)) ∧ Below w.heap.size w w' := by
    intro z hz h
    rw [hz]
    exact h
  by_cases h26 : op = 26 ∨ op = 27
  · have d15 : decide (15 ≤ op) = true := by simp; omega
    rcases h26 with rfl | rfl
    all_goals
      by_cases h0 : a = 0
      · by_cases h1 : b = 0
        · have q0 : (a == 0) = true := by simp [h0]
          have q1 : (b == 0) = true := by simp [h1]
          refine key 0 (by simp [bothS, h0, h1]) ?_
          clear key
          go_enter Tryz.func77, Tryz.ntmps77
          go_wp2
          go_ret
          exact ⟨rfl, (by repeat (first | exact Below.refl _ _ | assumption | refine below_drewN ?_ _ | refine Below.drew ?_ | refine Below.alloc ?_ (by first | exact Nat.le_refl _ | exact Below.size (by assumption) | (simp; done) | (simp; omega)) _ | refine Below.setCell ?_ (by first | exact Nat.le_refl _ | exact Below.size (by assumption) | (simp; done) | (simp; omega)) _ | refine Below.trans ?_ (by assumption)))⟩
        · have q0 : (a == 0) = true := by simp [h0]
          have q1 : (b == 0) = false := by simp [h1]
          refine key (-1) (by simp [bothS, h0, h1]) ?_
          clear key
          go_enter Tryz.func77, Tryz.ntmps77
          go_wp2
          go_ret
          exact ⟨rfl, (by repeat (first | exact Below.refl _ _ | assumption | refine below_drewN ?_ _ | refine Below.drew ?_ | refine Below.alloc ?_ (by first | exact Nat.le_refl _ | exact Below.size (by assumption) | (simp; done) | (simp; omega)) _ | refine Below.setCell ?_ (by first | exact Nat.le_refl _ | exact Below.size (by assumption) | (simp; done) | (simp; omega)) _ | refine Below.trans ?_ (by assumption)))⟩
      · have q0 : (a == 0) = false := by simp [h0]
        refine key (-1) (by simp [bothS, h0]) ?_
        clear key
        go_enter Tryz.func77, Tryz.ntmps77
        go_wp2
        go_ret
        exact ⟨rfl, (by repeat (first | exact Below.refl _ _ | assumption | refine below_drewN ?_ _ | refine Below.drew ?_ | refine Below.alloc ?_ (by first | exact Nat.le_refl _ | exact Below.size (by assumption) | (simp; done) | (simp; omega)) _ | refine Below.setCell ?_ (by first | exact Nat.le_refl _ | exact Below.size (by assumption) | (simp; done) | (simp; omega)) _ | refine Below.trans ?_ (by assumption)))⟩
  · have n26 : (op == 26) = false := by simp; omega
    have n27 : (op == 27) = false := by simp; omega
    by_cases h1 : a < 1
    · have d1 : decide (a < 1) = true := by simp [h1]
      refine key (-1) (by simp [bothS, h26, h1]) ?_
      clear key
      go_enter Tryz.func77, Tryz.ntmps77
      go_wp2
      go_ret
      exact ⟨rfl, (by repeat (first | exact Below.refl _ _ | assumption | refine below_drewN ?_ _ | refine Below.drew ?_ | refine Below.alloc ?_ (by first | exact Nat.le_refl _ | exact Below.size (by assumption) | (simp; done) | (simp; omega)) _ | refine Below.setCell ?_ (by first | exact Nat.le_refl _ | exact Below.size (by assumption) | (simp; done) | (simp; omega)) _ | refine Below.trans ?_ (by assumption)))⟩
    · have d1 : decide (a < 1) = false := by simp; omega
      by_cases h2 : b < 1
      · have d2 : decide (b < 1) = true := by simp [h2]
        refine key (-1) (by simp [bothS, h26, h1, h2]) ?_
        clear key
        go_enter Tryz.func77, Tryz.ntmps77
        go_wp2
        go_ret
        exact ⟨rfl, (by repeat (first | exact Below.refl _ _ | assumption | refine below_drewN ?_ _ | refine Below.drew ?_ | refine Below.alloc ?_ (by first | exact Nat.le_refl _ | exact Below.size (by assumption) | (simp; done) | (simp; omega)) _ | refine Below.setCell ?_ (by first | exact Nat.le_refl _ | exact Below.size (by assumption) | (simp; done) | (simp; omega)) _ | refine Below.trans ?_ (by assumption)))⟩
      · have d2 : decide (b < 1) = false := by simp; omega
        by_cases h14 : op = 14
        · have q14 : (op == 14) = true := by simp [h14]
          by_cases h4 : a + b ≤ 4
          · have d4 : decide (a + b ≤ 4) = true := by simp [h4]
            refine key (a + b) (by simp [bothS, h1, h2, h14, h4]) ?_
            clear key
            go_enter Tryz.func77, Tryz.ntmps77
            go_wp2
            go_ret
            exact ⟨by first | rfl | go_num, (by repeat (first | exact Below.refl _ _ | assumption | refine below_drewN ?_ _ | refine Below.drew ?_ | refine Below.alloc ?_ (by first | exact Nat.le_refl _ | exact Below.size (by assumption) | (simp; done) | (simp; omega)) _ | refine Below.setCell ?_ (by first | exact Nat.le_refl _ | exact Below.size (by assumption) | (simp; done) | (simp; omega)) _ | refine Below.trans ?_ (by assumption)))⟩
          · have d4 : decide (a + b ≤ 4) = false := by simp; omega
            refine key (-1) (by simp [bothS, h1, h2, h14, h4]) ?_
            clear key
            go_enter Tryz.func77, Tryz.ntmps77
            go_wp2
            go_ret
            exact ⟨rfl, (by repeat (first | exact Below.refl _ _ | assumption | refine below_drewN ?_ _ | refine Below.drew ?_ | refine Below.alloc ?_ (by first | exact Nat.le_refl _ | exact Below.size (by assumption) | (simp; done) | (simp; omega)) _ | refine Below.setCell ?_ (by first | exact Nat.le_refl _ | exact Below.size (by assumption) | (simp; done) | (simp; omega)) _ | refine Below.trans ?_ (by assumption)))⟩
        · have q14 : (op == 14) = false := by simp [h14]
          by_cases hab : a = b
          · have qab : (a != b) = false := by simp [hab]
            by_cases h15 : 15 ≤ op
            · have d15 : decide (15 ≤ op) = true := by simp [h15]
              refine key 0 (by subst hab; simp [bothS, h26, h1, h14, h15]) ?_
              clear key
              go_enter Tryz.func77, Tryz.ntmps77
              go_wp2
              go_ret
              exact ⟨rfl, (by repeat (first | exact Below.refl _ _ | assumption | refine below_drewN ?_ _ | refine Below.drew ?_ | refine Below.alloc ?_ (by first | exact Nat.le_refl _ | exact Below.size (by assumption) | (simp; done) | (simp; omega)) _ | refine Below.setCell ?_ (by first | exact Nat.le_refl _ | exact Below.size (by assumption) | (simp; done) | (simp; omega)) _ | refine Below.trans ?_ (by assumption)))⟩
            · have d15 : decide (15 ≤ op) = false := by simp; omega
              refine key a (by subst hab; simp [bothS, h26, h1, h14, h15]) ?_
              clear key
              go_enter Tryz.func77, Tryz.ntmps77
              go_wp2
              go_ret
              exact ⟨by first | rfl | rw [hab]; rfl, (by repeat (first | exact Below.refl _ _ | assumption | refine below_drewN ?_ _ | refine Below.drew ?_ | refine Below.alloc ?_ (by first | exact Nat.le_refl _ | exact Below.size (by assumption) | (simp; done) | (simp; omega)) _ | refine Below.setCell ?_ (by first | exact Nat.le_refl _ | exact Below.size (by assumption) | (simp; done) | (simp; omega)) _ | refine Below.trans ?_ (by assumption)))⟩
          · have qab : (a != b) = true := by simp [hab]
            refine key (-1) (by simp [bothS, h26, h1, h2, h14, hab]) ?_
            clear key
            go_enter Tryz.func77, Tryz.ntmps77
            go_wp2
            go_ret
            exact ⟨rfl, (by repeat (first | exact Below.refl _ _ | assumption | refine below_drewN ?_ _ | refine Below.drew ?_ | refine Below.alloc ?_ (by first | exact Nat.le_refl _ | exact Below.size (by assumption) | (simp; done) | (simp; omega)) _ | refine Below.setCell ?_ (by first | exact Nat.le_refl _ | exact Below.size (by assumption) | (simp; done) | (simp; omega)) _ | refine Below.trans ?_ (by assumption)))⟩
end Go.Proofs.YtfopmobopmdahaaGreat
