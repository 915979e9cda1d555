/- What a gate of two that are unlike says, and that it is found again: pure. -/
import Derived.Test.YtbfijmijhfbkdaaGsL
namespace Go.Proofs.Ytbfijmijhfbkdaa
open Go.ChangeShapes Go.WideShapes Go.ChangeAt Go.RowKit Go.Joins
set_option linter.unusedVariables false
set_option linter.unusedSimpArgs false

/-- The gate of two that are unlike, and its sign. -/
def xGate (a b : Int) : Gt := if absI b < absI a then ⟨true, absI b, absI a⟩ else ⟨true, absI a, absI b⟩
def xSign (a b : Int) : Bool := decide (a < 0) != decide (b < 0)
theorem xorR_one {m : Int} {n : Nat} {G : Nat → Gt} {a b : Int} (h : absI a = 1) : xorR m n G a b = ⟨m, n, G, if a = 1 then -b else b⟩ := by unfold xorR; rw [if_pos h]
theorem xorR_two {m : Int} {n : Nat} {G : Nat → Gt} {a b : Int} (h : ¬ absI a = 1) (h2 : absI b = 1) : xorR m n G a b = ⟨m, n, G, if b = 1 then -a else a⟩ := by unfold xorR; rw [if_neg h, if_pos h2]
theorem xorR_eq {m : Int} {n : Nat} {G : Nat → Gt} {a b : Int} (h : ¬ absI a = 1) (h2 : ¬ absI b = 1) (h3 : a = b) : xorR m n G a b = ⟨m, n, G, -1⟩ := by unfold xorR; rw [if_neg h, if_neg h2, if_pos h3]
theorem xorR_un {m : Int} {n : Nat} {G : Nat → Gt} {a b : Int} (h : ¬ absI a = 1) (h2 : ¬ absI b = 1) (h3 : ¬ a = b) (h4 : a = -b) : xorR m n G a b = ⟨m, n, G, 1⟩ := by unfold xorR; rw [if_neg h, if_neg h2, if_neg h3, if_pos h4]
theorem xorR_put {m : Int} {n : Nat} {G : Nat → Gt} {a b : Int} (h : ¬ absI a = 1) (h2 : ¬ absI b = 1) (h3 : ¬ a = b) (h4 : ¬ a = -b) : xorR m n G a b = turnR (putR m n G (xGate a b)) (xSign a b) := by unfold xorR; rw [if_neg h, if_neg h2, if_neg h3, if_neg h4]; rfl
theorem xGate_swap {a b : Int} (h3 : ¬ a = b) (h4 : ¬ a = -b) : xGate b a = xGate a b := by
  have := absI_ne h3 h4
  unfold xGate
  by_cases c : absI b < absI a
  · rw [if_pos c, if_neg (by omega)]
  · rw [if_neg c, if_pos (by omega)]
theorem xSign_swap {a b : Int} : xSign b a = xSign a b := by unfold xSign; cases decide (a < 0) <;> cases decide (b < 0) <;> rfl
theorem absI_neg_eq {a : Int} : absI (-a) = absI a := by unfold absI; split <;> split <;> omega
theorem xGate_neg {a b : Int} : xGate (-a) b = xGate a b := by unfold xGate; rw [absI_neg_eq]
theorem xSign_neg {a b : Int} (ha : a ≠ 0) : xSign (-a) b = !xSign a b := by
  unfold xSign
  by_cases h : a < 0
  · have h2 : ¬ -a < 0 := by omega
    rw [decide_eq_true h, decide_eq_false h2]
    cases decide (b < 0) <;> rfl
  · have h2 : -a < 0 := by omega
    rw [decide_eq_false h, decide_eq_true h2]
    cases decide (b < 0) <;> rfl
theorem turn_again {m : Int} {n : Nat} {G : Nat → Gt} {g : Gt} {t t' : Bool} (hm : 0 ≤ m) (hk : (putR m n G g).k ≠ 0) : turnR (putR (turnR (putR m n G g) t).m (turnR (putR m n G g) t).n (turnR (putR m n G g) t).G g) t' = turnR (putR m n G g) t' := by
  show turnR (putR (putR m n G g).m (putR m n G g).n (putR m n G g).G g) t' = _
  rw [putR_again hm hk]
theorem turn_k {r : NR} {t : Bool} (h : (turnR r t).k ≠ 0) : r.k ≠ 0 := fun e => h (by unfold turnR; simp only [e]; split <;> rfl)
theorem xorR_ext {m : Int} {n : Nat} {G : Nat → Gt} {a b : Int} (hm : 0 ≤ m) (hk : (xorR m n G a b).k ≠ 0) : (xorR m n G a b).n ≤ n + 1 ∧ ∀ j, j < n → (xorR m n G a b).G j = G j := by
  by_cases c1 : absI a = 1
  · rw [xorR_one c1]; exact ⟨Nat.le_succ _, fun _ _ => rfl⟩
  · by_cases c2 : absI b = 1
    · rw [xorR_two c1 c2]; exact ⟨Nat.le_succ _, fun _ _ => rfl⟩
    · by_cases c3 : a = b
      · rw [xorR_eq c1 c2 c3]; exact ⟨Nat.le_succ _, fun _ _ => rfl⟩
      · by_cases c4 : a = -b
        · rw [xorR_un c1 c2 c3 c4]; exact ⟨Nat.le_succ _, fun _ _ => rfl⟩
        · rw [xorR_put c1 c2 c3 c4] at hk ⊢
          obtain ⟨_, _, _, _, _, h5, _, h7, _⟩ := putR_loc hm (turn_k hk)
          exact ⟨h5, h7⟩
theorem xorR_again {m : Int} {n : Nat} {G : Nat → Gt} {a b : Int} (hm : 0 ≤ m) (ha : a ≠ 0) (hb : b ≠ 0) (hk : (xorR m n G a b).k ≠ 0) :
    xorR (xorR m n G a b).m (xorR m n G a b).n (xorR m n G a b).G b a = xorR m n G a b ∧ xorR (xorR m n G a b).m (xorR m n G a b).n (xorR m n G a b).G (-a) b = turnR (xorR m n G a b) true := by
  by_cases c1 : absI a = 1
  · have d1 : absI (-a) = 1 := by rw [absI_neg_eq]; exact c1
    rw [xorR_one c1]
    refine ⟨?_, ?_⟩
    · by_cases c2 : absI b = 1
      · rw [xorR_one c2]
        rw [abs_one] at c1 c2
        rcases c1 with rfl | rfl <;> rcases c2 with rfl | rfl <;> rfl
      · rw [xorR_two c2 c1]
    · rw [xorR_one d1]
      unfold turnR
      rw [abs_one] at c1
      rcases c1 with rfl | rfl
      · simp
      · simp
  · have d1 : ¬ absI (-a) = 1 := by rw [absI_neg_eq]; exact c1
    by_cases c2 : absI b = 1
    · rw [xorR_two c1 c2]
      refine ⟨by rw [xorR_one c2], ?_⟩
      rw [xorR_two d1 c2]
      unfold turnR
      rw [abs_one] at c2
      rcases c2 with rfl | rfl
      · simp
      · simp
    · by_cases c3 : a = b
      · rw [xorR_eq c1 c2 c3]
        refine ⟨by rw [xorR_eq c2 c1 c3.symm], ?_⟩
        rw [xorR_un d1 c2 (by omega) (by omega)]
        rfl
      · by_cases c4 : a = -b
        · rw [xorR_un c1 c2 c3 c4]
          refine ⟨by rw [xorR_un c2 c1 (fun e => c3 e.symm) (by omega)], ?_⟩
          rw [xorR_eq d1 c2 (by omega)]
          rfl
        · rw [xorR_put c1 c2 c3 c4] at hk ⊢
          have hk' := turn_k hk
          refine ⟨?_, ?_⟩
          · rw [xorR_put c2 c1 (fun e => c3 e.symm) (by omega), xGate_swap c3 c4, xSign_swap, turn_again hm hk']
          · rw [xorR_put d1 c2 (by omega) (by omega), xGate_neg, xSign_neg ha, turn_again hm hk']
            unfold turnR
            cases xSign a b <;> simp
theorem met_abs {m : Int} {n l : Nat} {V : Nat → Bool} {a : Int} (ha : mkP m n a = true) (hl : (l : Int) = 1 + m + n) : metB a l V = (metB (absI a) l V != decide (a < 0)) := by
  by_cases h : a < 0
  · have e : absI a = -a := by unfold absI; rw [if_pos h]
    rw [e, met_turn ha hl]
    cases metB a l V <;> simp [h]
  · have e : absI a = a := by unfold absI; rw [if_neg h]
    rw [e]
    simp [h]
theorem xorR_says {m : Int} {n : Nat} {G : Nat → Gt} {a b : Int} (hnet : netB m n G = true) (ha : mkP m n a = true) (hb : mkP m n b = true) (hk : (xorR m n G a b).k ≠ 0) :
    SayP m (xorR m n G a b).n (xorR m n G a b).G a b (xorR m n G a b).k true := by
  intro I hI
  obtain ⟨q1, q2, q3, q4⟩ := xorR_net hnet ha hb hk
  have ha2 := mkP_more ha q3
  have hb2 := mkP_more hb q3
  rw [if_pos rfl]
  have t0 : ∀ k H, atB (outL I H k) 0 = true := fun k H => outL_top
  have ln : ∀ k, 0 < 1 + I.length + k := fun k => by omega
  by_cases c1 : absI a = 1
  · rw [xorR_one c1]
    simp only
    rw [abs_one] at c1
    rcases c1 with rfl | rfl
    · rw [if_pos rfl, met_one (t0 _ _) (ln _), met_turn hb (by omega)]
      simp
    · rw [if_neg (by omega), met_not (t0 _ _) (ln _)]
      simp
  · by_cases c2 : absI b = 1
    · rw [xorR_two c1 c2]
      simp only
      rw [abs_one] at c2
      rcases c2 with rfl | rfl
      · rw [if_pos rfl, met_one (t0 _ _) (ln _), met_turn ha (by omega)]
        simp
      · rw [if_neg (by omega), met_not (t0 _ _) (ln _)]
        simp
    · by_cases c3 : a = b
      · rw [xorR_eq c1 c2 c3]
        simp only
        rw [met_not (t0 _ _) (ln _), c3]
        simp
      · by_cases c4 : a = -b
        · rw [xorR_un c1 c2 c3 c4]
          simp only
          rw [met_one (t0 _ _) (ln _), c4, met_turn hb (by omega)]
          cases metB b (1 + I.length + n) (atB (outL I G n)) <;> rfl
        · rw [xorR_put c1 c2 c3 c4] at hk q1 q2 q3 ha2 hb2 ⊢
          have hk' := turn_k hk
          have q1' : netB (putR m n G (xGate a b)).m (putR m n G (xGate a b)).n (putR m n G (xGate a b)).G = true := q1
          have hs := put_says hI hk' q1'
          obtain ⟨i, h1, _, h3, _, _, _, _, h8⟩ := putR_loc (by omega) hk'
          have hx : (xGate a b).x = true := by unfold xGate; split <;> rfl
          rw [if_pos hx] at hs
          have hl : ((1 + I.length + (putR m n G (xGate a b)).n : Nat) : Int) = 1 + m + ((putR m n G (xGate a b)).n : Int) := by omega
          have hkp : mkP m (putR m n G (xGate a b)).n (putR m n G (xGate a b)).k = true := by rw [mkP_iff, h3]; omega
          show metB (if xSign a b = true then -(putR m n G (xGate a b)).k else (putR m n G (xGate a b)).k) (1 + I.length + (putR m n G (xGate a b)).n) (atB (outL I (putR m n G (xGate a b)).G (putR m n G (xGate a b)).n)) = (metB a (1 + I.length + (putR m n G (xGate a b)).n) (atB (outL I (putR m n G (xGate a b)).G (putR m n G (xGate a b)).n)) != metB b (1 + I.length + (putR m n G (xGate a b)).n) (atB (outL I (putR m n G (xGate a b)).G (putR m n G (xGate a b)).n)))
          have ha3 : mkP m (putR m n G (xGate a b)).n a = true := ha2
          have hb3 : mkP m (putR m n G (xGate a b)).n b = true := hb2
          rw [met_abs ha3 hl, met_abs hb3 hl]
          have hturn := met_turn (V := atB (outL I (putR m n G (xGate a b)).G (putR m n G (xGate a b)).n)) hkp hl
          generalize putR m n G (xGate a b) = r at *
          have hab : (metB (xGate a b).a (1 + I.length + r.n) (atB (outL I r.G r.n)) != metB (xGate a b).b (1 + I.length + r.n) (atB (outL I r.G r.n))) = (metB (absI a) (1 + I.length + r.n) (atB (outL I r.G r.n)) != metB (absI b) (1 + I.length + r.n) (atB (outL I r.G r.n))) := by
            unfold xGate
            split
            · simp only
              cases metB (absI a) (1 + I.length + r.n) (atB (outL I r.G r.n)) <;> cases metB (absI b) (1 + I.length + r.n) (atB (outL I r.G r.n)) <;> rfl
            · rfl
          rw [hab] at hs
          unfold xSign
          generalize metB (absI a) (1 + I.length + r.n) (atB (outL I r.G r.n)) = A at *
          generalize metB (absI b) (1 + I.length + r.n) (atB (outL I r.G r.n)) = B at *
          by_cases s : (decide (a < 0) != decide (b < 0)) = true
          · rw [if_pos s, hturn, hs]
            revert s
            cases A <;> cases B <;> cases decide (a < 0) <;> cases decide (b < 0) <;> simp
          · rw [if_neg s, hs]
            revert s
            cases A <;> cases B <;> cases decide (a < 0) <;> cases decide (b < 0) <;> simp
theorem netXor_in {m : Int} {n : Nat} {G : Nat → Gt} {a b : Int} (h : (netXorR m n G a b).k ≠ 0) : inB m n G a b := by
  by_cases hi : inB m n G a b
  · exact hi
  · rw [netXorR_no hi] at h; exact absurd rfl h
theorem netXor_zero {m : Int} {n : Nat} {G : Nat → Gt} {a b : Int} (h : (netXorR m n G a b).k = 0) : (netXorR m n G a b).m = 0 ∧ (netXorR m n G a b).n = 0 := by
  by_cases hi : inB m n G a b
  · rw [netXorR_yes hi] at h ⊢
    have hm := (netB_iff.1 hi.1).1
    have ha := (mkP_iff.1 hi.2.1).1
    have hb := (mkP_iff.1 hi.2.2).1
    by_cases c1 : absI a = 1
    · rw [xorR_one c1] at h; simp only at h; split at h <;> omega
    · by_cases c2 : absI b = 1
      · rw [xorR_two c1 c2] at h; simp only at h; split at h <;> omega
      · by_cases c3 : a = b
        · rw [xorR_eq c1 c2 c3] at h; simp only at h; omega
        · by_cases c4 : a = -b
          · rw [xorR_un c1 c2 c3 c4] at h; simp only at h; omega
          · rw [xorR_put c1 c2 c3 c4] at h ⊢
            have hz : (putR m n G (xGate a b)).k = 0 := by
              unfold turnR at h
              simp only at h
              split at h <;> omega
            exact putR_none hm hz
  · rw [netXorR_no hi]; exact ⟨rfl, rfl⟩
theorem netXor_facts {m : Int} {n : Nat} {G : Nat → Gt} {a b : Int} (h : (netXorR m n G a b).k ≠ 0) :
    ∃ M : Nat, m = (M : Int) ∧ netB (M : Int) n G = true ∧ (netXorR m n G a b).m = (M : Int) ∧ netB (M : Int) (netXorR m n G a b).n (netXorR m n G a b).G = true ∧ n ≤ (netXorR m n G a b).n ∧ (netXorR m n G a b).n ≤ n + 1 ∧ (∀ i, i < n → (netXorR m n G a b).G i = G i) ∧ SayP (M : Int) (netXorR m n G a b).n (netXorR m n G a b).G a b (netXorR m n G a b).k true ∧ (-700 ≤ (netXorR m n G a b).k ∧ (netXorR m n G a b).k ≤ 700) ∧ (netXorR (netXorR m n G a b).m (netXorR m n G a b).n (netXorR m n G a b).G b a = netXorR m n G a b ∧ netXorR (netXorR m n G a b).m (netXorR m n G a b).n (netXorR m n G a b).G (-a) b = turnR (netXorR m n G a b) true) ∧ (-700 ≤ a ∧ a ≤ 700) := by
  obtain ⟨i1, i2, i3⟩ := netXor_in h
  obtain ⟨m0, m8, n6, _⟩ := netB_iff.1 i1
  obtain ⟨M, rfl⟩ := Int.eq_ofNat_of_zero_le m0
  have e := netXorR_yes (m := (M : Int)) (n := n) (G := G) (a := a) (b := b) ⟨i1, i2, i3⟩
  rw [e] at h ⊢
  obtain ⟨q1, q2, q3, q4⟩ := xorR_net i1 i2 i3 h
  obtain ⟨x1, x2⟩ := xorR_ext m0 h
  have q1' := q1
  rw [q2] at q1'
  have a1 := mkP_iff.1 i2
  have hna : mkP (M : Int) n (-a) = true := by rw [mkP_iff]; omega
  have hin : inB (xorR (M : Int) n G a b).m (xorR (M : Int) n G a b).n (xorR (M : Int) n G a b).G b a := ⟨q1, by rw [q2]; exact mkP_more i3 q3, by rw [q2]; exact mkP_more i2 q3⟩
  have hin2 : inB (xorR (M : Int) n G a b).m (xorR (M : Int) n G a b).n (xorR (M : Int) n G a b).G (-a) b := ⟨q1, by rw [q2]; exact mkP_more hna q3, by rw [q2]; exact mkP_more i3 q3⟩
  have q5 := mkP_iff.1 q4
  have q6 := (netB_iff.1 q1').2.2.1
  have ag := xorR_again m0 (mkP_iff.1 i2).1 (mkP_iff.1 i3).1 h
  exact ⟨M, rfl, i1, q2, q1', q3, x1, x2, xorR_says i1 i2 i3 h, by omega, ⟨by rw [netXorR_yes hin]; exact ag.1, by rw [netXorR_yes hin2]; exact ag.2⟩, by omega⟩
end Go.Proofs.Ytbfijmijhfbkdaa
