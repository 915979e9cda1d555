/- What a gate of two says, and that it is found again: pure. -/
import Derived.Test.YtbfijmijhfbkdaaBkM
import Derived.Test.YtbfijmijhfbkdaaWpG
namespace Go.Proofs.Ytbfijmijhfbkdaa
open Go.ChangeShapes Go.WideShapes Go.ChangeAt Go.RowKit Go.Joins
set_option linter.unusedVariables false
set_option linter.unusedSimpArgs false

theorem putR_loc {m : Int} {n : Nat} {G : Nat → Gt} {g : Gt} (hm : 0 ≤ m) (hk : (putR m n G g).k ≠ 0) :
    ∃ i, i < (putR m n G g).n ∧ (putR m n G g).G i = g ∧ (putR m n G g).k = 2 + m + i ∧ (∀ j, j < i → (putR m n G g).G j ≠ g) ∧ (putR m n G g).n ≤ n + 1 ∧ n ≤ (putR m n G g).n ∧ (∀ j, j < n → (putR m n G g).G j = G j) ∧ (putR m n G g).m = m := by
  rcases firstO_ways (fun i => geq (G i) g) n with ⟨_, hno⟩ | ⟨i, hi, _, hgi, hj⟩
  · by_cases h6 : 600 ≤ n
    · rw [putR_full (fun j hj => geq_no.1 (hno j hj)) h6] at hk; exact absurd rfl hk
    · rw [putR_new (fun j hj => geq_no.1 (hno j hj)) (by omega)]
      exact ⟨n, by simp, snocG_at _ _ _, rfl, fun j hj => by simp only [snocG_lt hj]; exact geq_no.1 (hno j hj), Nat.le_refl _, by simp, fun j hj => snocG_lt hj, rfl⟩
  · rw [putR_at hi (geq_iff.1 hgi) (fun j h => geq_no.1 (hj j h))]
    exact ⟨i, hi, geq_iff.1 hgi, rfl, fun j h => geq_no.1 (hj j h), by simp, Nat.le_refl _, fun _ _ => rfl, rfl⟩
theorem putR_again {m : Int} {n : Nat} {G : Nat → Gt} {g : Gt} (hm : 0 ≤ m) (hk : (putR m n G g).k ≠ 0) :
    putR (putR m n G g).m (putR m n G g).n (putR m n G g).G g = putR m n G g := by
  obtain ⟨i, h1, h2, h3, h4, _, _, _, h8⟩ := putR_loc hm hk
  generalize putR m n G g = r at *
  obtain ⟨rm, rn, rG, rk⟩ := r
  simp only at *
  rw [putR_at h1 h2 h4, h3, h8]
theorem met_one {l : Nat} {V : Nat → Bool} (h0 : V 0 = true) (hl : 0 < l) : metB 1 l V = true := by
  have := met_pos (n := l) (B := V) (j := 0) hl
  simpa [h0] using this
theorem met_not {l : Nat} {V : Nat → Bool} (h0 : V 0 = true) (hl : 0 < l) : metB (-1) l V = false := by
  have := met_neg (n := l) (B := V) (j := 0) hl
  simpa [h0] using this
theorem met_turn {m : Int} {n l : Nat} {V : Nat → Bool} {a : Int} (ha : mkP m n a = true) (hl : (l : Int) = 1 + m + n) : metB (-a) l V = !metB a l V := by
  rw [mkP_iff] at ha
  rcases met_ways l a with ⟨j, hj, rfl⟩ | ⟨j, hj, rfl⟩ | ho
  · rw [met_pos hj, met_neg hj]
  · rw [met_neg hj]
    have e : -(-((j : Int) + 1)) = (j : Int) + 1 := by omega
    rw [e, met_pos hj]; simp
  · omega
/-- The mark of a gate says the gate. -/
theorem put_says {m : Int} {n : Nat} {G : Nat → Gt} {g : Gt} {I : List Bool} (hI : (I.length : Int) = m) (hk : (putR m n G g).k ≠ 0) (hnet : netB (putR m n G g).m (putR m n G g).n (putR m n G g).G = true) :
    metB (putR m n G g).k (1 + I.length + (putR m n G g).n) (atB (outL I (putR m n G g).G (putR m n G g).n)) = if g.x then metB g.a (1 + I.length + (putR m n G g).n) (atB (outL I (putR m n G g).G (putR m n G g).n)) != metB g.b (1 + I.length + (putR m n G g).n) (atB (outL I (putR m n G g).G (putR m n G g).n)) else metB g.a (1 + I.length + (putR m n G g).n) (atB (outL I (putR m n G g).G (putR m n G g).n)) && metB g.b (1 + I.length + (putR m n G g).n) (atB (outL I (putR m n G g).G (putR m n G g).n)) := by
  obtain ⟨i, h1, h2, h3, _, _, _, _, h8⟩ := putR_loc (by omega) hk
  obtain ⟨_, _, _, hgs⟩ := netB_iff.1 hnet
  have hg := (hgs i h1).1
  generalize putR m n G g = r at *
  have h := outL_gate (I := I) (G := r.G) (n := r.n) (m := r.m) (i := i) (by omega) h1 hg
  rw [h2] at h
  rw [← h, h3]
  have e : 2 + m + (i : Int) = ((1 + I.length + i : Nat) : Int) + 1 := by omega
  rw [e, met_pos (by omega)]
theorem andR_ext {m : Int} {n : Nat} {G : Nat → Gt} {a b : Int} (hm : 0 ≤ m) (hk : (andR m n G a b).k ≠ 0) : (andR m n G a b).n ≤ n + 1 ∧ ∀ j, j < n → (andR m n G a b).G j = G j := by
  revert hk
  unfold andR
  repeat' split
  all_goals intro hk
  all_goals first | exact ⟨Nat.le_succ _, fun _ _ => rfl⟩ | (obtain ⟨_, _, _, _, _, h5, _, h7, _⟩ := putR_loc hm hk; exact ⟨h5, h7⟩)
theorem andR_again {m : Int} {n : Nat} {G : Nat → Gt} {a b : Int} (hm : 0 ≤ m) (ha : a ≠ 0) (hb : b ≠ 0) (hk : (andR m n G a b).k ≠ 0) :
    andR (andR m n G a b).m (andR m n G a b).n (andR m n G a b).G b a = andR m n G a b := by
  by_cases c1 : a = -1 ∨ b = -1
  · have e : andR m n G a b = ⟨m, n, G, -1⟩ := by unfold andR; rw [if_pos c1]
    rw [e]
    unfold andR; rw [if_pos (Or.symm c1)]
  · by_cases c2 : a = 1
    · have e : andR m n G a b = ⟨m, n, G, b⟩ := by unfold andR; rw [if_neg c1, if_pos c2]
      rw [e]
      subst c2
      unfold andR
      rw [if_neg (fun h => c1 (Or.symm h))]
      by_cases c3 : b = 1
      · rw [if_pos c3, c3]
      · rw [if_neg c3, if_pos (Or.inl rfl)]
    · by_cases c3 : b = 1 ∨ a = b
      · have e : andR m n G a b = ⟨m, n, G, a⟩ := by unfold andR; rw [if_neg c1, if_neg c2, if_pos c3]
        rw [e]
        unfold andR
        rw [if_neg (fun h => c1 (Or.symm h))]
        by_cases c4 : b = 1
        · rw [if_pos c4]
        · have c5 : a = b := c3.resolve_left c4
          rw [if_neg c4, if_pos (Or.inr c5.symm), c5]
      · by_cases c4 : a = -b
        · have e : andR m n G a b = ⟨m, n, G, -1⟩ := by unfold andR; rw [if_neg c1, if_neg c2, if_neg c3, if_pos c4]
          rw [e]
          unfold andR
          rw [if_neg (fun h => c1 (Or.symm h)), if_neg (fun h => c3 (Or.inl h)), if_neg (by omega), if_pos (by omega)]
        · have hne := absI_ne (a := a) (b := b) (fun e => c3 (Or.inr e)) c4
          by_cases c5 : absI b < absI a
          · have e : andR m n G a b = putR m n G ⟨false, b, a⟩ := by unfold andR; rw [if_neg c1, if_neg c2, if_neg c3, if_neg c4, if_pos c5]
            rw [e] at hk ⊢
            have e2 : andR (putR m n G ⟨false, b, a⟩).m (putR m n G ⟨false, b, a⟩).n (putR m n G ⟨false, b, a⟩).G b a = putR (putR m n G ⟨false, b, a⟩).m (putR m n G ⟨false, b, a⟩).n (putR m n G ⟨false, b, a⟩).G ⟨false, b, a⟩ := by
              unfold andR; rw [if_neg (fun h => c1 (Or.symm h)), if_neg (fun h => c3 (Or.inl h)), if_neg (by omega), if_neg (by omega), if_neg (by omega)]
            rw [e2, putR_again hm hk]
          · have e : andR m n G a b = putR m n G ⟨false, a, b⟩ := by unfold andR; rw [if_neg c1, if_neg c2, if_neg c3, if_neg c4, if_neg c5]
            rw [e] at hk ⊢
            have e2 : andR (putR m n G ⟨false, a, b⟩).m (putR m n G ⟨false, a, b⟩).n (putR m n G ⟨false, a, b⟩).G b a = putR (putR m n G ⟨false, a, b⟩).m (putR m n G ⟨false, a, b⟩).n (putR m n G ⟨false, a, b⟩).G ⟨false, a, b⟩ := by
              unfold andR; rw [if_neg (fun h => c1 (Or.symm h)), if_neg (fun h => c3 (Or.inl h)), if_neg (by omega), if_neg (by omega), if_pos (by omega)]
            rw [e2, putR_again hm hk]
theorem andR_says {m : Int} {n : Nat} {G : Nat → Gt} {a b : Int} (hnet : netB m n G = true) (ha : mkP m n a = true) (hb : mkP m n b = true) (hk : (andR m n G a b).k ≠ 0) :
    SayP m (andR m n G a b).n (andR m n G a b).G a b (andR m n G a b).k false := by
  intro I hI
  obtain ⟨q1, q2, q3, q4⟩ := andR_net hnet ha hb hk
  rw [if_neg (by simp)]
  have t0 : ∀ k H, atB (outL I H k) 0 = true := fun k H => outL_top
  have ln : ∀ k, 0 < 1 + I.length + k := fun k => by omega
  revert hk q1
  unfold andR
  by_cases c1 : a = -1 ∨ b = -1
  · rw [if_pos c1]
    intro _ _
    simp only
    rw [met_not (t0 _ _) (ln _)]
    rcases c1 with rfl | rfl
    · rw [met_not (t0 _ _) (ln _)]; simp
    · rw [met_not (t0 _ _) (ln _)]; simp
  · rw [if_neg c1]
    by_cases c2 : a = 1
    · rw [if_pos c2]
      intro _ _
      subst c2
      simp only
      rw [met_one (t0 _ _) (ln _)]; simp
    · rw [if_neg c2]
      by_cases c3 : b = 1 ∨ a = b
      · rw [if_pos c3]
        intro _ _
        simp only
        rcases c3 with rfl | rfl
        · rw [met_one (t0 _ _) (ln _)]; simp
        · simp
      · rw [if_neg c3]
        by_cases c4 : a = -b
        · rw [if_pos c4]
          intro _ _
          simp only
          rw [met_not (t0 _ _) (ln _), c4, met_turn hb (by omega)]
          simp
        · rw [if_neg c4]
          by_cases c5 : absI b < absI a
          · rw [if_pos c5]
            intro hk q1
            rw [put_says hI hk q1, Bool.and_comm]
            rfl
          · rw [if_neg c5]
            intro hk q1
            rw [put_says hI hk q1]
            rfl
end Go.Proofs.Ytbfijmijhfbkdaa
