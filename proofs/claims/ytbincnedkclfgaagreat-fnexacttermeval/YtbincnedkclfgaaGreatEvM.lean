/- What a right term is, is a number of its sort. -/
import Derived.Test.YtbincnedkclfgaaGreatPwD
namespace Go.Proofs.YtbincnedkclfgaaGreat
open Go.ChangeShapes Go.WideShapes Go.ChangeAt Go.RowKit Go.Joins
set_option linter.unusedVariables false

theorem Ans.good {sv ev x y : Int} {r : Bool} (h : Ans sv ev x y r) (hs : 0 ≤ sv) : Good sv ev := by
  cases r
  · have := h.2 rfl
    omega
  · obtain ⟨rfl, rfl, hg⟩ := h.1 rfl
    exact hg
theorem one_sub {op A B a : Int} (h : 0 ≤ oneS op A B a) : 0 ≤ a := by
  unfold oneS at h
  by_cases k : 0 ≤ a
  · exact k
  · rw [if_neg (show ¬ a = 0 by omega), if_pos (show a < 1 by omega)] at h
    split at h <;> omega
theorem both_sub {op a b : Int} (h : 0 ≤ bothS op a b) : 0 ≤ a ∧ 0 ≤ b := by
  unfold bothS at h
  repeat' split at h
  all_goals omega
theorem good_all {n : Nat} {S : Nat → ByteArray} {V E : Nat → Int} (hEnv : ∀ i, i < n → okB (V i) (E i) = true) (t : TT) : 0 ≤ t.sort n S V → Good (t.sort n S V) (t.ev n S V E) := by
  induction t with
  | nil => intro h; simp [TT.sort] at h
  | node op a b s m kid ih =>
    intro h
    by_cases hpl : PlainP op a b s m
    · have har := hpl.2.2
      have hsv := sort_plain (n := n) (S := S) (V := V) (kid := kid) hpl
      rcases arity_cases op with ⟨ho, e⟩ | ⟨ho, e⟩ | ⟨ho, e⟩ | ⟨ho, e⟩ | ⟨ho, e⟩ | ⟨ho, e⟩
      · rcases ho with rfl | rfl | rfl
        · rw [if_pos rfl] at hsv
          have hev : (TT.node 20 a b s m kid).ev n S V E = b := by simp only [TT.ev]; rw [if_pos (by trivial)]
          rw [hsv] at h ⊢
          rw [hev]
          cases hok : okB a b
          · rw [hok] at h; simp at h
          · rw [if_pos rfl]; exact Or.inr hok
        · rw [if_neg (by omega), if_pos rfl] at hsv
          have hev : (TT.node 21 a b s m kid).ev n S V E = E (findI S s n).toNat := by simp only [TT.ev]; rw [if_neg (by omega), if_pos (by trivial)]
          rw [hsv] at h ⊢
          rw [hev]
          rcases findI_cases S s n with ⟨f1, _⟩ | ⟨k, k1, f1, _, _⟩
          · rw [f1, if_pos (by omega)] at h; omega
          · rw [f1, if_neg (by omega), Int.toNat_natCast]
            exact Or.inr (hEnv k k1)
        · rw [if_neg (by omega), if_neg (by omega), if_pos rfl] at hsv
          have hev : (TT.node 24 a b s m kid).ev n S V E = 1 := by simp only [TT.ev]; rw [if_neg (by omega), if_neg (by omega), if_pos (by trivial)]
          rw [hsv, hev]
          exact Or.inl ⟨rfl, Or.inr rfl⟩
      · obtain rfl : m = 1 := by omega
        rw [if_neg (by omega), if_neg (by omega), if_neg (by omega), if_pos rfl] at hsv
        rw [hsv] at h ⊢
        have g := ih 0 (one_sub h)
        rcases ho with ho | ho | rfl | rfl
        · have hev : (TT.node op a b s 1 kid).ev n S V E = unE op ((kid 0).sort n S V) ((kid 0).ev n S V E) := by simp only [TT.ev]; rw [if_neg (by omega), if_neg (by omega), if_neg (by omega), if_neg (by omega), if_neg (by omega), if_neg (by omega), if_neg (by omega), if_neg (by omega), if_pos (by trivial)]
          rw [hev]
          obtain ⟨c, d, r, hV⟩ := unV_form op ((kid 0).sort n S V) ((kid 0).ev n S V E)
          exact (fin_un (Or.inl ho) g (show tup c d r = _ from hV.symm)).good h
        · have hev : (TT.node op a b s 1 kid).ev n S V E = unE op ((kid 0).sort n S V) ((kid 0).ev n S V E) := by simp only [TT.ev]; rw [if_neg (by omega), if_neg (by omega), if_neg (by omega), if_neg (by omega), if_neg (by omega), if_neg (by omega), if_neg (by omega), if_neg (by omega), if_pos (by trivial)]
          rw [hev]
          obtain ⟨c, d, r, hV⟩ := unV_form op ((kid 0).sort n S V) ((kid 0).ev n S V E)
          exact (fin_un (Or.inr ho) g (show tup c d r = _ from hV.symm)).good h
        · have hev : (TT.node 22 a b s 1 kid).ev n S V E = cutE ((kid 0).sort n S V) ((kid 0).ev n S V E) a b := by simp only [TT.ev]; rw [if_neg (by omega), if_neg (by omega), if_neg (by omega), if_neg (by omega), if_neg (by omega), if_neg (by omega), if_neg (by omega), if_pos (by trivial)]
          rw [hev]
          obtain ⟨c, d, r, hV⟩ := cutV_form ((kid 0).sort n S V) ((kid 0).ev n S V E) a b
          exact (fin_cut g (show tup c d r = _ from hV.symm)).good h
        · have hev : (TT.node 25 a b s 1 kid).ev n S V E = 1 - (kid 0).ev n S V E := by simp only [TT.ev]; rw [if_neg (by omega), if_neg (by omega), if_neg (by omega), if_pos (by trivial)]
          rw [hev]
          exact (fin_no g rfl).good h
      · subst ho
        obtain rfl : m = 3 := by omega
        rw [if_neg (by omega), if_neg (by omega), if_neg (by omega), if_neg (by omega), if_neg (by omega)] at hsv
        have hev : (TT.node 23 a b s 3 kid).ev n S V E = if (kid 0).ev n S V E = 1 then (kid 1).ev n S V E else (kid 2).ev n S V E := by simp only [TT.ev]; rw [if_neg (by omega), if_neg (by omega), if_neg (by omega), if_neg (by omega), if_neg (by omega), if_neg (by omega), if_pos (by trivial)]
        rw [hsv] at h ⊢
        rw [hev]
        by_cases hc : (kid 0).sort n S V ≠ 0 ∨ (kid 1).sort n S V ≠ (kid 2).sort n S V
        · rw [if_pos hc] at h; omega
        · rw [if_neg hc] at h ⊢
          have h12 : (kid 1).sort n S V = (kid 2).sort n S V := by omega
          split
          · exact ih 1 h
          · rw [h12]; exact ih 2 (by omega)
      · obtain rfl : m = 2 := by omega
        rw [if_neg (by omega), if_neg (by omega), if_neg (by omega), if_neg (by omega), if_pos rfl] at hsv
        rw [hsv] at h ⊢
        have g0 := ih 0 (both_sub h).1
        have g1 := ih 1 (both_sub h).2
        rcases ho with rfl | rfl
        · have hev : (TT.node 26 a b s 2 kid).ev n S V E = (kid 0).ev n S V E * (kid 1).ev n S V E := by simp only [TT.ev]; rw [if_neg (by omega), if_neg (by omega), if_neg (by omega), if_neg (by omega), if_pos (by trivial)]
          rw [hev]
          exact (fin_both g0 g1 rfl).good h
        · have hev : (TT.node 27 a b s 2 kid).ev n S V E = max ((kid 0).ev n S V E) ((kid 1).ev n S V E) := by simp only [TT.ev]; rw [if_neg (by omega), if_neg (by omega), if_neg (by omega), if_neg (by omega), if_neg (by omega), if_pos (by trivial)]
          rw [hev]
          exact (fin_any g0 g1 rfl).good h
      · obtain rfl : m = 2 := by omega
        rw [if_neg (by omega), if_neg (by omega), if_neg (by omega), if_neg (by omega), if_pos rfl] at hsv
        rw [hsv] at h ⊢
        have g0 := ih 0 (both_sub h).1
        have g1 := ih 1 (both_sub h).2
        by_cases h15 : 15 ≤ op
        · have hev : (TT.node op a b s 2 kid).ev n S V E = b01 (cmpR op ((kid 0).sort n S V) ((kid 0).ev n S V E) ((kid 1).sort n S V) ((kid 1).ev n S V E)) := by simp only [TT.ev]; rw [if_neg (by omega), if_neg (by omega), if_neg (by omega), if_neg (by omega), if_neg (by omega), if_neg (by omega), if_neg (by omega), if_neg (by omega), if_neg (by omega), if_pos h15]
          rw [hev]
          exact (fin_cmp h15 (by omega) g0 g1 rfl).good h
        · have hev : (TT.node op a b s 2 kid).ev n S V E = binE op ((kid 0).sort n S V) ((kid 0).ev n S V E) ((kid 1).sort n S V) ((kid 1).ev n S V E) := by simp only [TT.ev]; rw [if_neg (by omega), if_neg (by omega), if_neg (by omega), if_neg (by omega), if_neg (by omega), if_neg (by omega), if_neg (by omega), if_neg (by omega), if_neg (by omega), if_neg h15]
          rw [hev]
          obtain ⟨c, d, r, hV⟩ := binV_form op ((kid 0).sort n S V) ((kid 0).ev n S V E) ((kid 1).sort n S V) ((kid 1).ev n S V E)
          exact (fin_bin (by omega) (by omega) g0 g1 (show tup c d r = _ from hV.symm)).good h
      · exfalso; omega
    · rw [sort_no hpl] at h; omega
/-- The numbers in the answers of the operations. -/
theorem unV_N {op a n c d : Int} {t : Bool} (h : unV op a n = tup c d t) : d = unE op a n := by
  unfold unV at h
  unfold unE
  split at h
  · rw [if_pos (by assumption)]; exact (tup_inj (show tup _ _ true = _ from h)).2.1.symm
  · rw [if_neg (by assumption)]; exact (tup_inj (show tup 0 0 false = _ from h)).2.1.symm
theorem cutV_N {a n hi lo c d : Int} {t : Bool} (h : cutV a n hi lo = tup c d t) : d = cutE a n hi lo := by
  unfold cutV at h
  unfold cutE
  split at h
  · rw [if_pos (by assumption)]; exact (tup_inj (show tup _ _ true = _ from h)).2.1.symm
  · rw [if_neg (by assumption)]; exact (tup_inj (show tup 0 0 false = _ from h)).2.1.symm
theorem binV_N {op a x b y c d : Int} {t : Bool} (h : binV op a x b y = tup c d t) : d = binE op a x b y := by
  unfold binV at h
  unfold binE
  split at h
  · rw [if_pos (by assumption)]
    split at h
    · rw [if_pos (by assumption)]
      split at h
      · rw [if_pos (by assumption)]; exact (tup_inj (show tup _ _ true = _ from h)).2.1.symm
      · rw [if_neg (by assumption)]; exact (tup_inj (show tup 0 0 false = _ from h)).2.1.symm
    · rw [if_neg (by assumption)]
      split at h
      · rw [if_pos (by assumption)]; exact (tup_inj (show tup _ _ true = _ from h)).2.1.symm
      · rw [if_neg (by assumption)]; exact (tup_inj (show tup 0 0 false = _ from h)).2.1.symm
  · rw [if_neg (by assumption)]; exact (tup_inj (show tup 0 0 false = _ from h)).2.1.symm
end Go.Proofs.YtbincnedkclfgaaGreat
