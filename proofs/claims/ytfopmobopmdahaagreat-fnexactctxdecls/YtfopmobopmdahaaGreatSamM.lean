/- When two terms are one, and what a walk over pairs of lists of Kids keeps. No program is read here. -/
import Derived.Test.YtfopmobopmdahaaGreatTrmB
namespace Go.Proofs.YtfopmobopmdahaaGreat
open Go.ChangeShapes Go.WideShapes Go.ChangeAt Go.RowKit Go.Joins
set_option linter.unusedVariables false

def TT.Same : TT → TT → Prop
  | .nil, u => (0 : Int) = u.op ∧ (0 : Int) = u.a ∧ (0 : Int) = u.b ∧ ByteArray.empty.toList = u.s.toList ∧ 0 = u.n
  | .node op a b s n kid, u => op = u.op ∧ a = u.a ∧ b = u.b ∧ s.toList = u.s.toList ∧ n = u.n ∧ ∀ i, i < n → (kid i).Same (u.kid i)
/-- All Kids are the same. -/
def LSame (t u : TT) : Prop := ∀ i, i < t.n → (t.kid i).Same (u.kid i)
theorem same_iff (t u : TT) : t.Same u ↔ t.op = u.op ∧ t.a = u.a ∧ t.b = u.b ∧ t.s.toList = u.s.toList ∧ t.n = u.n ∧ LSame t u := by
  cases t with
  | nil =>
    simp only [TT.Same, LSame, TT.op, TT.a, TT.b, TT.s, TT.n]
    constructor
    · rintro ⟨h1, h2, h3, h4, h5⟩; exact ⟨h1, h2, h3, h4, h5, fun i hi => by omega⟩
    · rintro ⟨h1, h2, h3, h4, h5, _⟩; exact ⟨h1, h2, h3, h4, h5⟩
  | node op a b s n kid => exact Iff.rfl
theorem TT.Same.symm : ∀ (t u : TT), t.Same u → u.Same t := by
  intro t
  induction t with
  | nil =>
    intro u h
    obtain ⟨h1, h2, h3, h4, h5, h6⟩ := (same_iff _ _).1 h
    exact (same_iff _ _).2 ⟨h1.symm, h2.symm, h3.symm, h4.symm, h5.symm, fun i hi => by rw [← h5] at hi; simp [TT.n] at hi⟩
  | node op a b s n kid ih =>
    intro u h
    obtain ⟨h1, h2, h3, h4, h5, h6⟩ := (same_iff _ _).1 h
    exact (same_iff _ _).2 ⟨h1.symm, h2.symm, h3.symm, h4.symm, h5.symm, fun i hi => ih i _ (h6 i (by rw [h5]; exact hi))⟩
theorem TT.Same.trans : ∀ (t u v : TT), t.Same u → u.Same v → t.Same v := by
  intro t
  induction t with
  | nil =>
    intro u v h k
    obtain ⟨h1, h2, h3, h4, h5, h6⟩ := (same_iff _ _).1 h
    obtain ⟨k1, k2, k3, k4, k5, k6⟩ := (same_iff _ _).1 k
    exact (same_iff _ _).2 ⟨h1.trans k1, h2.trans k2, h3.trans k3, h4.trans k4, h5.trans k5, fun i hi => by simp [TT.n] at hi⟩
  | node op a b s n kid ih =>
    intro u v h k
    obtain ⟨h1, h2, h3, h4, h5, h6⟩ := (same_iff _ _).1 h
    obtain ⟨k1, k2, k3, k4, k5, k6⟩ := (same_iff _ _).1 k
    exact (same_iff _ _).2 ⟨h1.trans k1, h2.trans k2, h3.trans k3, h4.trans k4, h5.trans k5, fun i hi => ih i _ _ (h6 i hi) (k6 i (by rw [← h5]; exact hi))⟩
theorem TT.Same.refl : ∀ (t : TT), t.Same t := by
  intro t
  induction t with
  | nil => exact (same_iff _ _).2 ⟨rfl, rfl, rfl, rfl, rfl, fun i hi => by simp [TT.n] at hi⟩
  | node op a b s n kid ih => exact (same_iff _ _).2 ⟨rfl, rfl, rfl, rfl, rfl, fun i hi => ih i⟩
noncomputable def sameB (t u : TT) : Bool := by classical exact decide (t.Same u)
theorem sameB_iff (t u : TT) : sameB t u = true ↔ t.Same u := by simp [sameB]
theorem sameB_yes {t u : TT} (h : t.Same u) : sameB t u = true := (sameB_iff t u).2 h
theorem sameB_no {t u : TT} (h : ¬ t.Same u) : sameB t u = false := by simpa [sameB] using h
theorem sumN_congr (f g : Nat → Nat) : ∀ (n : Nat), (∀ i, i < n → f i = g i) → sumN f n = sumN g n
  | 0, _ => rfl
  | n + 1, h => by
    show sumN f n + f n = sumN g n + g n
    rw [sumN_congr f g n (fun i hi => h i (by omega)), h n (by omega)]
/-- What lies at one place is one. -/
theorem In_same {w : World} {lo hi lo' hi' : Nat} : ∀ (t t' : TT) (ad : Option Addr), t.In w lo hi ad → t'.In w lo' hi' ad → t.n = t'.n → LSame t t' ∧ t.N = t'.N := by
  intro t
  induction t with
  | nil => intro t' ad h; exact h.elim
  | node op a b s n kid ih =>
    intro t' ad h h' hn
    cases t' with
    | nil => exact h'.elim
    | node op' a' b' s' n' kid' =>
      have hn' : n = n' := hn
      subst hn'
      have each : ∀ i, i < n → (kid i).Same (kid' i) ∧ (kid i).N = (kid' i).N := by
        intro i hi
        rcases h with h | ⟨bl, off, e, _, _, AD, CP, hk⟩
        · omega
        · rcases h' with h' | ⟨bl', off', e', _, _, AD', CP', hk'⟩
          · omega
          · rw [e] at e'
            simp only [Option.some.injEq, Addr.mk.injEq, and_true] at e'
            obtain ⟨rfl, rfl⟩ := e'
            obtain ⟨⟨f0, f1, f2, f3, f4⟩, _, hin⟩ := hk i hi
            obtain ⟨⟨g0, g1, g2, g3, g4⟩, _, hin'⟩ := hk' i hi
            rw [f0] at g0; rw [f1] at g1; rw [f2] at g2; rw [f3] at g3; rw [f4] at g4
            simp only [Option.some.injEq, Value.int.injEq, Value.string.injEq, Value.slice.injEq, true_and] at g0 g1 g2 g3 g4
            obtain ⟨ea, en, _⟩ := g4
            rw [← ea] at hin'
            obtain ⟨l1, l2⟩ := ih i (kid' i) (AD i) hin hin' en
            exact ⟨(same_iff _ _).2 ⟨g0, g1, g2, by rw [g3], en, l1⟩, l2⟩
      refine ⟨fun i hi => (each i hi).1, ?_⟩
      rw [TT.N_node, TT.N_node, sumN_congr _ _ n (fun i hi => (each i hi).2)]
theorem LSame_swap {t u t' u' : TT} (h : LSame t t') (k : LSame u u') (hn : t.n = t'.n) (hm : u.n = u'.n) (he : t.n = u.n) : LSame t u ↔ LSame t' u' := by
  constructor
  · intro l i hi
    exact TT.Same.trans _ _ _ (TT.Same.symm _ _ (h i (by omega))) (TT.Same.trans _ _ _ (l i (by omega)) (k i (by omega)))
  · intro l i hi
    exact TT.Same.trans _ _ _ (h i hi) (TT.Same.trans _ _ _ (l i (by omega)) (TT.Same.symm _ _ (k i (by omega))))
theorem sumN_at (f : Nat → Nat) {i n : Nat} (h : i < n) : f i ≤ sumN f n := by
  have := sumN_mono f (show i + 1 ≤ n by omega)
  have e : sumN f (i + 1) = sumN f i + f i := rfl
  omega
theorem kid_N (t : TT) (i : Nat) (hi : i < t.n) : (t.kid i).N < t.N := by
  cases t with
  | nil => simp [TT.n] at hi
  | node op a b s n kid =>
    rw [TT.N_node]
    have := sumN_at (fun i => (kid i).N) (show i < n from hi)
    show (kid i).N < _
    omega

/-- Two lists of Kids, of one size, with where they lie. -/
structure Fr where
  t : TT
  u : TT
  ad : Option Addr
  ad' : Option Addr
  cp : Nat
  cp' : Nat
def Lies (w : World) (lo hi : Nat) (f : Fr) : Prop := f.t.In w lo hi f.ad ∧ f.u.In w lo hi f.ad' ∧ f.t.n = f.u.n
def Fr.same (f : Fr) : Prop := LSame f.t f.u
/-- What is wrong among the pairs met is wrong among those still to be walked, in no greater ones. -/
def I1 (L M : List Fr) : Prop := ∀ p, p ∈ M → ¬ p.same → ∃ q, q ∈ L ∧ ¬ q.same ∧ q.t.N ≤ p.t.N
def I2 (X : Prop) (L : List Fr) : Prop := ∀ q, q ∈ L → ¬ q.same → ¬ X
def K1 (q : Fr) (i : Nat) (L M : List Fr) : Prop :=
  ∀ p, p ∈ M → ¬ p.same → (∃ r, r ∈ L ∧ ¬ r.same ∧ r.t.N ≤ p.t.N) ∨ (q.t.N ≤ p.t.N ∧ ∃ j, i ≤ j ∧ j < q.t.n ∧ ¬ (q.t.kid j).Same (q.u.kid j))
theorem K_start {q : Fr} {L M : List Fr} (h : I1 (L ++ [q]) M) : K1 q 0 L M := by
  intro p hp hs
  obtain ⟨r, hr, h1, h2⟩ := h p hp hs
  rcases List.mem_append.1 hr with hr | hr
  · exact Or.inl ⟨r, hr, h1, h2⟩
  · rw [List.mem_singleton] at hr
    subst hr
    refine Or.inr ⟨h2, ?_⟩
    unfold Fr.same LSame at h1
    simp only [Classical.not_forall] at h1
    obtain ⟨j, hj, hn⟩ := h1
    exact ⟨j, Nat.zero_le _, hj, hn⟩
theorem K_end {q : Fr} {L M : List Fr} (h : K1 q q.t.n L M) : I1 L M := by
  intro p hp hs
  rcases h p hp hs with h | ⟨_, j, h1, h2, _⟩
  · exact h
  · omega
theorem K_skip {q f : Fr} {i : Nat} {L M : List Fr} (h : K1 q i L M) (hi : i < q.t.n) (ht : f.t = q.t.kid i) (hu : f.u = q.u.kid i)
    (hd : f.t.op = f.u.op ∧ f.t.a = f.u.a ∧ f.t.b = f.u.b ∧ f.t.s.toList = f.u.s.toList ∧ f.t.n = f.u.n)
    (hw : f.same ∨ ∃ p, p ∈ M ∧ (p.same ↔ f.same) ∧ p.t.N = f.t.N) : K1 q (i + 1) L M := by
  intro p hp hs
  rcases h p hp hs with h' | ⟨h1, j, j1, j2, j3⟩
  · exact Or.inl h'
  · by_cases e : j = i
    · subst e
      have hf : ¬ f.same := fun k => j3 (by rw [← ht, ← hu]; exact (same_iff _ _).2 ⟨hd.1, hd.2.1, hd.2.2.1, hd.2.2.2.1, hd.2.2.2.2, k⟩)
      rcases hw with hw | ⟨p', hp', e1, e2⟩
      · exact absurd hw hf
      · have lt : f.t.N < q.t.N := by rw [ht]; exact kid_N _ _ j2
        rcases h p' hp' (fun k => hf (e1.1 k)) with ⟨r, r1, r2, r3⟩ | ⟨k1, _⟩
        · exact Or.inl ⟨r, r1, r2, by omega⟩
        · omega
    · exact Or.inr ⟨h1, j, by omega, j2, j3⟩
theorem K_push {q f : Fr} {i : Nat} {L M : List Fr} (h : K1 q i L M) (hi : i < q.t.n) (ht : f.t = q.t.kid i) (hu : f.u = q.u.kid i)
    (hd : f.t.op = f.u.op ∧ f.t.a = f.u.a ∧ f.t.b = f.u.b ∧ f.t.s.toList = f.u.s.toList ∧ f.t.n = f.u.n) : K1 q (i + 1) (L ++ [f]) (f :: M) := by
  intro p hp hs
  rcases List.mem_cons.1 hp with rfl | hp
  · exact Or.inl ⟨p, by simp, hs, Nat.le_refl _⟩
  · rcases h p hp hs with ⟨r, r1, r2, r3⟩ | ⟨h1, j, j1, j2, j3⟩
    · exact Or.inl ⟨r, by simp [r1], r2, r3⟩
    · by_cases e : j = i
      · subst e
        have hf : ¬ f.same := fun k => j3 (by rw [← ht, ← hu]; exact (same_iff _ _).2 ⟨hd.1, hd.2.1, hd.2.2.1, hd.2.2.2.1, hd.2.2.2.2, k⟩)
        have lt : f.t.N < q.t.N := by rw [ht]; exact kid_N _ _ j2
        exact Or.inl ⟨f, by simp, hf, by omega⟩
      · exact Or.inr ⟨h1, j, by omega, j2, j3⟩
def msr (L : List Fr) : Nat := (L.map (fun f => f.t.N)).sum
theorem msr_snoc (L : List Fr) (f : Fr) : msr (L ++ [f]) = msr L + f.t.N := by simp [msr]
end Go.Proofs.YtfopmobopmdahaaGreat
