/- Two things asked of a net one behind the other: how many gates, and what the earlier mark says: pure. -/
import Derived.Test.YtbfijmijhfbkdaaGsX
namespace Go.Proofs.Ytbfijmijhfbkdaa
open Go.ChangeShapes Go.WideShapes Go.ChangeAt Go.RowKit Go.Joins
set_option linter.unusedVariables false
set_option linter.unusedSimpArgs false

theorem SayP.ext {m : Int} {n n' : Nat} {G G' : Nat → Gt} {a b k : Int} {x : Bool} (h : SayP m n G a b k x) (hn : n ≤ n') (he : ∀ i, i < n → G' i = G i) (ha : mkP m n a = true) (hb : mkP m n b = true) (hk : mkP m n k = true) : SayP m n' G' a b k x := by
  intro I hI
  have h' := h I hI
  rw [mkP_iff] at ha hb hk
  have e : ∀ i, i < 1 + I.length + n → atB (outL I G n) i = atB (outL I G' n') i := fun i hi => (outL_both he hn hi).symm
  have la : ∀ c : Int, c ≠ 0 → -(1 + m + n) ≤ c → c ≤ 1 + m + n → 1 ≤ absI c ∧ absI c ≤ ((1 + I.length + n : Nat) : Int) := fun c c0 c1 c2 => by
    unfold absI
    split <;> omega
  have hl : 1 + I.length + n ≤ 1 + I.length + n' := by omega
  rw [met_pre e hl (la a ha.1 ha.2.1 ha.2.2).1 (la a ha.1 ha.2.1 ha.2.2).2, met_pre e hl (la b hb.1 hb.2.1 hb.2.2).1 (la b hb.1 hb.2.1 hb.2.2).2, met_pre e hl (la k hk.1 hk.2.1 hk.2.2).1 (la k hk.1 hk.2.1 hk.2.2).2] at h'
  exact h'
theorem put_found {m : Int} {n : Nat} {G : Nat → Gt} {g : Gt} (h : ∃ j, j < n ∧ G j = g) : (putR m n G g).n = n := by
  rcases firstO_ways (fun i => geq (G i) g) n with ⟨_, hno⟩ | ⟨i, hi, _, hgi, hj⟩
  · obtain ⟨j, hj, e⟩ := h
    exact absurd e (geq_no.1 (hno j hj))
  · rw [putR_at hi (geq_iff.1 hgi) (fun j h => geq_no.1 (hj j h))]
theorem put_made {m : Int} {n : Nat} {G : Nat → Gt} {g : Gt} (hm : 0 ≤ m) (h : ∀ j, j < n → G j ≠ g) (hk : (putR m n G g).k ≠ 0) : (putR m n G g).n = n + 1 ∧ (putR m n G g).G n = g := by
  by_cases h6 : 600 ≤ n
  · rw [putR_full h h6] at hk; exact absurd rfl hk
  · rw [putR_new h (by omega)]; exact ⟨rfl, snocG_at _ _ _⟩
theorem put_top {m : Int} {n : Nat} {G : Nat → Gt} {g : Gt} (hm : 0 ≤ m) (hk : (putR m n G g).k ≠ 0) : ∀ j, n ≤ j → j < (putR m n G g).n → (putR m n G g).G j = g := fun j h1 h2 => by
  by_cases h : ∃ j, j < n ∧ G j = g
  · rw [put_found h] at h2; omega
  · have h' : ∀ j, j < n → G j ≠ g := fun j hj e => h ⟨j, hj, e⟩
    obtain ⟨e1, e2⟩ := put_made hm h' hk
    have : j = n := by omega
    subst this; exact e2
/-- One thing more that is asked of a longer net adds as many gates. -/
theorem put_count {m : Int} {n n' : Nat} {G G' : Nat → Gt} {g : Gt} (hm : 0 ≤ m) (hn : n ≤ n') (he : ∀ j, j < n → G' j = G j) (ht : ∀ j, n ≤ j → j < n' → G' j ≠ g) (hk : (putR m n G g).k ≠ 0) (hk' : (putR m n' G' g).k ≠ 0) :
    (putR m n' G' g).n + n = n' + (putR m n G g).n := by
  by_cases h : ∃ j, j < n ∧ G j = g
  · obtain ⟨j, hj, e⟩ := h
    rw [put_found ⟨j, hj, e⟩, put_found ⟨j, by omega, by rw [he j hj]; exact e⟩]
  · have h1 : ∀ j, j < n → G j ≠ g := fun j hj e => h ⟨j, hj, e⟩
    have h2 : ∀ j, j < n' → G' j ≠ g := fun j hj e => by
      by_cases hjn : j < n
      · rw [he j hjn] at e; exact h1 j hjn e
      · exact ht j (by omega) hj e
    rw [(put_made hm h1 hk).1, (put_made hm h2 hk').1]; omega
def aGate (a b : Int) : Gt := if absI b < absI a then ⟨false, b, a⟩ else ⟨false, a, b⟩
theorem andR_kinds (a b : Int) : (∀ m n G, (andR m n G a b).n = n ∧ (andR m n G a b).G = G) ∨ (∀ m n G, andR m n G a b = putR m n G (aGate a b)) := by
  by_cases c1 : a = -1 ∨ b = -1
  · exact Or.inl fun m n G => by unfold andR; rw [if_pos c1]; exact ⟨rfl, rfl⟩
  · by_cases c2 : a = 1
    · exact Or.inl fun m n G => by unfold andR; rw [if_neg c1, if_pos c2]; exact ⟨rfl, rfl⟩
    · by_cases c3 : b = 1 ∨ a = b
      · exact Or.inl fun m n G => by unfold andR; rw [if_neg c1, if_neg c2, if_pos c3]; exact ⟨rfl, rfl⟩
      · by_cases c4 : a = -b
        · exact Or.inl fun m n G => by unfold andR; rw [if_neg c1, if_neg c2, if_neg c3, if_pos c4]; exact ⟨rfl, rfl⟩
        · exact Or.inr fun m n G => by
            unfold andR aGate
            rw [if_neg c1, if_neg c2, if_neg c3, if_neg c4]
            by_cases c5 : absI b < absI a
            · rw [if_pos c5, if_pos c5]
            · rw [if_neg c5, if_neg c5]
theorem xorR_kinds (a b : Int) : (∀ m n G, (xorR m n G a b).n = n ∧ (xorR m n G a b).G = G) ∨ (∀ m n G, xorR m n G a b = turnR (putR m n G (xGate a b)) (xSign a b)) := by
  by_cases c1 : absI a = 1
  · exact Or.inl fun m n G => by rw [xorR_one c1]; exact ⟨rfl, rfl⟩
  · by_cases c2 : absI b = 1
    · exact Or.inl fun m n G => by rw [xorR_two c1 c2]; exact ⟨rfl, rfl⟩
    · by_cases c3 : a = b
      · exact Or.inl fun m n G => by rw [xorR_eq c1 c2 c3]; exact ⟨rfl, rfl⟩
      · by_cases c4 : a = -b
        · exact Or.inl fun m n G => by rw [xorR_un c1 c2 c3 c4]; exact ⟨rfl, rfl⟩
        · exact Or.inr fun m n G => xorR_put c1 c2 c3 c4
theorem aGate_x (a b : Int) : (aGate a b).x = false := by unfold aGate; split <;> rfl
theorem xGate_x (a b : Int) : (xGate a b).x = true := by unfold xGate; split <;> rfl
theorem andR_top {m : Int} {n : Nat} {G : Nat → Gt} {a b : Int} (hm : 0 ≤ m) (hk : (andR m n G a b).k ≠ 0) : ∀ j, n ≤ j → j < (andR m n G a b).n → ((andR m n G a b).G j).x = false := fun j h1 h2 => by
  rcases andR_kinds a b with h | h
  · rw [(h m n G).1] at h2; omega
  · rw [h m n G] at hk h2 ⊢; rw [put_top hm hk j h1 h2]; exact aGate_x _ _
theorem xorR_top {m : Int} {n : Nat} {G : Nat → Gt} {a b : Int} (hm : 0 ≤ m) (hk : (xorR m n G a b).k ≠ 0) : ∀ j, n ≤ j → j < (xorR m n G a b).n → ((xorR m n G a b).G j).x = true := fun j h1 h2 => by
  rcases xorR_kinds a b with h | h
  · rw [(h m n G).1] at h2; omega
  · rw [h m n G] at hk h2 ⊢
    have := put_top hm (turn_k hk) j h1 h2
    show ((putR m n G (xGate a b)).G j).x = true
    rw [this]; exact xGate_x _ _
theorem andR_count {m : Int} {n n' : Nat} {G G' : Nat → Gt} {a b : Int} (hm : 0 ≤ m) (hn : n ≤ n') (he : ∀ j, j < n → G' j = G j) (ht : ∀ j, n ≤ j → j < n' → (G' j).x = true) (hk : (andR m n G a b).k ≠ 0) (hk' : (andR m n' G' a b).k ≠ 0) : (andR m n' G' a b).n + n = n' + (andR m n G a b).n := by
  rcases andR_kinds a b with h | h
  · rw [(h m n G).1, (h m n' G').1]
  · rw [h m n G] at hk ⊢; rw [h m n' G'] at hk' ⊢
    exact put_count hm hn he (fun j h1 h2 e => by have := ht j h1 h2; rw [e, aGate_x] at this; cases this) hk hk'
theorem xorR_count {m : Int} {n n' : Nat} {G G' : Nat → Gt} {a b : Int} (hm : 0 ≤ m) (hn : n ≤ n') (he : ∀ j, j < n → G' j = G j) (ht : ∀ j, n ≤ j → j < n' → (G' j).x = false) (hk : (xorR m n G a b).k ≠ 0) (hk' : (xorR m n' G' a b).k ≠ 0) : (xorR m n' G' a b).n + n = n' + (xorR m n G a b).n := by
  rcases xorR_kinds a b with h | h
  · rw [(h m n G).1, (h m n' G').1]
  · rw [h m n G] at hk ⊢; rw [h m n' G'] at hk' ⊢
    show (putR m n' G' (xGate a b)).n + n = n' + (putR m n G (xGate a b)).n
    exact put_count hm hn he (fun j h1 h2 e => by have := ht j h1 h2; rw [e, xGate_x] at this; cases this) (turn_k hk) (turn_k hk')
/-- All that the law asks of the two ways. -/
theorem both_ways {m : Int} {n : Nat} {G : Nat → Gt} {a b : Int} {x y p q : NR} (hx : x = netAndR m n G a b) (hy : y = netXorR m n G a b) (hp : p = netXorR x.m x.n x.G a b) (hq : q = netAndR y.m y.n y.G a b) (kx : x.k ≠ 0) (ky : y.k ≠ 0) (kp : p.k ≠ 0) (kq : q.k ≠ 0) :
    ∃ M : Nat, m = (M : Int) ∧ netB (M : Int) n G = true ∧ p.m = (M : Int) ∧ q.m = (M : Int) ∧ netB (M : Int) p.n p.G = true ∧ netB (M : Int) q.n q.G = true ∧ n ≤ p.n ∧ n ≤ q.n ∧ (∀ i, i < n → p.G i = G i) ∧ (∀ i, i < n → q.G i = G i) ∧ SayP (M : Int) p.n p.G a b p.k true ∧ SayP (M : Int) q.n q.G a b q.k false ∧ SayP (M : Int) p.n p.G a b x.k false ∧ SayP (M : Int) q.n q.G a b y.k true ∧ p.n = q.n ∧ (W64 p.k ∧ W64 q.k ∧ W64 x.k ∧ W64 y.k) := by
  have fx := netAnd_facts (m := m) (n := n) (G := G) (a := a) (b := b) (by rw [← hx]; exact kx)
  have fy := netXor_facts (m := m) (n := n) (G := G) (a := a) (b := b) (by rw [← hy]; exact ky)
  have fp := netXor_facts (m := x.m) (n := x.n) (G := x.G) (a := a) (b := b) (by rw [← hp]; exact kp)
  have fq := netAnd_facts (m := y.m) (n := y.n) (G := y.G) (a := a) (b := b) (by rw [← hq]; exact kq)
  have ix := netAnd_in (m := m) (n := n) (G := G) (a := a) (b := b) (by rw [← hx]; exact kx)
  have iy := netXor_in (m := m) (n := n) (G := G) (a := a) (b := b) (by rw [← hy]; exact ky)
  have ip := netXor_in (m := x.m) (n := x.n) (G := x.G) (a := a) (b := b) (by rw [← hp]; exact kp)
  have iq := netAnd_in (m := y.m) (n := y.n) (G := y.G) (a := a) (b := b) (by rw [← hq]; exact kq)
  have ex : x = andR m n G a b := by rw [hx, netAndR_yes ix]
  have ey : y = xorR m n G a b := by rw [hy, netXorR_yes iy]
  have ep : p = xorR x.m x.n x.G a b := by rw [hp, netXorR_yes ip]
  have eq : q = andR y.m y.n y.G a b := by rw [hq, netAndR_yes iq]
  rw [← hx] at fx
  rw [← hy] at fy
  rw [← hp] at fp
  rw [← hq] at fq
  obtain ⟨i1, i2, i3⟩ := ix
  obtain ⟨m0, m8, n6, _⟩ := netB_iff.1 i1
  obtain ⟨M, hM, o1, xm, xo, xn, _, xe, xs, xb, _⟩ := fx
  obtain ⟨M2, hM2, _, ym, yo, yn, _, ye, ys, yb, _, _⟩ := fy
  obtain ⟨M3, hM3, _, pm, po, pn, _, pe, ps, pb, _, _⟩ := fp
  obtain ⟨M4, hM4, _, qm, qo, qn, _, qe, qs, qb, _⟩ := fq
  have e2 : M2 = M := by omega
  have e3 : M3 = M := by omega
  have e4 : M4 = M := by omega
  subst e2 e3 e4 hM
  rw [xm] at ep
  rw [ym] at eq
  have q4 := (andR_net i1 i2 i3 (by rw [← ex]; exact kx)).2.2.2
  have q5 := (xorR_net i1 i2 i3 (by rw [← ey]; exact ky)).2.2.2
  rw [← ex] at q4
  rw [← ey] at q5
  have t1 := andR_top (m := (M4 : Int)) (n := n) (G := G) (a := a) (b := b) m0 (by rw [← ex]; exact kx)
  have t2 := xorR_top (m := (M4 : Int)) (n := n) (G := G) (a := a) (b := b) m0 (by rw [← ey]; exact ky)
  rw [← ex] at t1
  rw [← ey] at t2
  have c1 := xorR_count (m := (M4 : Int)) (n := n) (n' := x.n) (G := G) (G' := x.G) (a := a) (b := b) m0 xn xe t1 (by rw [← ey]; exact ky) (by rw [← ep]; exact kp)
  have c2 := andR_count (m := (M4 : Int)) (n := n) (n' := y.n) (G := G) (G' := y.G) (a := a) (b := b) m0 yn ye t2 (by rw [← ex]; exact kx) (by rw [← eq]; exact kq)
  rw [← ep, ← ey] at c1
  rw [← eq, ← ex] at c2
  refine ⟨M4, rfl, o1, pm, qm, po, qo, by omega, by omega, fun i hi => (pe i (by omega)).trans (xe i hi), fun i hi => (qe i (by omega)).trans (ye i hi), ps, qs, xs.ext pn pe (mkP_more i2 xn) (mkP_more i3 xn) q4, ys.ext qn qe (mkP_more i2 yn) (mkP_more i3 yn) q5, by omega, ?_⟩
  unfold W64
  omega
end Go.Proofs.Ytbfijmijhfbkdaa
