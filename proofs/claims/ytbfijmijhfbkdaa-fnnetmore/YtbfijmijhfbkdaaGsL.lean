/- What the laws over gates lean on: pure. -/
import Derived.Test.YtbfijmijhfbkdaaGsM
import Derived.Test.YtbfijmijhfbkdaaNsA
namespace Go.Proofs.Ytbfijmijhfbkdaa
open Go.ChangeShapes Go.WideShapes Go.ChangeAt Go.RowKit Go.Joins
set_option linter.unusedVariables false
set_option linter.unusedSimpArgs false

theorem nsB_refl (m : Int) (n : Nat) (G : Nat → Gt) : nsB m m n n G G = true := by
  unfold nsB
  rw [geB_yes ⟨rfl, fun _ _ => rfl⟩]
  simp
theorem wg_net {m : Int} {n : Nat} {G : Nat → Gt} (h : netB m n G = true) : WG n G := fun i hi => by
  obtain ⟨h0, h1, h2, h3⟩ := netB_iff.1 h
  obtain ⟨q1, q2, q3, _⟩ := (h3 i hi).1
  have ha : absI (G i).a < 700 := by omega
  have hb : absI (G i).b < 700 := by omega
  rw [absI_lt] at ha hb
  exact ⟨by unfold W64; omega, by unfold W64; omega⟩
theorem mkP_more {m : Int} {n n' : Nat} {a : Int} (h : mkP m n a = true) (hn : n ≤ n') : mkP m n' a = true := by
  rw [mkP_iff] at h ⊢
  omega
theorem netAnd_in {m : Int} {n : Nat} {G : Nat → Gt} {a b : Int} (h : (netAndR m n G a b).k ≠ 0) : inB m n G a b := by
  by_cases hi : inB m n G a b
  · exact hi
  · rw [netAndR_no hi] at h; exact absurd rfl h
theorem putR_none {m : Int} {n : Nat} {G : Nat → Gt} {g : Gt} (hm : 0 ≤ m) (hk : (putR m n G g).k = 0) : (putR m n G g).m = 0 ∧ (putR m n G g).n = 0 := by
  rcases firstO_ways (fun i => geq (G i) g) n with ⟨_, hno⟩ | ⟨i, hi, _, hgi, hj⟩
  · by_cases h6 : 600 ≤ n
    · rw [putR_full (fun j hj => geq_no.1 (hno j hj)) h6]; exact ⟨rfl, rfl⟩
    · rw [putR_new (fun j hj => geq_no.1 (hno j hj)) (by omega)] at hk; simp only at hk; omega
  · rw [putR_at hi (geq_iff.1 hgi) (fun j h => geq_no.1 (hj j h))] at hk; simp only at hk; omega
theorem netAnd_zero {m : Int} {n : Nat} {G : Nat → Gt} {a b : Int} (h : (netAndR m n G a b).k = 0) : (netAndR m n G a b).m = 0 ∧ (netAndR m n G a b).n = 0 := by
  by_cases hi : inB m n G a b
  · rw [netAndR_yes hi] at h ⊢
    have hm := (netB_iff.1 hi.1).1
    have ha := (mkP_iff.1 hi.2.1).1
    have hb := (mkP_iff.1 hi.2.2).1
    revert h
    unfold andR
    repeat' split
    all_goals intro h
    all_goals first | exact putR_none hm h | (simp only at h; omega)
  · rw [netAndR_no hi]; exact ⟨rfl, rfl⟩
/-- All that the laws ask of a net that And made. -/
theorem netAnd_facts {m : Int} {n : Nat} {G : Nat → Gt} {a b : Int} (h : (netAndR m n G a b).k ≠ 0) :
    ∃ M : Nat, m = (M : Int) ∧ netB (M : Int) n G = true ∧ (netAndR m n G a b).m = (M : Int) ∧ netB (M : Int) (netAndR m n G a b).n (netAndR m n G a b).G = true ∧ n ≤ (netAndR m n G a b).n ∧ (netAndR m n G a b).n ≤ n + 1 ∧ (∀ i, i < n → (netAndR m n G a b).G i = G i) ∧ SayP (M : Int) (netAndR m n G a b).n (netAndR m n G a b).G a b (netAndR m n G a b).k false ∧ (-700 ≤ (netAndR m n G a b).k ∧ (netAndR m n G a b).k ≤ 700) ∧ netAndR (netAndR m n G a b).m (netAndR m n G a b).n (netAndR m n G a b).G b a = netAndR m n G a b := by
  obtain ⟨i1, i2, i3⟩ := netAnd_in h
  obtain ⟨m0, m8, n6, _⟩ := netB_iff.1 i1
  obtain ⟨M, rfl⟩ := Int.eq_ofNat_of_zero_le m0
  have e := netAndR_yes (m := (M : Int)) (n := n) (G := G) (a := a) (b := b) ⟨i1, i2, i3⟩
  rw [e] at h ⊢
  obtain ⟨q1, q2, q3, q4⟩ := andR_net i1 i2 i3 h
  obtain ⟨x1, x2⟩ := andR_ext m0 h
  have q1' := q1
  rw [q2] at q1'
  have hin : inB (andR (M : Int) n G a b).m (andR (M : Int) n G a b).n (andR (M : Int) n G a b).G b a := ⟨q1, by rw [q2]; exact mkP_more i3 q3, by rw [q2]; exact mkP_more i2 q3⟩
  have q5 := mkP_iff.1 q4
  have q6 := (netB_iff.1 q1').2.2.1
  exact ⟨M, rfl, i1, q2, q1', q3, x1, x2, andR_says i1 i2 i3 h, by omega, by rw [netAndR_yes hin]; exact andR_again m0 (mkP_iff.1 i2).1 (mkP_iff.1 i3).1 h⟩
end Go.Proofs.Ytbfijmijhfbkdaa
