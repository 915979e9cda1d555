/- What NetCnf hands back, as a law holds it. -/
import Derived.Test.YtoglplpchjcpoaaCnP
import Derived.Test.YtoglplpchjcpoaaCnL
namespace Go.Proofs.Ytoglplpchjcpoaa
open Go.ChangeShapes Go.WideShapes Go.ChangeAt Go.RowKit Go.Joins
set_option linter.unusedVariables false

noncomputable def ncM (m : Int) (n : Nat) (G : Nat → Gt) : Int := if netB m n G = true then 1 + m + n else 0
noncomputable def ncL (m : Int) (n : Nat) (G : Nat → Gt) : List (List Int) := if netB m n G = true then netL m G n else []
theorem netL_pos (m : Int) (G : Nat → Gt) : ∀ i, 0 < (netL m G i).length
  | 0 => by simp [netL]
  | i + 1 => by have := netL_pos m G i; simp only [netL, List.length_append]; omega
theorem ncL_few (m : Int) (n : Nat) (G : Nat → Gt) : Few (ncL m n G) := by
  unfold ncL
  split
  · rename_i h
    have hp := netB_iff.1 h
    have h1 := netL_len m G n
    have h2 := hp.2.2.1
    exact ⟨by omega, netL_short m G n⟩
  · exact ⟨by simp, fun c hc => by simp at hc⟩
def NcOut (M : Int) (C : List (List Int)) (base : Nat) (e : Ending) (w' : World) : Prop := ∃ a nn cap Q, e = .returned (.agg #[.int .i64 M, .slice a nn cap]) ∧ CwO w' base a nn cap Q ∧ Q.map Prod.snd = C ∧ Q.length = nn ∧ (a = none → cap = 0)
theorem NcPost.out {m : Int} {n : Nat} {G : Nat → Gt} {base : Nat} {e : Ending} {w' : World} (h : NcPost m n G base e w') : NcOut (ncM m n G) (ncL m n G) base e w' := by
  rcases h with ⟨hP, g, nn, cp, Q, h1, h2, h3⟩ | ⟨hP, h1⟩
  · refine ⟨some ⟨g, 0, none⟩, nn, cp, Q, by rw [h1]; simp [ncM, hP], Or.inr ⟨?_, h2.len, g, rfl, h2.cw⟩, by rw [h3]; simp [ncL, hP], h2.len, fun h => by cases h⟩
    have e1 : Q.length = (netL m G n).length := by rw [← h3]; simp
    have e2 := netL_pos m G n
    have := h2.len
    omega
  · exact ⟨none, 0, 0, [], by rw [h1]; simp [ncM, hP], Or.inl ⟨rfl, rfl, rfl, rfl⟩, by simp [ncL, hP], rfl, fun _ => rfl⟩
theorem sNetCnf_out (m : Int) (ad : Option Addr) (n cap : Nat) (G : Nat → Gt) (w : World) (hd : GtsAt w ad n G) (hw : WG n G) (hn : n ≤ 1048576) :
    Calls Try.prog 5 #[.agg #[.int .i64 m, .slice ad n cap]] w fun e w' => NcOut (ncM m n G) (ncL m n G) w.heap.size e w' ∧ Below w.heap.size w w' := by
  refine (sNetCnf_any m ad n cap G w hd hw hn).mono ?_
  rintro e w' ⟨h1, h2⟩
  exact ⟨h1.out, h2⟩
theorem iNetCnf_out (m : Int) (ad : Option Addr) (n cap : Nat) (G : Nat → Gt) (w : World) (hd : GtsAt w ad n G) (hw : WG n G) (hn : n ≤ 1048576) :
    Calls Try.prog 7 #[.agg #[.int .i64 m, .slice ad n cap]] w fun e w' => NcOut (ncM m n G) (ncL m n G) w.heap.size e w' ∧ Below w.heap.size w w' := by
  refine (iNetCnf_any m ad n cap G w hd hw hn).mono ?_
  rintro e w' ⟨h1, h2⟩
  exact ⟨h1.out, h2⟩
end Go.Proofs.Ytoglplpchjcpoaa
