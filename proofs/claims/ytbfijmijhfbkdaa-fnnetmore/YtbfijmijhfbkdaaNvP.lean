/- What a net says, by the places of what it says; and the laws' holding of two lists of truth values against each other. -/
import Derived.Test.YtbfijmijhfbkdaaNvC
namespace Go.Proofs.Ytbfijmijhfbkdaa
open Go.ChangeShapes Go.WideShapes Go.ChangeAt Go.RowKit Go.Joins
set_option linter.unusedVariables false
set_option linter.unusedSimpArgs false

theorem atB_left {L M : List Bool} {i : Nat} (h : i < L.length) : atB (L ++ M) i = atB L i := by
  unfold atB
  rw [List.getD_eq_getElem?_getD, List.getD_eq_getElem?_getD, List.getElem?_append_left h]
theorem outL_pre {I : List Bool} {G : Nat → Gt} {j i : Nat} (hi : i < 1 + I.length + j) : ∀ {n}, j ≤ n → atB (outL I G n) i = atB (outL I G j) i
  | 0, h => by have : j = 0 := by omega
               subst this; rfl
  | n + 1, h => by
    by_cases e : j = n + 1
    · subst e; rfl
    · rw [← outL_pre hi (show j ≤ n by omega), outL, atB_left (by rw [outL_len]; omega)]
theorem outL_top {I : List Bool} {G : Nat → Gt} {n : Nat} : atB (outL I G n) 0 = true := by rw [outL_pre (j := 0) (by omega) (Nat.zero_le _)]; rfl
theorem outL_ins {I : List Bool} {G : Nat → Gt} {n i : Nat} (h : i < I.length) : atB (outL I G n) (1 + i) = atB I i := by
  rw [outL_pre (j := 0) (by omega) (Nat.zero_le _), Nat.add_comm]
  rfl
theorem outL_at {I : List Bool} {G : Nat → Gt} {n i : Nat} (h : i < n) : atB (outL I G n) (1 + I.length + i) = gval (G i) (outL I G i) := by
  rw [outL_pre (j := i + 1) (by omega) (by omega), outL]
  unfold atB
  rw [List.getD_eq_getElem?_getD, List.getElem?_append_right (by rw [outL_len]; exact Nat.le_refl _), outL_len]
  simp
theorem met_pre {m : Int} {l l' : Nat} {B B' : Nat → Bool} (h : ∀ i, i < l → B i = B' i) (hl : l ≤ l') (ha : 1 ≤ absI m) (hb : absI m ≤ l) : metB m l B = metB m l' B' := by
  rcases met_ways l m with ⟨j, hj, rfl⟩ | ⟨j, hj, rfl⟩ | ho
  · rw [met_pos hj, met_pos (by omega), h j hj]
  · rw [met_neg hj, met_neg (by omega), h j hj]
  · unfold absI at ha hb
    split at ha <;> split at hb <;> omega
theorem outL_gate {I : List Bool} {G : Nat → Gt} {m : Int} {n i : Nat} (hm : (I.length : Int) = m) (h : i < n) (hg : GmP (2 + m + i) (G i)) :
    atB (outL I G n) (1 + I.length + i) = if (G i).x then metB (G i).a (1 + I.length + n) (atB (outL I G n)) != metB (G i).b (1 + I.length + n) (atB (outL I G n)) else metB (G i).a (1 + I.length + n) (atB (outL I G n)) && metB (G i).b (1 + I.length + n) (atB (outL I G n)) := by
  rw [outL_at h]
  unfold gval
  obtain ⟨h1, h2, h3, _⟩ := hg
  have e : ∀ k, k < (outL I G i).length → atB (outL I G i) k = atB (outL I G n) k := fun k hk => by
    rw [outL_len] at hk
    exact (outL_pre hk (by omega)).symm
  have hl : (outL I G i).length ≤ 1 + I.length + n := by rw [outL_len]; omega
  rw [met_pre (m := (G i).a) e hl (by omega) (by rw [outL_len]; omega), met_pre (m := (G i).b) e hl (by omega) (by rw [outL_len]; omega)]
set_option maxHeartbeats 1000000 in
theorem wpBools_same (a c : Option Addr) (n cap cap' : Nat) (V : Nat → Bool) (w : World) (hd : BlsAt w a n V) (hd' : BlsAt w c n V) (hn : n ≤ 1048576) :
    Calls Try.prog 10 #[.slice a n cap, .slice c n cap'] w fun e w' => e = .returned (.bool true) ∧ Below w.heap.size w w' := by
  have HD := hide hd
  have HE := hide hd'
  clear hd hd'
  go_enter Try.func10, Try.ntmps10
  go_wp2
  go_loopw [5] (fun i wr => ∃ k : Nat, k ≤ n ∧ i = .int .i64 k ∧ Below w.heap.size w wr) (fun i _ => n - (intOf i).toNat)
  case atStart => exact ⟨0, by omega, rfl, (by repeat (first | exact Below.refl _ _ | assumption | refine below_drewN ?_ _ | refine Below.drew ?_ | refine Below.alloc ?_ (by first | exact Nat.le_refl _ | exact Below.size (by assumption) | (simp; done) | (simp; omega)) _ | refine Below.setCell ?_ (by first | exact Nat.le_refl _ | exact Below.size (by assumption) | (simp; done) | (simp; omega)) _ | refine Below.trans ?_ (by assumption)))⟩
  case round =>
    obtain ⟨k, hk, rfl, hbel⟩ := hrel
    by_cases hlt : k < n
    · obtain ⟨b, off, rfl, hb, hd⟩ := (unhide HD).ok hlt
      obtain ⟨c, off', rfl, hc, hd'⟩ := (unhide HE).ok hlt
      have d0 := (hbel.cell (p := ⟨b, off + k, none⟩) hb).trans (hd k hlt)
      have g0 := (hbel.cell (p := ⟨c, off' + k, none⟩) hc).trans (hd' k hlt)
      clear hd hd'
      have kb : (V k != V k) = false := by simp
      go_wp2
      go_region
      all_goals go_wp2
      all_goals go_roundw
      all_goals first | exact ⟨k + 1, by omega, by go_num, (by first | exact hbel | exact hbel.drew)⟩ | (simp [intOf]; omega)
    · go_wp2
      go_ret
      exact ⟨rfl, hbel⟩
end Go.Proofs.Ytbfijmijhfbkdaa
