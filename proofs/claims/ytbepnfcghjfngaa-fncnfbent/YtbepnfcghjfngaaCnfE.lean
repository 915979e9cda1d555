/- Clauses with one more behind: which are right, and which are one. -/
import Derived.Test.YtbepnfcghjfngaaCnfC
import Derived.Test.YtbepnfcghjfngaaClzA
namespace Go.Proofs.Ytbepnfcghjfngaa
set_option linter.unusedVariables false
open Go.ChangeShapes Go.WideShapes Go.ChangeAt Go.RowKit Go.Joins

theorem atC_front {Ls : List Clz} {q : Clz} {i : Nat} (h : i < Ls.length) : atC (Ls ++ [q]) i = atC Ls i := by
  unfold atC; rw [List.getD_eq_getElem?_getD, List.getD_eq_getElem?_getD, List.getElem?_append_left h]
theorem atC_last {Ls : List Clz} {q : Clz} : atC (Ls ++ [q]) Ls.length = q := by simp [atC, List.getD]
theorem cL_front {Ls : List Clz} {q : Clz} {i : Nat} (h : i < Ls.length) : cL (Ls ++ [q]) i = cL Ls i := by unfold cL; rw [atC_front h]
theorem cV_front {Ls : List Clz} {q : Clz} {i : Nat} (h : i < Ls.length) : cV (Ls ++ [q]) i = cV Ls i := by funext j; unfold cV; rw [atC_front h]
theorem cL_last {Ls : List Clz} {q : Clz} : cL (Ls ++ [q]) Ls.length = q.L.length := by unfold cL; rw [atC_last]
theorem cV_last {Ls : List Clz} {q : Clz} : cV (Ls ++ [q]) Ls.length = at0 q.L := by funext j; unfold cV; rw [atC_last]
/-- One more clause that is right leaves them right. -/
theorem more_right {m : Int} {Ls : List Clz} {q : Clz} (h : CnfP m Ls.length (cL Ls) (cV Ls)) (h9 : Ls.length + 1 ≤ 2500) (hq : ClP q.L.length (at0 q.L) m.toNat) : cnfB m (Ls.length + 1) (cL (Ls ++ [q])) (cV (Ls ++ [q])) = true := cnfB_yes ⟨h.1, h.2.1, h9, fun i hi => by
  by_cases e : i = Ls.length
  · subst e; rw [cL_last, cV_last]; exact hq
  · rw [cL_front (by omega), cV_front (by omega)]; exact h.2.2.2 i (by omega)⟩
/-- One more that is not right: they are not. -/
theorem more_wrong {m : Int} {Ls : List Clz} {q : Clz} (hq : ¬ ClP q.L.length (at0 q.L) m.toNat) : cnfB m (Ls.length + 1) (cL (Ls ++ [q])) (cV (Ls ++ [q])) = false := cnfB_no (fun h => hq (by have := h.2.2.2 Ls.length (by omega); rwa [cL_last, cV_last] at this))
theorem far_wrong {m : Int} (h : 0 ≤ m) : ¬ ClP ([m + 1] : List Int).length (at0 [m + 1]) m.toNat := fun hc => by
  have h1 := (hc 0 (by simp)).2.1
  simp [at0] at h1
  omega
theorem twice_wrong {N : Nat} : ¬ ClP ([1, -1] : List Int).length (at0 [1, -1]) N := fun hc => by
  have h1 := (hc 1 (by simp)).2.2
  simp [at0, lastI, absI] at h1
theorem zero_wrong {N : Nat} : ¬ ClP ([0] : List Int).length (at0 [0]) N := fun hc => by
  have h1 := (hc 0 (by simp)).2.2
  simp [at0, lastI, absI] at h1
theorem not1_right {m : Int} (h : 1 ≤ m) : ClP ([-1] : List Int).length (at0 [-1]) m.toNat := fun k hk => by
  have e : k = 0 := by simpa using hk
  subst e
  refine ⟨?_, ?_, ?_⟩ <;> simp [at0, lastI, absI] <;> omega
theorem eqP_comm {l l' : Nat} {V V' : Nat → Int} : EqP l l' V V' ↔ EqP l' l V' V := ⟨fun h => ⟨h.1.symm, fun k hk => (h.2 k (by have := h.1; omega)).symm⟩, fun h => ⟨h.1.symm, fun k hk => (h.2 k (by have := h.1; omega)).symm⟩⟩
theorem sameB_comm {m m' : Int} {n n' : Nat} {L L' : Nat → Nat} {V V' : Nat → Nat → Int} : sameB m m' n n' L L' V V' = sameB m' m n' n L' L V' V := by
  rw [Bool.eq_iff_iff, sameB_iff, sameB_iff]
  exact ⟨fun h => ⟨h.1.symm, h.2.1.symm, fun i hi => eqP_comm.1 (h.2.2 i (by have := h.2.1; omega))⟩, fun h => ⟨h.1.symm, h.2.1.symm, fun i hi => eqP_comm.1 (h.2.2 i (by have := h.2.1; omega))⟩⟩
theorem sameB_self {m : Int} {n : Nat} {L : Nat → Nat} {V : Nat → Nat → Int} : sameB m m n n L L V V = true := sameB_yes ⟨rfl, rfl, fun i _ => ⟨rfl, fun _ _ => rfl⟩⟩
theorem sameB_more {m : Int} {n : Nat} {L L' : Nat → Nat} {V V' : Nat → Nat → Int} : sameB m m n (n + 1) L L' V V' = false := sameB_no (fun h => by have := h.2.1; omega)
/-- Two that differ in how long their last clause is are not one. -/
theorem sameB_tail {m m' : Int} {Ls : List Clz} {q q' : Clz} (h : q.L.length ≠ q'.L.length) : sameB m m' (Ls.length + 1) (Ls.length + 1) (cL (Ls ++ [q])) (cL (Ls ++ [q'])) (cV (Ls ++ [q])) (cV (Ls ++ [q'])) = false := sameB_no (fun hs => h (by
  have := (hs.2.2 Ls.length (by omega)).1
  rwa [cL_last, cL_last] at this))
end Go.Proofs.Ytbepnfcghjfngaa
