/- Terms that are written there: what they are. No program is read here. -/
import Derived.Test.YthchjeddfpfplaaSamM
namespace Go.Proofs.Ythchjeddfpfplaa
open Go.ChangeShapes Go.WideShapes Go.ChangeAt Go.RowKit Go.Joins
set_option linter.unusedVariables false

/-- What is true, and the false term. -/
def truT : TT := .node 24 0 0 ByteArray.empty 0 (fun _ => .nil)
def falT : TT := .node 25 0 0 ByteArray.empty 1 (fun _ => truT)
def VecP (t : TT) : Prop := t.op = 20 ∧ t.n = 0 ∧ t.s.toList = [] ∧ okB t.a t.b = true
noncomputable def vecB (t : TT) : Bool := by classical exact decide (VecP t)
theorem vecB_iff (t : TT) : vecB t = true ↔ VecP t := by simp [vecB]
theorem vecB_no {t : TT} (h : ¬ VecP t) : vecB t = false := by simpa [vecB] using h
theorem vecB_yes {t : TT} (h : VecP t) : vecB t = true := (vecB_iff t).2 h
noncomputable def fixB (t : TT) : Bool := sameB t truT || sameB t falT || vecB t
noncomputable def fixN (t : TT) : Int := if sameB t truT = true then 1 else if sameB t falT = true then 0 else if vecB t = true then t.b else 0
/-- Its sort. -/
def fixW (t : TT) : Int := if t.op = 20 then t.a else 0
theorem empty_list : ByteArray.empty.toList = [] := by rw [ByteArray.toList_eq]; rfl
theorem same_tru (t : TT) : t.Same truT ↔ t.op = 24 ∧ t.a = 0 ∧ t.b = 0 ∧ t.s.toList = [] ∧ t.n = 0 := by
  constructor
  · intro h
    have k := (same_iff _ _).1 h
    exact ⟨k.1, k.2.1, k.2.2.1, k.2.2.2.1.trans empty_list, k.2.2.2.2.1⟩
  · rintro ⟨h1, h2, h3, h4, h5⟩
    exact (same_iff _ _).2 ⟨h1, h2, h3, h4.trans empty_list.symm, h5, fun i hi => absurd hi (by rw [h5]; exact Nat.not_lt_zero i)⟩
theorem same_fal (t : TT) : t.Same falT ↔ t.op = 25 ∧ t.a = 0 ∧ t.b = 0 ∧ t.s.toList = [] ∧ t.n = 1 ∧ (t.kid 0).Same truT := by
  constructor
  · intro h
    have k := (same_iff _ _).1 h
    have h5 : t.n = 1 := k.2.2.2.2.1
    exact ⟨k.1, k.2.1, k.2.2.1, k.2.2.2.1.trans empty_list, h5, k.2.2.2.2.2 0 (by rw [h5]; exact Nat.one_pos)⟩
  · rintro ⟨h1, h2, h3, h4, h5, h6⟩
    refine (same_iff _ _).2 ⟨h1, h2, h3, h4.trans empty_list.symm, h5, fun i hi => ?_⟩
    rw [h5] at hi
    obtain rfl : i = 0 := by omega
    exact h6
theorem op_tru {t : TT} (h : t.op ≠ 24) : sameB t truT = false := sameB_no (fun k => h ((same_tru t).1 k).1)
theorem op_fal {t : TT} (h : t.op ≠ 25) : sameB t falT = false := sameB_no (fun k => h ((same_fal t).1 k).1)
theorem op_vec {t : TT} (h : t.op ≠ 20) : vecB t = false := vecB_no (fun k => h k.1)
theorem fix_none {t : TT} (h1 : t.op ≠ 20) (h2 : t.op ≠ 24) (h3 : t.op ≠ 25) : fixB t = false := by
  unfold fixB
  rw [op_tru h2, op_fal h3, op_vec h1]
  rfl
theorem fix_vec {t : TT} (h : t.op = 20) : fixB t = vecB t ∧ (vecB t = true → fixN t = t.b) := by
  unfold fixB fixN
  rw [op_tru (by omega), op_fal (by omega)]
  refine ⟨rfl, fun hv => ?_⟩
  rw [hv]
  simp
theorem fix_tru {t : TT} (h : t.op = 24) : fixB t = sameB t truT ∧ (sameB t truT = true → fixN t = 1) := by
  unfold fixB fixN
  rw [op_vec (by omega), op_fal (by omega)]
  refine ⟨by simp, fun hv => by rw [hv]; rfl⟩
theorem fix_fal {t : TT} (h : t.op = 25) : fixB t = sameB t falT ∧ (sameB t falT = true → fixN t = 0) := by
  unfold fixB fixN
  rw [op_vec (by omega), op_tru (by omega)]
  refine ⟨by simp, fun hv => by rw [hv]; rfl⟩
end Go.Proofs.Ythchjeddfpfplaa
