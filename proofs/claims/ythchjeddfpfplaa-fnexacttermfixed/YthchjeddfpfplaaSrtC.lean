/- The sort of a term, of the model. -/
import Derived.Test.YthchjeddfpfplaaSrtB
namespace Go.Proofs.Ythchjeddfpfplaa
open Go.ChangeShapes Go.WideShapes Go.ChangeAt Go.RowKit Go.Joins
set_option linter.unusedVariables false

/-- The sort of a term, with these names; -1 of one that is not right. -/
noncomputable def TT.sort (n : Nat) (S : Nat → ByteArray) (V : Nat → Int) : TT → Int
  | .nil => -1
  | .node op a b s m kid =>
    @ite _ (PlainP op a b s m) (Classical.propDecidable _)
      (if op = 20 then (if okB a b = true then a else -1) else if op = 21 then (if findI S s n < 0 then -1 else V (findI S s n).toNat) else if op = 24 then 0
        else if m = 1 then oneS op a b ((kid 0).sort n S V) else if m = 2 then bothS op ((kid 0).sort n S V) ((kid 1).sort n S V)
        else if (kid 0).sort n S V ≠ 0 ∨ (kid 1).sort n S V ≠ (kid 2).sort n S V then -1 else (kid 1).sort n S V)
      (-1)
theorem sort_no {n : Nat} {S : Nat → ByteArray} {V : Nat → Int} {op a b : Int} {s : ByteArray} {m : Nat} {kid : Nat → TT} (h : ¬ PlainP op a b s m) : (TT.node op a b s m kid).sort n S V = -1 := by simp [TT.sort, h]
theorem sort_plain {n : Nat} {S : Nat → ByteArray} {V : Nat → Int} {op a b : Int} {s : ByteArray} {m : Nat} {kid : Nat → TT} (h : PlainP op a b s m) : (TT.node op a b s m kid).sort n S V =
      (if op = 20 then (if okB a b = true then a else -1) else if op = 21 then (if findI S s n < 0 then -1 else V (findI S s n).toNat) else if op = 24 then 0
        else if m = 1 then oneS op a b ((kid 0).sort n S V) else if m = 2 then bothS op ((kid 0).sort n S V) ((kid 1).sort n S V)
        else if (kid 0).sort n S V ≠ 0 ∨ (kid 1).sort n S V ≠ (kid 2).sort n S V then -1 else (kid 1).sort n S V) := by
  rw [TT.sort]
  exact if_pos h
theorem one_bd (op A B a : Int) (ha : -1 ≤ a) (ha4 : a ≤ 4) : -1 ≤ oneS op A B a ∧ oneS op A B a ≤ 4 := by
  unfold oneS
  repeat' split
  all_goals omega
theorem both_bd (op a b : Int) (ha : -1 ≤ a) (ha4 : a ≤ 4) : -1 ≤ bothS op a b ∧ bothS op a b ≤ 4 := by
  unfold bothS
  repeat' split
  all_goals omega
theorem sort_bd {n : Nat} {S : Nat → ByteArray} {V : Nat → Int} (hV : ∀ i, i < n → 1 ≤ V i ∧ V i ≤ 4) : ∀ t : TT, -1 ≤ t.sort n S V ∧ t.sort n S V ≤ 4 := by
  intro t
  induction t with
  | nil => simp [TT.sort]
  | node op a b s m kid ih =>
    by_cases h : PlainP op a b s m
    · rw [sort_plain h]
      split
      · split
        · rename_i hok
          have := hok
          simp [okB] at this
          omega
        · omega
      · split
        · split
          · omega
          · rename_i hf
            rcases findI_cases S s n with ⟨f1, _⟩ | ⟨k, hk, f1, _, _⟩
            · omega
            · rw [f1]
              have := hV k hk
              simp only [Int.toNat_natCast]
              omega
        · split
          · omega
          · split
            · exact one_bd _ _ _ _ (ih 0).1 (ih 0).2
            · split
              · exact both_bd _ _ _ (ih 0).1 (ih 0).2
              · split
                · omega
                · exact ih 1
    · rw [sort_no h]; omega
/-- The five cells of a term's box. -/
def Box5 (w : World) (bl : Nat) (op a b : Int) (s : ByteArray) (ad : Option Addr) (m cp : Nat) : Prop :=
  w.cell? ⟨bl, 0, none⟩ = some (.int .i64 op) ∧ w.cell? ⟨bl, 1, none⟩ = some (.int .i64 a) ∧ w.cell? ⟨bl, 2, none⟩ = some (.int .i64 b) ∧ w.cell? ⟨bl, 3, none⟩ = some (.string s) ∧ w.cell? ⟨bl, 4, none⟩ = some (.slice ad m cp)
theorem Box5.later {w w' : World} {bl : Nat} {op a b : Int} {s : ByteArray} {ad : Option Addr} {m cp : Nat} (h : Box5 w bl op a b s ad m cp) (hb : Below w.heap.size w w') : Box5 w' bl op a b s ad m cp :=
  ⟨cell_later hb h.1, cell_later hb h.2.1, cell_later hb h.2.2.1, cell_later hb h.2.2.2.1, cell_later hb h.2.2.2.2⟩
/-- What TermSort answers. -/
noncomputable def tsort (n : Nat) (S : Nat → ByteArray) (V : Nat → Int) (t : TT) : Int := @ite _ (DeclP n S V ∧ t.N ≤ 20 ∧ t.D ≤ 7) (Classical.propDecidable _) (t.sort n S V) (-1)
theorem tsort_yes {n : Nat} {S : Nat → ByteArray} {V : Nat → Int} {t : TT} (h : DeclP n S V ∧ t.N ≤ 20 ∧ t.D ≤ 7) : tsort n S V t = t.sort n S V := if_pos h
theorem tsort_no {n : Nat} {S : Nat → ByteArray} {V : Nat → Int} {t : TT} (h : ¬ (DeclP n S V ∧ t.N ≤ 20 ∧ t.D ≤ 7)) : tsort n S V t = -1 := if_neg h
end Go.Proofs.Ythchjeddfpfplaa
