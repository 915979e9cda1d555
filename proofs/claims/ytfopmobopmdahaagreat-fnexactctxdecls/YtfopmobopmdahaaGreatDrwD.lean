/- What the model's draw of names returns: one to four names of one to four bits, in a list of its own; the reader moves on, nothing else that was there turns. -/
import Derived.Test.YtfopmobopmdahaaGreatRd
import Derived.Test.YtfopmobopmdahaaGreatGrwA
import Derived.Test.YtfopmobopmdahaaGreatDecA
namespace Go.Proofs.YtfopmobopmdahaaGreat
open Go.ChangeShapes Go.WideShapes Go.ChangeAt Go.RowKit Go.Joins
set_option linter.unusedVariables false

theorem Decs.mov {w w' : World} {b off n R : Nat} {S : Nat → ByteArray} {V : Nat → Int} (h : Decs w b off n S V) (hm : Mov R w w') (hR : b ≠ R) : Decs w' b off n S V :=
  fun i hi => ⟨hm.cell (h i hi).1 hR, hm.cell (h i hi).2 hR⟩
/-- Names as cells. -/
def dcells (L : List (ByteArray × Int)) : List Value := L.flatMap (fun p => [.string p.1, .int .i64 p.2])
theorem dcells_snoc (L : List (ByteArray × Int)) (p : ByteArray × Int) : dcells (L ++ [p]) = dcells L ++ [.string p.1, .int .i64 p.2] := by simp [dcells]
theorem dcells_at : ∀ (L : List (ByteArray × Int)) (i : Nat) (h : i < L.length), (dcells L)[i * 2]? = some (.string (L[i]).1) ∧ (dcells L)[i * 2 + 1]? = some (.int .i64 (L[i]).2)
  | [], i, h => by simp at h
  | p :: L, 0, h => by simp [dcells]
  | p :: L, i + 1, h => by
    have e : dcells (p :: L) = .string p.1 :: .int .i64 p.2 :: dcells L := rfl
    have h' : i < L.length := by simpa using h
    obtain ⟨a, b⟩ := dcells_at L i h'
    rw [e]
    refine ⟨?_, ?_⟩
    · rw [show (i + 1) * 2 = i * 2 + 1 + 1 by omega]; simpa using a
    · rw [show (i + 1) * 2 + 1 = i * 2 + 1 + 1 + 1 by omega]; simpa using b
/-- A list of names of one's own, as names. -/
theorem own_decs {w : World} {base g n cap : Nat} {e : TypeId} {L : List (ByteArray × Int)} (h : w.ownsRow base e 2 (.slice (some ⟨g, 0, none⟩) n cap) n (dcells L)) (hn : n = L.length) :
    Decs w g 0 n (fun i => (L.getD i (ByteArray.empty, 0)).1) (fun i => (L.getD i (ByteArray.empty, 0)).2) := by
  intro i hi
  have hl : i < L.length := by omega
  obtain ⟨a, b⟩ := dcells_at L i hl
  have hc := h.cells (g := g) rfl
  have ha := hc _ _ a
  have hb := hc _ _ b
  rw [Go.WideShapes.add_plain, Nat.zero_add] at ha hb
  have e1 : L.getD i (ByteArray.empty, 0) = L[i] := by simp [List.getD, hl]
  simp only [e1, Nat.zero_add]
  exact ⟨ha, hb⟩
def sumL : List (ByteArray × Int) → Int
  | [] => 0
  | p :: L => p.2 + sumL L
theorem sumL_snoc : ∀ (L : List (ByteArray × Int)) (p : ByteArray × Int), sumL (L ++ [p]) = sumL L + p.2
  | [], p => by simp [sumL]
  | q :: L, p => by
    have := sumL_snoc L p
    simp only [List.cons_append, sumL, this]
    omega
end Go.Proofs.YtfopmobopmdahaaGreat
