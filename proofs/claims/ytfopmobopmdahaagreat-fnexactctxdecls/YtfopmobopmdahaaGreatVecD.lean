/- Contracts of the program's rows of operations and of the search in them. -/
import Derived.Test.YtfopmobopmdahaaGreatVecC
import Derived.Laws.EntriesVeiled
namespace Go.Proofs.YtfopmobopmdahaaGreat
open Go.ChangeShapes Go.WideShapes Go.ChangeAt Go.RowKit Go.Joins
set_option linter.unusedVariables false

/-- Rows of an operation's number and its function, as they lie in a block. -/
def RowsAt (w : World) (B : Nat) (rows : List (Int × Nat)) : Prop :=
  ∀ i, i < rows.length → w.cell? ⟨B, i * 2, none⟩ = some (.int .i64 (rows.getD i (0, 0)).1) ∧ w.cell? ⟨B, i * 2 + 1, none⟩ = some (.func (.func (rows.getD i (0, 0)).2) #[] #[])

/-- What the search answers: the function of the first row of that number, or none. -/
def foundV (rows : List (Int × Nat)) (op : Int) : Value :=
  match rows.find? (fun r => r.1 == op) with | some r => .tuple #[.func (.func r.2) #[] #[], .bool true] | none => .tuple #[.nilFunc, .bool false]
theorem foundV_some (rows : List (Int × Nat)) (op : Int) (k : Nat) (ro : Int) (rf : Nat) (hk : k < rows.length) (hno : ∀ j, j < k → (rows.getD j (0, 0)).1 ≠ op) (hr : rows.getD k (0, 0) = (ro, rf)) (h : ro = op) :
    foundV rows op = .tuple #[.func (.func rf) #[] #[], .bool true] := by
  have e : rows.find? (fun r => r.1 == op) = some (ro, rf) := by
    induction rows generalizing k with
    | nil => simp at hk
    | cons x l ih =>
      rw [List.find?_cons]
      cases k with
      | zero => simp at hr; subst hr; simp [h]
      | succ k =>
        have h0 := hno 0 (by omega)
        simp at h0
        have hb : (x.1 == op) = false := by simpa using h0
        rw [hb]
        exact ih k (by simpa using hk) (fun j hj => by simpa using hno (j + 1) (by omega)) (by simpa using hr)
  simp [foundV, e]
theorem foundV_none (rows : List (Int × Nat)) (op : Int) (hno : ∀ j, j < rows.length → (rows.getD j (0, 0)).1 ≠ op) : foundV rows op = .tuple #[.nilFunc, .bool false] := by
  have e : rows.find? (fun r => r.1 == op) = none := by
    rw [List.find?_eq_none]
    intro x hx
    obtain ⟨i, hi, rfl⟩ := List.getElem_of_mem hx
    have := hno i hi
    simpa [List.getD, hi] using this
  simp [foundV, e]

theorem frozen_later {w w' : World} {p : Addr} {v : Value} (hb : Below w.heap.size w w') (h : w.cell? p = some v) (hf : w.frozen? p = false) : w'.frozen? p = false := by rw [hb.frozen (World.block_lt_of_cell? _ _ h)]; exact hf
theorem RowsAt.later {w w' : World} {B : Nat} {rows : List (Int × Nat)} (h : RowsAt w B rows) (hb : Below w.heap.size w w') : RowsAt w' B rows := fun i hi => ⟨cell_later hb (h i hi).1, cell_later hb (h i hi).2⟩
theorem RowsAt.alloc {w : World} {B : Nat} {rows : List (Int × Nat)} (h : RowsAt w B rows) (o : Obj) : RowsAt (w.alloc o) B rows := h.later ((Below.refl _ _).alloc (Nat.le_refl _) _)

set_option maxRecDepth 100000 in
set_option maxHeartbeats 800000 in
theorem findDo_any (rows : List (Int × Nat)) (N B : Nat) (op : Int) (w : World) (hN : rows.length = N) (hB : B < w.heap.size) (hn : N ≤ 20) (hr : RowsAt w B rows) :
    Calls Tryz.prog 132 #[.slice (some ⟨B, 0, none⟩) N N, .int .i64 op] w fun e w' =>
      e = .returned (foundV rows op) ∧ Below w.heap.size w w' := by
  have HN := hide hN
  clear hN
  go_enter Tryz.func132, Tryz.ntmps132
  go_wp2
  go_loopw [10] (fun i wr => ∃ k : Nat, k ≤ N ∧ i = .int .i64 k ∧ (∀ j, j < k → (rows.getD j (0, 0)).1 ≠ op) ∧ Below w.heap.size w wr) (fun i _ => N - (intOf i).toNat)
  case atStart => exact ⟨0, Nat.zero_le _, rfl, fun j h => by omega, Below.refl _ _⟩
  case round =>
    obtain ⟨k, hk, rfl, hno, hbel⟩ := hrel
    by_cases hlt : k < N
    · obtain ⟨c0, c1⟩ := hr k (by rw [unhide HN]; exact hlt)
      have d0 := (hbel.cell (p := ⟨B, k * 2, none⟩) hB).trans c0
      have d1 := (hbel.cell (p := ⟨B, k * 2 + 1, none⟩) hB).trans c1
      clear c0 c1
      generalize hrk : rows.getD k (0, 0) = r at *
      obtain ⟨ro, rf⟩ := r
      have HR := hide hrk
      clear hrk
      simp only at d0 d1
      by_cases hop : ro = op
      · have hopb : (ro == op) = true := by simpa using hop
        have HO := hide hop
        clear hop
        have HF := hide (foundV_some rows op k ro rf (by rw [unhide HN]; exact hlt) hno (unhide HR) (unhide HO))
        go_wp2
        rw [unhide HF]
        go_ret2
        exact ⟨rfl, (by repeat (first | exact Below.refl _ _ | assumption | refine below_drewN ?_ _ | refine Below.drew ?_ | refine Below.alloc ?_ (by first | exact Nat.le_refl _ | exact Below.size (by assumption) | (simp; done) | (simp; omega)) _ | refine Below.setCell ?_ (by first | exact Nat.le_refl _ | exact Below.size (by assumption) | (simp; done) | (simp; omega)) _ | refine Below.trans ?_ (by assumption)))⟩
      · have hopb : (ro == op) = false := by simpa using hop
        have HO := hide hop
        clear hop
        have hno' : ∀ j, j < k + 1 → (rows.getD j (0, 0)).1 ≠ op := by
          intro j hj
          by_cases e : j = k
          · subst e; rw [unhide HR]; exact unhide HO
          · exact hno j (by omega)
        have HNO := hide hno'
        clear hno'
        go_wp2
        go_roundw
        case rel => exact ⟨k + 1, by omega, by go_num, unhide HNO, (by repeat (first | exact Below.refl _ _ | assumption | refine below_drewN ?_ _ | refine Below.drew ?_ | refine Below.alloc ?_ (by first | exact Nat.le_refl _ | exact Below.size (by assumption) | (simp; done) | (simp; omega)) _ | refine Below.setCell ?_ (by first | exact Nat.le_refl _ | exact Below.size (by assumption) | (simp; done) | (simp; omega)) _ | refine Below.trans ?_ (by assumption)))⟩
        case measure => simp [intOf]; omega
    · have e : k = N := by omega
      have HF := hide (foundV_none rows op (fun j hj => hno j (by rw [unhide HN] at hj; omega)))
      go_wp2
      rw [unhide HF]
      go_ret2
      exact ⟨rfl, (by repeat (first | exact Below.refl _ _ | assumption | refine below_drewN ?_ _ | refine Below.drew ?_ | refine Below.alloc ?_ (by first | exact Nat.le_refl _ | exact Below.size (by assumption) | (simp; done) | (simp; omega)) _ | refine Below.setCell ?_ (by first | exact Nat.le_refl _ | exact Below.size (by assumption) | (simp; done) | (simp; omega)) _ | refine Below.trans ?_ (by assumption)))⟩
def unRowsL : List (Int × Nat) := [(1, 135), (2, 136)]
set_option maxRecDepth 100000 in
set_option maxHeartbeats 800000 in
theorem unRows_any (w : World) (H : Nat) (hH : w.heap.size = H) :
    Calls Tryz.prog 131 #[] w fun e w' => e = .returned (.slice (some ⟨H, 0, none⟩) 2 2) ∧ RowsAt w' H unRowsL ∧ H < w'.heap.size ∧ Below w.heap.size w w' := by
  subst hH
  go_enter Tryz.func131, Tryz.ntmps131
  go_wp2
  go_ret
  refine ⟨rfl, ?_, by simp, (by repeat (first | exact Below.refl _ _ | assumption | refine below_drewN ?_ _ | refine Below.drew ?_ | refine Below.alloc ?_ (by first | exact Nat.le_refl _ | exact Below.size (by assumption) | (simp; done) | (simp; omega)) _ | refine Below.setCell ?_ (by first | exact Nat.le_refl _ | exact Below.size (by assumption) | (simp; done) | (simp; omega)) _ | refine Below.trans ?_ (by assumption)))⟩
  intro i hi
  simp only [unRowsL, List.length_cons, List.length_nil] at hi
  have : i = 0 ∨ i = 1 := by omega
  rcases this with rfl | rfl <;> simp [unRowsL]
def binRowsL : List (Int × Nat) := [(3, 143), (4, 144), (5, 145), (6, 146), (7, 147), (8, 148), (9, 149), (10, 150), (11, 151), (12, 152), (13, 153)]
set_option maxRecDepth 100000 in
set_option maxHeartbeats 800000 in
theorem binRows_any (w : World) (H : Nat) (hH : w.heap.size = H) :
    Calls Tryz.prog 142 #[] w fun e w' => e = .returned (.slice (some ⟨H, 0, none⟩) 11 11) ∧ RowsAt w' H binRowsL ∧ H < w'.heap.size ∧ Below w.heap.size w w' := by
  subst hH
  go_enter Tryz.func142, Tryz.ntmps142
  go_wp2
  go_ret
  refine ⟨rfl, ?_, by simp, (by repeat (first | exact Below.refl _ _ | assumption | refine below_drewN ?_ _ | refine Below.drew ?_ | refine Below.alloc ?_ (by first | exact Nat.le_refl _ | exact Below.size (by assumption) | (simp; done) | (simp; omega)) _ | refine Below.setCell ?_ (by first | exact Nat.le_refl _ | exact Below.size (by assumption) | (simp; done) | (simp; omega)) _ | refine Below.trans ?_ (by assumption)))⟩
  intro i hi
  simp only [binRowsL, List.length_cons, List.length_nil] at hi
  have : i = 0 ∨ i = 1 ∨ i = 2 ∨ i = 3 ∨ i = 4 ∨ i = 5 ∨ i = 6 ∨ i = 7 ∨ i = 8 ∨ i = 9 ∨ i = 10 := by omega
  rcases this with rfl | rfl | rfl | rfl | rfl | rfl | rfl | rfl | rfl | rfl | rfl <;> simp [binRowsL]
end Go.Proofs.YtfopmobopmdahaaGreat
