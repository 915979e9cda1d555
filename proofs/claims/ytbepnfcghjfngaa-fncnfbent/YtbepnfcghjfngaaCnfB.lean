/- Clauses: which are right (CnfOk), of the model and of the program. -/
import Derived.Test.YtbepnfcghjfngaaCnfA
namespace Go.Proofs.Ytbepnfcghjfngaa
open Go.ChangeShapes Go.WideShapes Go.ChangeAt Go.RowKit Go.Joins
set_option linter.unusedVariables false

set_option maxHeartbeats 2000000 in
theorem sCnfOk_any (m : Int) (a : Option Addr) (n cap : Nat) (A : Nat → Option Addr) (L C : Nat → Nat) (V : Nat → Nat → Int) (w : World) (hd : RwsAt w a n A L C V) (hf : Fits n L V) :
    Calls Try.prog 8 #[.agg #[.int .i64 m, .slice a n cap]] w fun e w' => e = .returned (.bool (cnfB m n L V)) ∧ Below w.heap.size w w' := by
  have HD := hide hd
  have HF := hide hf
  have hn := hf.1
  clear hd hf
  by_cases h0 : 0 ≤ m
  · by_cases h1 : m ≤ 700
    · by_cases h2 : n ≤ 2500
      · obtain ⟨N, rfl⟩ := Int.eq_ofNat_of_zero_le h0
        go_enter Try.func8, Try.ntmps8
        go_wp2
        go_loopw [3] (fun i wr => ∃ k : Nat, k ≤ n ∧ i = .int .i64 k ∧ (∀ j, j < k → ClP (L j) (V j) N) ∧ wr.cell? ⟨w.heap.size, 0, none⟩ = some (.int .i64 N) ∧ wr.cell? ⟨w.heap.size, 1, none⟩ = some (.slice a n cap) ∧ Below w.heap.size w wr) (fun i _ => n - (intOf i).toNat)
        case atStart => exact ⟨0, by omega, rfl, fun j hj => by omega, by simp [go_sem], by simp [go_sem], (by repeat (first | exact Below.refl _ _ | assumption | refine below_drewN ?_ _ | refine Below.drew ?_ | refine Below.alloc ?_ (by first | exact Nat.le_refl _ | exact Below.size (by assumption) | (simp; done) | (simp; omega)) _ | refine Below.setCell ?_ (by first | exact Nat.le_refl _ | exact Below.size (by assumption) | (simp; done) | (simp; omega)) _ | refine Below.trans ?_ (by assumption)))⟩
        case round =>
          obtain ⟨k, hk, rfl, hok, p0, p1, hbel⟩ := hrel
          have HK := hide hok
          clear hok
          by_cases hlt : k < n
          · obtain ⟨b, off, rfl, hb, hd⟩ := (unhide HD).ok hlt
            have d0 := (hbel.cell (p := ⟨b, off + k, none⟩) hb).trans (hd k hlt).1
            have I1 := hide ((hd k hlt).2.later hbel)
            clear hd
            obtain ⟨fl, fw⟩ := (unhide HF).2 k hlt
            have FW := hide fw
            clear fw
            cases hv : clB (L k) (V k) N
            · have HN := hide (cnfB_no (m := N) (n := n) (L := L) (V := V) (fun h => by have := clB_yes (h.2.2.2 k hlt); rw [Int.toNat_natCast, hv] at this; cases this))
              go_wp2
              go_region_held3 (fun w' => w'.cell? ⟨b, off + k, none⟩ = some (.slice (A k) (L k) (C k)) ∧ w'.cell? ⟨w.heap.size, 0, none⟩ = some (.int .i64 N) ∧ w'.cell? ⟨w.heap.size, 1, none⟩ = some (.slice (some ⟨b, off, none⟩) n cap)) (first | go_keep | exact ⟨d0, p0, p1⟩)
                (first | (go_at_call 15; (first | refine (l4Clause_any _ _ _ _ _ wr (unhide I1) fl (unhide FW) (by omega)).mono ?_ | refine (l4Clause_any _ _ _ _ _ wr.drew (unhide I1) fl (unhide FW) (by omega)).mono ?_); rintro e wq ⟨rfl, rfl⟩))
              all_goals go_wp2
              all_goals rw [unhide HN]
              all_goals go_ret
              all_goals exact ⟨rfl, (by first | exact hbel | exact hbel.drew | exact hbel.drew.drew)⟩
            · have HK1 : Hid (∀ j, j < k + 1 → ClP (L j) (V j) N) := fun j hj => by
                by_cases e : j = k
                · subst e; exact clB_iff.1 hv
                · exact unhide HK j (by omega)
              go_wp2
              go_region_held3 (fun w' => w'.cell? ⟨b, off + k, none⟩ = some (.slice (A k) (L k) (C k)) ∧ w'.cell? ⟨w.heap.size, 0, none⟩ = some (.int .i64 N) ∧ w'.cell? ⟨w.heap.size, 1, none⟩ = some (.slice (some ⟨b, off, none⟩) n cap)) (first | go_keep | exact ⟨d0, p0, p1⟩)
                (first | (go_at_call 15; (first | refine (l4Clause_any _ _ _ _ _ wr (unhide I1) fl (unhide FW) (by omega)).mono ?_ | refine (l4Clause_any _ _ _ _ _ wr.drew (unhide I1) fl (unhide FW) (by omega)).mono ?_); rintro e wq ⟨rfl, rfl⟩))
              all_goals go_wp2
              all_goals go_roundw
              all_goals first | exact ⟨k + 1, by omega, by go_num, unhide HK1, p0, p1, (by first | exact hbel | exact hbel.drew | exact hbel.drew.drew)⟩ | (simp [intOf]; omega)
          · have e : k = n := by omega
            subst e
            have HN := hide (cnfB_yes (m := N) (n := k) (L := L) (V := V) ⟨h0, h1, h2, by rw [Int.toNat_natCast]; exact unhide HK⟩)
            go_wp2
            rw [unhide HN]
            go_ret
            exact ⟨rfl, hbel⟩
      · have HN := hide (cnfB_no (m := m) (n := n) (L := L) (V := V) (fun h => h2 h.2.2.1))
        go_enter Try.func8, Try.ntmps8
        go_wp2
        rw [unhide HN]
        go_ret
        exact ⟨rfl, (by repeat (first | exact Below.refl _ _ | assumption | refine below_drewN ?_ _ | refine Below.drew ?_ | refine Below.alloc ?_ (by first | exact Nat.le_refl _ | exact Below.size (by assumption) | (simp; done) | (simp; omega)) _ | refine Below.setCell ?_ (by first | exact Nat.le_refl _ | exact Below.size (by assumption) | (simp; done) | (simp; omega)) _ | refine Below.trans ?_ (by assumption)))⟩
    · have HN := hide (cnfB_no (m := m) (n := n) (L := L) (V := V) (fun h => h1 h.2.1))
      go_enter Try.func8, Try.ntmps8
      go_wp2
      rw [unhide HN]
      go_ret
      exact ⟨rfl, (by repeat (first | exact Below.refl _ _ | assumption | refine below_drewN ?_ _ | refine Below.drew ?_ | refine Below.alloc ?_ (by first | exact Nat.le_refl _ | exact Below.size (by assumption) | (simp; done) | (simp; omega)) _ | refine Below.setCell ?_ (by first | exact Nat.le_refl _ | exact Below.size (by assumption) | (simp; done) | (simp; omega)) _ | refine Below.trans ?_ (by assumption)))⟩
  · have HN := hide (cnfB_no (m := m) (n := n) (L := L) (V := V) (fun h => h0 h.1))
    go_enter Try.func8, Try.ntmps8
    go_wp2
    rw [unhide HN]
    go_ret
    exact ⟨rfl, (by repeat (first | exact Below.refl _ _ | assumption | refine below_drewN ?_ _ | refine Below.drew ?_ | refine Below.alloc ?_ (by first | exact Nat.le_refl _ | exact Below.size (by assumption) | (simp; done) | (simp; omega)) _ | refine Below.setCell ?_ (by first | exact Nat.le_refl _ | exact Below.size (by assumption) | (simp; done) | (simp; omega)) _ | refine Below.trans ?_ (by assumption)))⟩
/-- All of some clauses are right. -/
def LstP (n : Nat) (L : Nat → Nat) (V : Nat → Nat → Int) (N : Nat) : Prop := ∀ i, i < n → ClP (L i) (V i) N
noncomputable def lstB (n : Nat) (L : Nat → Nat) (V : Nat → Nat → Int) (N : Nat) : Bool := @decide (LstP n L V N) (Classical.propDecidable _)
theorem lstB_iff {n : Nat} {L : Nat → Nat} {V : Nat → Nat → Int} {N : Nat} : lstB n L V N = true ↔ LstP n L V N := by simp [lstB]
theorem lstB_yes {n : Nat} {L : Nat → Nat} {V : Nat → Nat → Int} {N : Nat} (h : LstP n L V N) : lstB n L V N = true := lstB_iff.2 h
theorem lstB_no {n : Nat} {L : Nat → Nat} {V : Nat → Nat → Int} {N : Nat} (h : ¬ LstP n L V N) : lstB n L V N = false := by simpa [lstB] using h
theorem cnfB_lst {n : Nat} {L : Nat → Nat} {V : Nat → Nat → Int} {N : Nat} (h1 : N ≤ 700) (h2 : n ≤ 2500) : cnfB N n L V = lstB n L V N := by
  have : CnfP N n L V ↔ LstP n L V N := ⟨fun h => by have := h.2.2.2; rw [Int.toNat_natCast] at this; exact this, fun h => ⟨by omega, by omega, h2, by rw [Int.toNat_natCast]; exact h⟩⟩
  by_cases h : LstP n L V N
  · rw [cnfB_yes (this.2 h), lstB_yes h]
  · rw [cnfB_no (fun h' => h (this.1 h')), lstB_no h]
set_option maxHeartbeats 1000000 in
theorem listRight_any (a : Option Addr) (n cap : Nat) (A : Nat → Option Addr) (L C : Nat → Nat) (V : Nat → Nat → Int) (N : Nat) (w : World) (hd : RwsAt w a n A L C V) (hf : Fits n L V) (hN : N ≤ 700) :
    Calls Try.prog 14 #[.slice a n cap, .int .i64 N] w fun e w' => e = .returned (.bool (lstB n L V N)) ∧ w' = w := by
  have HD := hide hd
  have HF := hide hf
  have hn := hf.1
  clear hd hf
  go_enter Try.func14, Try.ntmps14
  go_wp2
  go_loopw [9] (fun i wr => ∃ k : Nat, k ≤ n ∧ i = .int .i64 k ∧ (∀ j, j < k → ClP (L j) (V j) N) ∧ wr = w) (fun i _ => n - (intOf i).toNat)
  case atStart => exact ⟨0, by omega, rfl, fun j hj => by omega, rfl⟩
  case round =>
    obtain ⟨k, hk, rfl, hok, rfl⟩ := hrel
    have HK := hide hok
    clear hok
    by_cases hlt : k < n
    · obtain ⟨b, off, rfl, hb, hd⟩ := (unhide HD).ok hlt
      have d0 := (hd k hlt).1
      have I1 := hide (hd k hlt).2
      clear hd
      obtain ⟨fl, fw⟩ := (unhide HF).2 k hlt
      have FW := hide fw
      clear fw
      go_wp2_with fail
      refine (clauseRight_any _ _ _ _ _ wr (unhide I1) fl (unhide FW) (by omega)).mono ?_
      rintro e wq ⟨rfl, rfl⟩
      cases hv : clB (L k) (V k) N
      · have HN := hide (lstB_no (n := n) (L := L) (V := V) (N := N) (fun h => by have := clB_yes (h k hlt); rw [hv] at this; cases this))
        go_wp2
        rw [unhide HN]
        go_ret
        exact ⟨rfl, rfl⟩
      · have HK1 : Hid (∀ j, j < k + 1 → ClP (L j) (V j) N) := fun j hj => by
          by_cases e : j = k
          · subst e; exact clB_iff.1 hv
          · exact unhide HK j (by omega)
        go_wp2
        go_roundw
        case rel => exact ⟨k + 1, by omega, by go_num, unhide HK1, trivial⟩
        case measure => simp [intOf]; omega
    · have e : k = n := by omega
      subst e
      have HN := hide (lstB_yes (n := k) (L := L) (V := V) (N := N) (unhide HK))
      go_wp2
      rw [unhide HN]
      go_ret
      exact ⟨rfl, rfl⟩
set_option maxHeartbeats 2000000 in
theorem iCnfOk_any (m : Int) (a : Option Addr) (n cap : Nat) (A : Nat → Option Addr) (L C : Nat → Nat) (V : Nat → Nat → Int) (w : World) (hd : RwsAt w a n A L C V) (hf : Fits n L V) :
    Calls Try.prog 7 #[.agg #[.int .i64 m, .slice a n cap]] w fun e w' => e = .returned (.bool (cnfB m n L V)) ∧ Below w.heap.size w w' := by
  have HD := hide hd
  have HF := hide hf
  have hn := hf.1
  clear hd hf
  by_cases h0 : 0 ≤ m
  · by_cases h1 : m ≤ 700
    · by_cases h2 : n ≤ 2500
      · obtain ⟨N, rfl⟩ := Int.eq_ofNat_of_zero_le h0
        have HB := hide (cnfB_lst (n := n) (L := L) (V := V) (N := N) (by omega) h2)
        go_enter Try.func7, Try.ntmps7
        go_wp2_with fail
        refine (listRight_any _ _ _ _ _ _ _ _ _ ((unhide HD).later (by repeat (first | exact Below.refl _ _ | assumption | refine below_drewN ?_ _ | refine Below.drew ?_ | refine Below.alloc ?_ (by first | exact Nat.le_refl _ | exact Below.size (by assumption) | (simp; done) | (simp; omega)) _ | refine Below.setCell ?_ (by first | exact Nat.le_refl _ | exact Below.size (by assumption) | (simp; done) | (simp; omega)) _ | refine Below.trans ?_ (by assumption)))) (unhide HF) (by omega)).mono ?_
        rintro e wq ⟨rfl, rfl⟩
        go_wp2
        rw [unhide HB]
        go_ret
        exact ⟨rfl, (by repeat (first | exact Below.refl _ _ | assumption | refine below_drewN ?_ _ | refine Below.drew ?_ | refine Below.alloc ?_ (by first | exact Nat.le_refl _ | exact Below.size (by assumption) | (simp; done) | (simp; omega)) _ | refine Below.setCell ?_ (by first | exact Nat.le_refl _ | exact Below.size (by assumption) | (simp; done) | (simp; omega)) _ | refine Below.trans ?_ (by assumption)))⟩
      · have HN := hide (cnfB_no (m := m) (n := n) (L := L) (V := V) (fun h => h2 h.2.2.1))
        go_enter Try.func7, Try.ntmps7
        go_wp2
        rw [unhide HN]
        go_ret
        exact ⟨rfl, (by repeat (first | exact Below.refl _ _ | assumption | refine below_drewN ?_ _ | refine Below.drew ?_ | refine Below.alloc ?_ (by first | exact Nat.le_refl _ | exact Below.size (by assumption) | (simp; done) | (simp; omega)) _ | refine Below.setCell ?_ (by first | exact Nat.le_refl _ | exact Below.size (by assumption) | (simp; done) | (simp; omega)) _ | refine Below.trans ?_ (by assumption)))⟩
    · have HN := hide (cnfB_no (m := m) (n := n) (L := L) (V := V) (fun h => h1 h.2.1))
      go_enter Try.func7, Try.ntmps7
      go_wp2
      rw [unhide HN]
      go_ret
      exact ⟨rfl, (by repeat (first | exact Below.refl _ _ | assumption | refine below_drewN ?_ _ | refine Below.drew ?_ | refine Below.alloc ?_ (by first | exact Nat.le_refl _ | exact Below.size (by assumption) | (simp; done) | (simp; omega)) _ | refine Below.setCell ?_ (by first | exact Nat.le_refl _ | exact Below.size (by assumption) | (simp; done) | (simp; omega)) _ | refine Below.trans ?_ (by assumption)))⟩
  · have HN := hide (cnfB_no (m := m) (n := n) (L := L) (V := V) (fun h => h0 h.1))
    go_enter Try.func7, Try.ntmps7
    go_wp2
    rw [unhide HN]
    go_ret
    exact ⟨rfl, (by repeat (first | exact Below.refl _ _ | assumption | refine below_drewN ?_ _ | refine Below.drew ?_ | refine Below.alloc ?_ (by first | exact Nat.le_refl _ | exact Below.size (by assumption) | (simp; done) | (simp; omega)) _ | refine Below.setCell ?_ (by first | exact Nat.le_refl _ | exact Below.size (by assumption) | (simp; done) | (simp; omega)) _ | refine Below.trans ?_ (by assumption)))⟩
end Go.Proofs.Ytbepnfcghjfngaa
