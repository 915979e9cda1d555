/- Clauses: which are right (CnfOk), of the model and of the program. -/
import Derived.Test.YtlhmjhapdfjneaaCnfA
namespace Go.Proofs.Ytlhmjhapdfjneaa
open Go.ChangeShapes Go.WideShapes Go.ChangeAt Go.RowKit Go.Joins
set_option linter.unusedVariables false

set_option maxHeartbeats 2000000 in
theorem sCnfOk_any (m : Int) (a : Option Addr) (n cap : Nat) (A : Nat → Option Addr) (L C : Nat → Nat) (V : Nat → Nat → Int) (w : World) (hd : RwsAt w a n A L C V) (hf : Fits n L V) :
    Calls Try.prog 15 #[.agg #[.int .i64 m, .slice a n cap]] w fun e w' => e = .returned (.bool (cnfB m n L V)) ∧ Below w.heap.size w w' := by
  have HD := hide hd
  have HF := hide hf
  have hn := hf.1
  clear hd hf
  by_cases h0 : 0 ≤ m
  · by_cases h1 : m ≤ 700
    · by_cases h2 : n ≤ 2500
      · obtain ⟨N, rfl⟩ := Int.eq_ofNat_of_zero_le h0
        go_enter Try.func15, Try.ntmps15
        go_wp2
        go_loopw [3] (fun i wr => ∃ k : Nat, k ≤ n ∧ i = .int .i64 k ∧ (∀ j, j < k → ClP (L j) (V j) N) ∧ wr.cell? ⟨w.heap.size, 0, none⟩ = some (.int .i64 N) ∧ wr.cell? ⟨w.heap.size, 1, none⟩ = some (.slice a n cap) ∧ Below w.heap.size w wr) (fun i _ => n - (intOf i).toNat)
        case atStart => exact ⟨0, by omega, rfl, fun j hj => by omega, by simp [go_sem], by simp [go_sem], (by repeat (first | exact Below.refl _ _ | assumption | refine below_drewN ?_ _ | refine Below.drew ?_ | refine Below.alloc ?_ (by first | exact Nat.le_refl _ | exact Below.size (by assumption) | (simp; done) | (simp; omega)) _ | refine Below.setCell ?_ (by first | exact Nat.le_refl _ | exact Below.size (by assumption) | (simp; done) | (simp; omega)) _ | refine Below.trans ?_ (by assumption)))⟩
        case round =>
          obtain ⟨k, hk, rfl, hok, p0, p1, hbel⟩ := hrel
          have HK := hide hok
          clear hok
          by_cases hlt : k < n
          · obtain ⟨b, off, rfl, hb, hd⟩ := (unhide HD).ok hlt
            have d0 := (hbel.cell (p := ⟨b, off + k, none⟩) hb).trans (hd k hlt).1
            have I1 := hide ((hd k hlt).2.later hbel)
            clear hd
            obtain ⟨fl, fw⟩ := (unhide HF).2 k hlt
            have FW := hide fw
            clear fw
            cases hv : clB (L k) (V k) N
            · have HN := hide (cnfB_no (m := N) (n := n) (L := L) (V := V) (fun h => by have := clB_yes (h.2.2.2 k hlt); rw [Int.toNat_natCast, hv] at this; cases this))
              go_wp2
              go_region_held3 (fun w' => w'.cell? ⟨b, off + k, none⟩ = some (.slice (A k) (L k) (C k)) ∧ w'.cell? ⟨w.heap.size, 0, none⟩ = some (.int .i64 N) ∧ w'.cell? ⟨w.heap.size, 1, none⟩ = some (.slice (some ⟨b, off, none⟩) n cap)) (first | go_keep | exact ⟨d0, p0, p1⟩)
                (first | (go_at_call 34; (first | refine (l4Clause_any _ _ _ _ _ wr (unhide I1) fl (unhide FW) (by omega)).mono ?_ | refine (l4Clause_any _ _ _ _ _ wr.drew (unhide I1) fl (unhide FW) (by omega)).mono ?_); rintro e wq ⟨rfl, rfl⟩))
              all_goals go_wp2
              all_goals rw [unhide HN]
              all_goals go_ret
              all_goals exact ⟨rfl, (by first | exact hbel | exact hbel.drew | exact hbel.drew.drew)⟩
            · have HK1 : Hid (∀ j, j < k + 1 → ClP (L j) (V j) N) := fun j hj => by
                by_cases e : j = k
                · subst e; exact clB_iff.1 hv
                · exact unhide HK j (by omega)
              go_wp2
              go_region_held3 (fun w' => w'.cell? ⟨b, off + k, none⟩ = some (.slice (A k) (L k) (C k)) ∧ w'.cell? ⟨w.heap.size, 0, none⟩ = some (.int .i64 N) ∧ w'.cell? ⟨w.heap.size, 1, none⟩ = some (.slice (some ⟨b, off, none⟩) n cap)) (first | go_keep | exact ⟨d0, p0, p1⟩)
                (first | (go_at_call 34; (first | refine (l4Clause_any _ _ _ _ _ wr (unhide I1) fl (unhide FW) (by omega)).mono ?_ | refine (l4Clause_any _ _ _ _ _ wr.drew (unhide I1) fl (unhide FW) (by omega)).mono ?_); rintro e wq ⟨rfl, rfl⟩))
              all_goals go_wp2
              all_goals go_roundw
              all_goals first | exact ⟨k + 1, by omega, by go_num, unhide HK1, p0, p1, (by first | exact hbel | exact hbel.drew | exact hbel.drew.drew)⟩ | (simp [intOf]; omega)
          · have e : k = n := by omega
            subst e
            have HN := hide (cnfB_yes (m := N) (n := k) (L := L) (V := V) ⟨h0, h1, h2, by rw [Int.toNat_natCast]; exact unhide HK⟩)
            go_wp2
            rw [unhide HN]
            go_ret
            exact ⟨rfl, hbel⟩
      · have HN := hide (cnfB_no (m := m) (n := n) (L := L) (V := V) (fun h => h2 h.2.2.1))
        go_enter Try.func15, Try.ntmps15
        go_wp2
        rw [unhide HN]
        go_ret
        exact ⟨rfl, (by repeat (first | exact Below.refl _ _ | assumption | refine below_drewN ?_ _ | refine Below.drew ?_ | refine Below.alloc ?_ (by first | exact Nat.le_refl _ | exact Below.size (by assumption) | (simp; done) | (simp; omega)) _ | refine Below.setCell ?_ (by first | exact Nat.le_refl _ | exact Below.size (by assumption) | (simp; done) | (simp; omega)) _ | refine Below.trans ?_ (by assumption)))⟩
    · have HN := hide (cnfB_no (m := m) (n := n) (L := L) (V := V) (fun h => h1 h.2.1))
      go_enter Try.func15, Try.ntmps15
      go_wp2
      rw [unhide HN]
      go_ret
      exact ⟨rfl, (by repeat (first | exact Below.refl _ _ | assumption | refine below_drewN ?_ _ | refine Below.drew ?_ | refine Below.alloc ?_ (by first | exact Nat.le_refl _ | exact Below.size (by assumption) | (simp; done) | (simp; omega)) _ | refine Below.setCell ?_ (by first | exact Nat.le_refl _ | exact Below.size (by assumption) | (simp; done) | (simp; omega)) _ | refine Below.trans ?_ (by assumption)))⟩
  · have HN := hide (cnfB_no (m := m) (n := n) (L := L) (V := V) (fun h => h0 h.1))
    go_enter Try.func15, Try.ntmps15
    go_wp2
    rw [unhide HN]
    go_ret
    exact ⟨rfl, (by repeat (first | exact Below.refl _ _ | assumption | refine below_drewN ?_ _ | refine Below.drew ?_ | refine Below.alloc ?_ (by first | exact Nat.le_refl _ | exact Below.size (by assumption) | (simp; done) | (simp; omega)) _ | refine Below.setCell ?_ (by first | exact Nat.le_refl _ | exact Below.size (by assumption) | (simp; done) | (simp; omega)) _ | refine Below.trans ?_ (by assumption)))⟩
set_option maxHeartbeats 2000000 in
theorem iCnfOk_any (m : Int) (a : Option Addr) (n cap : Nat) (A : Nat → Option Addr) (L C : Nat → Nat) (V : Nat → Nat → Int) (w : World) (hd : RwsAt w a n A L C V) (hf : Fits n L V) :
    Calls Try.prog 14 #[.agg #[.int .i64 m, .slice a n cap]] w fun e w' => e = .returned (.bool (cnfB m n L V)) ∧ Below w.heap.size w w' := by
  have HD := hide hd
  have HF := hide hf
  have hn := hf.1
  clear hd hf
  by_cases h0 : 0 ≤ m
  · by_cases h1 : m ≤ 700
    · by_cases h2 : n ≤ 2500
      · obtain ⟨N, rfl⟩ := Int.eq_ofNat_of_zero_le h0
        go_enter Try.func14, Try.ntmps14
        go_wp2
        go_loopw [22] (fun i wr => ∃ k : Nat, k ≤ n ∧ i = .int .i64 k ∧ (∀ j, j < k → ClP (L j) (V j) N) ∧ wr.cell? ⟨w.heap.size, 0, none⟩ = some (.int .i64 N) ∧ Below w.heap.size w wr) (fun i _ => n - (intOf i).toNat)
        case atStart => exact ⟨0, by omega, rfl, fun j hj => by omega, by simp [go_sem], (by repeat (first | exact Below.refl _ _ | assumption | refine below_drewN ?_ _ | refine Below.drew ?_ | refine Below.alloc ?_ (by first | exact Nat.le_refl _ | exact Below.size (by assumption) | (simp; done) | (simp; omega)) _ | refine Below.setCell ?_ (by first | exact Nat.le_refl _ | exact Below.size (by assumption) | (simp; done) | (simp; omega)) _ | refine Below.trans ?_ (by assumption)))⟩
        case round =>
          obtain ⟨k, hk, rfl, hok, p0, hbel⟩ := hrel
          have HK := hide hok
          clear hok
          by_cases hlt : k < n
          · obtain ⟨b, off, rfl, hb, hd⟩ := (unhide HD).ok hlt
            have d0 := (hbel.cell (p := ⟨b, off + k, none⟩) hb).trans (hd k hlt).1
            have I1 := hide ((hd k hlt).2.later hbel)
            clear hd
            obtain ⟨fl, fw⟩ := (unhide HF).2 k hlt
            have FW := hide fw
            clear fw
            go_wp2_with fail
            refine (clauseRight_any _ _ _ _ _ wr (unhide I1) fl (unhide FW) (by omega)).mono ?_
            rintro e wq ⟨rfl, rfl⟩
            cases hv : clB (L k) (V k) N
            · have HN := hide (cnfB_no (m := N) (n := n) (L := L) (V := V) (fun h => by have := clB_yes (h.2.2.2 k hlt); rw [Int.toNat_natCast, hv] at this; cases this))
              go_wp2
              rw [unhide HN]
              go_ret
              exact ⟨rfl, hbel⟩
            · have HK1 : Hid (∀ j, j < k + 1 → ClP (L j) (V j) N) := fun j hj => by
                by_cases e : j = k
                · subst e; exact clB_iff.1 hv
                · exact unhide HK j (by omega)
              go_wp2
              go_roundw
              case rel => exact ⟨k + 1, by omega, by go_num, unhide HK1, p0, hbel⟩
              case measure => simp [intOf]; omega
          · have e : k = n := by omega
            subst e
            have HN := hide (cnfB_yes (m := N) (n := k) (L := L) (V := V) ⟨h0, h1, h2, by rw [Int.toNat_natCast]; exact unhide HK⟩)
            go_wp2
            rw [unhide HN]
            go_ret
            exact ⟨rfl, hbel⟩
      · have HN := hide (cnfB_no (m := m) (n := n) (L := L) (V := V) (fun h => h2 h.2.2.1))
        go_enter Try.func14, Try.ntmps14
        go_wp2
        rw [unhide HN]
        go_ret
        exact ⟨rfl, (by repeat (first | exact Below.refl _ _ | assumption | refine below_drewN ?_ _ | refine Below.drew ?_ | refine Below.alloc ?_ (by first | exact Nat.le_refl _ | exact Below.size (by assumption) | (simp; done) | (simp; omega)) _ | refine Below.setCell ?_ (by first | exact Nat.le_refl _ | exact Below.size (by assumption) | (simp; done) | (simp; omega)) _ | refine Below.trans ?_ (by assumption)))⟩
    · have HN := hide (cnfB_no (m := m) (n := n) (L := L) (V := V) (fun h => h1 h.2.1))
      go_enter Try.func14, Try.ntmps14
      go_wp2
      rw [unhide HN]
      go_ret
      exact ⟨rfl, (by repeat (first | exact Below.refl _ _ | assumption | refine below_drewN ?_ _ | refine Below.drew ?_ | refine Below.alloc ?_ (by first | exact Nat.le_refl _ | exact Below.size (by assumption) | (simp; done) | (simp; omega)) _ | refine Below.setCell ?_ (by first | exact Nat.le_refl _ | exact Below.size (by assumption) | (simp; done) | (simp; omega)) _ | refine Below.trans ?_ (by assumption)))⟩
  · have HN := hide (cnfB_no (m := m) (n := n) (L := L) (V := V) (fun h => h0 h.1))
    go_enter Try.func14, Try.ntmps14
    go_wp2
    rw [unhide HN]
    go_ret
    exact ⟨rfl, (by repeat (first | exact Below.refl _ _ | assumption | refine below_drewN ?_ _ | refine Below.drew ?_ | refine Below.alloc ?_ (by first | exact Nat.le_refl _ | exact Below.size (by assumption) | (simp; done) | (simp; omega)) _ | refine Below.setCell ?_ (by first | exact Nat.le_refl _ | exact Below.size (by assumption) | (simp; done) | (simp; omega)) _ | refine Below.trans ?_ (by assumption)))⟩
end Go.Proofs.Ytlhmjhapdfjneaa
