/- Clauses: whether two are one, and whether all have one that is as they want it, of the model and of the program. -/
import Derived.Test.YtbepnfcghjfngaaCnfB
namespace Go.Proofs.Ytbepnfcghjfngaa
open Go.ChangeShapes Go.WideShapes Go.ChangeAt Go.RowKit Go.Joins
set_option linter.unusedVariables false

/-- Two lists of numbers are one. -/
def EqP (l l' : Nat) (V V' : Nat → Int) : Prop := l = l' ∧ ∀ k, k < l → V k = V' k
noncomputable def eqB (l l' : Nat) (V V' : Nat → Int) : Bool := @decide (EqP l l' V V') (Classical.propDecidable _)
theorem eqB_iff {l l' : Nat} {V V' : Nat → Int} : eqB l l' V V' = true ↔ EqP l l' V V' := by simp [eqB]
theorem eqB_yes {l l' : Nat} {V V' : Nat → Int} (h : EqP l l' V V') : eqB l l' V V' = true := eqB_iff.2 h
theorem eqB_no {l l' : Nat} {V V' : Nat → Int} (h : ¬ EqP l l' V V') : eqB l l' V V' = false := by simpa [eqB] using h
set_option maxHeartbeats 1000000 in
theorem l4Ints_any (a c : Option Addr) (l l' cap cap' : Nat) (V V' : Nat → Int) (w : World) (hd : IntsAt w a l V) (hd' : IntsAt w c l' V') (hl : l ≤ 1048576) (hl' : l' ≤ 1048576) :
    Calls Try.prog 13 #[.slice a l cap, .slice c l' cap'] w fun e w' => e = .returned (.bool (eqB l l' V V')) ∧ Below w.heap.size w w' := by
  have HD := hide hd
  have HE := hide hd'
  clear hd hd'
  by_cases hll : l = l'
  · subst hll
    have kb0 : ((l : Int) != (l : Int)) = false := by simp
    go_enter Try.func13, Try.ntmps13
    go_wp2
    go_loopw [5] (fun i wr => ∃ k : Nat, k ≤ l ∧ i = .int .i64 k ∧ (∀ j, j < k → V j = V' j) ∧ Below w.heap.size w wr) (fun i _ => l - (intOf i).toNat)
    case atStart => exact ⟨0, by omega, rfl, fun j hj => by omega, (by repeat (first | exact Below.refl _ _ | assumption | refine below_drewN ?_ _ | refine Below.drew ?_ | refine Below.alloc ?_ (by first | exact Nat.le_refl _ | exact Below.size (by assumption) | (simp; done) | (simp; omega)) _ | refine Below.setCell ?_ (by first | exact Nat.le_refl _ | exact Below.size (by assumption) | (simp; done) | (simp; omega)) _ | refine Below.trans ?_ (by assumption)))⟩
    case round =>
      obtain ⟨k, hk, rfl, hok, hbel⟩ := hrel
      have HK := hide hok
      clear hok
      by_cases hlt : k < l
      · obtain ⟨b, off, rfl, hb, hd⟩ := (unhide HD).ok hlt
        obtain ⟨c, off', rfl, hc, hd'⟩ := (unhide HE).ok hlt
        have d0 := (hbel.cell (p := ⟨b, off + k, none⟩) hb).trans (hd k hlt)
        have g0 := (hbel.cell (p := ⟨c, off' + k, none⟩) hc).trans (hd' k hlt)
        clear hd hd'
        by_cases he : V k = V' k
        · have HK1 : Hid (∀ j, j < k + 1 → V j = V' j) := fun j hj => by
            by_cases e : j = k
            · subst e; exact he
            · exact unhide HK j (by omega)
          have kb : (V k != V' k) = false := by simp [he]
          clear he
          go_wp2
          go_region
          all_goals go_wp2
          all_goals go_roundw
          all_goals first | exact ⟨k + 1, by omega, by go_num, unhide HK1, (by first | exact hbel | exact hbel.drew)⟩ | (simp [intOf]; omega)
        · have HN := hide (eqB_no (l := l) (l' := l) (V := V) (V' := V') (fun h => he (h.2 k hlt)))
          have kb : (V k != V' k) = true := by simp [he]
          clear he
          go_wp2
          go_region
          all_goals go_wp2
          all_goals rw [unhide HN]
          all_goals go_ret
          all_goals exact ⟨rfl, (by first | exact hbel | exact hbel.drew)⟩
      · have e : k = l := by omega
        subst e
        have HN := hide (eqB_yes (l := k) (l' := k) (V := V) (V' := V') ⟨rfl, unhide HK⟩)
        go_wp2
        rw [unhide HN]
        go_ret
        exact ⟨rfl, hbel⟩
  · have HN := hide (eqB_no (l := l) (l' := l') (V := V) (V' := V') (fun h => hll h.1))
    have kb : ((l : Int) != (l' : Int)) = true := by simp; omega
    go_enter Try.func13, Try.ntmps13
    go_wp2
    rw [unhide HN]
    go_ret
    exact ⟨rfl, (by repeat (first | exact Below.refl _ _ | assumption | refine below_drewN ?_ _ | refine Below.drew ?_ | refine Below.alloc ?_ (by first | exact Nat.le_refl _ | exact Below.size (by assumption) | (simp; done) | (simp; omega)) _ | refine Below.setCell ?_ (by first | exact Nat.le_refl _ | exact Below.size (by assumption) | (simp; done) | (simp; omega)) _ | refine Below.trans ?_ (by assumption)))⟩
set_option maxHeartbeats 1000000 in
theorem equal_any (a c : Option Addr) (l l' cap cap' : Nat) (V V' : Nat → Int) (w : World) (hd : IntsAt w a l V) (hd' : IntsAt w c l' V') (hl : l ≤ 1048576) (hl' : l' ≤ 1048576) :
    Calls Try.prog 12 #[.slice a l cap, .slice c l' cap'] w fun e w' => e = .returned (.bool (eqB l l' V V')) ∧ Below w.heap.size w w' := by
  have HD := hide hd
  have HE := hide hd'
  clear hd hd'
  by_cases hll : l = l'
  · subst hll
    have kb0 : ((l : Int) != (l : Int)) = false := by simp
    go_enter Try.func12, Try.ntmps12
    go_wp2
    go_loopw [13] (fun i wr => ∃ k : Nat, k ≤ l ∧ i = .int .i64 k ∧ (∀ j, j < k → V j = V' j) ∧ Below w.heap.size w wr) (fun i _ => l - (intOf i).toNat)
    case atStart => exact ⟨0, by omega, rfl, fun j hj => by omega, (by repeat (first | exact Below.refl _ _ | assumption | refine below_drewN ?_ _ | refine Below.drew ?_ | refine Below.alloc ?_ (by first | exact Nat.le_refl _ | exact Below.size (by assumption) | (simp; done) | (simp; omega)) _ | refine Below.setCell ?_ (by first | exact Nat.le_refl _ | exact Below.size (by assumption) | (simp; done) | (simp; omega)) _ | refine Below.trans ?_ (by assumption)))⟩
    case round =>
      obtain ⟨k, hk, rfl, hok, hbel⟩ := hrel
      have HK := hide hok
      clear hok
      by_cases hlt : k < l
      · obtain ⟨b, off, rfl, hb, hd⟩ := (unhide HD).ok hlt
        obtain ⟨c, off', rfl, hc, hd'⟩ := (unhide HE).ok hlt
        have d0 := (hbel.cell (p := ⟨b, off + k, none⟩) hb).trans (hd k hlt)
        have g0 := (hbel.cell (p := ⟨c, off' + k, none⟩) hc).trans (hd' k hlt)
        clear hd hd'
        by_cases he : V k = V' k
        · have HK1 : Hid (∀ j, j < k + 1 → V j = V' j) := fun j hj => by
            by_cases e : j = k
            · subst e; exact he
            · exact unhide HK j (by omega)
          have kb : (V k != V' k) = false := by simp [he]
          clear he
          go_wp2
          go_region
          all_goals go_wp2
          all_goals go_roundw
          all_goals first | exact ⟨k + 1, by omega, by go_num, unhide HK1, (by first | exact hbel | exact hbel.drew)⟩ | (simp [intOf]; omega)
        · have HN := hide (eqB_no (l := l) (l' := l) (V := V) (V' := V') (fun h => he (h.2 k hlt)))
          have kb : (V k != V' k) = true := by simp [he]
          clear he
          go_wp2
          go_region
          all_goals go_wp2
          all_goals rw [unhide HN]
          all_goals go_ret
          all_goals exact ⟨rfl, (by first | exact hbel | exact hbel.drew)⟩
      · have e : k = l := by omega
        subst e
        have HN := hide (eqB_yes (l := k) (l' := k) (V := V) (V' := V') ⟨rfl, unhide HK⟩)
        go_wp2
        rw [unhide HN]
        go_ret
        exact ⟨rfl, hbel⟩
  · have HN := hide (eqB_no (l := l) (l' := l') (V := V) (V' := V') (fun h => hll h.1))
    have kb : ((l : Int) != (l' : Int)) = true := by simp; omega
    go_enter Try.func12, Try.ntmps12
    go_wp2
    rw [unhide HN]
    go_ret
    exact ⟨rfl, (by repeat (first | exact Below.refl _ _ | assumption | refine below_drewN ?_ _ | refine Below.drew ?_ | refine Below.alloc ?_ (by first | exact Nat.le_refl _ | exact Below.size (by assumption) | (simp; done) | (simp; omega)) _ | refine Below.setCell ?_ (by first | exact Nat.le_refl _ | exact Below.size (by assumption) | (simp; done) | (simp; omega)) _ | refine Below.trans ?_ (by assumption)))⟩
/-- Two are one in all parts. -/
def SameP (m m' : Int) (n n' : Nat) (L L' : Nat → Nat) (V V' : Nat → Nat → Int) : Prop := m = m' ∧ n = n' ∧ ∀ i, i < n → EqP (L i) (L' i) (V i) (V' i)
noncomputable def sameB (m m' : Int) (n n' : Nat) (L L' : Nat → Nat) (V V' : Nat → Nat → Int) : Bool := @decide (SameP m m' n n' L L' V V') (Classical.propDecidable _)
theorem sameB_iff {m m' : Int} {n n' : Nat} {L L' : Nat → Nat} {V V' : Nat → Nat → Int} : sameB m m' n n' L L' V V' = true ↔ SameP m m' n n' L L' V V' := by simp [sameB]
theorem sameB_yes {m m' : Int} {n n' : Nat} {L L' : Nat → Nat} {V V' : Nat → Nat → Int} (h : SameP m m' n n' L L' V V') : sameB m m' n n' L L' V V' = true := sameB_iff.2 h
theorem sameB_no {m m' : Int} {n n' : Nat} {L L' : Nat → Nat} {V V' : Nat → Nat → Int} (h : ¬ SameP m m' n n' L L' V V') : sameB m m' n n' L L' V V' = false := by simpa [sameB] using h
set_option maxHeartbeats 2000000 in
theorem sCnfSame_any (m m' : Int) (a c : Option Addr) (n n' cap cap' : Nat) (A A' : Nat → Option Addr) (L L' C C' : Nat → Nat) (V V' : Nat → Nat → Int) (w : World) (hd : RwsAt w a n A L C V) (hf : Fits n L V) (hd' : RwsAt w c n' A' L' C' V') (hf' : Fits n' L' V') :
    Calls Try.prog 6 #[.agg #[.int .i64 m, .slice a n cap], .agg #[.int .i64 m', .slice c n' cap']] w fun e w' => e = .returned (.bool (sameB m m' n n' L L' V V')) ∧ Below w.heap.size w w' := by
  have HD := hide hd
  have HE := hide hd'
  have HF := hide hf
  have HF' := hide hf'
  have hn := hf.1
  have hn' := hf'.1
  clear hd hd' hf hf'
  by_cases hm : m = m'
  · subst hm
    have kb0 : (m != m) = false := by simp
    by_cases hnn : n = n'
    · subst hnn
      have kb1 : ((n : Int) != (n : Int)) = false := by simp
      go_enter Try.func6, Try.ntmps6
      go_wp2
      go_loopw [5] (fun i wr => ∃ k : Nat, k ≤ n ∧ i = .int .i64 k ∧ (∀ j, j < k → EqP (L j) (L' j) (V j) (V' j)) ∧ wr.cell? ⟨w.heap.size, 1, none⟩ = some (.slice a n cap) ∧ wr.cell? ⟨w.heap.size + 1, 1, none⟩ = some (.slice c n cap') ∧ Below w.heap.size w wr) (fun i _ => n - (intOf i).toNat)
      case atStart => exact ⟨0, by omega, rfl, fun j hj => by omega, by simp [go_sem], by simp [go_sem], (by repeat (first | exact Below.refl _ _ | assumption | refine below_drewN ?_ _ | refine Below.drew ?_ | refine Below.alloc ?_ (by first | exact Nat.le_refl _ | exact Below.size (by assumption) | (simp; done) | (simp; omega)) _ | refine Below.setCell ?_ (by first | exact Nat.le_refl _ | exact Below.size (by assumption) | (simp; done) | (simp; omega)) _ | refine Below.trans ?_ (by assumption)))⟩
      case round =>
        obtain ⟨k, hk, rfl, hok, p1, q1, hbel⟩ := hrel
        have HK := hide hok
        clear hok
        by_cases hlt : k < n
        · obtain ⟨b, off, rfl, hb, hd⟩ := (unhide HD).ok hlt
          obtain ⟨c, off', rfl, hc, hd'⟩ := (unhide HE).ok hlt
          have d0 := (hbel.cell (p := ⟨b, off + k, none⟩) hb).trans (hd k hlt).1
          have g0 := (hbel.cell (p := ⟨c, off' + k, none⟩) hc).trans (hd' k hlt).1
          have I1 := hide ((hd k hlt).2.later hbel)
          have I2 := hide ((hd' k hlt).2.later hbel)
          clear hd hd'
          have fl := ((unhide HF).2 k hlt).1
          have fl' := ((unhide HF').2 k hlt).1
          cases hv : eqB (L k) (L' k) (V k) (V' k)
          · have HN := hide (sameB_no (m := m) (m' := m) (n := n) (n' := n) (L := L) (L' := L') (V := V) (V' := V') (fun h => by have := eqB_yes (h.2.2 k hlt); rw [hv] at this; cases this))
            go_wp2
            go_region_held3 (fun w' => w'.cell? ⟨b, off + k, none⟩ = some (.slice (A k) (L k) (C k)) ∧ w'.cell? ⟨c, off' + k, none⟩ = some (.slice (A' k) (L' k) (C' k)) ∧ w'.cell? ⟨w.heap.size, 1, none⟩ = some (.slice (some ⟨b, off, none⟩) n cap) ∧ w'.cell? ⟨w.heap.size + 1, 1, none⟩ = some (.slice (some ⟨c, off', none⟩) n cap')) (first | go_keep | exact ⟨d0, g0, p1, q1⟩)
              (first | (go_at_call 13; refine (l4Ints_any _ _ _ _ _ _ _ _ _ (by first | exact unhide I1 | exact (unhide I1).drew) (by first | exact unhide I2 | exact (unhide I2).drew) fl fl').mono ?_; rintro e wq ⟨rfl, bq⟩; have BL := (by first | exact hbel.trans (bq.mono hbel.size) | exact hbel.drew.trans (bq.mono hbel.size)); have d0 := cell_later bq (by exact d0); have g0 := cell_later bq (by exact g0); have p1 := cell_later bq (by exact p1); have q1 := cell_later bq (by exact q1)))
            all_goals go_wp2
            all_goals rw [unhide HN]
            all_goals go_ret
            all_goals exact ⟨rfl, (by first | exact BL | exact BL.drew)⟩
          · have HK1 : Hid (∀ j, j < k + 1 → EqP (L j) (L' j) (V j) (V' j)) := fun j hj => by
              by_cases e : j = k
              · subst e; exact eqB_iff.1 hv
              · exact unhide HK j (by omega)
            go_wp2
            go_region_held3 (fun w' => w'.cell? ⟨b, off + k, none⟩ = some (.slice (A k) (L k) (C k)) ∧ w'.cell? ⟨c, off' + k, none⟩ = some (.slice (A' k) (L' k) (C' k)) ∧ w'.cell? ⟨w.heap.size, 1, none⟩ = some (.slice (some ⟨b, off, none⟩) n cap) ∧ w'.cell? ⟨w.heap.size + 1, 1, none⟩ = some (.slice (some ⟨c, off', none⟩) n cap')) (first | go_keep | exact ⟨d0, g0, p1, q1⟩)
              (first | (go_at_call 13; refine (l4Ints_any _ _ _ _ _ _ _ _ _ (by first | exact unhide I1 | exact (unhide I1).drew) (by first | exact unhide I2 | exact (unhide I2).drew) fl fl').mono ?_; rintro e wq ⟨rfl, bq⟩; have BL := (by first | exact hbel.trans (bq.mono hbel.size) | exact hbel.drew.trans (bq.mono hbel.size)); have d0 := cell_later bq (by exact d0); have g0 := cell_later bq (by exact g0); have p1 := cell_later bq (by exact p1); have q1 := cell_later bq (by exact q1)))
            all_goals go_wp2
            all_goals go_roundw
            all_goals first | exact ⟨k + 1, by omega, by go_num, unhide HK1, p1, q1, (by first | exact BL | exact BL.drew)⟩ | (simp [intOf]; omega)
        · have e : k = n := by omega
          subst e
          have HN := hide (sameB_yes (m := m) (m' := m) (n := k) (n' := k) (L := L) (L' := L') (V := V) (V' := V') ⟨rfl, rfl, unhide HK⟩)
          go_wp2
          rw [unhide HN]
          go_ret
          exact ⟨rfl, hbel⟩
    · have HN := hide (sameB_no (m := m) (m' := m) (n := n) (n' := n') (L := L) (L' := L') (V := V) (V' := V') (fun h => hnn h.2.1))
      have kb : ((n : Int) != (n' : Int)) = true := by simp; omega
      go_enter Try.func6, Try.ntmps6
      go_wp2
      rw [unhide HN]
      go_ret
      exact ⟨rfl, (by repeat (first | exact Below.refl _ _ | assumption | refine below_drewN ?_ _ | refine Below.drew ?_ | refine Below.alloc ?_ (by first | exact Nat.le_refl _ | exact Below.size (by assumption) | (simp; done) | (simp; omega)) _ | refine Below.setCell ?_ (by first | exact Nat.le_refl _ | exact Below.size (by assumption) | (simp; done) | (simp; omega)) _ | refine Below.trans ?_ (by assumption)))⟩
  · have HN := hide (sameB_no (m := m) (m' := m') (n := n) (n' := n') (L := L) (L' := L') (V := V) (V' := V') (fun h => hm h.1))
    have kb : (m != m') = true := by simp [hm]
    go_enter Try.func6, Try.ntmps6
    go_wp2
    rw [unhide HN]
    go_ret
    exact ⟨rfl, (by repeat (first | exact Below.refl _ _ | assumption | refine below_drewN ?_ _ | refine Below.drew ?_ | refine Below.alloc ?_ (by first | exact Nat.le_refl _ | exact Below.size (by assumption) | (simp; done) | (simp; omega)) _ | refine Below.setCell ?_ (by first | exact Nat.le_refl _ | exact Below.size (by assumption) | (simp; done) | (simp; omega)) _ | refine Below.trans ?_ (by assumption)))⟩
set_option maxHeartbeats 2000000 in
theorem iCnfSame_any (m m' : Int) (a c : Option Addr) (n n' cap cap' : Nat) (A A' : Nat → Option Addr) (L L' C C' : Nat → Nat) (V V' : Nat → Nat → Int) (w : World) (hd : RwsAt w a n A L C V) (hf : Fits n L V) (hd' : RwsAt w c n' A' L' C' V') (hf' : Fits n' L' V') :
    Calls Try.prog 5 #[.agg #[.int .i64 m, .slice a n cap], .agg #[.int .i64 m', .slice c n' cap']] w fun e w' => e = .returned (.bool (sameB m m' n n' L L' V V')) ∧ Below w.heap.size w w' := by
  have HD := hide hd
  have HE := hide hd'
  have HF := hide hf
  have HF' := hide hf'
  have hn := hf.1
  have hn' := hf'.1
  clear hd hd' hf hf'
  by_cases hm : m = m'
  · subst hm
    have kb0 : (m != m) = false := by simp
    by_cases hnn : n = n'
    · subst hnn
      have kb1 : ((n : Int) != (n : Int)) = false := by simp
      go_enter Try.func5, Try.ntmps5
      go_wp2
      go_loopw [24] (fun i wr => ∃ k : Nat, k ≤ n ∧ i = .int .i64 k ∧ (∀ j, j < k → EqP (L j) (L' j) (V j) (V' j)) ∧ wr.cell? ⟨w.heap.size, 1, none⟩ = some (.slice a n cap) ∧ wr.cell? ⟨w.heap.size + 1, 1, none⟩ = some (.slice c n cap') ∧ Below w.heap.size w wr) (fun i _ => n - (intOf i).toNat)
      case atStart => exact ⟨0, by omega, rfl, fun j hj => by omega, by simp [go_sem], by simp [go_sem], (by repeat (first | exact Below.refl _ _ | assumption | refine below_drewN ?_ _ | refine Below.drew ?_ | refine Below.alloc ?_ (by first | exact Nat.le_refl _ | exact Below.size (by assumption) | (simp; done) | (simp; omega)) _ | refine Below.setCell ?_ (by first | exact Nat.le_refl _ | exact Below.size (by assumption) | (simp; done) | (simp; omega)) _ | refine Below.trans ?_ (by assumption)))⟩
      case round =>
        obtain ⟨k, hk, rfl, hok, p1, q1, hbel⟩ := hrel
        have HK := hide hok
        clear hok
        by_cases hlt : k < n
        · obtain ⟨b, off, rfl, hb, hd⟩ := (unhide HD).ok hlt
          obtain ⟨c, off', rfl, hc, hd'⟩ := (unhide HE).ok hlt
          have d0 := (hbel.cell (p := ⟨b, off + k, none⟩) hb).trans (hd k hlt).1
          have g0 := (hbel.cell (p := ⟨c, off' + k, none⟩) hc).trans (hd' k hlt).1
          have I1 := hide ((hd k hlt).2.later hbel)
          have I2 := hide ((hd' k hlt).2.later hbel)
          clear hd hd'
          have fl := ((unhide HF).2 k hlt).1
          have fl' := ((unhide HF').2 k hlt).1
          go_wp2_with fail
          refine (equal_any _ _ _ _ _ _ _ _ _ (unhide I1) (unhide I2) fl fl').mono ?_
          rintro e wq ⟨rfl, bq⟩
          have BL := hbel.trans (bq.mono hbel.size)
          replace p1 := cell_later bq p1
          replace q1 := cell_later bq q1
          clear bq d0 g0
          cases hv : eqB (L k) (L' k) (V k) (V' k)
          · have HN := hide (sameB_no (m := m) (m' := m) (n := n) (n' := n) (L := L) (L' := L') (V := V) (V' := V') (fun h => by have := eqB_yes (h.2.2 k hlt); rw [hv] at this; cases this))
            go_wp2
            rw [unhide HN]
            go_ret
            exact ⟨rfl, BL⟩
          · have HK1 : Hid (∀ j, j < k + 1 → EqP (L j) (L' j) (V j) (V' j)) := fun j hj => by
              by_cases e : j = k
              · subst e; exact eqB_iff.1 hv
              · exact unhide HK j (by omega)
            go_wp2
            go_roundw
            case rel => exact ⟨k + 1, by omega, by go_num, unhide HK1, p1, q1, BL⟩
            case measure => simp [intOf]; omega
        · have e : k = n := by omega
          subst e
          have HN := hide (sameB_yes (m := m) (m' := m) (n := k) (n' := k) (L := L) (L' := L') (V := V) (V' := V') ⟨rfl, rfl, unhide HK⟩)
          go_wp2
          rw [unhide HN]
          go_ret
          exact ⟨rfl, hbel⟩
    · have HN := hide (sameB_no (m := m) (m' := m) (n := n) (n' := n') (L := L) (L' := L') (V := V) (V' := V') (fun h => hnn h.2.1))
      have kb : ((n : Int) != (n' : Int)) = true := by simp; omega
      go_enter Try.func5, Try.ntmps5
      go_wp2
      rw [unhide HN]
      go_ret
      exact ⟨rfl, (by repeat (first | exact Below.refl _ _ | assumption | refine below_drewN ?_ _ | refine Below.drew ?_ | refine Below.alloc ?_ (by first | exact Nat.le_refl _ | exact Below.size (by assumption) | (simp; done) | (simp; omega)) _ | refine Below.setCell ?_ (by first | exact Nat.le_refl _ | exact Below.size (by assumption) | (simp; done) | (simp; omega)) _ | refine Below.trans ?_ (by assumption)))⟩
  · have HN := hide (sameB_no (m := m) (m' := m') (n := n) (n' := n') (L := L) (L' := L') (V := V) (V' := V') (fun h => hm h.1))
    have kb : (m != m') = true := by simp [hm]
    go_enter Try.func5, Try.ntmps5
    go_wp2
    rw [unhide HN]
    go_ret
    exact ⟨rfl, (by repeat (first | exact Below.refl _ _ | assumption | refine below_drewN ?_ _ | refine Below.drew ?_ | refine Below.alloc ?_ (by first | exact Nat.le_refl _ | exact Below.size (by assumption) | (simp; done) | (simp; omega)) _ | refine Below.setCell ?_ (by first | exact Nat.le_refl _ | exact Below.size (by assumption) | (simp; done) | (simp; omega)) _ | refine Below.trans ?_ (by assumption)))⟩
end Go.Proofs.Ytbepnfcghjfngaa
