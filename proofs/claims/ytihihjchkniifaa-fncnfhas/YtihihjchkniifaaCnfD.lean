/- Clauses: whether all have one that is as they want it, of the model and of the program. -/
import Derived.Test.YtihihjchkniifaaCnfB
namespace Go.Proofs.Ytihihjchkniifaa
open Go.ChangeShapes Go.WideShapes Go.ChangeAt Go.RowKit Go.Joins
set_option linter.unusedVariables false

/-- Each of so many clauses has one. -/
def AllP (n : Nat) (L : Nat → Nat) (V : Nat → Nat → Int) (l : Nat) (B : Nat → Bool) : Prop := ∀ i, i < n → HasP (L i) (V i) l B
noncomputable def allB (n : Nat) (L : Nat → Nat) (V : Nat → Nat → Int) (l : Nat) (B : Nat → Bool) : Bool := @decide (AllP n L V l B) (Classical.propDecidable _)
theorem allB_iff {n : Nat} {L : Nat → Nat} {V : Nat → Nat → Int} {l : Nat} {B : Nat → Bool} : allB n L V l B = true ↔ AllP n L V l B := by simp [allB]
theorem allB_yes {n : Nat} {L : Nat → Nat} {V : Nat → Nat → Int} {l : Nat} {B : Nat → Bool} (h : AllP n L V l B) : allB n L V l B = true := allB_iff.2 h
theorem allB_no {n : Nat} {L : Nat → Nat} {V : Nat → Nat → Int} {l : Nat} {B : Nat → Bool} (h : ¬ AllP n L V l B) : allB n L V l B = false := by simpa [allB] using h
noncomputable def chB (m : Int) (n : Nat) (L : Nat → Nat) (V : Nat → Nat → Int) (l : Nat) (B : Nat → Bool) : Bool := cnfB m n L V && decide ((l : Int) = m) && allB n L V l B
set_option maxHeartbeats 1000000 in
theorem allHave_any (a : Option Addr) (n cap : Nat) (A : Nat → Option Addr) (L C : Nat → Nat) (V : Nat → Nat → Int) (c : Option Addr) (l cap' : Nat) (B : Nat → Bool) (w : World) (hd : RwsAt w a n A L C V) (hf : Fits n L V) (he : BlsAt w c l B) (hl : l ≤ 1048576) :
    Calls Try.prog 20 #[.slice a n cap, .slice c l cap'] w fun e w' => e = .returned (.bool (allB n L V l B)) ∧ w' = w := by
  have HD := hide hd
  have HE := hide he
  have HF := hide hf
  have hn := hf.1
  clear hd he hf
  go_enter Try.func20, Try.ntmps20
  go_wp2
  go_loopw [9] (fun i wr => ∃ k : Nat, k ≤ n ∧ i = .int .i64 k ∧ (∀ j, j < k → HasP (L j) (V j) l B) ∧ wr = w) (fun i _ => n - (intOf i).toNat)
  case atStart => exact ⟨0, by omega, rfl, fun j hj => by omega, rfl⟩
  case round =>
    obtain ⟨k, hk, rfl, hok, rfl⟩ := hrel
    have HK := hide hok
    clear hok
    by_cases hlt : k < n
    · obtain ⟨b, off, rfl, hb, hd⟩ := (unhide HD).ok hlt
      have d0 := (hd k hlt).1
      have I1 := hide (hd k hlt).2
      clear hd
      obtain ⟨fl, fw⟩ := (unhide HF).2 k hlt
      have FW := hide fw
      clear fw
      go_wp2_with fail
      refine (iClauseHas_any _ _ _ _ _ _ _ _ _ (unhide I1) fl (unhide FW) (unhide HE) hl).mono ?_
      rintro e wq ⟨rfl, rfl⟩
      cases hv : hasB (L k) (V k) l B
      · have HN := hide (allB_no (n := n) (L := L) (V := V) (l := l) (B := B) (fun h => by have := hasB_yes (h k hlt); rw [hv] at this; cases this))
        go_wp2
        rw [unhide HN]
        go_ret
        exact ⟨rfl, rfl⟩
      · have HK1 : Hid (∀ j, j < k + 1 → HasP (L j) (V j) l B) := fun j hj => by
          by_cases e : j = k
          · subst e; exact hasB_iff.1 hv
          · exact unhide HK j (by omega)
        go_wp2
        go_roundw
        case rel => exact ⟨k + 1, by omega, by go_num, unhide HK1, trivial⟩
        case measure => simp [intOf]; omega
    · have e : k = n := by omega
      subst e
      have HN := hide (allB_yes (n := k) (L := L) (V := V) (l := l) (B := B) (unhide HK))
      go_wp2
      rw [unhide HN]
      go_ret
      exact ⟨rfl, rfl⟩
set_option maxHeartbeats 1000000 in
theorem iCnfHas_any (m : Int) (a : Option Addr) (n cap : Nat) (A : Nat → Option Addr) (L C : Nat → Nat) (V : Nat → Nat → Int) (c : Option Addr) (l cap' : Nat) (B : Nat → Bool) (w : World) (hd : RwsAt w a n A L C V) (hf : Fits n L V) (he : BlsAt w c l B) (hl : l ≤ 1048576) :
    Calls Try.prog 6 #[.agg #[.int .i64 m, .slice a n cap], .slice c l cap'] w fun e w' => e = .returned (.bool (chB m n L V l B)) ∧ Below w.heap.size w w' := by
  have HD := hide hd
  have HE := hide he
  have HF := hide hf
  clear hd he hf
  unfold chB
  go_enter Try.func6, Try.ntmps6
  go_wp2_with fail
  obtain ⟨wz, hwz⟩ : ∃ wz, wz = w.alloc (.cells #[.int .i64 m, .slice a n cap] 25) := ⟨_, rfl⟩
  have BZ : Below w.heap.size w wz := by rw [hwz]; exact (Below.refl _ _).alloc (Nat.le_refl _) _
  have P : Box wz w.heap.size m a n cap := by rw [hwz]; exact Box.new _ _ _ _ _ _
  rw [← hwz]
  clear hwz
  refine (iCnfOk_any _ _ _ _ _ _ _ _ _ ((unhide HD).later BZ) (unhide HF)).mono ?_
  rintro e w1 ⟨rfl, b1⟩
  have BL := BZ.trans (b1.mono BZ.size)
  replace P := P.later b1
  clear b1 BZ
  obtain ⟨p0, p1⟩ := P
  cases hv : cnfB m n L V
  · go_wp2
    go_ret
    exact ⟨ret_bool (by rw [hv]; simp), BL⟩
  · by_cases hlm : (l : Int) = m
    · have kb : ((l : Int) == m) = true := by simp [hlm]
      have kd : decide ((l : Int) = m) = true := by simp [hlm]
      go_wp2_with fail
      refine (allHave_any _ _ _ _ _ _ _ _ _ _ _ _ ((unhide HD).later BL) (unhide HF) ((unhide HE).later BL) hl).mono ?_
      rintro e w2 ⟨rfl, rfl⟩
      go_wp2
      go_ret
      exact ⟨ret_bool (by rw [kd, hv]; simp), BL⟩
    · have kb : ((l : Int) == m) = false := by simp [hlm]
      have kd : decide ((l : Int) = m) = false := by simp [hlm]
      go_wp2
      go_ret
      exact ⟨ret_bool (by rw [kd, hv]; simp), BL⟩
set_option maxHeartbeats 1000000 in
theorem sCnfHas_any (m : Int) (a : Option Addr) (n cap : Nat) (A : Nat → Option Addr) (L C : Nat → Nat) (V : Nat → Nat → Int) (c : Option Addr) (l cap' : Nat) (B : Nat → Bool) (w : World) (hd : RwsAt w a n A L C V) (hf : Fits n L V) (he : BlsAt w c l B) (hl : l ≤ 1048576) :
    Calls Try.prog 7 #[.agg #[.int .i64 m, .slice a n cap], .slice c l cap'] w fun e w' => e = .returned (.bool (chB m n L V l B)) ∧ Below w.heap.size w w' := by
  have HD := hide hd
  have HE := hide he
  have HF := hide hf
  have hn := hf.1
  clear hd he hf
  go_enter Try.func7, Try.ntmps7
  go_wp2_with fail
  obtain ⟨wz, hwz⟩ : ∃ wz, wz = w.alloc (.cells #[.int .i64 m, .slice a n cap] 25) := ⟨_, rfl⟩
  have BZ : Below w.heap.size w wz := by rw [hwz]; exact (Below.refl _ _).alloc (Nat.le_refl _) _
  have P : Box wz w.heap.size m a n cap := by rw [hwz]; exact Box.new _ _ _ _ _ _
  rw [← hwz]
  clear hwz
  refine (sCnfOk_any _ _ _ _ _ _ _ _ _ ((unhide HD).later BZ) (unhide HF)).mono ?_
  rintro e w1 ⟨rfl, b1⟩
  have BL := BZ.trans (b1.mono BZ.size)
  replace P := P.later b1
  clear b1 BZ
  obtain ⟨p0, p1⟩ := P
  cases hv : cnfB m n L V
  · have HN : Hid (chB m n L V l B = false) := hide (by simp [chB, hv])
    go_wp2
    rw [unhide HN]
    go_ret
    exact ⟨rfl, BL⟩
  · by_cases hlm : (l : Int) = m
    · have kb : ((l : Int) != m) = false := by simp [hlm]
      have HC : Hid (chB m n L V l B = allB n L V l B) := hide (by simp [chB, hv, hlm])
      clear hlm
      go_wp2
      go_loopw [5] (fun i wr => ∃ k : Nat, k ≤ n ∧ i = .int .i64 k ∧ (∀ j, j < k → HasP (L j) (V j) l B) ∧ wr = w1) (fun i _ => n - (intOf i).toNat)
      case atStart => exact ⟨0, by omega, rfl, fun j hj => by omega, rfl⟩
      case round =>
        obtain ⟨k, hk, rfl, hok, rfl⟩ := hrel
        have HK := hide hok
        clear hok
        by_cases hlt : k < n
        · obtain ⟨b, off, rfl, hb, hd⟩ := (unhide HD).ok hlt
          have d0 := (BL.cell (p := ⟨b, off + k, none⟩) hb).trans (hd k hlt).1
          have I1 := hide ((hd k hlt).2.later BL)
          clear hd
          obtain ⟨fl, fw⟩ := (unhide HF).2 k hlt
          have FW := hide fw
          clear fw
          go_wp2_with fail
          refine (sClauseHas_any _ _ _ _ _ _ _ _ _ (unhide I1) fl (unhide FW) ((unhide HE).later BL) hl).mono ?_
          rintro e wq ⟨rfl, rfl⟩
          cases hv : hasB (L k) (V k) l B
          · have HN := hide (allB_no (n := n) (L := L) (V := V) (l := l) (B := B) (fun h => by have := hasB_yes (h k hlt); rw [hv] at this; cases this))
            go_wp2
            rw [unhide HC, unhide HN]
            go_ret
            exact ⟨rfl, BL⟩
          · have HK1 : Hid (∀ j, j < k + 1 → HasP (L j) (V j) l B) := fun j hj => by
              by_cases e : j = k
              · subst e; exact hasB_iff.1 hv
              · exact unhide HK j (by omega)
            go_wp2
            go_roundw
            case rel => exact ⟨k + 1, by omega, by go_num, unhide HK1, trivial⟩
            case measure => simp [intOf]; omega
        · have e : k = n := by omega
          subst e
          have HN := hide (allB_yes (n := k) (L := L) (V := V) (l := l) (B := B) (unhide HK))
          go_wp2
          rw [unhide HC, unhide HN]
          go_ret
          exact ⟨rfl, BL⟩
    · have kb : ((l : Int) != m) = true := by simp [hlm]
      have HN : Hid (chB m n L V l B = false) := hide (by simp [chB, hlm])
      clear hlm
      go_wp2
      rw [unhide HN]
      go_ret
      exact ⟨rfl, BL⟩
end Go.Proofs.Ytihihjchkniifaa
