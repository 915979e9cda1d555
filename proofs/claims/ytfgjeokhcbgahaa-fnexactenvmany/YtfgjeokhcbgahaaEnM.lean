/- How many ways there are to have numbers for names, of the model and of the program. -/
import Derived.Test.YtfgjeokhcbgahaaDecC
import Derived.Test.YtfgjeokhcbgahaaDecD
namespace Go.Proofs.Ytfgjeokhcbgahaa
open Go.ChangeShapes Go.WideShapes Go.ChangeAt Go.RowKit Go.Joins
set_option linter.unusedVariables false

/-- The ways of the first so many names. -/
def mprod (V : Nat → Int) : Nat → Int
  | 0 => 1
  | k + 1 => mprod V k * two (V k)
theorem mprod_bd {V : Nat → Int} {k : Nat} (hk : k ≤ 4) (h : ∀ i, i < k → 1 ≤ V i ∧ V i ≤ 4) : 1 ≤ mprod V k ∧ mprod V k ≤ ((16 ^ k : Nat) : Int) := by
  induction k with
  | zero => simp [mprod]
  | succ k ih =>
    obtain ⟨i1, i2⟩ := ih (by omega) (fun i hi => h i (by omega))
    obtain ⟨v1, v2⟩ := h k (by omega)
    obtain ⟨t1, t2⟩ := two_bd (V k) v1 v2
    simp only [mprod]
    have e : ((16 ^ (k + 1) : Nat) : Int) = ((16 ^ k : Nat) : Int) * 16 := by rw [Nat.pow_succ]; simp
    rw [e]
    refine ⟨?_, Int.mul_le_mul i2 t2 (by omega) (by omega)⟩
    have := Int.mul_le_mul i1 (show (1 : Int) ≤ two (V k) by omega) (by omega) (by omega)
    omega
theorem mprod_le {V : Nat → Int} {k : Nat} (hk : k ≤ 4) (h : ∀ i, i < k → 1 ≤ V i ∧ V i ≤ 4) : 1 ≤ mprod V k ∧ mprod V k ≤ 65536 := by
  obtain ⟨h1, h2⟩ := mprod_bd hk h
  have : (16 ^ k : Nat) ≤ 16 ^ 4 := Nat.pow_le_pow_right (by omega) hk
  refine ⟨h1, ?_⟩
  have h3 : (16 ^ 4 : Nat) = 65536 := rfl
  omega
/-- How many ways there are. -/
noncomputable def waysV (n : Nat) (S : Nat → ByteArray) (V : Nat → Int) : Int := if declB n S V = true then mprod V n else 0
theorem waysV_yes {n : Nat} {S : Nat → ByteArray} {V : Nat → Int} (h : DeclP n S V) : waysV n S V = mprod V n := by unfold waysV; rw [if_pos (declB_yes h)]
theorem waysV_no {n : Nat} {S : Nat → ByteArray} {V : Nat → Int} (h : ¬ DeclP n S V) : waysV n S V = 0 := by unfold waysV; rw [declB_no h]; rfl
set_option maxHeartbeats 1000000 in
theorem sEnvMany_any (b off n cap : Nat) (S : Nat → ByteArray) (V : Nat → Int) (w : World) (hb : b < w.heap.size) (hd : Decs w b off n S V) (hnc : n ≤ cap) (hn : n ≤ 1048576) (hs : ∀ i, i < n → (S i).size ≤ 1048576) :
    Calls Try.prog 20 #[.slice (some ⟨b, off, none⟩) n cap] w fun e w' => e = .returned (.int .i64 (waysV n S V)) ∧ Below w.heap.size w w' := by
  have HD := hide hd
  have HS := hide hs
  clear hd hs
  go_enter Try.func20, Try.ntmps20
  go_wp2_with fail
  refine (sDeclOk_any _ _ _ _ _ _ _ hb (unhide HD) hnc hn (unhide HS)).mono ?_
  rintro e w1 ⟨rfl, b1⟩
  by_cases hD : DeclP n S V
  · have hDb := declB_yes hD
    have HW := hide (waysV_yes hD)
    have h4 := hD.1
    have HV : Hid (∀ i, i < n → 1 ≤ V i ∧ V i ≤ 4) := fun i hi => ⟨(hD.2.1 i hi).2.1, (hD.2.1 i hi).2.2.1⟩
    clear hD
    go_wp2
    go_loopw [4, 3] (fun i p wr => ∃ k : Nat, k ≤ n ∧ i = .int .i64 k ∧ p = .int .i64 (mprod V k) ∧ Below w.heap.size w wr) (fun i _ _ => n - (intOf i).toNat)
    case atStart => exact ⟨0, by omega, rfl, rfl, b1⟩
    case round =>
      obtain ⟨k, hk, rfl, rfl, hbel⟩ := hrel
      by_cases hlt : k < n
      · have d1 := (hbel.cell (p := ⟨b, off + k * 2 + 1, none⟩) hb).trans (unhide HD k hlt).2
        obtain ⟨v1, v2⟩ := unhide HV k hlt
        obtain ⟨m1, m2⟩ := mprod_le (k := k) (V := V) (by omega) (fun i hi => unhide HV i (by omega))
        obtain ⟨m3, m4⟩ := mprod_le (k := k + 1) (V := V) (by omega) (fun i hi => unhide HV i (by omega))
        have HM : Hid (mprod V (k + 1) = mprod V k * two (V k)) := rfl
        go_wp2_with fail
        refine (two_any _ _ (by omega) (by omega)).mono ?_
        rintro e w2 ⟨rfl, rfl⟩
        rw [show mprod V (k + 1) = mprod V k * two (V k) from rfl] at m3 m4
        go_wp2
        go_roundw
        case rel => exact ⟨k + 1, by omega, by go_num, by rw [unhide HM], (by repeat (first | exact Below.refl _ _ | assumption | refine below_drewN ?_ _ | refine Below.drew ?_ | refine Below.alloc ?_ (by first | exact Nat.le_refl _ | exact Below.size (by assumption) | (simp; done) | (simp; omega)) _ | refine Below.setCell ?_ (by first | exact Nat.le_refl _ | exact Below.size (by assumption) | (simp; done) | (simp; omega)) _ | refine Below.trans ?_ (by assumption)))⟩
        case measure => simp [intOf]; omega
      · have e : k = n := by omega
        subst e
        go_wp2
        go_ret
        exact ⟨ret_int (by rw [unhide HW]), hbel⟩
  · have hDb := declB_no hD
    have HW := hide (waysV_no hD)
    go_wp2
    go_ret
    exact ⟨ret_int (by rw [unhide HW]), b1⟩
theorem shl_two (x a : Int) (h1 : 1 ≤ a) (h2 : a ≤ 4) : a = 1 ∧ two a = 2 ∨ a = 2 ∧ two a = 4 ∨ a = 3 ∧ two a = 8 ∨ a = 4 ∧ two a = 16 := by
  have : a = 1 ∨ a = 2 ∨ a = 3 ∨ a = 4 := by omega
  rcases this with rfl | rfl | rfl | rfl <;> decide
set_option maxHeartbeats 1000000 in
theorem iEnvMany_any (b off n cap : Nat) (S : Nat → ByteArray) (V : Nat → Int) (w : World) (hb : b < w.heap.size) (hd : Decs w b off n S V) (hnc : n ≤ cap) (hn : n ≤ 1048576) (hs : ∀ i, i < n → (S i).size ≤ 1048576) :
    Calls Try.prog 21 #[.slice (some ⟨b, off, none⟩) n cap] w fun e w' => e = .returned (.int .i64 (waysV n S V)) ∧ Below w.heap.size w w' := by
  have HD := hide hd
  have HS := hide hs
  clear hd hs
  go_enter Try.func21, Try.ntmps21
  go_wp2_with fail
  refine (iDeclOk_any _ _ _ _ _ _ _ hb (unhide HD) hnc hn (unhide HS)).mono ?_
  rintro e w1 ⟨rfl, b1⟩
  by_cases hD : DeclP n S V
  · have hDb := declB_yes hD
    have HW := hide (waysV_yes hD)
    have h4 := hD.1
    have HV : Hid (∀ i, i < n → 1 ≤ V i ∧ V i ≤ 4) := fun i hi => ⟨(hD.2.1 i hi).2.1, (hD.2.1 i hi).2.2.1⟩
    clear hD
    go_wp2
    go_loopw [11, 3] (fun i p wr => ∃ k : Nat, k ≤ n ∧ i = .int .i64 k ∧ p = .int .i64 (mprod V k) ∧ Below w.heap.size w wr) (fun i _ _ => n - (intOf i).toNat)
    case atStart => exact ⟨0, by omega, rfl, rfl, b1⟩
    case round =>
      obtain ⟨k, hk, rfl, rfl, hbel⟩ := hrel
      by_cases hlt : k < n
      · have d0 := (hbel.cell (p := ⟨b, off + k * 2, none⟩) hb).trans (unhide HD k hlt).1
        have d1 := (hbel.cell (p := ⟨b, off + k * 2 + 1, none⟩) hb).trans (unhide HD k hlt).2
        obtain ⟨v1, v2⟩ := unhide HV k hlt
        obtain ⟨m1, m2⟩ := mprod_le (k := k) (V := V) (by omega) (fun i hi => unhide HV i (by omega))
        have HM : Hid (mprod V (k + 1) = mprod V k * two (V k)) := rfl
        obtain ⟨q, hq⟩ : ∃ q, mprod V k = q := ⟨_, rfl⟩
        rw [hq] at m1 m2 ⊢
        have HQ := hide hq
        clear hq
        rcases shl_two 0 (V k) v1 v2 with ⟨hv, ht⟩ | ⟨hv, ht⟩ | ⟨hv, ht⟩ | ⟨hv, ht⟩
        all_goals
          have HT := hide ht
          clear ht
          rw [hv] at d1
          go_wp2
          go_roundw
          case rel => exact ⟨k + 1, by omega, by go_num, by rw [unhide HM, unhide HQ, unhide HT], (by repeat (first | exact Below.refl _ _ | assumption | refine below_drewN ?_ _ | refine Below.drew ?_ | refine Below.alloc ?_ (by first | exact Nat.le_refl _ | exact Below.size (by assumption) | (simp; done) | (simp; omega)) _ | refine Below.setCell ?_ (by first | exact Nat.le_refl _ | exact Below.size (by assumption) | (simp; done) | (simp; omega)) _ | refine Below.trans ?_ (by assumption)))⟩
          case measure => simp [intOf]; omega
      · have e : k = n := by omega
        subst e
        go_wp2
        go_ret
        exact ⟨ret_int (by rw [unhide HW]), hbel⟩
  · have hDb := declB_no hD
    have HW := hide (waysV_no hD)
    go_wp2
    go_ret
    exact ⟨ret_int (by rw [unhide HW]), b1⟩
end Go.Proofs.Ytfgjeokhcbgahaa
