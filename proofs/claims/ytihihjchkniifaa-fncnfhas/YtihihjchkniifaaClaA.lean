/- Whether one of a clause's marks is as it wants it, of the model and of the program. -/
import Derived.Test.YtihihjchkniifaaBolA
namespace Go.Proofs.Ytihihjchkniifaa
open Go.ChangeShapes Go.WideShapes Go.ChangeAt Go.RowKit Go.Joins
set_option linter.unusedVariables false

/-- A number of 64 bits. -/
def W64 (v : Int) : Prop := -9223372036854775808 ≤ v ∧ v ≤ 9223372036854775807
theorem W64.of {v : Int} (h : (Lit.int .i64 v).wf = true) : W64 v := by
  simp [Lit.wf, IntKind.min, IntKind.max, IntKind.signed, IntKind.bits] at h
  exact h
theorem ints_in64 {H : Type} {enc : TypeId × Value → H} {w : World} {a : Option Addr} {len cap : Nat} {d : DataW H} {p : List MemPlace} {sp : Nat → Bool} {held : Bool}
    (h : DataW.Trod enc Try.prog w 0 sp held 32 (.slice a len cap) d p) : len ≤ cap ∧ len ≤ maxLen ∧ ∃ V, IntsAt w a len V ∧ ∀ i, i < len → W64 (V i) := by
  obtain ⟨fuel, hf⟩ := h
  rcases open_ints Try.underlying32 Try.underlying3 (by kernel_rfl) hf with ⟨hcs, _⟩ | ⟨x, l, c, zs, hcs, _, hl, hm, hz, _, hcell, hwz⟩
  · simp [Value.cells] at hcs
    obtain ⟨rfl, rfl, rfl⟩ := hcs
    exact ⟨Nat.le_refl _, by unfold maxLen; omega, fun _ => 0, Or.inl rfl, fun i hi => by omega⟩
  · simp [Value.cells] at hcs
    obtain ⟨rfl, rfl, rfl⟩ := hcs
    have hlz : len ≤ zs.length := by rw [hz]; split <;> omega
    refine ⟨hl, by omega, fun i => zs.getD i 0, ?_, fun i hi => ?_⟩
    · by_cases h0 : len = 0
      · exact Or.inl h0
      · obtain ⟨b, off, rfl, hc⟩ := ints_at hcell (by omega)
        exact Or.inr ⟨b, off, rfl, World.block_lt_of_cell? _ _ (hc 0 (by omega)), fun i hi => hc i (by omega)⟩
    · apply W64.of
      apply hwz
      show zs.getD i 0 ∈ zs
      rw [List.getD_eq_getElem?_getD, List.getElem?_eq_getElem (by omega)]
      exact List.getElem_mem _

/-- A mark is as a clause's number wants it. -/
def metB (m : Int) (n : Nat) (B : Nat → Bool) : Bool := if 0 < m then decide (m ≤ n) && B (m - 1).toNat else if m < 0 then decide (-(n : Int) ≤ m) && !B (-m - 1).toNat else false
theorem met_pos {n : Nat} {B : Nat → Bool} {j : Nat} (h : j < n) : metB ((j : Int) + 1) n B = B j := by
  unfold metB
  rw [if_pos (by omega)]
  have : ((j : Int) + 1 - 1).toNat = j := by omega
  rw [this]
  have : decide ((j : Int) + 1 ≤ n) = true := by simp; omega
  rw [this]; simp
theorem met_neg {n : Nat} {B : Nat → Bool} {j : Nat} (h : j < n) : metB (-((j : Int) + 1)) n B = !B j := by
  unfold metB
  rw [if_neg (by omega), if_pos (by omega)]
  have : (-(-((j : Int) + 1)) - 1).toNat = j := by omega
  rw [this]
  have : decide (-(n : Int) ≤ -((j : Int) + 1)) = true := by simp; omega
  rw [this]; simp
theorem met_out {n : Nat} {B : Nat → Bool} {m : Int} (h : m = 0 ∨ (n : Int) < m ∨ m < -(n : Int)) : metB m n B = false := by
  unfold metB
  rcases h with rfl | h | h
  · simp
  · rw [if_pos (by omega)]; simp; omega
  · rw [if_neg (by omega), if_pos (by omega)]; simp; omega
theorem met_ways (n : Nat) (m : Int) : (∃ j : Nat, j < n ∧ m = (j : Int) + 1) ∨ (∃ j : Nat, j < n ∧ m = -((j : Int) + 1)) ∨ (m = 0 ∨ (n : Int) < m ∨ m < -(n : Int)) := by
  by_cases h0 : 0 < m
  · by_cases h1 : m ≤ n
    · exact Or.inl ⟨(m - 1).toNat, by omega, by omega⟩
    · exact Or.inr (Or.inr (Or.inr (Or.inl (by omega))))
  · by_cases h2 : m = 0
    · exact Or.inr (Or.inr (Or.inl h2))
    · by_cases h1 : -(n : Int) ≤ m
      · exact Or.inr (Or.inl ⟨(-m - 1).toNat, by omega, by omega⟩)
      · exact Or.inr (Or.inr (Or.inr (Or.inr (by omega))))
/-- One of the first so many is met. -/
def HasP (l : Nat) (V : Nat → Int) (n : Nat) (B : Nat → Bool) : Prop := ∃ k, k < l ∧ metB (V k) n B = true
noncomputable def hasB (l : Nat) (V : Nat → Int) (n : Nat) (B : Nat → Bool) : Bool := @decide (HasP l V n B) (Classical.propDecidable _)
theorem hasB_iff {l : Nat} {V : Nat → Int} {n : Nat} {B : Nat → Bool} : hasB l V n B = true ↔ HasP l V n B := by simp [hasB]
theorem hasB_yes {l : Nat} {V : Nat → Int} {n : Nat} {B : Nat → Bool} (h : HasP l V n B) : hasB l V n B = true := hasB_iff.2 h
theorem hasB_no {l : Nat} {V : Nat → Int} {n : Nat} {B : Nat → Bool} (h : ∀ k, k < l → metB (V k) n B = false) : hasB l V n B = false := by
  have : ¬ HasP l V n B := fun ⟨k, hk, hm⟩ => by rw [h k hk] at hm; cases hm
  simpa [hasB] using this
set_option maxHeartbeats 2000000 in
theorem sClauseHas_any (a : Option Addr) (l cap : Nat) (V : Nat → Int) (c : Option Addr) (n cap' : Nat) (B : Nat → Bool) (w : World) (hd : IntsAt w a l V) (hl : l ≤ 1048576) (hW : ∀ i, i < l → W64 (V i)) (he : BlsAt w c n B) (hn : n ≤ 1048576) :
    Calls Try.prog 21 #[.slice a l cap, .slice c n cap'] w fun e w' => e = .returned (.bool (hasB l V n B)) ∧ w' = w := by
  have HD := hide hd
  have HE := hide he
  have HW := hide hW
  clear hd he hW
  go_enter Try.func21, Try.ntmps21
  go_wp2
  go_loopw [5] (fun i wr => ∃ k : Nat, k ≤ l ∧ i = .int .i64 k ∧ (∀ j, j < k → metB (V j) n B = false) ∧ wr = w) (fun i _ => l - (intOf i).toNat)
  case atStart => exact ⟨0, by omega, rfl, fun j hj => by omega, rfl⟩
  case round =>
    obtain ⟨k, hk, rfl, hno, rfl⟩ := hrel
    have HN := hide hno
    clear hno
    by_cases hlt : k < l
    · obtain ⟨b, off, rfl, hb, hd⟩ := (unhide HD).ok hlt
      have d0 := hd k hlt
      have hw := unhide HW k hlt
      clear hd
      cases hm : metB (V k) n B
      · have HN1 : Hid (∀ j, j < k + 1 → metB (V j) n B = false) := fun j hj => by
          by_cases e : j = k
          · subst e; exact hm
          · exact unhide HN j (by omega)
        rcases met_ways n (V k) with ⟨j, hj, e⟩ | ⟨j, hj, e⟩ | ho
        · obtain ⟨c, off', rfl, hc, he⟩ := (unhide HE).ok hj
          have g0 := he j hj
          rw [e, met_pos hj] at hm
          rw [e] at d0
          rw [hm] at g0
          clear he e hm
          go_wp2
          go_roundw
          case rel => exact ⟨k + 1, by omega, by go_num, unhide HN1, trivial⟩
          case measure => simp [intOf]; omega
        · obtain ⟨c, off', rfl, hc, he⟩ := (unhide HE).ok hj
          have g0 := he j hj
          rw [e, met_neg hj] at hm
          rw [e] at d0
          simp at hm
          rw [hm] at g0
          clear he e hm
          go_wp2
          go_roundw
          case rel => exact ⟨k + 1, by omega, by go_num, unhide HN1, trivial⟩
          case measure => simp [intOf]; omega
        · unfold W64 at hw
          generalize V k = v at *
          clear hm
          rcases ho with rfl | ho | ho
          all_goals
            go_wp2
            go_roundw
            case rel => exact ⟨k + 1, by omega, by go_num, unhide HN1, trivial⟩
            case measure => simp [intOf]; omega
      · have HY := hide (hasB_yes ⟨k, hlt, hm⟩)
        rcases met_ways n (V k) with ⟨j, hj, e⟩ | ⟨j, hj, e⟩ | ho
        · obtain ⟨c, off', rfl, hc, he⟩ := (unhide HE).ok hj
          have g0 := he j hj
          rw [e, met_pos hj] at hm
          rw [e] at d0
          rw [hm] at g0
          clear he e hm
          go_wp2
          rw [unhide HY]
          go_ret
          exact ⟨rfl, rfl⟩
        · obtain ⟨c, off', rfl, hc, he⟩ := (unhide HE).ok hj
          have g0 := he j hj
          rw [e, met_neg hj] at hm
          rw [e] at d0
          simp at hm
          rw [hm] at g0
          clear he e hm
          go_wp2
          rw [unhide HY]
          go_ret
          exact ⟨rfl, rfl⟩
        · rw [met_out ho] at hm; cases hm
    · have e : k = l := by omega
      subst e
      have HY := hide (hasB_no (unhide HN))
      go_wp2
      rw [unhide HY]
      go_ret
      exact ⟨rfl, rfl⟩
/-- A mark without its sign; the least number there is stays as it is. -/
def bareI (m : Int) : Int := if m < 0 then (if m = -9223372036854775808 then m else -m) else m
theorem bareI_pos {m : Int} (h : 0 ≤ m) : bareI m = m := by unfold bareI; rw [if_neg (by omega)]
theorem bareI_neg {m : Int} (h : m < 0) (h' : m ≠ -9223372036854775808) : bareI m = -m := by unfold bareI; rw [if_pos h, if_neg h']
theorem bareI_least : bareI (-9223372036854775808) = -9223372036854775808 := by decide
def amongB (m : Int) (n : Nat) : Bool := decide (1 ≤ bareI m) && decide (bareI m ≤ n)
set_option maxHeartbeats 400000 in
theorem bare_any (m : Int) (w : World) (hm : W64 m) :
    Calls Try.prog 32 #[.int .i64 m] w fun e w' => e = .returned (.int .i64 (bareI m)) ∧ w' = w := by
  unfold W64 at hm
  by_cases h : m < 0
  · by_cases h' : m = -9223372036854775808
    · subst h'
      rw [bareI_least]
      go_enter Try.func32, Try.ntmps32
      go_wp2
      go_ret
      exact ⟨ret_int (by kernel_rfl), rfl⟩
    · rw [bareI_neg h h']
      go_enter Try.func32, Try.ntmps32
      go_wp2
      go_ret
      exact ⟨rfl, rfl⟩
  · rw [bareI_pos (by omega)]
    go_enter Try.func32, Try.ntmps32
    go_wp2
    go_ret
    exact ⟨rfl, rfl⟩
set_option maxHeartbeats 400000 in
theorem among_any (m : Int) (n : Nat) (w : World) (hm : W64 m) :
    Calls Try.prog 31 #[.int .i64 m, .int .i64 n] w fun e w' => e = .returned (.bool (amongB m n)) ∧ w' = w := by
  unfold amongB
  by_cases h1 : 1 ≤ bareI m
  · go_enter Try.func31, Try.ntmps31
    go_wp2_with fail
    refine (bare_any _ _ hm).mono ?_
    rintro e w1 ⟨rfl, rfl⟩
    go_wp2_with fail
    refine (bare_any _ _ hm).mono ?_
    rintro e w1 ⟨rfl, rfl⟩
    go_wp2
    go_ret
    exact ⟨ret_bool (by simp [h1]), rfl⟩
  · have hd : decide (1 ≤ bareI m) = false := by simpa using h1
    go_enter Try.func31, Try.ntmps31
    go_wp2_with fail
    refine (bare_any _ _ hm).mono ?_
    rintro e w1 ⟨rfl, rfl⟩
    go_wp2
    go_ret
    exact ⟨ret_bool (by rw [hd]; simp), rfl⟩
set_option maxHeartbeats 1000000 in
theorem met_any (m : Int) (c : Option Addr) (n cap' : Nat) (B : Nat → Bool) (w : World) (hm : W64 m) (he : BlsAt w c n B) (hn : n ≤ 1048576) :
    Calls Try.prog 24 #[.int .i64 m, .slice c n cap'] w fun e w' => e = .returned (.bool (metB m n B)) ∧ w' = w := by
  rcases met_ways n m with ⟨j, hj, rfl⟩ | ⟨j, hj, rfl⟩ | ho
  · obtain ⟨c, off', rfl, hc, he⟩ := he.ok hj
    have g0 := he j hj
    rw [met_pos hj]
    have hb : bareI ((j : Int) + 1) = (j : Int) + 1 := bareI_pos (by omega)
    have hA : amongB ((j : Int) + 1) n = true := by unfold amongB; rw [hb]; simp; omega
    clear he
    generalize B j = x at *
    go_enter Try.func24, Try.ntmps24
    go_wp2_with fail
    refine (among_any _ _ _ hm).mono ?_
    rintro e w1 ⟨rfl, rfl⟩
    rw [hA]
    go_wp2_with fail
    refine (bare_any _ _ hm).mono ?_
    rintro e w1 ⟨rfl, rfl⟩
    rw [hb]
    cases x
    all_goals
      go_wp2
      go_ret
      exact ⟨rfl, rfl⟩
  · obtain ⟨c, off', rfl, hc, he⟩ := he.ok hj
    have g0 := he j hj
    rw [met_neg hj]
    have hb : bareI (-((j : Int) + 1)) = (j : Int) + 1 := by rw [bareI_neg (by omega) (by omega)]; omega
    have hA : amongB (-((j : Int) + 1)) n = true := by unfold amongB; rw [hb]; simp; omega
    clear he
    generalize B j = x at *
    go_enter Try.func24, Try.ntmps24
    go_wp2_with fail
    refine (among_any _ _ _ hm).mono ?_
    rintro e w1 ⟨rfl, rfl⟩
    rw [hA]
    go_wp2_with fail
    refine (bare_any _ _ hm).mono ?_
    rintro e w1 ⟨rfl, rfl⟩
    rw [hb]
    cases x
    all_goals
      go_wp2
      go_ret
      exact ⟨ret_bool (by simp; try omega), rfl⟩
  · rw [met_out ho]
    have hA : amongB m n = false := by
      unfold amongB
      unfold W64 at hm
      by_cases h0 : m < 0
      · by_cases h' : m = -9223372036854775808
        · subst h'; rw [bareI_least]; simp
        · rw [bareI_neg h0 h']; simp; omega
      · rw [bareI_pos (by omega)]; simp; omega
    go_enter Try.func24, Try.ntmps24
    go_wp2_with fail
    refine (among_any _ _ _ hm).mono ?_
    rintro e w1 ⟨rfl, rfl⟩
    rw [hA]
    go_wp2
    go_ret
    exact ⟨rfl, rfl⟩
set_option maxHeartbeats 1000000 in
theorem iClauseHas_any (a : Option Addr) (l cap : Nat) (V : Nat → Int) (c : Option Addr) (n cap' : Nat) (B : Nat → Bool) (w : World) (hd : IntsAt w a l V) (hl : l ≤ 1048576) (hW : ∀ i, i < l → W64 (V i)) (he : BlsAt w c n B) (hn : n ≤ 1048576) :
    Calls Try.prog 10 #[.slice a l cap, .slice c n cap'] w fun e w' => e = .returned (.bool (hasB l V n B)) ∧ w' = w := by
  have HD := hide hd
  have HE := hide he
  have HW := hide hW
  clear hd he hW
  go_enter Try.func10, Try.ntmps10
  go_wp2
  go_loopw [9] (fun i wr => ∃ k : Nat, k ≤ l ∧ i = .int .i64 k ∧ (∀ j, j < k → metB (V j) n B = false) ∧ wr = w) (fun i _ => l - (intOf i).toNat)
  case atStart => exact ⟨0, by omega, rfl, fun j hj => by omega, rfl⟩
  case round =>
    obtain ⟨k, hk, rfl, hno, rfl⟩ := hrel
    have HN := hide hno
    clear hno
    by_cases hlt : k < l
    · obtain ⟨b, off, rfl, hb, hd⟩ := (unhide HD).ok hlt
      have d0 := hd k hlt
      have hw := unhide HW k hlt
      clear hd
      go_wp2_with fail
      refine (met_any _ _ _ _ _ _ hw (unhide HE) hn).mono ?_
      rintro e w1 ⟨rfl, rfl⟩
      cases hm : metB (V k) n B
      · have HN1 : Hid (∀ j, j < k + 1 → metB (V j) n B = false) := fun j hj => by
          by_cases e : j = k
          · subst e; exact hm
          · exact unhide HN j (by omega)
        go_wp2
        go_roundw
        case rel => exact ⟨k + 1, by omega, by go_num, unhide HN1, trivial⟩
        case measure => simp [intOf]; omega
      · have HY := hide (hasB_yes ⟨k, hlt, hm⟩)
        go_wp2
        rw [unhide HY]
        go_ret
        exact ⟨rfl, rfl⟩
    · have e : k = l := by omega
      subst e
      have HY := hide (hasB_no (unhide HN))
      go_wp2
      rw [unhide HY]
      go_ret
      exact ⟨rfl, rfl⟩
end Go.Proofs.Ytihihjchkniifaa
