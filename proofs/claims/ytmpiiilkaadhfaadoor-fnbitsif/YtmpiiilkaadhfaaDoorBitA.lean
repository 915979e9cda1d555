/- Sets of marks in the bits of eleven words: a mark is put in, and asked for. -/
import Derived.Test.YtmpiiilkaadhfaaDoorAbsA
import Derived.Test.YtmpiiilkaadhfaaDoorRd
import Derived.Laws.BitsAllLaws
import Derived.Laws.ShiftsVarLaws
namespace Go.Proofs.YtmpiiilkaadhfaaDoor
open Go.ChangeShapes Go.WideShapes Go.ChangeAt Go.RowKit Go.Joins
set_option linter.unusedVariables false
set_option maxRecDepth 100000

/-- Words in a row, each of 64 bits. -/
def Wds (w : World) (b off n : Nat) (X : Nat → Nat) : Prop := ∀ i, i < n → X i < 18446744073709551616 ∧ w.cell? ⟨b, off + i, none⟩ = some (.int .u64 (X i))
theorem Wds.later {w w' : World} {b off n : Nat} {X : Nat → Nat} (h : Wds w b off n X) (hb : Below w.heap.size w w') : Wds w' b off n X := fun i hi => ⟨(h i hi).1, cell_later hb (h i hi).2⟩
/-- A place is in a set. -/
def inW (X : Nat → Nat) (m : Nat) : Bool := (X (m / 64)).testBit (m % 64)
/-- A set with a place more. -/
def addW (X : Nat → Nat) (m : Nat) : Nat → Nat := fun i => if i = m / 64 then X i ||| 2 ^ (m % 64) else X i
theorem inW_addW (X : Nat → Nat) (m k : Nat) : inW (addW X m) k = (inW X k || decide (k = m)) := by
  unfold inW addW
  by_cases h : k / 64 = m / 64
  · rw [if_pos h, Nat.testBit_or, Nat.testBit_two_pow]
    have : (decide (m % 64 = k % 64)) = decide (k = m) := by
      rw [Bool.eq_iff_iff]; simp; omega
    rw [this, h]
  · rw [if_neg h]
    have : decide (k = m) = false := by simp; intro e; exact h (by rw [e])
    rw [this]; simp
theorem inW_zero (k : Nat) : inW (fun _ => 0) k = false := by simp [inW]
theorem or_lt64 {a b : Nat} (ha : a < 18446744073709551616) (hb : b < 18446744073709551616) : a ||| b < 18446744073709551616 := Nat.or_lt_two_pow (n := 64) ha hb
theorem pow_lt64 {j : Nat} (h : j < 64) : 2 ^ j < 18446744073709551616 := by
  have : 2 ^ j < 2 ^ 64 := Nat.pow_lt_pow_right (by omega) h
  simpa using this
theorem bit1 (x j : Nat) (hx : x < 18446744073709551616) : (bits .and .u64 ((x : Int) / 2 ^ j) 1 == 1) = x.testBit j := by
  have e : ((x : Int) / 2 ^ j) = ((x / 2 ^ j : Nat) : Int) := by simp
  have h := u64_and_nat (x / 2 ^ j) 1 (Nat.lt_of_le_of_lt (Nat.div_le_self _ _) hx) (by decide)
  rw [e, show (1 : Int) = ((1 : Nat) : Int) from rfl, h, Nat.and_one_is_mod, Nat.testBit_eq_decide_div_mod_eq, Bool.eq_iff_iff]
  simp
  omega
/-- A set in memory of one's own. -/
def WSet (w : World) (b off n : Nat) (X : Nat → Nat) : Prop := Wds w b off n X ∧ ∀ i, i < n → w.frozen? ⟨b, off + i, none⟩ = false
theorem WSet.later {w w' : World} {b off n : Nat} {X : Nat → Nat} (h : WSet w b off n X) (hb : Below w.heap.size w w') : WSet w' b off n X :=
  ⟨h.1.later hb, fun i hi => by rw [hb.frozen (World.block_lt_of_cell? _ _ (h.1 i hi).2)]; exact h.2 i hi⟩
theorem WSet.mov {w w' : World} {b off n R : Nat} {X : Nat → Nat} (h : WSet w b off n X) (hm : Mov R w w') (hR : b ≠ R) : WSet w' b off n X :=
  ⟨fun i hi => ⟨(h.1 i hi).1, hm.cell (h.1 i hi).2 hR⟩, fun i hi => hm.frozen (h.1 i hi).2 hR (h.2 i hi)⟩
theorem WSet.drewN {w : World} {b off n : Nat} {X : Nat → Nat} (h : WSet w b off n X) (k : Nat) : WSet (w.drewN k) b off n X := h
theorem WSet.put {w : World} {b off n : Nat} {X : Nat → Nat} (h : WSet w b off n X) (i : Nat) (v : Nat) (hi : i < n) (hv : v < 18446744073709551616) (a c : Nat) :
    WSet (((w.drewN a).setCell ⟨b, off + i, none⟩ (.int .u64 (v : Int))).drewN c) b off n (fun j => if j = i then v else X j) := by
  refine ⟨fun j hj => ?_, fun j hj => ?_⟩
  · show _ ∧ ((w.drewN a).setCell ⟨b, off + i, none⟩ (.int .u64 (v : Int))).cell? _ = _
    by_cases e : j = i
    · subst e
      simp only [if_true]
      exact ⟨hv, World.cell?_setCell_same _ _ _ (h.1 j hj).2⟩
    · simp only [if_neg e]
      exact ⟨(h.1 j hj).1, by rw [World.cell?_setCell_other _ _ _ _ (by simp <;> omega)]; exact (h.1 j hj).2⟩
  · have := h.2 j hj
    show ((w.drewN a).setCell ⟨b, off + i, none⟩ (.int .u64 (v : Int))).frozen? _ = _
    simp [go_sem]
    exact this
theorem WSet.new (w : World) (e : TypeId) : WSet (w.alloc (.cells #[.int .u64 0, .int .u64 0, .int .u64 0, .int .u64 0, .int .u64 0, .int .u64 0, .int .u64 0, .int .u64 0, .int .u64 0, .int .u64 0, .int .u64 0] e)) w.heap.size 0 11 (fun _ => 0) := by
  refine ⟨fun i hi => ⟨by show 0 < _; omega, ?_⟩, fun i hi => by simp [go_sem]⟩
  rw [World.cell?_alloc_new]
  have : i = 0 ∨ i = 1 ∨ i = 2 ∨ i = 3 ∨ i = 4 ∨ i = 5 ∨ i = 6 ∨ i = 7 ∨ i = 8 ∨ i = 9 ∨ i = 10 := by omega
  rcases this with rfl | rfl | rfl | rfl | rfl | rfl | rfl | rfl | rfl | rfl | rfl <;> rfl
set_option maxRecDepth 100000 in
set_option maxHeartbeats 1000000 in
theorem has_any (b off : Nat) (X : Nat → Nat) (m : Int) (w : World) (hX : Wds w b off 11 X) (hm : W64 m) (h0 : 0 ≤ bareI m) (h1 : bareI m ≤ 700) :
    Calls Tryd.prog 46 #[.pointer (some ⟨b, off, none⟩), .int .i64 m] w fun e w' => e = .returned (.bool (inW X (bareI m).toNat)) ∧ ∃ n, w' = w.drewN n := by
  obtain ⟨k, hk⟩ := Int.eq_ofNat_of_zero_le h0
  have hk' : k ≤ 700 := by omega
  obtain ⟨x1, x2⟩ := hX (k / 64) (by omega)
  rw [hk, Int.toNat_natCast]
  go_enter Tryd.func46, Tryd.ntmps46
  go_wp2
  go_quiet ((go_at_call 75; exact Calls.quiet_of_same (bare_any _ _ hm)))
  go_wp2
  go_ret
  exact ⟨ret_bool (bit1 _ _ x1), _, rfl⟩
set_option maxRecDepth 100000 in
set_option maxHeartbeats 1000000 in
theorem add_any (b off : Nat) (X : Nat → Nat) (m : Int) (w : World) (hX : WSet w b off 11 X) (hm : W64 m) (h0 : 0 ≤ bareI m) (h1 : bareI m ≤ 700) :
    Calls Tryd.prog 42 #[.pointer (some ⟨b, off, none⟩), .int .i64 m] w fun e w' => e = .returned (.tuple #[]) ∧ WSet w' b off 11 (addW X (bareI m).toNat) ∧ w'.heap.size = w.heap.size ∧ Mov b w w' := by
  obtain ⟨k, hk⟩ := Int.eq_ofNat_of_zero_le h0
  have hk' : k ≤ 700 := by omega
  obtain ⟨x1, x2⟩ := hX.1 (k / 64) (by omega)
  have f2 := hX.2 (k / 64) (by omega)
  obtain ⟨i, hi⟩ : ∃ i, i = k / 64 := ⟨_, rfl⟩
  obtain ⟨j, hj⟩ : ∃ j, j = k % 64 := ⟨_, rfl⟩
  have i1 : i < 11 := by omega
  have j1 : j < 64 := by omega
  have q1 : (k : Int) / 64 = (i : Int) := by omega
  have q2 : (k : Int) % 64 = (j : Int) := by omega
  have q3 : (k : Int).tdiv 64 = (i : Int) := by rw [Int.tdiv_eq_ediv_of_nonneg (by omega)]; exact q1
  have q4 : (k : Int).tmod 64 = (j : Int) := by rw [Int.tmod_eq_emod_of_nonneg (by omega)]; exact q2
  have hb : ∀ v, Calls Tryd.prog 75 #[.int .i64 m] v fun e w' => e = .returned (.int .i64 (k : Int)) ∧ w' = v := fun v => by
    rw [show (k : Int) = bareI m from hk.symm]
    exact bare_any _ _ hm
  rw [hk, Int.toNat_natCast]
  rw [← hi] at x1 x2 f2
  have b0 : (0 : Int) ≤ (i : Int) := by omega
  have b1 : (i : Int) < 11 := by omega
  have w1 : IntKind.i64.wrap (i : Int) = i := by rw [IntKind.wrap_i64]; omega
  have w2 : IntKind.i64.wrap (j : Int) = j := by rw [IntKind.wrap_i64]; omega
  have pj := pow_lt64 j1
  have e2 : ((2 : Int) ^ j) = ((2 ^ j : Nat) : Int) := by simp
  have w3 : IntKind.u64.wrap (2 ^ j) = (2 : Int) ^ j := by
    rw [e2, IntKind.wrap_u64]
    exact Int.emod_eq_of_lt (Int.natCast_nonneg _) (by omega)
  have w4 : bits .or .u64 (X i) ((2 : Int) ^ j) = ((X i ||| 2 ^ j : Nat) : Int) := by rw [e2]; exact u64_or_nat (X i) (2 ^ j) x1 pj
  have HV : Hid (∀ a c, WSet (((w.drewN a).setCell ⟨b, off + i, none⟩ (.int .u64 ((X i ||| 2 ^ j : Nat) : Int))).drewN c) b off 11 (addW X k)) := fun a c => by
    have h := hX.put i (X i ||| 2 ^ j) i1 (or_lt64 x1 pj) a c
    have e : addW X k = (fun l => if l = i then X i ||| 2 ^ j else X l) := by
      funext l
      unfold addW
      rw [← hi, ← hj]
      by_cases el : l = i
      · rw [if_pos el, if_pos el, el]
      · rw [if_neg el, if_neg el]
    rw [e]
    exact h
  clear e2 hX hi hj
  generalize hG : (((X i ||| 2 ^ j : Nat) : Int)) = G at *
  clear hG
  go_enter Tryd.func42, Tryd.ntmps42
  go_wp2
  go_region_with (first | (go_at_call 75; refine (hb _).mono ?_; rintro e wq ⟨rfl, rfl⟩))
  all_goals go_wp2
  all_goals (first | go_end0 | refine bodyPost_ret (results_none rfl _ _ _) rfl ?_)
  all_goals refine ⟨rfl, ?_, by simp, ?_⟩
  all_goals first | exact unhide HV 0 0 | exact unhide HV 0 1 | exact unhide HV 0 2 | exact unhide HV 1 0 | exact unhide HV 1 1 | exact Mov.set _ _ _ | exact (Mov.set _ _ _).drew
end Go.Proofs.YtmpiiilkaadhfaaDoor
