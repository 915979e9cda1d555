/- What gates say, reckoned in the bits of words, by the program. -/
import Derived.Test.YtmpiiilkaadhfaaDoorBitA
import Derived.Test.YtmpiiilkaadhfaaDoorNvA
namespace Go.Proofs.YtmpiiilkaadhfaaDoor
open Go.ChangeShapes Go.WideShapes Go.ChangeAt Go.RowKit Go.Joins
set_option linter.unusedVariables false
set_option maxRecDepth 100000

def b2 (b : Bool) : Int := if b then 1 else 0
def pw (v : Bool) (j : Nat) : Nat := if v then 2 ^ j else 0
/-- A mark, with its sign, by a set. -/
def sgnW (X : Nat → Nat) (m : Int) : Bool := inW X (bareI m).toNat != decide (m < 0)
theorem bitv (x j : Nat) (hx : x < 18446744073709551616) : bits .and .u64 ((x : Int) / 2 ^ j) 1 = b2 (x.testBit j) := by
  have e : ((x : Int) / 2 ^ j) = ((x / 2 ^ j : Nat) : Int) := by simp
  have h := u64_and_nat (x / 2 ^ j) 1 (Nat.lt_of_le_of_lt (Nat.div_le_self _ _) hx) (by decide)
  rw [e, show (1 : Int) = ((1 : Nat) : Int) from rfl, h, Nat.and_one_is_mod, Nat.testBit_eq_decide_div_mod_eq]
  unfold b2
  rcases Nat.mod_two_eq_zero_or_one (x / 2 ^ j) with h | h <;> rw [h] <;> simp
theorem xorv (b : Bool) : bits .xor .u64 (b2 b) 1 = b2 (!b) := by cases b <;> decide
theorem xorv2 (b c : Bool) : bits .xor .u64 (b2 b) (b2 c) = b2 (b != c) := by cases b <;> cases c <;> decide
theorem andv2 (b c : Bool) : bits .and .u64 (b2 b) (b2 c) = b2 (b && c) := by cases b <;> cases c <;> decide
set_option maxRecDepth 100000 in
set_option maxHeartbeats 1000000 in
theorem bit_any (b off : Nat) (X : Nat → Nat) (m : Int) (w : World) (hX : Wds w b off 11 X) (hm : W64 m) (h0 : 0 ≤ bareI m) (h1 : bareI m ≤ 700) :
    Calls Tryd.prog 76 #[.pointer (some ⟨b, off, none⟩), .int .i64 m] w fun e w' => e = .returned (.int .u64 (b2 (sgnW X m))) ∧ ∃ n, w' = w.drewN n := by
  unfold sgnW
  obtain ⟨k, hk⟩ := Int.eq_ofNat_of_zero_le h0
  have hk' : k ≤ 700 := by omega
  obtain ⟨x1, x2⟩ := hX (k / 64) (by omega)
  rw [hk, Int.toNat_natCast]
  have HV : Hid (bits .and .u64 ((X (k / 64) : Int) / 2 ^ (k % 64)) 1 = b2 (inW X k)) := bitv _ _ x1
  by_cases hs : m < 0
  · go_enter Tryd.func76, Tryd.ntmps76
    go_wp2
    go_quiet ((go_at_call 75; exact Calls.quiet_of_same (bare_any _ _ hm)))
    go_wp2
    go_ret
    exact ⟨ret_int (by rw [unhide HV, xorv]; simp [hs]), _, rfl⟩
  · go_enter Tryd.func76, Tryd.ntmps76
    go_wp2
    go_quiet ((go_at_call 75; exact Calls.quiet_of_same (bare_any _ _ hm)))
    go_wp2
    go_ret
    exact ⟨ret_int (by rw [unhide HV]; have hd : decide (m < 0) = false := by simp; omega
                       rw [hd]; simp), _, rfl⟩
/-- A set with a place more, if that is so. -/
def setW (X : Nat → Nat) (k : Nat) (v : Bool) : Nat → Nat := if v then addW X k else X
theorem setW_eq (X : Nat → Nat) (k : Nat) (v : Bool) : setW X k v = fun l => if l = k / 64 then X l ||| pw v (k % 64) else X l := by
  funext l
  unfold setW addW
  cases v
  · simp [pw]
  · simp [pw]
theorem inW_setW (X : Nat → Nat) (k l : Nat) (v : Bool) : inW (setW X k v) l = (inW X l || (v && decide (l = k))) := by
  unfold setW
  cases v
  · simp
  · rw [if_pos rfl, inW_addW]; simp
/-- What a gate says by a set. -/
def gsay (X : Nat → Nat) (x : Bool) (p q : Int) : Bool := if x then sgnW X p != sgnW X q else sgnW X p && sgnW X q
set_option maxRecDepth 100000 in
set_option maxHeartbeats 1000000 in
theorem reckon_any (b off : Nat) (X : Nat → Nat) (k : Nat) (x : Bool) (p q : Int) (w : World) (hX : WSet w b off 11 X) (hk' : k ≤ 700) (hp : W64 p) (hq : W64 q) (p0 : 0 ≤ bareI p) (p1 : bareI p ≤ 700) (q0 : 0 ≤ bareI q) (q1 : bareI q ≤ 700) :
    Calls Tryd.prog 43 #[.pointer (some ⟨b, off, none⟩), .int .i64 k, .agg #[.bool x, .int .i64 p, .int .i64 q]] w fun e w' => e = .returned (.tuple #[]) ∧ WSet w' b off 11 (setW X k (gsay X x p q)) ∧ Mov b w w' := by
  obtain ⟨wz, hwz⟩ : ∃ wz, wz = w.alloc (.cells #[.bool x, .int .i64 p, .int .i64 q] 76) := ⟨_, rfl⟩
  have BZ : Below w.heap.size w wz := by rw [hwz]; exact (Below.refl _ _).alloc (Nat.le_refl _) _
  have r0 : wz.cell? ⟨w.heap.size, 0, none⟩ = some (.bool x) := by rw [hwz]; simp [go_sem]
  have r1 : wz.cell? ⟨w.heap.size, 1, none⟩ = some (.int .i64 p) := by rw [hwz]; simp [go_sem]
  have r2 : wz.cell? ⟨w.heap.size, 2, none⟩ = some (.int .i64 q) := by rw [hwz]; simp [go_sem]
  have hXz := hX.later BZ
  have HM : Hid (Mov b w wz) := Mov.of BZ
  obtain ⟨x1, x2⟩ := hXz.1 (k / 64) (by omega)
  have f2 := hXz.2 (k / 64) (by omega)
  have HX := hide hXz
  obtain ⟨i, hi⟩ : ∃ i, i = k / 64 := ⟨_, rfl⟩
  obtain ⟨j, hj⟩ : ∃ j, j = k % 64 := ⟨_, rfl⟩
  have i1 : i < 11 := by omega
  have j1 : j < 64 := by omega
  have q1' : (k : Int) / 64 = (i : Int) := by omega
  have q2' : (k : Int) % 64 = (j : Int) := by omega
  have q3 : (k : Int).tdiv 64 = (i : Int) := by rw [Int.tdiv_eq_ediv_of_nonneg (by omega)]; exact q1'
  have q4 : (k : Int).tmod 64 = (j : Int) := by rw [Int.tmod_eq_emod_of_nonneg (by omega)]; exact q2'
  rw [← hi] at x1 x2 f2
  have b0 : (0 : Int) ≤ (i : Int) := by omega
  have b1 : (i : Int) < 11 := by omega
  have w1 : IntKind.i64.wrap (i : Int) = i := by rw [IntKind.wrap_i64]; omega
  have w2 : IntKind.i64.wrap (j : Int) = j := by rw [IntKind.wrap_i64]; omega
  have pj := pow_lt64 j1
  have e2 : ((2 : Int) ^ j) = ((2 ^ j : Nat) : Int) := by simp
  have HE : Hid (∀ v : Bool, IntKind.u64.wrap (b2 v * 2 ^ j) = ((pw v j : Nat) : Int)) := fun v => by
    cases v
    · simp [b2, pw]; rfl
    · simp only [b2, pw, if_true, Int.one_mul]
      rw [e2, IntKind.wrap_u64]
      exact Int.emod_eq_of_lt (Int.natCast_nonneg _) (by omega)
  have HO : Hid (∀ v : Bool, bits .or .u64 (X i) ((pw v j : Nat) : Int) = ((X i ||| pw v j : Nat) : Int)) := fun v => u64_or_nat (X i) _ x1 (by cases v <;> simp [pw]; omega)
  have HV : Hid (∀ v a c, WSet (((wz.drewN a).setCell ⟨b, off + i, none⟩ (.int .u64 ((X i ||| pw v j : Nat) : Int))).drewN c) b off 11 (setW X k v)) := fun v a c => by
    have h := hXz.put i (X i ||| pw v j) i1 (or_lt64 x1 (by cases v <;> simp [pw]; omega)) a c
    have e : setW X k v = (fun l => if l = i then X i ||| pw v j else X l) := by
      rw [setW_eq]
      funext l
      rw [← hi, ← hj]
      by_cases el : l = i
      · rw [if_pos el, if_pos el, el]
      · rw [if_neg el, if_neg el]
    rw [e]
    exact h
  clear e2 hX hXz hi hj BZ
  have HZ := hide hwz
  cases x
  · have hg : gsay X false p q = (sgnW X p && sgnW X q) := rfl
    rw [hg]
    have HVV := hide (unhide HV (sgnW X p && sgnW X q))
    have HEE := hide (unhide HE (sgnW X p && sgnW X q))
    have HOO := hide (unhide HO (sgnW X p && sgnW X q))
    have HA := hide (andv2 (sgnW X p) (sgnW X q))
    clear HV HE HO hg hwz
    go_enter Tryd.func43, Tryd.ntmps43
    go_wp2
    rw [← unhide HZ]
    go_quiet ((go_at_call 76; exact Calls.quiet_of (bit_any _ _ X _ _ (unhide HX).1 (by assumption) (by assumption) (by assumption))))
    go_wp2
    rw [unhide HA]
    have he := unhide HEE
    have ho := unhide HOO
    generalize ((X i ||| pw (sgnW X p && sgnW X q) j : Nat) : Int) = Y at *
    generalize ((pw (sgnW X p && sgnW X q) j : Nat) : Int) = Z at *
    go_region
    all_goals go_wp2
    all_goals (first | go_end0 | refine bodyPost_ret (results_none rfl _ _ _) rfl ?_)
    all_goals refine ⟨rfl, (by first | exact unhide HVV _ 0 | exact unhide HVV _ 1 | exact unhide HVV _ 2), (by first | exact ((unhide HM).drewN _).trans (Mov.set _ _ _) | exact (((unhide HM).drewN _).trans (Mov.set _ _ _)).drew)⟩
  · have hg : gsay X true p q = (sgnW X p != sgnW X q) := rfl
    rw [hg]
    have HVV := hide (unhide HV (sgnW X p != sgnW X q))
    have HEE := hide (unhide HE (sgnW X p != sgnW X q))
    have HOO := hide (unhide HO (sgnW X p != sgnW X q))
    have HA := hide (xorv2 (sgnW X p) (sgnW X q))
    clear HV HE HO hg hwz
    go_enter Tryd.func43, Tryd.ntmps43
    go_wp2
    rw [← unhide HZ]
    go_quiet ((go_at_call 76; exact Calls.quiet_of (bit_any _ _ X _ _ (unhide HX).1 (by assumption) (by assumption) (by assumption))))
    go_wp2
    obtain ⟨wy, hwy⟩ : ∃ wy, wy = wz.drewN nq := ⟨_, rfl⟩
    have r1 : wy.cell? ⟨w.heap.size, 1, none⟩ = some (.int .i64 p) := by rw [hwy]; exact r1
    have r2 : wy.cell? ⟨w.heap.size, 2, none⟩ = some (.int .i64 q) := by rw [hwy]; exact r2
    have x2 : wy.cell? ⟨b, off + i, none⟩ = some (.int .u64 (X i)) := by rw [hwy]; exact x2
    have f2 : wy.frozen? ⟨b, off + i, none⟩ = false := by rw [hwy]; exact f2
    have HX : Hid (WSet wy b off 11 X) := by rw [hwy]; exact unhide HX
    have HM : Hid (Mov b w wy) := by rw [hwy]; exact (unhide HM).drewN _
    have HVV : Hid (∀ a c, WSet (((wy.drewN a).setCell ⟨b, off + i, none⟩ (.int .u64 ((X i ||| pw (sgnW X p != sgnW X q) j : Nat) : Int))).drewN c) b off 11 (setW X k (sgnW X p != sgnW X q))) := fun a c => by
      have h := unhide HVV (nq + a) c
      rw [← World.drewN_drewN, ← hwy] at h
      exact h
    rw [← hwy]
    clear hwy
    go_quiet ((go_at_call 76; exact Calls.quiet_of (bit_any _ _ X _ _ (unhide HX).1 (by assumption) (by assumption) (by assumption))))
    go_wp2
    rw [unhide HA]
    have he := unhide HEE
    have ho := unhide HOO
    generalize ((X i ||| pw (sgnW X p != sgnW X q) j : Nat) : Int) = Y at *
    generalize ((pw (sgnW X p != sgnW X q) j : Nat) : Int) = Z at *
    go_region
    all_goals go_wp2
    all_goals (first | go_end0 | refine bodyPost_ret (results_none rfl _ _ _) rfl ?_)
    all_goals refine ⟨rfl, (by first | exact unhide HVV _ 0 | exact unhide HVV _ 1 | exact unhide HVV _ 2), (by first | exact ((unhide HM).drewN _).trans (Mov.set _ _ _) | exact (((unhide HM).drewN _).trans (Mov.set _ _ _)).drew)⟩
end Go.Proofs.YtmpiiilkaadhfaaDoor
